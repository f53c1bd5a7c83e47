import Derived.Test.YtjlfcbccpcigeacGreatDoorC
import Derived.Lib.ItoaNum
import Derived.Lib.Join
import Derived.Lib.Split
import Derived.Lib.ParseIntBCases
import Derived.Deep.AppendLies
set_option maxHeartbeats 40000000
set_option linter.defProp false
namespace Go.Proofs.YtjlfcbccpcigeacGreatDoor
open Go.Proofs.Tryz Go.RowKit Go.Joins
set_option linter.unusedVariables false
set_option linter.unusedSimpArgs false
set_option maxRecDepth 8192
def jM (a b:Li):strOfNums a++strOfNums b=strOfNums (a++b):=by apply ByteArray.ext;apply qP.1;rw [strOfNums_data,QV];simp [strOfNums]
theorem BM {n:Int} (h0:-9223372036854775808<=n) (h1:n<=9223372036854775807):(Zl n.natAbs).length<=19:=qN 19 _ lI lI
def jR (s:Li):Prop:=∀i,0<=ak s i/\ak s i<=255
theorem mM (s:Li) (a b:Nat):(strOfNums s).extract a b=strOfNums ((s.drop a).take (b - a)):=by apply ByteArray.ext;apply qP.1;rw [strOfNums_data];simp [strOfNums,ByteArray.data_extract,List.map_take,List.map_drop,List.extract_eq_take_drop]
def Tryz.ist9:(Tryz.prog.info? 9).map (fun i=>(i.zero,i.size,i.bytes))=some (some (.string (ByteArray.mk #[])),1,16):=kR
def Z9 (ps:List Li):List vO:=ps.map fun p=>.string (strOfNums p)
theorem pw (a:List Li) (p:Li):Z9 (a++[p])=Z9 a++[.string (strOfNums p)]:=by unfold Z9;simp
def px (wr:wO) (a:ByteArray):∀(j:Nat) (u:vO),[Value.string a][j]?=some u->(wr.alloc (.cells #[.string a] 9)).cell? (((E wr.heap.size 0):Addr).add j)=some u:=by
 intro j u c;have b:((E wr.z 0):Addr).add j=(E wr.z j):=by simp [Addr.add];lia
 simp_all
section
variable {s:Li} {most:Nat} {w:wO}
theorem Nk (n:Nat):(Zl n).head?≠some 45:=by
 intro h;cases a:Zl n with
 | nil=>exact m8 _ a
 | cons c l =>
  rw [a] at h;have b:=YB n c rQ;simp_all
def Nl (n:Int):lq (zo n)=Zl n.natAbs/\((zo n).head?=some 45->n<0):=by
 grind [lq,zo,Nk]
def Nm:∀{l m:Li},(∀c∈l,0<=c/\c<=255)->(∀c∈m,0<=c/\c<=255)->strOfNums l=strOfNums m->l=m:=by
 intro l m b hm h;have h1:l.map (fun n=>UInt8.ofNat n.toNat)=m.map (fun n=>UInt8.ofNat n.toNat):=by rw [<-strOfNums_data,<-strOfNums_data,h]
 clear h;induction l generalizing m with
 | nil=>cases m with
   | nil=>rfl
   | cons c m=>simp at h1
 | cons c l ih=>cases m with
   | nil=>simp at h1
   | cons d m =>simp only [Ef,W9] at h1;have f:=congrArg UInt8.toNat h1.1;have i:=b c (QY ..);have j:=hm d (QY ..);simp at f;have g:c=d:=(by lia);rw [g,ih (fun x a=>b x (Wg _ a)) (fun x a=>hm x (Wg _ a)) h1.2]
def pX {l m:Li} (a:∀c∈l,0<=c/\c<=255) (hm:∀c∈m,0<=c/\c<=255):((strOfNums l).toList == (strOfNums m).toList)=decide (l=m):=by
 by_cases h:l=m
 ·grind
 rw [Qk h];refine Wf fun e=>h (Nm a hm ?_);rw [ByteArray.toList_eq,ByteArray.toList_eq] at e;exact ByteArray.ext (qP.1 e)
def jg (h:jR s):∀c∈s,0<=c/\c<=255:=Di fun i _=>h i
def BZ (n:Int):∀c∈zo n,0<=c/\c<=255:=fun c a=>by rcases Df n c a with h | h <;> lia
def VZ (s:Li) (most:Nat) (w:wO) (e:Ending) (w':wO):Prop:=∃n b,e=.returned (.tuple #[J n,.bool b])/\b=(zT s most).isSome/\(∀m,zT s most=some m->n=m)/\-9223372036854775808<=n/\n<=9223372036854775807/\Bw w w'
def VZ.none (h:zT s most=none):VZ s most w (.returned (.tuple #[J 0,.bool false])) w :=
 ⟨0,false,rfl,by rw [h];rfl,fun m hm=>(by simp_all),lI,lI,QA _ _⟩
def Nn {y:wO} {nv:Int} {a:Bool} (h1:zT s most=if zo nv=s then some nv else none) (f:decide (zo nv=s)=a) (b:-9223372036854775808<=nv) (c:nv<=9223372036854775807) (d:Bw w y):VZ s most w (.returned (.tuple #[J nv,.bool a])) y:=by
 refine⟨nv,a,rfl,?_,fun m hm=>?_,b,c,d⟩
 ·grind
 simp_all
end
section
variable {x:Int} {s p:Li}
def b8 (s:Li):List UInt8:=s.map fun n=>UInt8.ofNat n.toNat
theorem yP (s:Li):(strOfNums s).data.toList=b8 s:=by unfold strOfNums b8;simp
theorem UE (s:Li):(b8 s).length=s.length:=by unfold b8;simp
theorem nX (s t:Li):b8 (s++t)=b8 s++b8 t:=by unfold b8;simp
theorem Cb (s:Li) (n:Nat):b8 (s.take n)=(b8 s).take n:=by unfold b8;simp
theorem p5 (s:Li) (n:Nat):b8 (s.drop n)=(b8 s).drop n:=by unfold b8;simp
def By (s:Li):Prop:=∀c∈s,0<=c/\c<=255
def nY {c d:Int} (a:0<=c/\c<=255) (b:0<=d/\d<=255) (h:UInt8.ofNat c.toNat=UInt8.ofNat d.toNat):c=d:=by have:=congrArg UInt8.toNat h;simp at this;lia
theorem Cc:∀n:Nat,Lib.decDigits n=b8 (Zl n):=by
 intro n;induction n using Nat.strongRecOn with
 | _ n ih =>
  by_cases h:n<10
  ·rw [Lib.decDigits,dif_pos h,Z2 h];grind [b8]
  rw [Lib.decDigits,dif_neg h,Yl h,nX,ih (n / 10) lI];grind [b8]
theorem NG (n:Int):Lib.itoa n=b8 (zo n):=by
 unfold Lib.itoa zo;split
 ·rw [Cc];rfl
 grind [Cc]
theorem Cd (x:Int):∀a:List Li,Lib.join (a.map b8) (b8 [x])=b8 (yD x a):=by
 intro a;induction a with
 | nil=>rfl
 | cons p a ih =>
  cases a with
  | nil=>rw [Ef,E1,Lib.join_one];rfl
  | cons q qs =>rw [Ef,Lib.join_cons];rw [Ef,Lib.join_cons] at ih;rw [show yD x (p :: q :: qs)=p++x :: yD x (q :: qs) from rfl,nX,show b8 (x :: yD x (q :: qs))=b8 [x]++b8 (yD x (q :: qs)) by unfold b8;simp,<-ih];unfold Lib.joinTail;simp
theorem Ce (i:0<=x/\x<=255):∀{s:Li},By s->∀{p:Li},zx x s=[p]->Lib.index (b8 s) (b8 [x])=-1:=by
 intro s;induction s with
 | nil=>intro _ p _;rfl
 | cons c l ih =>
  intro hs p h;by_cases b:c=x
  ·subst b;rw [XN] at h;have:=xQ c l;simp at h;exact absurd h.2 this
  obtain⟨q,qs,a⟩:∃q qs,zx x l=q :: qs:=by
   cases a:zx x l with
   | nil=>exact absurd a (xQ x l)
   | cons q qs=>exact⟨q,qs,rfl⟩
  rw [ZJ b a] at h;have f:qs=[]:=by simpa using (List.cons.inj h).2
  subst f;have hi:=ih (fun d g=>hs d (Wg _ g)) a;show Lib.index (UInt8.ofNat c.toNat :: b8 l) [UInt8.ofNat x.toNat]=-1;rw [Lib.index,Qe (by
   intro e;have:UInt8.ofNat x.toNat=UInt8.ofNat c.toNat:=by simpa [List.isPrefixOf] using e
   exact b (nY i (hs c (QY ..)) this).s),Qf (by rw [show Lib.index (b8 l) [UInt8.ofNat x.toNat]=-1 from hi];rfl)]
def YE (k:0<=x/\x<=255):∀{s:Li},By s->∀{p q:Li} {qs:List Li},zx x s=p :: q :: qs->Lib.index (b8 s) (b8 [x])=(p.length:Int)/\s.take p.length=p/\zx x (s.drop (p.length+1))=q :: qs:=by
 intro s;induction s with
 | nil=>intro _ p q qs h;simp [zx] at h
 | cons c l ih =>
  intro hs p q qs h;by_cases b:c=x
  ·subst b;rw [XN] at h;obtain⟨rfl,a⟩:=List.cons.inj h;refine⟨?_,rfl,by simpa using a⟩;show Lib.index (UInt8.ofNat c.toNat :: b8 l) [UInt8.ofNat c.toNat]=0;rw [Lib.index,Qf (by simp [List.isPrefixOf])]
  obtain⟨r,rs,hr⟩:∃q qs,zx x l=q :: qs:=by
   cases j:zx x l with
   | nil=>exact absurd j (xQ x l)
   | cons q qs=>exact⟨q,qs,rfl⟩
  rw [ZJ b hr] at h;obtain⟨rfl,rfl⟩:=List.cons.inj h;obtain⟨h1,a,g⟩:=ih (fun d i=>hs d (Wg _ i)) hr;refine⟨?_,?_,?_⟩
  ·show Lib.index (UInt8.ofNat c.toNat :: b8 l) [UInt8.ofNat x.toNat]=_;have f:Lib.index (b8 l) [UInt8.ofNat x.toNat]=(r.length:Int):=h1;rw [Lib.index,Qe (by
    intro e;have:UInt8.ofNat x.toNat=UInt8.ofNat c.toNat:=by simpa [List.isPrefixOf] using e
    exact b (nY k (hs c (QY ..)) this).s),f,Qe (by
    intro e;have:=QI e;lia)]
   simp
  ·simp [a]
  simpa using g
theorem mX (h:By s) (n:Nat):By (s.take n):=fun c a=>h c (EJ a)
def p8 (h:By s) (n:Nat):By (s.drop n):=fun c a=>h c (q9 a)
def NH (a:0<=x/\x<=255) (hs:By s) (h:zx x s=[p]):Lib.cut (b8 s) (b8 [x])=(b8 s,[],false):=by unfold Lib.cut;rw [Ce a hs h,Qe lI]
def NI (b:0<=x/\x<=255) (hs:By s) {q:Li} {qs:List Li} (h:zx x s=p :: q :: qs):Lib.cut (b8 s) (b8 [x])=(b8 p,b8 (s.drop (p.length+1)),true):=by obtain⟨h1,a,c⟩:=YE b hs h;unfold Lib.cut;rw [h1,Qf (by lia)];rw [show ((p.length:Int)).toNat=p.length by lia,<-Cb,a,UE,<-p5];rfl
def NJ (d:0<=x/\x<=255):∀(k:Nat) (s:Li),By s->∃W:List Li,Lib.splitK (b8 [x]) 0 k (b8 s)=W.map b8/\W≠[]/\(∀p∈W,By p)/\(∀p∈W,p.length<=s.length)/\(W=zx x s\/(W.length=k+1/\k+1<(zx x s).length)):=by
 intro k;induction k with
 | zero =>
  intro s hs;refine⟨[s],rfl,by simp,by simpa using hs,by simp,?_⟩;cases h:zx x s with
  | nil=>exact absurd h (xQ x s)
  | cons p a =>
   cases a with
   | nil=>left;have:=ZH x s;rw [h] at this;rw [<-this];rfl
   | cons q qs=>right;exact⟨rfl,by simp⟩
 | succ k ih =>
  intro s hs;cases h:zx x s with
  | nil=>exact absurd h (xQ x s)
  | cons p a =>
   cases a with
   | nil =>have c:p=s:=(by have:=ZH x s;rw [h] at this;exact this);refine⟨[s],?_,by simp,by simpa using hs,by simp,by left;rw [c]⟩;rw [Lib.splitK,Qf (by grind [Ce])];rfl
   | cons q qs =>
    obtain⟨h1,b,f⟩:=YE d hs h;obtain⟨W,w1,w2,g,j,i⟩:=ih (s.drop (p.length+1)) (p8 hs _);refine⟨p :: W,?_,by simp,?_,?_,?_⟩
    ·rw [Lib.splitK,h1,Qe (by simp_all)];rw [show ((p.length:Int)).toNat=p.length by lia,WG,<-Cb,b,UE,<-p5];simp_all
    ·grind [mX]
    ·grind
    simp_all
def nZ (l:Li):(strOfNums l).toList.isEmpty=decide (l=[]):=by rw [ByteArray.toList_eq,strOfNums_data];cases l <;> rfl
def mY (acc:Nat) (l:List UInt8):Nat:=l.foldl (fun a c=>a*10+(c.toNat - 48)) acc
def NK:∀(l:List UInt8) (a:Nat),a<=mY a l:=by
 intro l;induction l with
 | nil=>intro a;exact Qc _
 | cons c l ih=>intro a;exact QH lI (ih (a*10+(c.toNat - 48)))
def NL:∀(l:List UInt8) (a:Nat),(∀c∈l,48<=c.toNat/\c.toNat<=57)->mY a l<=18446744073709551615->Lib.parseUintM 18446744073709551615 a l=.ok (mY a l):=by
 intro l;induction l with
 | nil=>intro a _ _;rfl
 | cons c l ih =>intro a b hm;have h1:a*10+(c.toNat - 48)<=18446744073709551615:=QH (NK l _) hm;rw [Lib.parseUintM,Qf (b c (QY ..)),Qe lI,Qe lI];exact ih _ (fun d h=>b d (Wg _ h)) hm
theorem Cf:∀n:Nat,mY 0 (b8 (Zl n))=n:=by
 intro n;induction n using Nat.strongRecOn with
 | _ n ih =>
  by_cases h:n<10
  ·rw [Z2 h];show 0*10+((UInt8.ofNat (48+(n:Int)).toNat).toNat - 48)=n;simp;lia
  rw [Yl h,nX];unfold mY;rw [Q8];have:=ih (n / 10) lI;unfold mY at this;rw [this];show n / 10*10+((UInt8.ofNat (48+((n % 10:Nat):Int)).toNat).toNat - 48)=n;simp;lia
def Cg (n:Nat):∀c∈b8 (Zl n),48<=c.toNat/\c.toNat<=57:=by intro c a;unfold b8 at a;obtain⟨d,b,rfl⟩:=WV.1 a;have:=YB n d b;simp;lia
def Ch {n:Nat} (h:n<=18446744073709551615):Lib.parseUintB 64 (b8 (Zl n))=.ok n:=by unfold Lib.parseUintB;rw [Qe (by grind [UE,m8])];have:=NL (b8 (Zl n)) 0 (Cg n) (by rw [Cf];exact h);rw [Cf] at this;exact this
theorem Ci {n:Int} (h0:-9223372036854775808<=n) (h1:n<=9223372036854775807):Lib.parseIntB 64 (b8 (zo n))=.ok n:=by
 unfold zo;split
 ·rename_i hn;rw [show b8 (45 :: Zl n.natAbs)=45 :: b8 (Zl n.natAbs) from rfl,Lib.parseIntB_minus,Ch lI];show (if 2 ^ 63<n.natAbs then Lib.NumEnd.range else Lib.NumEnd.ok (-(n.natAbs:Int)))=_;rw [Qe lI,show -(n.natAbs:Int)=n by lia]
 rename_i hn;obtain⟨c,l,b⟩:∃c l,b8 (Zl n.natAbs)=c :: l:=by
  cases d:b8 (Zl n.natAbs) with
  | nil=>have:=congrArg List.length d;rw [UE] at this;exact absurd (qf this) (m8 _)
  | cons c l=>exact⟨c,l,rfl⟩
 have f:=Cg n.natAbs c rQ;have a:=Ch (n:=n.natAbs) lI;rw [b] at a ⊢;rw [Lib.parseIntB_plain _ _ _ lI lI,a];show (if 2 ^ 63<=n.natAbs then Lib.NumEnd.range else Lib.NumEnd.ok (n.natAbs:Int))=_;grind
def Cj {v:Int} (h:Lib.parseIntB 64 (b8 s)=.ok v) (h0:-9223372036854775808<=v) (h1:v<=9223372036854775807):zT s 19=if zo v=s then some v else none:=by grind [zT,Pn,mz,Ci]
def Cl (h:∀v,Lib.parseIntB 64 (b8 s)≠.ok v):zT s 19=none:=by grind [zT,mz,Ci]
def NM:∀n:Nat,n<10 ^ (Zl n).length:=by
 intro n;induction n using Nat.strongRecOn with
 | _ n ih =>
  by_cases h:n<10
  ·grind [Z2]
  rw [Yl h,Qt];grind
theorem NN (s:Li):zT s 18=match zT s 19 with
  | some v=>if -1000000000000000000<v/\v<1000000000000000000 then some v else none
  | none=>none:=by
 cases c:zT s 19 with
 | none =>
  grind [zT]
 | some v =>
  obtain⟨hs,a,b⟩:=mz c;subst hs;show _=if _ then _ else _
  split
  ·rename_i h;exact t8 a b (qN 18 _ lI lI)
  rename_i h;unfold zT;rw [Qe];intro ⟨d,_⟩;rw [(Nl v).1] at d;have h1:=NM v.natAbs;have f:10 ^ (Zl v.natAbs).length<=10 ^ 18:=WP lI d;lia
end
section
variable {s:Li} {o0:Option Int} {n0:Int} {b0:Bool}
def oA (s:Li) (w:wO) (e:Ending) (w':wO):Prop:=∃a b ok,e=.returned (.tuple #[.agg #[J a,J b],.bool ok])/\ok=(Zw s).isSome/\(∀r,Zw s=some r->a=r.1/\b=r.2)/\Bw w w'
theorem Dq (h:s.head?≠some 35):Zw s=none:=by grind [Zw]
def Dr {x:wO} {g:Nat} {e:TypeId} {a b a' b':vO} (h:x.heap[g]?=some (.cells #[a,b] e (0,0))):((x.setCell (E g 0) a').setCell (E g 1) b').heap[g]?=some (.cells #[a',b'] e (0,0)):=by simp [World.setCell,QC,h]
def PX {o1:Option Int} {n1:Int} {b1 ok:Bool} {np:Nat} (d:np=2->Zw s=match o0,o1 with
  | some x,some y=>if 0<y then some (x,y) else none
  | _,_=>none) (i:2<np->Zw s=none) (h:2<=np) (a:b0=o0.isSome) (f:∀m,o0=some m->n0=m) (b:b1=o1.isSome) (g:∀m,o1=some m->n1=m) (c:ok=(b0 && b1 && decide (np=2) && decide (0<n1))):ok=(Zw s).isSome/\∀r,Zw s=some r->n0=r.1/\n1=r.2:=by
 rw [c,a,b];by_cases e:np=2
 ·rw [d e,Qi e];cases o0 with
  | none=>exact⟨rfl,fun r hr=>by cases hr⟩
  | some x=>cases o1 with
    | none=>exact⟨rfl,fun r hr=>by cases hr⟩
    | some y =>
     grind
 grind
end
theorem vu {l:Li} {i:Nat} (h:i<l.length):l.take (i+1)=l.take i++[ak l i]:=by rw [Wm,Qh h];unfold ak;rw [List.getD,Qh h];rfl
def xF (ws:List Li) (w:wO) (e:Ending) (w':wO):Prop:=∃(s:St) (ok:Bool),e=.returned (.tuple #[.agg (zG s),.bool ok])/\ok=(gK ws).isSome/\(∀r,gK ws=some r->s=r)/\Bw w w'
def NS {ws:List Li} {w w':wO} {s:St} (h:gK ws=none) (hb:Bw w w'):xF ws w (.returned (.tuple #[.agg (zG s),.bool false])) w':=⟨s,false,rfl,by rw [h];rfl,fun r hr=>(by simp_all),hb⟩
def yn {l:Li} (a:∀c∈l,0<=c/\c<=255) {m:Li} (hm:∀c∈m,0<=c/\c<=255) {b:List UInt8} (hb:(strOfNums m).data.toList=b):((strOfNums l).toList == b)=decide (l=m):=by rw [<-hb,<-ByteArray.toList_eq (strOfNums m)];exact pX a hm
def XF {x:wO} {g:Nat} {e:TypeId} {a0 a b c d f i j k b0 b1 b2 b3 b4 b5 b6 b7 b8:vO} (h:x.heap[g]?=some (.cells #[a0,a,b,c,d,f,i,j,k] e (0,0))):(((((((((x.setCell (E g 0) b0).setCell (E g 1) b1).setCell (E g 2) b2).setCell (E g 3) b3).setCell (E g 4) b4).setCell (E g 5) b5).setCell (E g 6) b6).setCell (E g 7) b7).setCell (E g 8) b8).heap[g]?=some (.cells #[b0,b1,b2,b3,b4,b5,b6,b7,b8] e (0,0)):=by simp [World.setCell,QC,h]
def NT (o:Int):∀c∈bA o,0<=c/\c<=255:=by
 unfold bA;repeat' split
 all_goals decide
section
def Xm {x w1:wO} {base:Nat} {e:TypeId} {d n:Nat} {v:vO} {f:List vO} {row:Option Nat} (h:x.ownsRow base e d v n f) (j:x.grownBy w1 row) (i:∀g,v.ownBlock=some g->row≠some g):w1.ownsRow base e d v n f:=by
 obtain⟨k,h⟩:=h;refine⟨k,?_⟩;rcases h with h | ⟨g,cap,a,c,hb,b,r⟩
 ·exact .inl h
 refine .inr ⟨g,cap,a,c,hb,?_,r⟩;rw [j.block g (lo b) (fun e=>i g (by rw [c];rfl) e.s)];exact b
def zX {x:wO} {base y:Nat} {e:TypeId} {b n:Nat} {v u:vO} {c:List vO} {o:Nat} (h:x.ownsRow base e b v n c) (j:y<base):(x.setCell (E y o) u).ownsRow base e b v n c:=by
 obtain⟨f,h⟩:=h;refine⟨f,?_⟩;rcases h with h | ⟨g,cap,a,i,hb,d,r⟩
 ·exact .inl h
 exact .inr ⟨g,cap,a,i,hb,by rw [Qj _ _ _ _ (show g≠y by lia)];exact d,r⟩
def se {w:wO} {base c:Nat} {e:TypeId} {v:vO} {n:Nat} {d:List vO} (h:w.ownsRow base e c v n d):∀k,v.ownBlock=some k->base<=k:=by
 obtain⟨i,h⟩:=h;rcases h with ⟨rfl,_⟩ | ⟨b,cap,a,rfl,f,g,r⟩
 ·intro k h;cases h
 intro k h;have:b=k:=by simpa [Value.ownBlock] using h
 lia
def XJ {w:wO} {base c:Nat} {e:TypeId} {v:vO} {n:Nat} {d:List vO} (h:w.ownsRow base e c v n d):∀k,v.ownBlock=some k->k<w.heap.size:=by
 obtain⟨i,h⟩:=h;rcases h with ⟨rfl,_⟩ | ⟨b,cap,a,rfl,f,g,r⟩
 ·intro k h;cases h
 intro k h;have:b=k:=by simpa [Value.ownBlock] using h
 grind
def jQ (u v:vO):Prop:=∀g,u.ownBlock=some g->v.ownBlock≠some g
theorem jQ.s {u v:vO} (h:jQ u v):jQ v u:=fun g h1 a=>h g a h1
def Vm (l:List St):List vO:=l.flatMap fun x=>(zG x).toList
theorem Hs (l:List St) (x:St):Vm (l++[x])=Vm l++(zG x).toList:=by simp [Vm]
theorem Ht (l:List St):(Vm l).length=l.length*9:=by
 induction l with
 | nil=>rfl
 | cons x l ih =>show ((zG x).toList++Vm l).length=_;rw [Qt,ih,Q5];show 9+_=_;lia
def Hu (l:List St):∀i j,i<l.length->j<9->(Vm l)[i*9+j]?=(zG (zc l i))[j]?:=by
 induction l with
 | nil=>intro i j hi;exact absurd hi (Qv _)
 | cons x l ih =>
  intro i j hi b;show ((zG x).toList++Vm l)[i*9+j]?=_;have a:(zG x).toList.length=9:=rfl;cases i with
  | zero =>rw [Wj lI,EY,QO];simp [zc]
  | succ i =>rw [Ww (by lia),a,show (i+1)*9+j - 9=i*9+j by lia,ih i j (by simpa using hi) b];rfl
def Xw (l:Li):List vO:=l.map (Value.int .i64)
theorem wG (l:Li) (z:Int):Xw (l++[z])=Xw l++[J z]:=by simp [Xw]
def zM.of_ownP {w:wO} {base:Nat} {e:TypeId} {v:vO} {l:Li} (h:w.ownsRow base e 1 v l.length (Xw l)) (hr:∀z∈l,-9223372036854775808<=z/\z<=9223372036854775807):zM w v l:=by
 have b:∀i,i<l.length->-9223372036854775808<=ak l i/\ak l i<=9223372036854775807:=fun i hi=>hr _ (by grind [ak]);obtain⟨k,h⟩:=h;rcases h with ⟨rfl,hn⟩ | ⟨g,cap,a,rfl,j,hb,hn,hm,f,d⟩
 ·exact⟨none,0,by rw [hn],lI,Ql _,b,fun m=>lI⟩
 refine⟨some (E g 0),cap,rfl,hn,hm,b,fun _=>⟨g,0,rfl,(lo hb),fun i hi=>?_⟩⟩;have h1:(a.toList.take (l.length*1))[i]?=(Xw l)[i]?:=by rw [d]
 rw [We,Qf lI] at h1;rw [QO,Qa hb];have c:a.toList[i]?=a[i]?:=sM
 rw [<-c,h1];unfold Xw ak;simp_all
def kY.of_ownP {w:wO} {base:Nat} {e:TypeId} {v:vO} {l:List St} (h:w.ownsRow base e 9 v l.length (Vm l)):kY w v l:=by
 obtain⟨k,h⟩:=h;rcases h with ⟨rfl,hn⟩ | ⟨g,cap,a,rfl,f,hb,hn,hm,d,c⟩
 ·exact⟨none,0,by rw [hn],lI,Ql _,fun m=>lI⟩
 refine⟨some (E g 0),cap,rfl,hn,hm,fun _=>⟨g,0,rfl,(lo hb),fun i hi j b=>?_⟩⟩;rw [QO,Qa hb,<-Hu l i j hi b,<-c,We,Qf lI];simp
variable {x1 wr wr':wO} {y:Nat} {lv bv ov:vO} {nl nb no:Nat} {ll ol:Li} {bl:List St}
end
def Y9 (s:Li) (w:wO) (e:Ending) (w':wO):Prop:=∃v0 v1 v2,e=.returned (.tuple #[.agg #[v0,v1,v2],.agg #[J (yt s).2.1,J ((yt s).2.2:Int)]])/\zI w' (.agg #[v0,v1,v2]) (yt s).1/\cn (yt s).1/\Bw w w'
section
variable {ws:List Li} {L:Lp} {s:Li} {w w' X:wO} {a' b' c' u' v':vO}
def RU (x:Int):∀s:Li,(zx x s).length<=s.length+1/\1<=(zx x s).length:=by
 intro s;induction s with
 | nil=>exact⟨Qc _,Qc _⟩
 | cons c l ih =>
  grind [zx]
def RV {r:St} (h:gK ws=some r):-9223372036854775808<=r.nn/\r.nn<=9223372036854775807:=by
 unfold gK at h;split at h
 ·grind
 ·grind [zT,mz]
 all_goals (repeat' split at h) <;> first | (cases h;exact⟨sM,sM⟩) | cases h
def jL (L:Lp):Prop:=(∀z∈L.l,-9223372036854775808<=z/\z<=9223372036854775807)/\(∀z∈L.o,-9223372036854775808<=z/\z<=9223372036854775807)/\∀s∈L.b,-9223372036854775808<=s.nn/\s.nn<=9223372036854775807
theorem jL.loopIn (h:jL L):cn L:=fun k=>by
 by_cases a:k<L.b.length
 ·have:zc L.b k∈L.b:=by grind [zc]
  exact h.2.2 _ this
 ·have:(zc L.b k).nn=0:=by unfold zc;rw [List.getD,Q0 lI];rfl
  grind [bB]
def D3:jL ⟨[],[],[]⟩:=⟨sM,sM,sM⟩
theorem RW (w:wO):zI w (.agg #[.slice none 0 0,.slice none 0 0,.slice none 0 0]) ⟨[],[],[]⟩ :=
 ⟨_,_,_,rfl,⟨none,0,rfl,Qc _,Ql _,fun i hi=>absurd hi (Qv _),fun a=>absurd a (qC _)⟩,⟨none,0,rfl,Qc _,Ql _,fun a=>absurd a (qC _)⟩,⟨none,0,rfl,Qc _,Ql _,fun i hi=>absurd hi (Qv _),fun a=>absurd a (qC _)⟩⟩
def uF {k:Nat} (h:yt s=(⟨[],[],[]⟩,2,k)) (hb:Bw w w'):Y9 s w (.returned (.tuple #[.agg #[.slice none 0 0,.slice none 0 0,.slice none 0 0],.agg #[J 2,J (k:Int)]])) w' :=
 ⟨_,_,_,by rw [h],by grind [RW],by rw [h];exact D3.loopIn,hb⟩
def Tryz.iintP:(Tryz.prog.info? 3).map (fun i=>(i.zero,i.size,i.bytes))=some (some (J 0),1,8):=kR
def Tryz.istP:(Tryz.prog.info? 144).map (fun i=>(i.zero,i.size,i.bytes))=some (some (.agg #[J 0,J 0,J 0,J 0,J 0,J 0,J 0,J 0,J 0]),9,72):=kR
theorem rp (w:wO) (a:Array vO) (e:TypeId):(w.alloc (.cells a e)).heap[w.heap.size]?=some (.cells a e (0,0)):=by show (w.heap.push _)[w.z]?=_;simp
def RX (h:false=(gK ws).isSome):gK ws=none:=by
 simp_all
def RY {v:St} (h:true=(gK ws).isSome) (b:∀r,gK ws=some r->v=r):gK ws=some v:=by
 cases a:gK ws with
 | none=>rw [a] at h;cases h
 | some r=>rw [b r a]
def RZ (ws:List Li) (w:wO) (e:Ending) (w':wO):Prop:=∃(s:St) (ok:Bool),e=.returned (.tuple #[.agg #[J s.o,J s.xa,J s.xb,J s.ya,J s.yb,J s.ar,J s.sp,J s.pl,J s.nn],.bool ok])/\ok=(gK ws).isSome/\(∀r,gK ws=some r->s=r)/\Bw w w'
def R0 (v:St):∀u∈(zG v).toList,u.oneCell':=by intro u a;simp [zG] at a;rcases a with rfl | rfl | rfl | rfl | rfl | rfl | rfl | rfl | rfl <;> rfl
def R1 (x:wO) (v:St):∀j u,(zG v).toList[j]?=some u->((x.alloc (.cells #[J v.o,J v.xa,J v.xb,J v.ya,J v.yb,J v.ar,J v.sp,J v.pl,J v.nn] 144)).alloc (.cells #[J v.o,J v.xa,J v.xb,J v.ya,J v.yb,J v.ar,J v.sp,J v.pl,J v.nn] 144)).cell? (((E (x.heap.size+1) 0):Addr).add j)=some u:=by
 have e:(x.alloc (Ii v.o v.xa v.xb v.ya v.yb v.ar v.sp v.pl v.nn 144)).heap.size=x.z+1:=sM
 have h:=rp (x.alloc (Ii v.o v.xa v.xb v.ya v.yb v.ar v.sp v.pl v.nn 144)) #[J v.o,J v.xa,J v.xb,J v.ya,J v.yb,J v.ar,J v.sp,J v.pl,J v.nn] 144;rw [e] at h;exact World.news_of_block h
def R2 (x:wO) (v:St):Bw x (x.alloc (.cells #[J v.o,J v.xa,J v.xb,J v.ya,J v.yb,J v.ar,J v.sp,J v.pl,J v.nn] 144)):=Qd _ _
def D4 (x:wO) (v:St):Bw x ((x.alloc (.cells #[J v.o,J v.xa,J v.xb,J v.ya,J v.yb,J v.ar,J v.sp,J v.pl,J v.nn] 144)).alloc (.cells #[J v.o,J v.xa,J v.xb,J v.ya,J v.yb,J v.ar,J v.sp,J v.pl,J v.nn] 144)):=QB _ _ _
def rq {g:Nat} {e d:TypeId} {a b c u v:vO} (h1:X.heap[g]?=some (.cells #[a,b,c] e (0,0))) (f:X.heap[g+1]?=some (.cells #[u,v] d (0,0))) :
  (((((X.setCell (E g 0) a').setCell (E g 1) b').setCell (E g 2) c').setCell (E (g+1) 0) u').setCell (E (g+1) 1) v').heap[g]?=some (.cells #[a',b',c'] e (0,0))/\(((((X.setCell (E g 0) a').setCell (E g 1) b').setCell (E g 2) c').setCell (E (g+1) 0) u').setCell (E (g+1) 1) v').heap[g+1]?=some (.cells #[u',v'] d (0,0)):=by constructor <;> simp [World.setCell,QC,h1,f]
def U9 (h:Bw w X):Bw w (((((X.setCell (E w.heap.size 0) a').setCell (E w.heap.size 1) b').setCell (E w.heap.size 2) c').setCell (E (w.heap.size+1) 0) u').setCell (E (w.heap.size+1) 1) v') :=
 ((((h.setCell (Qc _) _).setCell (Qc _) _).setCell (Qc _) _).setCell (Ep _) _).setCell (Ep _) _
def R3 {v0 a v2:vO} (h:yt s=(L,0,0)) (b:zI w' (.agg #[v0,a,v2]) L) (hi:jL L) (hb:Bw w w'):Y9 s w (.returned (.tuple #[.agg #[v0,a,v2],.agg #[J 0,J 0]])) w' :=by grind [Y9,jL.loopIn]
end
section
structure ds (x1:wO) (y:Nat) (lv bv ov:vO) (nl nb no:Nat) (ll:Li) (bl:List St) (ol:Li) (wr:wO):Prop where
 bel:Below y x1 wr
 blk:wr.heap[y]?=some (.cells #[lv,bv,ov] 94 (0,0))
 ol_:wr.ownsRow (y+1) 3 1 lv nl (Xw ll)
 ob:wr.ownsRow (y+1) 144 9 bv nb (Vm bl)
 oo:wr.ownsRow (y+1) 3 1 ov no (Xw ol)
 alb:jQ lv bv
 alo:jQ lv ov
 abo:jQ bv ov
variable {x1 wr wr':wO} {y:Nat} {lv bv ov:vO} {nl nb no:Nat} {ll ol:Li} {bl:List St}
def ds.lt (h:ds x1 y lv bv ov nl nb no ll bl ol wr):y<wr.heap.size:=(lo h.blk)
def ds.gE (h:ds x1 y lv bv ov nl nb no ll bl ol wr) (hb:Bw wr wr'):ds x1 y lv bv ov nl nb no ll bl ol wr' :=
 ⟨h.bel.t (hb.m (Q7 h.lt)),(hb.block _ h.lt).t h.blk,zp h.ol_ hb,zp h.ob hb,zp h.oo hb,h.alb,h.alo,h.abo⟩
def ds.cells (h:ds x1 y lv bv ov nl nb no ll bl ol wr):wr.cell? (E y 0)=some lv/\wr.cell? (E y 1)=some bv/\wr.cell? (E y 2)=some ov:=by have key:=Qa h.blk;refine⟨?_,?_,?_⟩ <;> rw [key] <;> rfl
def ds.grow_l (h:ds x1 y lv bv ov nl nb no ll bl ol wr) {w1:wO} (a:wr.grownBy w1 lv.ownBlock):w1.heap[y]?=some (.cells #[lv,bv,ov] 94 (0,0))/\Below y x1 w1:=by have b:=se h.ol_;refine⟨?_,h.bel.grown a (Q7 h.lt) fun q c=>rQ⟩;rw [a.block y h.lt (fun e=>rQ)];exact h.blk
def ds.push_l (h:ds x1 y lv bv ov nl nb no ll bl ol wr) {w1:wO} {g cap H:Nat} {z:Int} (f:w1.ownsRow (y+1) 3 1 (.slice (pA g) (nl+1) cap) (nl+1) (Xw ll++[J z])) (d:wr.grownBy w1 lv.ownBlock) (b:lv.ownBlock=some g\/g=H) (j:wr.heap.size=H) :
  ds x1 y (.slice (pA g) (nl+1) cap) bv ov (nl+1) nb no (ll++[z]) bl ol (w1.setCell (E y 0) (.slice (pA g) (nl+1) cap)):=by
 obtain⟨hb,i⟩:=h.grow_l d;rw [<-wG] at f;have a_b:jQ (vP g (nl+1) cap) bv:=fun c h1 a=>by
  have e:g=c:=by simpa [Value.ownBlock] using h1
  subst e;rcases b with b | b
  ·exact h.alb g b a
  have:=XJ h.ob g a;lia
 have o_b:=Xm h.ob d (fun c h1 a=>h.alb c a h1);have a_o:jQ (vP g (nl+1) cap) ov:=fun c h1 a=>by
  have e:g=c:=by simpa [Value.ownBlock] using h1
  subst e;rcases b with b | b
  ·exact h.alo g b a
  have:=XJ h.oo g a;lia
 have o_o:=Xm h.oo d (fun c h1 a=>h.alo c a h1);refine⟨i.setCell (Qc _) _,?_,(zX f (QF _)),(zX o_b (QF _)),(zX o_o (QF _)),a_b,a_o,h.abo⟩;simp [World.setCell,QC,hb]
def ds.grow_b (h:ds x1 y lv bv ov nl nb no ll bl ol wr) {w1:wO} (a:wr.grownBy w1 bv.ownBlock):w1.heap[y]?=some (.cells #[lv,bv,ov] 94 (0,0))/\Below y x1 w1:=by have b:=se h.ob;refine⟨?_,h.bel.grown a (Q7 h.lt) fun q c=>rQ⟩;rw [a.block y h.lt (fun e=>rQ)];exact h.blk
def ds.push_b (h:ds x1 y lv bv ov nl nb no ll bl ol wr) {w1:wO} {g cap H:Nat} {z:St} (f:w1.ownsRow (y+1) 144 9 (.slice (pA g) (nb+1) cap) (nb+1) (Vm bl++(zG z).toList)) (d:wr.grownBy w1 bv.ownBlock) (b:bv.ownBlock=some g\/g=H) (j:wr.heap.size=H) :
  ds x1 y lv (.slice (pA g) (nb+1) cap) ov nl (nb+1) no ll (bl++[z]) ol (w1.setCell (E y 1) (.slice (pA g) (nb+1) cap)):=by
 obtain⟨hb,i⟩:=h.grow_b d;rw [<-Hs] at f;have a_l:jQ (vP g (nb+1) cap) lv:=fun c h1 a=>by
  have e:g=c:=by simpa [Value.ownBlock] using h1
  subst e;rcases b with b | b
  ·exact h.alb.s g b a
  have:=XJ h.ol_ g a;lia
 have o_l:=Xm h.ol_ d (fun c h1 a=>h.alb.s c a h1);have a_o:jQ (vP g (nb+1) cap) ov:=fun c h1 a=>by
  have e:g=c:=by simpa [Value.ownBlock] using h1
  subst e;rcases b with b | b
  ·exact h.abo g b a
  have:=XJ h.oo g a;lia
 have o_o:=Xm h.oo d (fun c h1 a=>h.abo c a h1);refine⟨i.setCell (Qc _) _,?_,(zX o_l (QF _)),(zX f (QF _)),(zX o_o (QF _)),a_l.s,h.alo,a_o⟩;simp [World.setCell,QC,hb]
def ds.grow_o (h:ds x1 y lv bv ov nl nb no ll bl ol wr) {w1:wO} (a:wr.grownBy w1 ov.ownBlock):w1.heap[y]?=some (.cells #[lv,bv,ov] 94 (0,0))/\Below y x1 w1:=by have b:=se h.oo;refine⟨?_,h.bel.grown a (Q7 h.lt) fun q c=>rQ⟩;rw [a.block y h.lt (fun e=>rQ)];exact h.blk
def ds.push_o (h:ds x1 y lv bv ov nl nb no ll bl ol wr) {w1:wO} {g cap H:Nat} {z:Int} (f:w1.ownsRow (y+1) 3 1 (.slice (pA g) (no+1) cap) (no+1) (Xw ol++[J z])) (d:wr.grownBy w1 ov.ownBlock) (b:ov.ownBlock=some g\/g=H) (j:wr.heap.size=H) :
  ds x1 y lv bv (.slice (pA g) (no+1) cap) nl nb (no+1) ll bl (ol++[z]) (w1.setCell (E y 2) (.slice (pA g) (no+1) cap)):=by
 obtain⟨hb,i⟩:=h.grow_o d;rw [<-wG] at f;have a_l:jQ (vP g (no+1) cap) lv:=fun c h1 a=>by
  have e:g=c:=by simpa [Value.ownBlock] using h1
  subst e;rcases b with b | b
  ·exact h.alo.s g b a
  have:=XJ h.ol_ g a;lia
 have o_l:=Xm h.ol_ d (fun c h1 a=>h.alo.s c a h1);have a_b:jQ (vP g (no+1) cap) bv:=fun c h1 a=>by
  have e:g=c:=by simpa [Value.ownBlock] using h1
  subst e;rcases b with b | b
  ·exact h.abo.s g b a
  have:=XJ h.ob g a;lia
 have o_b:=Xm h.ob d (fun c h1 a=>h.abo.s c a h1);refine⟨i.setCell (Qc _) _,?_,(zX o_l (QF _)),(zX o_b (QF _)),(zX f (QF _)),h.alb,a_l.s,a_b.s⟩;simp [World.setCell,QC,hb]
theorem ds.start (x1:wO):ds x1 x1.heap.size (.slice none 0 0) (.slice none 0 0) (.slice none 0 0) 0 0 0 [] [] [] (x1.alloc (.cells #[.slice none 0 0,.slice none 0 0,.slice none 0 0] 94)):=by
 refine⟨Qd _ _,?_,⟨rfl,.inl ⟨rfl,rfl⟩⟩,⟨rfl,.inl ⟨rfl,rfl⟩⟩,⟨rfl,.inl ⟨rfl,rfl⟩⟩,?_,?_,?_⟩
 ·show (x1.heap.push _)[x1.z]?=_;simp
 all_goals (intro g h;cases h)
def ds.nums (h:ds x1 y lv bv ov nl nb no ll bl ol wr):nl=ll.length/\nb=bl.length/\no=ol.length:=by have h1:=h.ol_.1;have b:=h.ob.1;have a:=h.oo.1;rw [Ht] at b;unfold Xw at h1 a;rw [Q9] at h1 a;lia
def ds.loop (h:ds x1 y lv bv ov nl nb no ll bl ol wr) (h1:∀z∈ll,-9223372036854775808<=z/\z<=9223372036854775807) (d:∀z∈ol,-9223372036854775808<=z/\z<=9223372036854775807):zI wr (.agg #[lv,bv,ov]) ⟨ll,bl,ol⟩:=by obtain⟨a,b,c⟩:=h.nums;subst a;subst b;subst c;exact⟨lv,bv,ov,rfl,zM.of_ownP h.ol_ h1,kY.of_ownP h.ob,zM.of_ownP h.oo d⟩
def Np {x1 wr:wO} {y g:Nat} {lv bv ov u' v':vO} {nl nb no:Nat} {ll ol:Li} {bl:List St} (h:ds x1 y lv bv ov nl nb no ll bl ol wr) (j:g+1+1<=y) (a:jL ⟨ll,bl,ol⟩) :
  zI (((((wr.setCell (E g 0) lv).setCell (E g 1) bv).setCell (E g 2) ov).setCell (E (g+1) 0) u').setCell (E (g+1) 1) v') (.agg #[lv,bv,ov]) ⟨ll,bl,ol⟩:=by
 have k0:g<y+1:=lI
 have k1:g+1<y+1:=lI
 have o1:=zX (u:=v') (o:=1) (zX (u:=u') (o:=0) (zX (u:=ov) (o:=2) (zX (u:=bv) (o:=1) (zX (u:=lv) (o:=0) h.ol_ k0) k0) k0) k1) k1;have f:=zX (u:=v') (o:=1) (zX (u:=u') (o:=0) (zX (u:=ov) (o:=2) (zX (u:=bv) (o:=1) (zX (u:=lv) (o:=0) h.ob k0) k0) k0) k1) k1;have i:=zX (u:=v') (o:=1) (zX (u:=u') (o:=0) (zX (u:=ov) (o:=2) (zX (u:=bv) (o:=1) (zX (u:=lv) (o:=0) h.oo k0) k0) k0) k1) k1;obtain⟨b,c,d⟩:=h.nums;subst b;subst c;subst d;exact⟨lv,bv,ov,rfl,zM.of_ownP o1 a.1,kY.of_ownP f,zM.of_ownP i a.2.1⟩
def Z0 (L:Lp):Lp:=⟨L.l.take 4,L.b.take 17,L.o.take 17⟩
theorem Xo {α:Type} (l:List α) (x:α) (n:Nat):(l++[x]).take (n+1)=if n<(l.take (n+1)).length then l.take (n+1) else l.take (n+1)++[x]:=by
 rw [Wh];by_cases h:n<l.length
 ·grind
 rw [Qe lI,WB (by simp;lia),WB lI]
def tD {α:Type} (l:List α) (n:Nat):(l.take (n+1)).length=0↔l.length=0:=by rw [Wh];lia
theorem B3 {L:Lp} (h1:L.l.length<=3) (a:L.b.length<=16) (c:L.o.length<=16):Z0 L=L:=by unfold Z0;rw [WB lI,WB lI,WB lI]
def Nq {L:Lp} (h:zQ L):Z0 L=L:=by grind [zy,B3]
theorem Nr (L:Lp):zQ (Z0 L)=zQ L:=by grind [zQ,Z0,zy,B3]
def jL.cut {L:Lp} (h:jL L):jL (Z0 L):=by grind [jL,Z0]
end
def IX (w:wO) (l:Li) (a:l.length<=1000) (hr:∀i,i<l.length->-9223372036854775808<=ak l i/\ak l i<=9223372036854775807):zM (w.alloc (.cells (l.map (Value.int .i64)).toArray 3)) (.slice (pA w.heap.size) l.length l.length) l:=by refine⟨_,_,rfl,Qc _,by unfold maxLen;lia,hr,fun _=>⟨w.z,0,rfl,sM,fun i hi=>?_⟩⟩;rw [QO,Qa (zm w _ _)];simp [ak,hi]
def kj (s:ByteArray):∃l:Li,jR l/\s=strOfNums l/\l.length=s.size:=by
 refine⟨s.data.toList.map fun b=>(b.toNat:Int),fun i=>?_,?_,?_⟩
 ·unfold ak;rw [List.getD,Wc];cases h:s.data.toList[i]? with
  | none=>exact⟨QR _,tQ⟩
  | some b =>have:=b.toNat_lt;exact⟨sA,rQ⟩
 ·apply ByteArray.ext;apply qP.1;rw [strOfNums_data,E2];have e:((fun n:Int=>UInt8.ofNat n.toNat) ∘ fun b:UInt8=>(b.toNat:Int))=id:=by funext b;simp_all
  rw [e,List.map_id]
 simp_all
def Hm (x:Int):(x.tmod 10<0->-(x.tmod 10)=((x.natAbs % 10:Nat):Int))/\(¬x.tmod 10<0->x.tmod 10=((x.natAbs % 10:Nat):Int)):=by
 have h1:=Int.tmod_add_mul_tdiv x 10;rcases Int.le_total 0 x with h | h
 ·have e:x.tmod 10=x % 10:=Wo h;omega
 have e:=Int.neg_tmod (-x) 10;rw [Int.neg_neg] at e;have a:(-x).tmod 10=(-x) % 10:=Wo oM;omega
def wC (x:Int):(x.tdiv 10).natAbs=x.natAbs / 10:=by rw [Int.natAbs_tdiv];rfl
def Ho {x:Int} {m:Li} {N:Nat} (h:Zl N=Zl x.natAbs++m) (b:x.tdiv 10≠0):Zl N=Zl (x.tdiv 10).natAbs++(48+((x.natAbs % 10:Nat):Int)) :: m:=by
 have e:=wC x
 have a:¬x.natAbs<10:=fun c=>b (by have:(x.tdiv 10).natAbs=0:=(by rw [e];omega);omega)
 rw [h,Yl a,e,Wr];rfl
def Hp (n:Int) (w:wO) (h0:-9223372036854775808<=n) (h1:n<=9223372036854775807) :
  Cp 18 #[J n] w (Rt w (.string (strOfNums (zo n)))):=by
 have N:=Z (BM h0 h1);go_enter func18,ntmps18;go_wp2;go_loopw [3,4] (fun sv lv wr=>∃(x:Int) (m:Li),sv=.string (strOfNums m)/\lv=J x/\-9223372036854775808<=x/\x<=9223372036854775807/\Zl n.natAbs=Zl x.natAbs++m/\m.length<=19/\Bw w wr) (fun _ lv _=>(intOf lv).natAbs)
 case atStart=>exact⟨n,[],rfl,rfl,h0,h1,(WJ _).s,sM,QA _ _⟩
 obtain⟨x,m,rfl,rfl,aV,aW,y,T,G⟩:=hrel;have D:=Z y;have C:=Z G;have j:=Hm x;have s:=wC x;have I:x.natAbs % 10<10:=E7 _ tQ;have k:Hid (x.tdiv 10≠0->Zl n.natAbs=Zl (x.tdiv 10).natAbs++(48+((x.natAbs % 10:Nat):Int)) :: m/\((48+((x.natAbs % 10:Nat):Int)) :: m).length<=19):=fun q=>by have e:=Ho y q;refine⟨e,?_⟩;have O:=N.o;rw [e,Qt] at O;omega
 have r:x.tdiv 10<=9223372036854775807:=oM
 have B:-9223372036854775808<=x.tdiv 10:=oM
 have u:Hid (x.tdiv 10≠0->(x.tdiv 10).natAbs<x.natAbs):=fun q=>oM
 have o:Hid (x.tdiv 10=0->x.natAbs<10):=fun q=>by rw [q] at s;simp at s;omega
 obtain⟨p,A⟩:∃p:Int,((x.natAbs % 10:Nat):Int)=p:=⟨_,rfl⟩;have P:0<=p/\p<10:=oM
 obtain⟨a,t⟩:∃a:Int,48+p=a:=⟨_,rfl⟩;have F:Hid (x.natAbs<10->[48+(x.natAbs:Int)]=[a]):=fun h=>by rw [<-t,<-A];congr 2;omega
 rw [A] at j k;rw [t] at k;obtain⟨d,L⟩:=nm (x.tmod 10);rw [L] at j;obtain⟨qx,K⟩:=nm (x.tdiv 10);rw [K] at k B r u o;have U:-10<d/\d<10:=oM
 have V:wrap64 d=d:=by unfold wrap64;omega
 have W:wrap64 (-d)=-d:=by unfold wrap64;omega
 have X:wrap64 a=a:=by unfold wrap64;omega
 have aS:IntKind.u8.wrap a=a:=by rw [IntKind.wrap_u8];omega
 have aT:wrap64 qx=qx:=by unfold wrap64;omega
 have aU:a % 256=a:=oM
 have R:(convert 41 9 (.slice (pA wr.z) 1 1)).run prog (wr.alloc (.cells #[.int .u8 a] 5))=.ok (.string (strOfNums [a])) (wr.alloc (.cells #[.int .u8 a] 5)):=by
  refine run_convert_bytes_arg _ 41 5 underlying41 underlying5 wr.z 0 1 1 [a] rfl (fun i hi=>?_) 9 underlying9;obtain rfl:i=0:=oM
  go_simp
 have aX:¬9223372036854775807<(strOfNums [a]).size+(strOfNums m).size:=by rw [strOfNums_size,strOfNums_size];show ¬9223372036854775807<1+m.length;omega
 have Q:strOfNums [a]++strOfNums m=strOfNums (a :: m):=jM [a] m;have g:Hid (Bw w (wr.alloc (.cells #[.int .u8 a] 5))):=C.alloc C.size _;clear G y s I A;by_cases hn:d<0
 ·have v:=j.1 hn;have S:(48:Int)+-d=a:=oM
  clear j t v;by_cases b:qx=0
  ·subst b;have ac:Hid (Zl n.natAbs=a :: m):=(by show _=_;rw [D,Z2 (o rfl),F (o rfl)];rfl);by_cases c:n<0
   ·have M:¬9223372036854775807<(ByteArray.mk #[45]).size+(strOfNums (a :: m)).size:=(by rw [strOfNums_size];show ¬9223372036854775807<1+(m.length+1);omega);have H:(ByteArray.mk #[45])++strOfNums (a :: m)=strOfNums (45 :: a :: m):=jM [45] (a :: m);have f:Hid (strOfNums (zo n)=strOfNums (45 :: a :: m)):=(by show _=_;unfold zo;rw [Qf c,ac]);go_wp2;go_ret;exact⟨by rw [f];rfl,g⟩
   have f:Hid (strOfNums (zo n)=strOfNums (a :: m)):=(by show _=_;unfold zo;rw [Qe c,ac]);go_wp2;go_ret;exact⟨by rw [f];rfl,g⟩
  have l:=Z (k b);go_wp2;go_roundw
  case rel=>exact⟨qx,a :: m,rfl,rfl,B,r,l.1,l.2,g⟩
  have:=u b;simp [intOf];omega
 have v:=j.2 hn;subst v;clear j;by_cases b:qx=0
 ·subst b;have ac:Hid (Zl n.natAbs=a :: m):=by show _=_;rw [D,Z2 (o rfl),F (o rfl)];rfl
  by_cases c:n<0
  ·have M:¬9223372036854775807<(ByteArray.mk #[45]).size+(strOfNums (a :: m)).size:=(by rw [strOfNums_size];show ¬9223372036854775807<1+(m.length+1);omega);have H:(ByteArray.mk #[45])++strOfNums (a :: m)=strOfNums (45 :: a :: m):=jM [45] (a :: m);have f:Hid (strOfNums (zo n)=strOfNums (45 :: a :: m)):=(by show _=_;unfold zo;rw [Qf c,ac]);go_wp2;go_ret;exact⟨by rw [f];rfl,g⟩
  have f:Hid (strOfNums (zo n)=strOfNums (a :: m)):=by show _=_;unfold zo;rw [Qe c,ac]
  go_wp2;go_ret;exact⟨by rw [f];rfl,g⟩
 have l:=Z (k b);go_wp2;go_roundw
 case rel=>exact⟨qx,a :: m,rfl,rfl,B,r,l.1,l.2,g⟩
 have:=u b;simp [intOf];omega
section
variable {i fr:Nat} {s:Li} {x:Int} {Ps:List Li}
def FO (s:Li) (h:jR s) (hi:i<s.length):((strOfNums s).data[i]?).map (·.toNat)=some (ak s i).toNat:=by
 have e:(strOfNums s).data[i]?=some (UInt8.ofNat (ak s i).toNat):=by show ((s.map fun n=>UInt8.ofNat n.toNat).toArray)[i]?=_;rw [qY,Wc,Qh hi];unfold ak;rw [List.getD,Qh hi];rfl
 rw [e];have:=h i;simp;omega
def rD (hs:jR s) (hi:i<s.length) (h:i<(strOfNums s).size):(((strOfNums s)[i]'h).toNat:Int)=ak s i:=by
 have e:=FO s hs hi;have a:(strOfNums s).data[i]?=some ((strOfNums s)[i]'h):=by show (strOfNums s).data[i]?=some ((strOfNums s).data[i]'h);exact WA h
 rw [a] at e;have b:((strOfNums s)[i]'h).toNat=(ak s i).toNat:=QD e;have:=hs i;omega
def FP (a:fr<=i) (hi:i<s.length):s.drop fr=(s.drop fr).take (i - fr)++ak s i :: s.drop (i+1):=by
 have e:(s.drop fr).drop (i - fr)=ak s i :: s.drop (i+1):=by rw [List.drop_drop,show fr+(i - fr)=i by omega,EP hi];unfold ak;rw [List.getD,Qh hi];rfl
 rw [<-e,qW]
def FQ (a:fr<=i) (hi:i<s.length):(s.drop fr).take (i+1 - fr)=(s.drop fr).take (i - fr)++[ak s i]:=by rw [show i+1 - fr=(i - fr)+1 by omega,Wm,List.getElem?_drop,show fr+(i - fr)=i by omega,Qh hi];unfold ak;rw [List.getD,Qh hi];rfl
structure kw (x:Int) (s:Li) (i fr:Nat) (Ps:List Li):Prop where
 le:i<=s.length+1
 mid:i<=s.length->fr<=i/\zx x s=Ps++zx x (s.drop fr)/\∀c∈(s.drop fr).take (i - fr),c≠x
 fin:s.length<i->Ps=zx x s
theorem kw.last (h:kw x s s.length fr Ps):kw x s (s.length+1) (s.length+1) (Ps++[(s.drop fr).take (s.length - fr)]):=by obtain⟨h1,b,a⟩:=h.mid (Qc _);have e:(s.drop fr).take (s.length - fr)=s.drop fr:=WB (by rw [qL];exact Qc _);rw [e] at a;refine⟨Qc _,fun c=>absurd c oM,fun _=>?_⟩;rw [e,b,Dh _ a]
def kw.cut (h:kw x s i fr Ps) (hi:i<s.length) (j:ak s i=x):kw x s (i+1) (i+1) (Ps++[(s.drop fr).take (i - fr)]):=by
 obtain⟨h1,d,f⟩:=h.mid oM;refine⟨oM,fun _=>⟨Qc _,?_,fun c a=>?_⟩,fun g=>absurd g oM⟩
 ·rw [d];have e:=FP h1 hi;rw [j] at e;have b:zx x (s.drop fr)=(s.drop fr).take (i - fr) :: zx x (s.drop (i+1)):=by
   conv=>lhs;rw [e]
   exact Mw f _
  rw [b,Wr];rfl
 rw [Nat.sub_self] at a;cases a
def kw.go (h:kw x s i fr Ps) (hi:i<s.length) (g:ak s i≠x):kw x s (i+1) fr Ps:=by
 obtain⟨h1,b,d⟩:=h.mid oM;refine⟨oM,fun _=>⟨oM,b,fun c a=>?_⟩,fun f=>absurd f oM⟩;rw [FQ h1 hi] at a;rcases QK.1 a with a | a
 ·exact d c a
 have:c=ak s i:=by simpa using a
 rw [this];exact g
end
section
variable {s:Li} {most:Nat} {w:wO}
def Q4 (t:Li) {i:Nat} (h:i<t.length):Xa (t.take (i+1))=10*Xa (t.take i)+(ak t i - 48):=by rw [Wm,Qh h];unfold ak;rw [List.getD,Qh h];exact VU _ _
end
section
variable {s:Li} {o0:Option Int} {n0:Int} {b0:Bool}
def Kt {x:Int}:∀{s:Li},(∀c∈s,0<=c/\c<=255)->∀p∈zx x s,(∀c∈p,0<=c/\c<=255)/\p.length<=s.length:=by
 intro s;induction s with
 | nil => intro _ p b;have:p=[]:=by simpa [zx] using b
          subst this;exact⟨fun c d=>by (cases d),Qc _⟩
 | cons a l ih =>
  intro h p b;have f:=ih fun c d=>h c (Wg _ d);unfold zx at b;by_cases e:a=x
  ·rw [Qf e] at b;rcases WE.1 b with b | b
   ·subst b;exact⟨fun c d=>by (cases d),Ql _⟩
   exact⟨(f p b).1,Nat.le_succ_of_le (f p b).2⟩
  rw [Qe e] at b;cases hs:zx x l with
  | nil=>exact absurd hs (xQ x l)
  | cons q qs =>
   rw [hs] at b f;rcases WE.1 b with b | b
   ·subst b;have g:=f q (QY ..);exact⟨fun c d=>by
     rcases WE.1 d with d | d
     ·rw [d];exact h a (QY ..)
     exact g.1 c d,Nat.succ_le_succ g.2⟩
   have g:=f p (Wg _ b);exact⟨g.1,Nat.le_succ_of_le g.2⟩
end
end Go.Proofs.YtjlfcbccpcigeacGreatDoor
