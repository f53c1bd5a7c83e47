import Derived.Test.YtjlfcbccpcigeacGreatDoorC
import Derived.Lib.ItoaNum
import Derived.Lib.Join
import Derived.Lib.Split
import Derived.Lib.ParseIntBCases
import Derived.Deep.AppendLies
set_option maxHeartbeats 40000000
set_option linter.defProp false
namespace Go.Proofs.YtjlfcbccpcigeacGreatDoor
open Go.Proofs.Tryz Go.RowKit Go.Joins
set_option linter.unusedVariables false
set_option linter.unusedSimpArgs false
set_option maxRecDepth 8192
def zv3 (a b:List Int):strOfNums a++strOfNums b=strOfNums (a++b):=by apply ByteArray.ext;apply qP.1;rw [strOfNums_data,QV];simp [strOfNums]
theorem yfm {n:Int} (h0:-9223372036854775808<=n) (h1:n<=9223372036854775807):(Zl n.natAbs).length<=19:=zc5 19 _ (by omega) (by omega)
def zmt (s:List Int):Prop:=∀i,0<=nth s i/\nth s i<=255
theorem zpt (s:List Int) (a b:Nat):(strOfNums s).extract a b=strOfNums ((s.drop a).take (b - a)):=by apply ByteArray.ext;apply qP.1;rw [strOfNums_data];simp [strOfNums,ByteArray.data_extract,List.map_take,List.map_drop,List.extract_eq_take_drop]
def Tryz.ist9:(Tryz.prog.info? 9).map (fun i=>(i.zero,i.size,i.bytes))=some (some (.string (ByteArray.mk #[])),1,16):=by kernel_rfl
def Z9 (ps:List (List Int)):List Value:=ps.map fun p=>.string (strOfNums p)
theorem zhz (a:List (List Int)) (p:List Int):Z9 (a++[p])=Z9 a++[.string (strOfNums p)]:=by unfold Z9;simp
def zum (wr:World) (a:ByteArray):∀(j:Nat) (u:Value),[Value.string a][j]?=some u->(wr.alloc (.cells #[.string a] 9)).cell? (((E wr.heap.size 0):Addr).add j)=some u:=by
 intro j u c;have b:((E wr.heap.size 0):Addr).add j=(E wr.heap.size j):=by simp [Addr.add];omega
 simp_all
section
variable {s:List Int} {most:Nat} {w:World}
theorem zjl (n:Nat):(Zl n).head?≠some 45:=by
 intro h;cases a:Zl n with
 | nil=>exact zaj _ a
 | cons c l =>
  rw [a] at h;have b:=YB n c (by grind);simp_all
def zor (n:Int):zmc (zo n)=Zl n.natAbs/\((zo n).head?=some 45->n<0):=by
 grind [zmc,zo,zjl]
def ye9:∀{l m:List Int},(∀c∈l,0<=c/\c<=255)->(∀c∈m,0<=c/\c<=255)->strOfNums l=strOfNums m->l=m:=by
 intro l m b hm h;have h1:l.map (fun n=>UInt8.ofNat n.toNat)=m.map (fun n=>UInt8.ofNat n.toNat):=by rw [<-strOfNums_data,<-strOfNums_data,h]
 clear h;induction l generalizing m with
 | nil=>cases m with
   | nil=>rfl
   | cons c m=>simp at h1
 | cons c l ih=>cases m with
   | nil=>simp at h1
   | cons d m =>simp only [Ef,W9] at h1;have f:=congrArg UInt8.toNat h1.1;have i:=b c (QY ..);have j:=hm d (QY ..);simp at f;have g:c=d:=(by omega);rw [g,ih (fun x a=>b x (Wg _ a)) (fun x a=>hm x (Wg _ a)) h1.2]
def zfo {l m:List Int} (a:∀c∈l,0<=c/\c<=255) (hm:∀c∈m,0<=c/\c<=255):((strOfNums l).toList == (strOfNums m).toList)=decide (l=m):=by
 by_cases h:l=m
 ·grind
 rw [Qk h];refine Wf fun e=>h (ye9 a hm ?_);rw [ByteArray.toList_eq,ByteArray.toList_eq] at e;exact ByteArray.ext (qP.1 e)
def byteL_mem (h:zmt s):∀c∈s,0<=c/\c<=255:=ygo fun i _=>h i
def zeh (n:Int):∀c∈zo n,0<=c/\c<=255:=fun c a=>by rcases zc4 n c a with h | h <;> omega
def VZ (s:List Int) (most:Nat) (w:World) (e:Ending) (w':World):Prop:=∃n b,e=.returned (.tuple #[J n,.bool b])/\b=(zT s most).isSome/\(∀m,zT s most=some m->n=m)/\-9223372036854775808<=n/\n<=9223372036854775807/\Bw w w'
def VZ.none (h:zT s most=none):VZ s most w (.returned (.tuple #[J 0,.bool false])) w :=
 ⟨0,false,rfl,by rw [h];rfl,fun m hm=>(by simp_all),by omega,by omega,QA _ _⟩
def ycl {y:World} {nv:Int} {a:Bool} (h1:zT s most=if zo nv=s then some nv else none) (f:decide (zo nv=s)=a) (b:-9223372036854775808<=nv) (c:nv<=9223372036854775807) (d:Bw w y):VZ s most w (.returned (.tuple #[J nv,.bool a])) y:=by
 refine⟨nv,a,rfl,?_,fun m hm=>?_,b,c,d⟩
 ·grind
 simp_all
end
section
variable {x:Int} {s p:List Int}
def b8 (s:List Int):List UInt8:=s.map fun n=>UInt8.ofNat n.toNat
theorem yP (s:List Int):(strOfNums s).data.toList=b8 s:=by unfold strOfNums b8;simp
theorem UE (s:List Int):(b8 s).length=s.length:=by unfold b8;simp
theorem zfx (s t:List Int):b8 (s++t)=b8 s++b8 t:=by unfold b8;simp
theorem ztx (s:List Int) (n:Nat):b8 (s.take n)=(b8 s).take n:=by unfold b8;simp
theorem zfb (s:List Int) (n:Nat):b8 (s.drop n)=(b8 s).drop n:=by unfold b8;simp
def By (s:List Int):Prop:=∀c∈s,0<=c/\c<=255
def zc1 {c d:Int} (a:0<=c/\c<=255) (b:0<=d/\d<=255) (h:UInt8.ofNat c.toNat=UInt8.ofNat d.toNat):c=d:=by have:=congrArg UInt8.toNat h;simp at this;omega
theorem znj:∀n:Nat,Lib.decDigits n=b8 (Zl n):=by
 intro n;induction n using Nat.strongRecOn with
 | _ n ih =>
  by_cases h:n<10
  ·rw [Lib.decDigits,dif_pos h,Z2 h];grind [b8]
  rw [Lib.decDigits,dif_neg h,Yl h,zfx,ih (n / 10) (by omega)];grind [b8]
theorem yg4 (n:Int):Lib.itoa n=b8 (zo n):=by
 unfold Lib.itoa zo;split
 ·rw [znj];rfl
 grind [znj]
theorem zue (x:Int):∀a:List (List Int),Lib.join (a.map b8) (b8 [x])=b8 (yD x a):=by
 intro a;induction a with
 | nil=>rfl
 | cons p a ih =>
  cases a with
  | nil=>rw [Ef,E1,Lib.join_one];rfl
  | cons q qs =>rw [Ef,Lib.join_cons];rw [Ef,Lib.join_cons] at ih;rw [show yD x (p :: q :: qs)=p++x :: yD x (q :: qs) from rfl,zfx,show b8 (x :: yD x (q :: qs))=b8 [x]++b8 (yD x (q :: qs)) by unfold b8;simp,<-ih];unfold Lib.joinTail;simp
theorem zgp (i:0<=x/\x<=255):∀{s:List Int},By s->∀{p:List Int},zx x s=[p]->Lib.index (b8 s) (b8 [x])=-1:=by
 intro s;induction s with
 | nil=>intro _ p _;rfl
 | cons c l ih =>
  intro hs p h;by_cases b:c=x
  ·subst b;rw [XN] at h;have:=xQ c l;simp at h;exact absurd h.2 this
  obtain⟨q,qs,a⟩:∃q qs,zx x l=q :: qs:=by
   cases a:zx x l with
   | nil=>exact absurd a (xQ x l)
   | cons q qs=>exact⟨q,qs,rfl⟩
  rw [ZJ b a] at h;have f:qs=[]:=by simpa using (List.cons.inj h).2
  subst f;have hi:=ih (fun d g=>hs d (Wg _ g)) a;show Lib.index (UInt8.ofNat c.toNat :: b8 l) [UInt8.ofNat x.toNat]=-1;rw [Lib.index,Qe (by
   intro e;have:UInt8.ofNat x.toNat=UInt8.ofNat c.toNat:=by simpa [List.isPrefixOf] using e
   exact b (zc1 i (hs c (QY ..)) this).symm),Qf (by rw [show Lib.index (b8 l) [UInt8.ofNat x.toNat]=-1 from hi];rfl)]
def YE (k:0<=x/\x<=255):∀{s:List Int},By s->∀{p q:List Int} {qs:List (List Int)},zx x s=p :: q :: qs->Lib.index (b8 s) (b8 [x])=(p.length:Int)/\s.take p.length=p/\zx x (s.drop (p.length+1))=q :: qs:=by
 intro s;induction s with
 | nil=>intro _ p q qs h;simp [zx] at h
 | cons c l ih =>
  intro hs p q qs h;by_cases b:c=x
  ·subst b;rw [XN] at h;obtain⟨rfl,a⟩:=List.cons.inj h;refine⟨?_,rfl,by simpa using a⟩;show Lib.index (UInt8.ofNat c.toNat :: b8 l) [UInt8.ofNat c.toNat]=0;rw [Lib.index,Qf (by simp [List.isPrefixOf])]
  obtain⟨r,rs,hr⟩:∃q qs,zx x l=q :: qs:=by
   cases j:zx x l with
   | nil=>exact absurd j (xQ x l)
   | cons q qs=>exact⟨q,qs,rfl⟩
  rw [ZJ b hr] at h;obtain⟨rfl,rfl⟩:=List.cons.inj h;obtain⟨h1,a,g⟩:=ih (fun d i=>hs d (Wg _ i)) hr;refine⟨?_,?_,?_⟩
  ·show Lib.index (UInt8.ofNat c.toNat :: b8 l) [UInt8.ofNat x.toNat]=_;have f:Lib.index (b8 l) [UInt8.ofNat x.toNat]=(r.length:Int):=h1;rw [Lib.index,Qe (by
    intro e;have:UInt8.ofNat x.toNat=UInt8.ofNat c.toNat:=by simpa [List.isPrefixOf] using e
    exact b (zc1 k (hs c (QY ..)) this).symm),f,Qe (by
    intro e;have:=QI e;omega)]
   simp
  ·simp [a]
  simpa using g
theorem zfd (h:By s) (n:Nat):By (s.take n):=fun c a=>h c (EJ a)
def zfc (h:By s) (n:Nat):By (s.drop n):=fun c a=>h c (q9 a)
def yaq (a:0<=x/\x<=255) (hs:By s) (h:zx x s=[p]):Lib.cut (b8 s) (b8 [x])=(b8 s,[],false):=by unfold Lib.cut;rw [zgp a hs h,Qe (by omega)]
def yar (b:0<=x/\x<=255) (hs:By s) {q:List Int} {qs:List (List Int)} (h:zx x s=p :: q :: qs):Lib.cut (b8 s) (b8 [x])=(b8 p,b8 (s.drop (p.length+1)),true):=by obtain⟨h1,a,c⟩:=YE b hs h;unfold Lib.cut;rw [h1,Qf (by omega)];rw [show ((p.length:Int)).toNat=p.length by omega,<-ztx,a,UE,<-zfb];rfl
def ye5 (d:0<=x/\x<=255):∀(k:Nat) (s:List Int),By s->∃W:List (List Int),Lib.splitK (b8 [x]) 0 k (b8 s)=W.map b8/\W≠[]/\(∀p∈W,By p)/\(∀p∈W,p.length<=s.length)/\(W=zx x s\/(W.length=k+1/\k+1<(zx x s).length)):=by
 intro k;induction k with
 | zero =>
  intro s hs;refine⟨[s],rfl,by simp,by simpa using hs,by simp,?_⟩;cases h:zx x s with
  | nil=>exact absurd h (xQ x s)
  | cons p a =>
   cases a with
   | nil=>left;have:=ZH x s;rw [h] at this;rw [<-this];rfl
   | cons q qs=>right;exact⟨rfl,by simp⟩
 | succ k ih =>
  intro s hs;cases h:zx x s with
  | nil=>exact absurd h (xQ x s)
  | cons p a =>
   cases a with
   | nil =>have c:p=s:=(by have:=ZH x s;rw [h] at this;exact this);refine⟨[s],?_,by simp,by simpa using hs,by simp,by left;rw [c]⟩;rw [Lib.splitK,Qf (by grind [zgp])];rfl
   | cons q qs =>
    obtain⟨h1,b,f⟩:=YE d hs h;obtain⟨W,w1,w2,g,j,i⟩:=ih (s.drop (p.length+1)) (zfc hs _);refine⟨p :: W,?_,by simp,?_,?_,?_⟩
    ·rw [Lib.splitK,h1,Qe (by simp_all)];rw [show ((p.length:Int)).toNat=p.length by omega,WG,<-ztx,b,UE,<-zfb];simp_all
    ·grind [zfd]
    ·grind
    simp_all
def zl1 (l:List Int):(strOfNums l).toList.isEmpty=decide (l=[]):=by rw [ByteArray.toList_eq,strOfNums_data];cases l <;> rfl
def zxi (acc:Nat) (l:List UInt8):Nat:=l.foldl (fun a c=>a*10+(c.toNat - 48)) acc
def ygl:∀(l:List UInt8) (a:Nat),a<=zxi a l:=by
 intro l;induction l with
 | nil=>intro a;exact Qc _
 | cons c l ih=>intro a;exact QH (by omega) (ih (a*10+(c.toNat - 48)))
def zy1:∀(l:List UInt8) (a:Nat),(∀c∈l,48<=c.toNat/\c.toNat<=57)->zxi a l<=18446744073709551615->Lib.parseUintM 18446744073709551615 a l=.ok (zxi a l):=by
 intro l;induction l with
 | nil=>intro a _ _;rfl
 | cons c l ih =>intro a b hm;have h1:a*10+(c.toNat - 48)<=18446744073709551615:=QH (ygl l _) hm;rw [Lib.parseUintM,Qf (b c (QY ..)),Qe (by omega),Qe (by omega)];exact ih _ (fun d h=>b d (Wg _ h)) hm
theorem zk7:∀n:Nat,zxi 0 (b8 (Zl n))=n:=by
 intro n;induction n using Nat.strongRecOn with
 | _ n ih =>
  by_cases h:n<10
  ·rw [Z2 h];show 0*10+((UInt8.ofNat (48+(n:Int)).toNat).toNat - 48)=n;simp;omega
  rw [Yl h,zfx];unfold zxi;rw [Q8];have:=ih (n / 10) (by omega);unfold zxi at this;rw [this];show n / 10*10+((UInt8.ofNat (48+((n % 10:Nat):Int)).toNat).toNat - 48)=n;simp;omega
def zu3 (n:Nat):∀c∈b8 (Zl n),48<=c.toNat/\c.toNat<=57:=by intro c a;unfold b8 at a;obtain⟨d,b,rfl⟩:=WV.1 a;have:=YB n d b;simp;omega
def zhe {n:Nat} (h:n<=18446744073709551615):Lib.parseUintB 64 (b8 (Zl n))=.ok n:=by unfold Lib.parseUintB;rw [Qe (by grind [UE,zaj])];have:=zy1 (b8 (Zl n)) 0 (zu3 n) (by rw [zk7];exact h);rw [zk7] at this;exact this
theorem zcx {n:Int} (h0:-9223372036854775808<=n) (h1:n<=9223372036854775807):Lib.parseIntB 64 (b8 (zo n))=.ok n:=by
 unfold zo;split
 ·rename_i hn;rw [show b8 (45 :: Zl n.natAbs)=45 :: b8 (Zl n.natAbs) from rfl,Lib.parseIntB_minus,zhe (by omega)];show (if 2 ^ 63<n.natAbs then Lib.NumEnd.range else Lib.NumEnd.ok (-(n.natAbs:Int)))=_;rw [Qe (by omega),show -(n.natAbs:Int)=n by omega]
 rename_i hn;obtain⟨c,l,b⟩:∃c l,b8 (Zl n.natAbs)=c :: l:=by
  cases d:b8 (Zl n.natAbs) with
  | nil=>have:=congrArg List.length d;rw [UE] at this;exact absurd (qf this) (zaj _)
  | cons c l=>exact⟨c,l,rfl⟩
 have f:=zu3 n.natAbs c (by grind);have a:=zhe (n:=n.natAbs) (by omega);rw [b] at a ⊢;rw [Lib.parseIntB_plain _ _ _ (by omega) (by omega),a];show (if 2 ^ 63<=n.natAbs then Lib.NumEnd.range else Lib.NumEnd.ok (n.natAbs:Int))=_;grind
def zkb {v:Int} (h:Lib.parseIntB 64 (b8 s)=.ok v) (h0:-9223372036854775808<=v) (h1:v<=9223372036854775807):zT s 19=if zo v=s then some v else none:=by grind [zT,ygp,zbk,zcx]
def zcr (h:∀v,Lib.parseIntB 64 (b8 s)≠.ok v):zT s 19=none:=by grind [zT,zbk,zcx]
def yfn:∀n:Nat,n<10 ^ (Zl n).length:=by
 intro n;induction n using Nat.strongRecOn with
 | _ n ih =>
  by_cases h:n<10
  ·grind [Z2]
  rw [Yl h,Qt];grind
theorem zkc (s:List Int):zT s 18=match zT s 19 with
  | some v=>if -1000000000000000000<v/\v<1000000000000000000 then some v else none
  | none=>none:=by
 cases c:zT s 19 with
 | none =>
  grind [zT]
 | some v =>
  obtain⟨hs,a,b⟩:=zbk c;subst hs;show _=if _ then _ else _
  split
  ·rename_i h;exact zsd a b (zc5 18 _ (by omega) (by omega))
  rename_i h;unfold zT;rw [Qe];intro ⟨d,_⟩;rw [(zor v).1] at d;have h1:=yfn v.natAbs;have f:10 ^ (Zl v.natAbs).length<=10 ^ 18:=WP (by omega) d;omega
end
section
variable {s:List Int} {o0:Option Int} {n0:Int} {b0:Bool}
def zbx (s:List Int) (w:World) (e:Ending) (w':World):Prop:=∃a b ok,e=.returned (.tuple #[.agg #[J a,J b],.bool ok])/\ok=(Zw s).isSome/\(∀r,Zw s=some r->a=r.1/\b=r.2)/\Bw w w'
theorem zp8 (h:s.head?≠some 35):Zw s=none:=by grind [Zw]
def zv8 {x:World} {g:Nat} {e:TypeId} {a b a' b':Value} (h:x.heap[g]?=some (.cells #[a,b] e (0,0))):((x.setCell (E g 0) a').setCell (E g 1) b').heap[g]?=some (.cells #[a',b'] e (0,0)):=by simp [World.setCell,QC,h]
def ydn {o1:Option Int} {n1:Int} {b1 ok:Bool} {np:Nat} (d:np=2->Zw s=match o0,o1 with
  | some x,some y=>if 0<y then some (x,y) else none
  | _,_=>none) (i:2<np->Zw s=none) (h:2<=np) (a:b0=o0.isSome) (f:∀m,o0=some m->n0=m) (b:b1=o1.isSome) (g:∀m,o1=some m->n1=m) (c:ok=(b0 && b1 && decide (np=2) && decide (0<n1))):ok=(Zw s).isSome/\∀r,Zw s=some r->n0=r.1/\n1=r.2:=by
 rw [c,a,b];by_cases e:np=2
 ·rw [d e,Qi e];cases o0 with
  | none=>exact⟨rfl,fun r hr=>by cases hr⟩
  | some x=>cases o1 with
    | none=>exact⟨rfl,fun r hr=>by cases hr⟩
    | some y =>
     grind
 grind
end
theorem zpx {l:List Int} {i:Nat} (h:i<l.length):l.take (i+1)=l.take i++[nth l i]:=by rw [Wm,Qh h];unfold nth;rw [List.getD,Qh h];rfl
def xF (ws:List (List Int)) (w:World) (e:Ending) (w':World):Prop:=∃(s:St) (ok:Bool),e=.returned (.tuple #[.agg (zG s),.bool ok])/\ok=(stO ws).isSome/\(∀r,stO ws=some r->s=r)/\Bw w w'
def yhm {ws:List (List Int)} {w w':World} {s:St} (h:stO ws=none) (hb:Bw w w'):xF ws w (.returned (.tuple #[.agg (zG s),.bool false])) w':=⟨s,false,rfl,by rw [h];rfl,fun r hr=>(by simp_all),hb⟩
def yn {l:List Int} (a:∀c∈l,0<=c/\c<=255) {m:List Int} (hm:∀c∈m,0<=c/\c<=255) {b:List UInt8} (hb:(strOfNums m).data.toList=b):((strOfNums l).toList == b)=decide (l=m):=by rw [<-hb,<-ByteArray.toList_eq (strOfNums m)];exact zfo a hm
def XF {x:World} {g:Nat} {e:TypeId} {a0 a b c d f i j k b0 b1 b2 b3 b4 b5 b6 b7 b8:Value} (h:x.heap[g]?=some (.cells #[a0,a,b,c,d,f,i,j,k] e (0,0))):(((((((((x.setCell (E g 0) b0).setCell (E g 1) b1).setCell (E g 2) b2).setCell (E g 3) b3).setCell (E g 4) b4).setCell (E g 5) b5).setCell (E g 6) b6).setCell (E g 7) b7).setCell (E g 8) b8).heap[g]?=some (.cells #[b0,b1,b2,b3,b4,b5,b6,b7,b8] e (0,0)):=by simp [World.setCell,QC,h]
def ygt (o:Int):∀c∈opD o,0<=c/\c<=255:=by
 unfold opD;repeat' split
 all_goals decide
section
def Xm {x w1:World} {base:Nat} {e:TypeId} {d n:Nat} {v:Value} {f:List Value} {row:Option Nat} (h:x.ownsRow base e d v n f) (j:x.grownBy w1 row) (i:∀g,v.ownBlock=some g->row≠some g):w1.ownsRow base e d v n f:=by
 obtain⟨k,h⟩:=h;refine⟨k,?_⟩;rcases h with h | ⟨g,cap,a,c,hb,b,r⟩
 ·exact .inl h
 refine .inr ⟨g,cap,a,c,hb,?_,r⟩;rw [j.block g (lo b) (fun e=>i g (by rw [c];rfl) e.symm)];exact b
def zX {x:World} {base y:Nat} {e:TypeId} {b n:Nat} {v u:Value} {c:List Value} {o:Nat} (h:x.ownsRow base e b v n c) (j:y<base):(x.setCell (E y o) u).ownsRow base e b v n c:=by
 obtain⟨f,h⟩:=h;refine⟨f,?_⟩;rcases h with h | ⟨g,cap,a,i,hb,d,r⟩
 ·exact .inl h
 exact .inr ⟨g,cap,a,i,hb,by rw [Qj _ _ _ _ (show g≠y by omega)];exact d,r⟩
def zhd {w:World} {base c:Nat} {e:TypeId} {v:Value} {n:Nat} {d:List Value} (h:w.ownsRow base e c v n d):∀k,v.ownBlock=some k->base<=k:=by
 obtain⟨i,h⟩:=h;rcases h with ⟨rfl,_⟩ | ⟨b,cap,a,rfl,f,g,r⟩
 ·intro k h;cases h
 intro k h;have:b=k:=by simpa [Value.ownBlock] using h
 omega
def XJ {w:World} {base c:Nat} {e:TypeId} {v:Value} {n:Nat} {d:List Value} (h:w.ownsRow base e c v n d):∀k,v.ownBlock=some k->k<w.heap.size:=by
 obtain⟨i,h⟩:=h;rcases h with ⟨rfl,_⟩ | ⟨b,cap,a,rfl,f,g,r⟩
 ·intro k h;cases h
 intro k h;have:b=k:=by simpa [Value.ownBlock] using h
 grind
def apP (u v:Value):Prop:=∀g,u.ownBlock=some g->v.ownBlock≠some g
def apP.symm {u v:Value} (h:apP u v):apP v u:=fun g h1 a=>h g a h1
def Vm (l:List St):List Value:=l.flatMap fun x=>(zG x).toList
theorem znw (l:List St) (x:St):Vm (l++[x])=Vm l++(zG x).toList:=by simp [Vm]
theorem zrp (l:List St):(Vm l).length=l.length*9:=by
 induction l with
 | nil=>rfl
 | cons x l ih =>show ((zG x).toList++Vm l).length=_;rw [Qt,ih,Q5];show 9+_=_;omega
def zro (l:List St):∀i j,i<l.length->j<9->(Vm l)[i*9+j]?=(zG (zc l i))[j]?:=by
 induction l with
 | nil=>intro i j hi;exact absurd hi (Qv _)
 | cons x l ih =>
  intro i j hi b;show ((zG x).toList++Vm l)[i*9+j]?=_;have a:(zG x).toList.length=9:=rfl;cases i with
  | zero =>rw [Wj (by omega),EY,QO];simp [zc]
  | succ i =>rw [Ww (by omega),a,show (i+1)*9+j - 9=i*9+j by omega,ih i j (by simpa using hi) b];rfl
def Xw (l:List Int):List Value:=l.map (Value.int .i64)
theorem zef (l:List Int) (z:Int):Xw (l++[z])=Xw l++[J z]:=by simp [Xw]
def zM.of_ownP {w:World} {base:Nat} {e:TypeId} {v:Value} {l:List Int} (h:w.ownsRow base e 1 v l.length (Xw l)) (hr:∀z∈l,-9223372036854775808<=z/\z<=9223372036854775807):zM w v l:=by
 have b:∀i,i<l.length->-9223372036854775808<=nth l i/\nth l i<=9223372036854775807:=fun i hi=>hr _ (by grind [nth]);obtain⟨k,h⟩:=h;rcases h with ⟨rfl,hn⟩ | ⟨g,cap,a,rfl,j,hb,hn,hm,f,d⟩
 ·exact⟨none,0,by rw [hn],by omega,Ql _,b,fun m=>by omega⟩
 refine⟨some (E g 0),cap,rfl,hn,hm,b,fun _=>⟨g,0,rfl,(lo hb),fun i hi=>?_⟩⟩;have h1:(a.toList.take (l.length*1))[i]?=(Xw l)[i]?:=by rw [d]
 rw [We,Qf (by omega)] at h1;rw [QO,Qa hb];have c:a.toList[i]?=a[i]?:=by simp
 rw [<-c,h1];unfold Xw nth;simp_all
def zby.of_ownP {w:World} {base:Nat} {e:TypeId} {v:Value} {l:List St} (h:w.ownsRow base e 9 v l.length (Vm l)):zby w v l:=by
 obtain⟨k,h⟩:=h;rcases h with ⟨rfl,hn⟩ | ⟨g,cap,a,rfl,f,hb,hn,hm,d,c⟩
 ·exact⟨none,0,by rw [hn],by omega,Ql _,fun m=>by omega⟩
 refine⟨some (E g 0),cap,rfl,hn,hm,fun _=>⟨g,0,rfl,(lo hb),fun i hi j b=>?_⟩⟩;rw [QO,Qa hb,<-zro l i j hi b,<-c,We,Qf (by omega)];simp
variable {x1 wr wr':World} {y:Nat} {lv bv ov:Value} {nl nb no:Nat} {ll ol:List Int} {bl:List St}
end
def Y9 (s:List Int) (w:World) (e:Ending) (w':World):Prop:=∃v0 v1 v2,e=.returned (.tuple #[.agg #[v0,v1,v2],.agg #[J (yt s).2.1,J ((yt s).2.2:Int)]])/\zI w' (.agg #[v0,v1,v2]) (yt s).1/\LoopIn (yt s).1/\Bw w w'
section
variable {ws:List (List Int)} {L:Lp} {s:List Int} {w w' X:World} {a' b' c' u' v':Value}
def zpi (x:Int):∀s:List Int,(zx x s).length<=s.length+1/\1<=(zx x s).length:=by
 intro s;induction s with
 | nil=>exact⟨Qc _,Qc _⟩
 | cons c l ih =>
  grind [zx]
def ykp {r:St} (h:stO ws=some r):-9223372036854775808<=r.nn/\r.nn<=9223372036854775807:=by
 unfold stO at h;split at h
 ·grind
 ·grind [zT,zbk]
 all_goals (repeat' split at h) <;> first | (cases h;exact⟨by simp,by simp⟩) | cases h
def InP (L:Lp):Prop:=(∀z∈L.l,-9223372036854775808<=z/\z<=9223372036854775807)/\(∀z∈L.o,-9223372036854775808<=z/\z<=9223372036854775807)/\∀s∈L.b,-9223372036854775808<=s.nn/\s.nn<=9223372036854775807
theorem InP.loopIn (h:InP L):LoopIn L:=fun k=>by
 by_cases a:k<L.b.length
 ·have:zc L.b k∈L.b:=by grind [zc]
  exact h.2.2 _ this
 ·have:(zc L.b k).nn=0:=by unfold zc;rw [List.getD,Q0 (by omega)];rfl
  grind [I64]
def zul:InP ⟨[],[],[]⟩:=⟨by simp,by simp,by simp⟩
theorem zxm (w:World):zI w (.agg #[.slice none 0 0,.slice none 0 0,.slice none 0 0]) ⟨[],[],[]⟩ :=
 ⟨_,_,_,rfl,⟨none,0,rfl,Qc _,Ql _,fun i hi=>absurd hi (Qv _),fun a=>absurd a (qC _)⟩,⟨none,0,rfl,Qc _,Ql _,fun a=>absurd a (qC _)⟩,⟨none,0,rfl,Qc _,Ql _,fun i hi=>absurd hi (Qv _),fun a=>absurd a (qC _)⟩⟩
def ydc {k:Nat} (h:yt s=(⟨[],[],[]⟩,2,k)) (hb:Bw w w'):Y9 s w (.returned (.tuple #[.agg #[.slice none 0 0,.slice none 0 0,.slice none 0 0],.agg #[J 2,J (k:Int)]])) w' :=
 ⟨_,_,_,by rw [h],by grind [zxm],by rw [h];exact zul.loopIn,hb⟩
def Tryz.iintP:(Tryz.prog.info? 3).map (fun i=>(i.zero,i.size,i.bytes))=some (some (J 0),1,8):=by kernel_rfl
def Tryz.istP:(Tryz.prog.info? 144).map (fun i=>(i.zero,i.size,i.bytes))=some (some (.agg #[J 0,J 0,J 0,J 0,J 0,J 0,J 0,J 0,J 0]),9,72):=by kernel_rfl
theorem zcp (w:World) (a:Array Value) (e:TypeId):(w.alloc (.cells a e)).heap[w.heap.size]?=some (.cells a e (0,0)):=by show (w.heap.push _)[w.heap.size]?=_;simp
def yhi (h:false=(stO ws).isSome):stO ws=none:=by
 simp_all
def yhk {v:St} (h:true=(stO ws).isSome) (b:∀r,stO ws=some r->v=r):stO ws=some v:=by
 cases a:stO ws with
 | none=>rw [a] at h;cases h
 | some r=>rw [b r a]
def yii (ws:List (List Int)) (w:World) (e:Ending) (w':World):Prop:=∃(s:St) (ok:Bool),e=.returned (.tuple #[.agg #[J s.o,J s.xa,J s.xb,J s.ya,J s.yb,J s.ar,J s.sp,J s.pl,J s.nn],.bool ok])/\ok=(stO ws).isSome/\(∀r,stO ws=some r->s=r)/\Bw w w'
def yhj (v:St):∀u∈(zG v).toList,u.oneCell'=true:=by intro u a;simp [zG] at a;rcases a with rfl | rfl | rfl | rfl | rfl | rfl | rfl | rfl | rfl <;> rfl
def yjb (x:World) (v:St):∀j u,(zG v).toList[j]?=some u->((x.alloc (.cells #[J v.o,J v.xa,J v.xb,J v.ya,J v.yb,J v.ar,J v.sp,J v.pl,J v.nn] 144)).alloc (.cells #[J v.o,J v.xa,J v.xb,J v.ya,J v.yb,J v.ar,J v.sp,J v.pl,J v.nn] 144)).cell? (((E (x.heap.size+1) 0):Addr).add j)=some u:=by
 have e:(x.alloc (.cells #[J v.o,J v.xa,J v.xb,J v.ya,J v.yb,J v.ar,J v.sp,J v.pl,J v.nn] 144)).heap.size=x.heap.size+1:=by simp
 have h:=zcp (x.alloc (.cells #[J v.o,J v.xa,J v.xb,J v.ya,J v.yb,J v.ar,J v.sp,J v.pl,J v.nn] 144)) #[J v.o,J v.xa,J v.xb,J v.ya,J v.yb,J v.ar,J v.sp,J v.pl,J v.nn] 144;rw [e] at h;exact World.news_of_block h
def zvo (x:World) (v:St):Bw x (x.alloc (.cells #[J v.o,J v.xa,J v.xb,J v.ya,J v.yb,J v.ar,J v.sp,J v.pl,J v.nn] 144)):=Qd _ _
def zj5 (x:World) (v:St):Bw x ((x.alloc (.cells #[J v.o,J v.xa,J v.xb,J v.ya,J v.yb,J v.ar,J v.sp,J v.pl,J v.nn] 144)).alloc (.cells #[J v.o,J v.xa,J v.xb,J v.ya,J v.yb,J v.ar,J v.sp,J v.pl,J v.nn] 144)):=QB _ _ _
def zc9 {g:Nat} {e d:TypeId} {a b c u v:Value} (h1:X.heap[g]?=some (.cells #[a,b,c] e (0,0))) (f:X.heap[g+1]?=some (.cells #[u,v] d (0,0))) :
  (((((X.setCell (E g 0) a').setCell (E g 1) b').setCell (E g 2) c').setCell (E (g+1) 0) u').setCell (E (g+1) 1) v').heap[g]?=some (.cells #[a',b',c'] e (0,0))/\(((((X.setCell (E g 0) a').setCell (E g 1) b').setCell (E g 2) c').setCell (E (g+1) 0) u').setCell (E (g+1) 1) v').heap[g+1]?=some (.cells #[u',v'] d (0,0)):=by constructor <;> simp [World.setCell,QC,h1,f]
def U9 (h:Bw w X):Bw w (((((X.setCell (E w.heap.size 0) a').setCell (E w.heap.size 1) b').setCell (E w.heap.size 2) c').setCell (E (w.heap.size+1) 0) u').setCell (E (w.heap.size+1) 1) v') :=
 ((((h.setCell (Qc _) _).setCell (Qc _) _).setCell (Qc _) _).setCell (Ep _) _).setCell (Ep _) _
def yjn {v0 a v2:Value} (h:yt s=(L,0,0)) (b:zI w' (.agg #[v0,a,v2]) L) (hi:InP L) (hb:Bw w w'):Y9 s w (.returned (.tuple #[.agg #[v0,a,v2],.agg #[J 0,J 0]])) w' :=by grind [Y9,InP.loopIn]
end
section
structure RdM (x1:World) (y:Nat) (lv bv ov:Value) (nl nb no:Nat) (ll:List Int) (bl:List St) (ol:List Int) (wr:World):Prop where
 bel:Below y x1 wr
 blk:wr.heap[y]?=some (.cells #[lv,bv,ov] 94 (0,0))
 ol_:wr.ownsRow (y+1) 3 1 lv nl (Xw ll)
 ob:wr.ownsRow (y+1) 144 9 bv nb (Vm bl)
 oo:wr.ownsRow (y+1) 3 1 ov no (Xw ol)
 alb:apP lv bv
 alo:apP lv ov
 abo:apP bv ov
variable {x1 wr wr':World} {y:Nat} {lv bv ov:Value} {nl nb no:Nat} {ll ol:List Int} {bl:List St}
def RdM.lt (h:RdM x1 y lv bv ov nl nb no ll bl ol wr):y<wr.heap.size:=(lo h.blk)
def RdM.gE (h:RdM x1 y lv bv ov nl nb no ll bl ol wr) (hb:Bw wr wr'):RdM x1 y lv bv ov nl nb no ll bl ol wr' :=
 ⟨h.bel.trans (hb.mono (Q7 h.lt)),(hb.block _ h.lt).trans h.blk,zp h.ol_ hb,zp h.ob hb,zp h.oo hb,h.alb,h.alo,h.abo⟩
def RdM.cells (h:RdM x1 y lv bv ov nl nb no ll bl ol wr):wr.cell? (E y 0)=some lv/\wr.cell? (E y 1)=some bv/\wr.cell? (E y 2)=some ov:=by have key:=Qa h.blk;refine⟨?_,?_,?_⟩ <;> rw [key] <;> rfl
def RdM.grow_l (h:RdM x1 y lv bv ov nl nb no ll bl ol wr) {w1:World} (a:wr.grownBy w1 lv.ownBlock):w1.heap[y]?=some (.cells #[lv,bv,ov] 94 (0,0))/\Below y x1 w1:=by have b:=zhd h.ol_;refine⟨?_,h.bel.grown a (Q7 h.lt) fun q c=>by grind⟩;rw [a.block y h.lt (fun e=>by grind)];exact h.blk
def RdM.push_l (h:RdM x1 y lv bv ov nl nb no ll bl ol wr) {w1:World} {g cap H:Nat} {z:Int} (f:w1.ownsRow (y+1) 3 1 (.slice (pA g) (nl+1) cap) (nl+1) (Xw ll++[J z])) (d:wr.grownBy w1 lv.ownBlock) (b:lv.ownBlock=some g\/g=H) (j:wr.heap.size=H) :
  RdM x1 y (.slice (pA g) (nl+1) cap) bv ov (nl+1) nb no (ll++[z]) bl ol (w1.setCell (E y 0) (.slice (pA g) (nl+1) cap)):=by
 obtain⟨hb,i⟩:=h.grow_l d;rw [<-zef] at f;have a_b:apP (.slice (pA g) (nl+1) cap) bv:=fun c h1 a=>by
  have e:g=c:=by simpa [Value.ownBlock] using h1
  subst e;rcases b with b | b
  ·exact h.alb g b a
  have:=XJ h.ob g a;omega
 have o_b:=Xm h.ob d (fun c h1 a=>h.alb c a h1);have a_o:apP (.slice (pA g) (nl+1) cap) ov:=fun c h1 a=>by
  have e:g=c:=by simpa [Value.ownBlock] using h1
  subst e;rcases b with b | b
  ·exact h.alo g b a
  have:=XJ h.oo g a;omega
 have o_o:=Xm h.oo d (fun c h1 a=>h.alo c a h1);refine⟨i.setCell (Qc _) _,?_,(zX f (QF _)),(zX o_b (QF _)),(zX o_o (QF _)),a_b,a_o,h.abo⟩;simp [World.setCell,QC,hb]
def RdM.grow_b (h:RdM x1 y lv bv ov nl nb no ll bl ol wr) {w1:World} (a:wr.grownBy w1 bv.ownBlock):w1.heap[y]?=some (.cells #[lv,bv,ov] 94 (0,0))/\Below y x1 w1:=by have b:=zhd h.ob;refine⟨?_,h.bel.grown a (Q7 h.lt) fun q c=>by grind⟩;rw [a.block y h.lt (fun e=>by grind)];exact h.blk
def RdM.push_b (h:RdM x1 y lv bv ov nl nb no ll bl ol wr) {w1:World} {g cap H:Nat} {z:St} (f:w1.ownsRow (y+1) 144 9 (.slice (pA g) (nb+1) cap) (nb+1) (Vm bl++(zG z).toList)) (d:wr.grownBy w1 bv.ownBlock) (b:bv.ownBlock=some g\/g=H) (j:wr.heap.size=H) :
  RdM x1 y lv (.slice (pA g) (nb+1) cap) ov nl (nb+1) no ll (bl++[z]) ol (w1.setCell (E y 1) (.slice (pA g) (nb+1) cap)):=by
 obtain⟨hb,i⟩:=h.grow_b d;rw [<-znw] at f;have a_l:apP (.slice (pA g) (nb+1) cap) lv:=fun c h1 a=>by
  have e:g=c:=by simpa [Value.ownBlock] using h1
  subst e;rcases b with b | b
  ·exact h.alb.symm g b a
  have:=XJ h.ol_ g a;omega
 have o_l:=Xm h.ol_ d (fun c h1 a=>h.alb.symm c a h1);have a_o:apP (.slice (pA g) (nb+1) cap) ov:=fun c h1 a=>by
  have e:g=c:=by simpa [Value.ownBlock] using h1
  subst e;rcases b with b | b
  ·exact h.abo g b a
  have:=XJ h.oo g a;omega
 have o_o:=Xm h.oo d (fun c h1 a=>h.abo c a h1);refine⟨i.setCell (Qc _) _,?_,(zX o_l (QF _)),(zX f (QF _)),(zX o_o (QF _)),a_l.symm,h.alo,a_o⟩;simp [World.setCell,QC,hb]
def RdM.grow_o (h:RdM x1 y lv bv ov nl nb no ll bl ol wr) {w1:World} (a:wr.grownBy w1 ov.ownBlock):w1.heap[y]?=some (.cells #[lv,bv,ov] 94 (0,0))/\Below y x1 w1:=by have b:=zhd h.oo;refine⟨?_,h.bel.grown a (Q7 h.lt) fun q c=>by grind⟩;rw [a.block y h.lt (fun e=>by grind)];exact h.blk
def RdM.push_o (h:RdM x1 y lv bv ov nl nb no ll bl ol wr) {w1:World} {g cap H:Nat} {z:Int} (f:w1.ownsRow (y+1) 3 1 (.slice (pA g) (no+1) cap) (no+1) (Xw ol++[J z])) (d:wr.grownBy w1 ov.ownBlock) (b:ov.ownBlock=some g\/g=H) (j:wr.heap.size=H) :
  RdM x1 y lv bv (.slice (pA g) (no+1) cap) nl nb (no+1) ll bl (ol++[z]) (w1.setCell (E y 2) (.slice (pA g) (no+1) cap)):=by
 obtain⟨hb,i⟩:=h.grow_o d;rw [<-zef] at f;have a_l:apP (.slice (pA g) (no+1) cap) lv:=fun c h1 a=>by
  have e:g=c:=by simpa [Value.ownBlock] using h1
  subst e;rcases b with b | b
  ·exact h.alo.symm g b a
  have:=XJ h.ol_ g a;omega
 have o_l:=Xm h.ol_ d (fun c h1 a=>h.alo.symm c a h1);have a_b:apP (.slice (pA g) (no+1) cap) bv:=fun c h1 a=>by
  have e:g=c:=by simpa [Value.ownBlock] using h1
  subst e;rcases b with b | b
  ·exact h.abo.symm g b a
  have:=XJ h.ob g a;omega
 have o_b:=Xm h.ob d (fun c h1 a=>h.abo.symm c a h1);refine⟨i.setCell (Qc _) _,?_,(zX o_l (QF _)),(zX o_b (QF _)),(zX f (QF _)),h.alb,a_l.symm,a_b.symm⟩;simp [World.setCell,QC,hb]
theorem RdM.start (x1:World):RdM x1 x1.heap.size (.slice none 0 0) (.slice none 0 0) (.slice none 0 0) 0 0 0 [] [] [] (x1.alloc (.cells #[.slice none 0 0,.slice none 0 0,.slice none 0 0] 94)):=by
 refine⟨Qd _ _,?_,⟨rfl,.inl ⟨rfl,rfl⟩⟩,⟨rfl,.inl ⟨rfl,rfl⟩⟩,⟨rfl,.inl ⟨rfl,rfl⟩⟩,?_,?_,?_⟩
 ·show (x1.heap.push _)[x1.heap.size]?=_;simp
 all_goals (intro g h;cases h)
def RdM.nums (h:RdM x1 y lv bv ov nl nb no ll bl ol wr):nl=ll.length/\nb=bl.length/\no=ol.length:=by have h1:=h.ol_.1;have b:=h.ob.1;have a:=h.oo.1;rw [zrp] at b;unfold Xw at h1 a;rw [Q9] at h1 a;omega
def RdM.loop (h:RdM x1 y lv bv ov nl nb no ll bl ol wr) (h1:∀z∈ll,-9223372036854775808<=z/\z<=9223372036854775807) (d:∀z∈ol,-9223372036854775808<=z/\z<=9223372036854775807):zI wr (.agg #[lv,bv,ov]) ⟨ll,bl,ol⟩:=by obtain⟨a,b,c⟩:=h.nums;subst a;subst b;subst c;exact⟨lv,bv,ov,rfl,zM.of_ownP h.ol_ h1,zby.of_ownP h.ob,zM.of_ownP h.oo d⟩
def yh6 {x1 wr:World} {y g:Nat} {lv bv ov u' v':Value} {nl nb no:Nat} {ll ol:List Int} {bl:List St} (h:RdM x1 y lv bv ov nl nb no ll bl ol wr) (j:g+1+1<=y) (a:InP ⟨ll,bl,ol⟩) :
  zI (((((wr.setCell (E g 0) lv).setCell (E g 1) bv).setCell (E g 2) ov).setCell (E (g+1) 0) u').setCell (E (g+1) 1) v') (.agg #[lv,bv,ov]) ⟨ll,bl,ol⟩:=by
 have k0:g<y+1:=by omega
 have k1:g+1<y+1:=by omega
 have o1:=zX (u:=v') (o:=1) (zX (u:=u') (o:=0) (zX (u:=ov) (o:=2) (zX (u:=bv) (o:=1) (zX (u:=lv) (o:=0) h.ol_ k0) k0) k0) k1) k1;have f:=zX (u:=v') (o:=1) (zX (u:=u') (o:=0) (zX (u:=ov) (o:=2) (zX (u:=bv) (o:=1) (zX (u:=lv) (o:=0) h.ob k0) k0) k0) k1) k1;have i:=zX (u:=v') (o:=1) (zX (u:=u') (o:=0) (zX (u:=ov) (o:=2) (zX (u:=bv) (o:=1) (zX (u:=lv) (o:=0) h.oo k0) k0) k0) k1) k1;obtain⟨b,c,d⟩:=h.nums;subst b;subst c;subst d;exact⟨lv,bv,ov,rfl,zM.of_ownP o1 a.1,zby.of_ownP f,zM.of_ownP i a.2.1⟩
def Z0 (L:Lp):Lp:=⟨L.l.take 4,L.b.take 17,L.o.take 17⟩
theorem Xo {α:Type} (l:List α) (x:α) (n:Nat):(l++[x]).take (n+1)=if n<(l.take (n+1)).length then l.take (n+1) else l.take (n+1)++[x]:=by
 rw [Wh];by_cases h:n<l.length
 ·grind
 rw [Qe (by omega),WB (by simp;omega),WB (by omega)]
def ze6 {α:Type} (l:List α) (n:Nat):(l.take (n+1)).length=0↔l.length=0:=by rw [Wh];omega
theorem zjb {L:Lp} (h1:L.l.length<=3) (a:L.b.length<=16) (c:L.o.length<=16):Z0 L=L:=by unfold Z0;rw [WB (by omega),WB (by omega),WB (by omega)]
def zu1 {L:Lp} (h:zQ L=true):Z0 L=L:=by grind [zy,zjb]
theorem yfk (L:Lp):zQ (Z0 L)=zQ L:=by grind [zQ,Z0,zy,zjb]
def InP.cut {L:Lp} (h:InP L):InP (Z0 L):=by grind [InP,Z0]
end
def ybi (w:World) (l:List Int) (a:l.length<=1000) (hr:∀i,i<l.length->-9223372036854775808<=nth l i/\nth l i<=9223372036854775807):zM (w.alloc (.cells (l.map (Value.int .i64)).toArray 3)) (.slice (pA w.heap.size) l.length l.length) l:=by refine⟨_,_,rfl,Qc _,by unfold maxLen;omega,hr,fun _=>⟨w.heap.size,0,rfl,by simp,fun i hi=>?_⟩⟩;rw [QO,Qa (zm w _ _)];simp [nth,hi]
def str_nums (s:ByteArray):∃l:List Int,zmt l/\s=strOfNums l/\l.length=s.size:=by
 refine⟨s.data.toList.map fun b=>(b.toNat:Int),fun i=>?_,?_,?_⟩
 ·unfold nth;rw [List.getD,Wc];cases h:s.data.toList[i]? with
  | none=>exact⟨QR _,by decide⟩
  | some b =>have:=b.toNat_lt;exact⟨by simp_all,by grind⟩
 ·apply ByteArray.ext;apply qP.1;rw [strOfNums_data,E2];have e:((fun n:Int=>UInt8.ofNat n.toNat) ∘ fun b:UInt8=>(b.toNat:Int))=id:=by funext b;simp_all
  rw [e,List.map_id]
 simp_all
end Go.Proofs.YtjlfcbccpcigeacGreatDoor
