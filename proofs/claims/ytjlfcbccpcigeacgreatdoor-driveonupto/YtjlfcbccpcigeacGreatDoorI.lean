import Derived.Test.YtjlfcbccpcigeacGreatDoorD
import Derived.Lib.BitFns
import Derived.Lib.Small
import Derived.Lib.Walk
set_option maxHeartbeats 40000000
set_option linter.defProp false
namespace Go.Proofs.YtjlfcbccpcigeacGreatDoor
open Go.Proofs.Tryz Go.RowKit Go.Joins
set_option linter.unusedVariables false
set_option linter.unusedSimpArgs false
set_option maxRecDepth 8192
section
open Go.WideMaps (KeyLaw)
variable {b base:Nat} {x w w' w6:World} {v:Value} {K:Kn} {c:Mc} {V:Nat->Value}
def laidOut:laidOutB prog=true:=by kernel_rfl
def zvb:(296:TypeId)<prog.types.size:=QI (by kernel_rfl)
def yem:(match prog.underlying 296 with | some (.array _ _) | some (.struct _)=>true | _=>false)=true:=by kernel_rfl
def zfp:KeyLaw prog 296:=deep_law_laid laidOut (m:=2) (by omega) zvb (by kernel_rfl) yem
def zq5 (u:World):(zeroValue 3).run prog u=.ok (J 0) u:=by kernel_rfl
def zva (a b:Int) (n:(Lit.int .i64 a).wf=true) (hb:(Lit.int .i64 b).wf=true):∃i,keyOf prog 296 (.agg #[.int .i64 a,.int .i64 b])=some i:=by
 have h1:prog.keyType 296=true:=by kernel_rfl
 have f:prog.cellsOf 296=2:=by kernel_rfl
 have j:prog.cellsOf 3=1:=by kernel_rfl
 obtain⟨c,g⟩:∃c,prog.types.size=c+1:=⟨_,(qF (Nat.lt_of_le_of_lt (Ql _) zvb)).symm⟩;have h:(Value.agg #[.int .i64 a,.int .i64 b]).formed prog 296=true:=by simp [Value.formed,underlying296,f]
 have k:∀d (x:Int),(Lit.int .i64 x).wf=true->prog.keyLits (d+1) 3 [.int .i64 x]=some [.int .i64 x]:=fun d x o=>by unfold Program.keyLits;simp_all
 have l:prog.keyLits (c+1+1) 296 [.int .i64 a,.int .i64 b]=some [.int .i64 a,.int .i64 b]:=by unfold Program.keyLits;simp_all
 unfold keyOf;rw [underlying296];simp only [h1,h,Bool.and_self,if_true];rw [g];have m:(Value.agg #[.int .i64 a,.int .i64 b]).cells.toList=[.int .i64 a,.int .i64 b]:=rfl;simp_all
def YW (l:List Kop) (k:Nat) (s c:Int):Nat:=cnt (fun j=>decide ((zv l j).sl=s) && decide (ye (zv l j).o=c)) k
theorem yeg (l:List Kop) (k:Nat):YW l (k+1) (zv l k).sl (ye (zv l k).o)=zhu l k:=rfl
theorem zbr (l:List Kop) (k:Nat) (s c:Int):YW l (k+1) s c=if (zv l k).sl=s/\ye (zv l k).o=c then YW l k s c+1 else YW l k s c:=by grind [YW,cnt]
def V5 (l:List Kop) (k b:Nat) (x:World):Prop :=
 ∃D:DataW Unit,x.ownsMap prog 296 (plainElem prog 3) b k D/\Maps.IsMap D/\∀s c kl,keyOf prog 296 (.agg #[.int .i64 s,.int .i64 c])=some kl->D.atKey kl (.lit (.int .i64 0))=.lit (.int .i64 (YW l k s c))
def V5.gE {l:List Kop} {k:Nat} {y:World} (h:V5 l k b x) (hb:Bw x y):V5 l k b y:=by obtain⟨D,h1,a,c⟩:=h;refine⟨D,h1.kept (row:=none) ⟨hb.os,hb.tape,hb.output,hb.size,fun i hi _=>hb.block i hi⟩ (by simp),a,c⟩
def V5.look {l:List Kop} {k:Nat} (h:V5 l k b x) (s c:Int) (hs:(Lit.int .i64 s).wf=true) (g:(Lit.int .i64 c).wf=true):(Instr.lookup 294 (.map (some b)) (.agg #[.int .i64 s,.int .i64 c]) false).run prog x=.ok (.int .i64 (YW l k s c)) x:=by obtain⟨D,h1,j,f⟩:=h;obtain⟨i,a⟩:=zva s c hs g;obtain⟨q,hr,d,_⟩:=h1.lookup_int (EZ zfp) underlying294 underlying3 (zq5 _) a;rw [f s c i a] at d;injection d with e1;injection e1 with _ e2;rw [hr,e2]
def V5.step {l:List Kop} {k:Nat} (h:V5 l k b x) (I:k<l.length) (G:l.length<=16) (s c:Int) (hs:(zv l k).sl=s) (C:ye (zv l k).o=c) (ws:(Lit.int .i64 s).wf=true) (p:(Lit.int .i64 c).wf=true) :
  ∃ v0 st w1,(Instr.mapEntry 294 (.map (some b)) (.agg #[.int .i64 s,.int .i64 c])).run prog x=.ok (.tuple #[v0,goInt st]) w1/\x.grownBy w1 (some b)/\(Instr.lookup 294 (.map (some b)) (.agg #[.int .i64 s,.int .i64 c]) false).run prog w1=.ok (.int .i64 (YW l k s c)) w1 /\
    ∃f,(Instr.entryStore 294 (.map (some b)) (goInt st) (.int .i64 ((YW l k s c:Int)+1))).run prog w1=.ok () f/\w1.grownBy f (some b)/\V5 l (k+1) b f:=by
 have F:=h.look s c ws p
 obtain⟨D,h1,j,B⟩:=h
 obtain⟨m,i⟩:=zva s c ws p
 have H:YW l k s c<=16:=QH (U5 _ _) (by omega)
 obtain⟨v0,st,w1,q,r,t,u⟩:=zje zfp underlying294 underlying3 zq5 h1 (by unfold maxLen;omega) i F
 obtain⟨f,v,y,z⟩:=u w1 ((YW l k s c:Int)+1) rfl (WN (by omega))
 refine⟨v0,st,w1,q,r,t,f,v,y,D.put m (.lit (.int .i64 ((YW l k s c:Int)+1))),z,j.put _ _,fun n c' d a=>?_⟩
 by_cases e:d=m
 ·subst e
  have g:=zfp.inj i a
  injection g with g
  have A:s=n/\c=c':=by simpa using g
  obtain⟨rfl,rfl⟩:=A
  rw [ql j ((EZ zfp).key a),zbr,Qf ⟨hs,C⟩]
  rfl
 ·rw [q7 e,B n c' d a,zbr,Qe fun h=>e ?_]
  simp_all
theorem ybb (n:Int):goInt n=J n:=rfl
def yen (t:Tg) (c:Nat) (a:c<3) (w:World) (x:World) (h:x.heap[w.heap.size]?=some (.cells #[J t.u0,J t.u1,J t.u2,J t.w0,J t.w1,J t.w2,J t.r] 27 (0,0))):x.cell? (E w.heap.size c)=Y (yf t c):=by
 rw [Qa h];obtain rfl | rfl | rfl:c=0\/c=1\/c=2:=by omega
 all_goals rfl
def zzl (t:Tg) (pc st:Int) (ops:List Kop) (ka:Option Addr) (kc:Nat) (w:World) (j:Y5 w (.slice ka ops.length kc) ops) (aI:ops.length<=16) (eu:∀x∈ops,0<=x.sl/\x.sl<=1000) :
  Calls prog 165 #[(tV t),.agg #[J pc,J st,.slice ka ops.length kc]] w (Rt w (.bool (za5 t ops))):=by
 obtain⟨ka',kc',aS,cH,aT,aK⟩:=j;injection aS with A l B;subst A;subst B;unfold maxLen at aT;have cO:=Z aK;have eV:=Z eu;have dG:=@run_makeMap prog;have H0:Hid (V5 ops 0 (w.heap.size+1+1) (((w.alloc (tO t)).alloc (kB pc st ka ops.length kc)).alloc (.map #[] 0))):=by
  show V5 _ _ _ _;have h:=World.ownsMap_made (H:=Unit) ((w.alloc (tO t)).alloc (kB pc st ka ops.length kc)) prog 296 (plainElem prog 3);have e:((w.alloc (tO t)).alloc (kB pc st ka ops.length kc)).heap.size=w.heap.size+1+1:=by simp
  rw [e] at h;exact⟨_,h,Maps.isMap_empty,fun s c kl _=>rfl⟩
 clear aK eu l;go_enter func165,ntmps165;go_wp2;go_loopw [13] (fun i wr=>∃k:Nat,k<=ops.length/\i=J k/\zF (fun i=>decide ((zhu ops i:Int)<=yf t (ye (zv ops i).o))) k=true/\Below (w.heap.size+1+1) ((w.alloc (tO t)).alloc (kB pc st ka ops.length kc)) wr/\V5 ops k (w.heap.size+1+1) wr) (fun i _=>ops.length - (intOf i).toNat)
 case atStart=>exact⟨0,Ql _,rfl,rfl,(QA _ _).alloc (by simp) _,H0.out⟩
 clear H0 dG;obtain⟨k,hk,rfl,hall,r,hM⟩:=hrel;have HA:=Z hall;have HB:=Z r;have HM:=Z hM;have n:Bw w wr:=(QB _ _ _).trans (r.mono (by omega));have aO:w.heap.size+1+1<=wr.heap.size:=by have:=r.size;simp at this;omega
 clear hall hM;by_cases y:k<ops.length
 ·have bz:(k:Int)<(ops.length:Int):=by omega
  obtain⟨ob,oo,rfl,dI,af⟩:=cO.out (by omega);obtain⟨I,L,M,N,O,P,Q,R,S,T⟩:=ten (af k y);rw [<-ze n _ _ dI] at I L M N O P Q R S T;have dJ:ob<wr.heap.size:=by omega
  have F:=Z n;obtain⟨s0,s1⟩:=eV.out _ (zcv y);obtain⟨f,m,dy⟩:∃f:Nat,ye (zv ops k).o=(f:Int)/\f<3:=by
   rcases VA (zv ops k).o with h | h | h
   ·exact⟨0,h,by omega⟩
   ·exact⟨1,h,by omega⟩
   exact⟨2,h,by omega⟩
  have eW:Hid (∀x,Below (w.heap.size+1+1) wr x->x.cell? (E w.heap.size f)=Y (yf t f)):=fun x hx=>yen t f dy w x (by rw [hx.block _ (by omega),HB.out.block _ (by omega),Qr _ _ _ (by simp)];exact yB _ _ _);have aY:=Z (fun (x:World) (h:V5 ops k (w.heap.size+1+1) x)=>h.step y aI _ f rfl m (WN (by omega)) (WN (by omega)));have aX:=Z (fun (x:World) (h:V5 ops k (w.heap.size+1+1) x)=>h.look (zv ops k).sl f (WN (by omega)) (WN (by omega)));have G:=Z (fun (x:World) (h:V5 ops (k+1) (w.heap.size+1+1) x)=>h.look (zv ops k).sl f (WN (by omega)) (WN (by omega)));have cB:Hid (∀W,Calls prog 90 #[J (zv ops k).o] W fun e w'=>e=.returned (J f)/\w'=W):=fun W=>by rw [<-m];exact zah _ _
  have dx:YW ops (k+1) (zv ops k).sl f=YW ops k (zv ops k).sl f+1:=by rw [zbr,Qf ⟨rfl,m⟩]
  have U:Hid (zhu ops k=YW ops k (zv ops k).sl f+1):=by grind [yeg]
  have ek:YW ops k (zv ops k).sl f<=16:=QH (U5 _ _) (by omega);rw [dx] at G;have V:Hid (yf t (ye (zv ops k).o)=yf t f):=by show _=_;rw [m]
  generalize YW ops k (zv ops k).sl f=cc at *
  generalize yf t (f:Int)=un at *
  clear m dx af n r;have fe:Hid (∃xk,zv ops k=xk):=⟨_,rfl⟩;generalize cx:zv ops k=xk at *
  have dX:=Z cx;clear cx fe;obtain⟨sl,sg,o,d,a,b,ar,sp,pl,nn⟩:=xk;(try simp only at I L M N O P Q R S T s0 s1 aY aX G cB U V);go_wp2;clear I L M N O P Q R S T;go_region_held3 (fun w'=>w'.cell? (E wr.heap.size 0)=Y sl/\w'.cell? (E wr.heap.size 2)=Y o) ((go_keep;done)) (first | (go_at_call 90;refine (cB.out _).mono ?_;rintro e w' ⟨rfl,C⟩;have C:=C.symm;subst C))
  all_goals
   have HY:=Z (HM.out.gE ((QB wr (.cells #[J sl,J sg,J o,J d,J a,J b,J ar,J sp,J pl,J nn] 79) (.cells #[J sl,J f] 296)).drew.drew))
   have fx:w.heap.size+1+1<wr.heap.size:=by obtain⟨D,h1,_⟩:=HM.out;exact h1.lt
   obtain⟨v0,stp,w1,A,l,B,g,f1,f2,f3⟩:=aY.out _ HY.out
   rw [ybb] at A f1
   have em:(f:Int)<3:=by omega
   have fZ:IntKind.i64.wrap ((cc:Int)+1)=(cc:Int)+1:=zjn _ (by omega) (by omega)
   have bL:Hid (((wr.alloc (.cells #[J sl,J sg,J o,J d,J a,J b,J ar,J sp,J pl,J nn] 79)).alloc (.cells #[J sl,J f] 296)).heap[wr.heap.size+1]?=some (.cells #[J sl,J f] 296 (0,0))):=by
    show _=_
    have e:(wr.alloc (.cells #[J sl,J sg,J o,J d,J a,J b,J ar,J sp,J pl,J nn] 79)).heap.size=wr.heap.size+1:=by simp
    rw [<-e];exact yB _ _ _
   have z:Hid (w1.heap[wr.heap.size+1]?=some (.cells #[J sl,J f] 296 (0,0))):=by show _=_;rw [l.block _ (by simp) (by intro e;have:=QD e;omega)];exact bL.out
   have bf:Hid (g.heap[wr.heap.size+1]?=some (.cells #[J sl,J f] 296 (0,0))):=by show _=_;rw [f2.block _ (lo z.out) (by intro e;have:=QD e;omega)];exact z.out
   have X:Hid (Below (w.heap.size+1+1) wr g):=(((((QB wr (.cells #[J sl,J sg,J o,J d,J a,J b,J ar,J sp,J pl,J nn] 79) (.cells #[J sl,J f] 296)).drew.drew).mono (by omega)).grown l (by simp;omega) (fun q hq=>by have:=QD hq;omega)).grown f2 (by have:=l.size;simp at this;omega) (fun q hq=>by have:=QD hq;omega))
   have cY:=Z f3
   have p:w1.cell? (E (wr.heap.size+1) 0)=Y sl/\w1.cell? (E (wr.heap.size+1) 1)=Y f/\(Instr.lookup 294 (.map (some (w.heap.size+1+1))) (.agg #[J sl,J f]) false).run prog w1=.ok (J cc) w1:=⟨cb z.out,cb z.out,B⟩
   have dN:=Z p
   have H7:Hid (g.drew.cell? (E (wr.heap.size+1) 0)=Y sl/\g.drew.cell? (E (wr.heap.size+1) 1)=Y f/\g.drew.cell? (E w.heap.size f)=Y un/\(Instr.lookup 294 (.map (some (w.heap.size+1+1))) (.agg #[J sl,J f]) false).run prog g.drew=.ok (J ((cc:Int)+1)) g.drew):=⟨by show g.cell? _=_;rw [Qa bf.out];rfl,by show g.cell? _=_;rw [Qa bf.out];rfl,eW.out _ X.out.drew,by have h:=G.out _ (cY.out.gE (QA _ _).drew);rw [ET] at h;exact h⟩
   clear f3 l B f2 p
   go_wp2
   refine rg 6 (fun w'=>w'.cell? (E (wr.heap.size+1) 0)=Y sl/\w'.cell? (E (wr.heap.size+1) 1)=Y f/\(Instr.lookup 294 (.map (some (w.heap.size+1+1))) (.agg #[J sl,J f]) false).run prog w'=.ok (J cc) w') (⟨by simp,by simp,aX.out _ HY.out⟩) fun u=>?_
   refine uk2 0 ?_
   refine uk2 2 ?_
   refine uo 4 fun K j=>?_
   go_simp
   refine nxt j.out (.inr dN.out) ?_
   clear j K u
   have u:=dN.out
   refine uk 5 ?_
   refine uo 6 fun K j=>?_
   go_simp
   refine nxt j.out (.inl rfl) ?_
   clear j K u
   refine rd ?_
   clear A f1
   by_cases v:un<(cc:Int)+1
   ·have dA:decide (un<(cc:Int)+1)=true:=Qi v
    have HF:Hid (za5 t ops=false):=yd y (Qk (by rw [dX.out,U.out,V.out];omega))
    go_wp2
    refine rg 99 (fun w'=>w'.cell? (E (wr.heap.size+1) 0)=Y sl/\w'.cell? (E (wr.heap.size+1) 1)=Y f/\w'.cell? (E w.heap.size f)=Y un/\(Instr.lookup 294 (.map (some (w.heap.size+1+1))) (.agg #[J sl,J f]) false).run prog w'=.ok (J (cc+1)) w') H7.out fun u=>?_
    refine uk2 0 ?_
    refine uk2 2 ?_
    refine uk2 4 ?_
    refine uk2 6 ?_
    refine uk 8 ?_
    refine rd ?_
    go_wp2
    go_ret
    exact⟨zi HF.out.symm,F.out.trans ((X.out.drew).mono (by omega))⟩
   ·have dA:decide (un<(cc:Int)+1)=false:=Qk v
    have HT:Hid (decide ((zhu ops k:Int)<=yf t (ye (zv ops k).o))=true):=Qi (by rw [dX.out,U.out,V.out];omega)
    go_wp2
    refine rg 99 (fun w'=>w'.cell? (E (wr.heap.size+1) 0)=Y sl/\w'.cell? (E (wr.heap.size+1) 1)=Y f/\w'.cell? (E w.heap.size f)=Y un/\(Instr.lookup 294 (.map (some (w.heap.size+1+1))) (.agg #[J sl,J f]) false).run prog w'=.ok (J (cc+1)) w') H7.out fun u=>?_
    refine uk2 0 ?_
    refine uk2 2 ?_
    refine uk2 4 ?_
    refine uk2 6 ?_
    refine uk 8 ?_
    refine rd ?_
    go_wp2
    go_roundw
    case rel=>exact⟨k+1,by omega,by go_num,yr HA.out HT.out,HB.out.trans X.out.drew,cY.out.gE (QA _ _).drew⟩
    case measure=>simp [intOf];omega
 have e:k=ops.length:=by omega
 subst e;have bz:¬(ops.length:Int)<(ops.length:Int):=by omega
 have F:=Z n;clear n r;go_wp2;go_ret;exact⟨zi HA.out.symm,F.out⟩
def Tryz.i144:(prog.info? 144).map (fun i=>(i.zero,i.size,i.bytes))=some (some (.agg #[J 0,J 0,J 0,J 0,J 0,J 0,J 0,J 0,J 0]),9,72):=by kernel_rfl
def zgk (l:List St):List Value:=l.flatMap fun x=>(zG x).toList
theorem zrq (l:List St) (x:St):zgk l++(zG x).toList=zgk (l++[x]):=by unfold zgk;simp
def zwt (l:List St):∀i j,i<l.length->j<9->(zgk l)[i*9+j]?=(zG (zc l i))[j]?:=by
 induction l with
 | nil=>intro i c h;exact absurd h (Qv _)
 | cons d l ih =>
  intro i j h b;show ((zG d).toList++zgk l)[i*9+j]?=_;have a:(zG d).toList.length=9:=rfl;cases i with
  | zero =>rw [Wj (by omega),EY,QO,E6];rfl
  | succ i =>rw [Ww (by omega),a,show (i+1)*9+j - 9=i*9+j from by omega,ih i j (by simpa using h) b];rfl
def zz6 {l:List St} (h:w.ownsRow base 144 9 v l.length (zgk l)):zby w v l:=by
 obtain⟨k,h⟩:=h;rcases h with ⟨rfl,hn⟩ | ⟨g,cap,a,rfl,f,hb,hn,hm,d,c⟩
 ·exact⟨none,0,by rw [hn],by omega,Ql _,fun m=>by omega⟩
 refine⟨_,cap,rfl,hn,hm,fun _=>⟨g,0,rfl,(lo hb),fun i hi j b=>?_⟩⟩;rw [Qa hb,<-zwt l i j hi b,<-c,We,Qf (by omega),QO];simp
def zsi (w:World) (e:TypeId) (a:Nat):(w.alloc (.cells #[] e)).ownsRow w.heap.size e a (.slice (pA w.heap.size) 0 0) 0 []:=by refine⟨by simp,.inr ⟨w.heap.size,0,#[],rfl,Qc _,?_,Qc _,Ql _,by simp,by simp⟩⟩;show (w.heap.push _)[w.heap.size]?=_;simp
def zvp (l:List Kop) (k:Nat) (h:k<l.length):Zx (l.take (k+1))=Zx (l.take k)++[stK (zv l k)]:=by
 have h1:l[k]?=some (zv l k):=by grind [zv]
 unfold Zx;rw [Wm,h1,QV];rfl
def ygm (w:World) (x:St) {B:Nat} (hB:w.heap.size=B):∀(j:Nat) (u:Value),(zG x).toList[j]?=some u->(w.alloc (.cells (zG x) 144)).cell? (((E B 0):Addr).add j)=some u:=by
 subst hB;intro j u b;have a:((E w.heap.size 0):Addr).add j=(E w.heap.size j):=by simp [Addr.add];omega
 simp_all
def ycj {x:St} {u:Value} (h:u∈(zG x).toList):u.oneCell'=true:=by unfold zG at h;simp at h;rcases h with rfl | rfl | rfl | rfl | rfl | rfl | rfl | rfl | rfl <;> rfl
def zwy (t:Tg) (pc st:Int) (ops:List Kop) (ka:Option Addr) (kc:Nat) (a:Option Addr) (b:Nat) (logs:List Int) (w:World) (g:Y5 w (.slice ka ops.length kc) ops) (k:zM w (.slice a logs.length b) logs) (h:16<ops.length):Calls prog 104 #[(tV t),.agg #[J pc,J st,.slice ka ops.length kc],.slice a logs.length b] w (Rt w (.bool false)):=by
 obtain⟨i,j,d,l,f,c⟩:=g;injection d with e1 e2 e3;subst e1;subst e3;unfold maxLen at f;have hi:(16:Int)<(ops.length:Int):=by omega
 clear c e2;go_enter func104,ntmps104;go_wp2;go_ret;exact⟨rfl,QB _ _ _⟩
def zod (t:Tg) (pc st:Int) (ops:List Kop) (ka:Option Addr) (kc:Nat) (c:Option Addr) (d:Nat) (logs:List Int) (w:World) (k:Y5 w (.slice ka ops.length kc) ops) (n:zM w (.slice c logs.length d) logs) (h:ops.length<=16) (b:zS t=false):Calls prog 104 #[(tV t),.agg #[J pc,J st,.slice ka ops.length kc],.slice c logs.length d] w (Rt w (.bool false)):=by
 obtain⟨l,m,i,o,j,g⟩:=k;injection i with e1 e2 e3;subst e1;subst e3;unfold maxLen at j;have hi:¬(16:Int)<(ops.length:Int):=by omega
 have a:=Z (fun W=>b ▸ Y8 t W);clear g e2 b;go_enter func104,ntmps104;go_wp2_with fail;refine (a.out _).mono ?_;rintro e p ⟨rfl,hb⟩;have f:=Z ((QB w _ _).trans (hb.mono (by simp;omega)));clear hb a;go_wp2;go_ret;exact⟨rfl,f.out⟩
def zjt (t:Tg) (pc st:Int) (ops:List Kop) (ka:Option Addr) (kc:Nat) (f:Option Addr) (g:Nat) (logs:List Int) (w:World) (n:Y5 w (.slice ka ops.length kc) ops) (q:zM w (.slice f logs.length g) logs) (h:ops.length<=16) (d:zS t=true) (b:inR pc 1 200=false\/(inR pc 1 200=true/\inR st 1 1001=false)):Calls prog 104 #[(tV t),.agg #[J pc,J st,.slice ka ops.length kc],.slice f logs.length g] w (Rt w (.bool false)):=by
 obtain⟨o,p,l,r,m,k⟩:=n;injection l with e1 e2 e3;subst e1;subst e3;unfold maxLen at m;have hi:¬(16:Int)<(ops.length:Int):=by omega
 have c:=Z (fun W=>d ▸ Y8 t W);clear k e2 d;rcases b with b | ⟨b,hs⟩
 all_goals
  go_enter func104,ntmps104
  go_wp2_with fail
  refine (c.out _).mono ?_
  rintro e i ⟨rfl,hb⟩
  have j:=Z ((QB w (tO t) (kB pc st ka ops.length kc)).trans (hb.mono (by simp;omega)))
  have k0:i.cell? (E (w.heap.size+1) 0)=Y pc:=by rw [ze hb _ _ (by simp)];go_simp
  have k1:i.cell? (E (w.heap.size+1) 1)=Y st:=by rw [ze hb _ _ (by simp)];go_simp
  clear hb c
  go_wp2_with (go_at_call 105;refine (zN _ _ _ _).mono ?_;rintro e w' ⟨rfl,a⟩;have a:=a.symm;subst a)
  go_ret
  exact⟨rfl,j.out⟩
def zwz (t:Tg) (pc st:Int) (ops:List Kop) (ka:Option Addr) (kc:Nat) (U:Option Addr) (V:Nat) (logs:List Int) (w:World) (hK:Y5 w (.slice ka ops.length kc) ops) (cD:zM w (.slice U logs.length V) logs) (aI:ops.length<=16) (ht:zS t=true) (hp:inR pc 1 200=true) (hs:inR st 1 1001=true):Calls prog 104 #[(tV t),.agg #[J pc,J st,.slice ka ops.length kc],.slice U logs.length V] w (Rt w (.bool (zF (fun i=>xL pc st (zv ops i) && XL t.r (zv ops i)) ops.length && zQ ⟨logs,Zx ops,[]⟩ && za5 t ops))):=by
 have bG:=Z hK;have cX:=Z cD;obtain⟨ka',kc',aS,cH,aT,aK⟩:=hK;injection aS with e1 e2 e3;subst e1;subst e3;unfold maxLen at aT;have fB:¬(16:Int)<(ops.length:Int):=by omega
 obtain⟨bY,bZ⟩:=zH.1 hp;obtain⟨cg,cu⟩:=zH.1 hs;have aW:=(yi ht).2.2.2;obtain⟨eq,er⟩:=aW;(try simp only at eq er);obtain⟨i0,hi,ay,az,aA⟩:=info_parts Tryz.i144;have HT:=Z (fun W=>ht ▸ Y8 t W);have eY:Hid (∀x W,Calls prog 162 #[.agg #[J pc,J st,.slice ka ops.length kc],.agg (yZ x)] W (Rt W (.bool (xL pc st x)))):=fun x W=>zq1 pc st _ x.sl x.sg x.o x.d x.a x.b x.ar x.sp x.pl x.nn W bY bZ cg cu;have eT:Hid (∀x W,Calls prog 163 #[(tV t),.agg (yZ x)] W (Rt W (.bool (XL t.r x)))):=fun x W=>ze0 t x.sl x.sg x.o x.d x.a x.b x.ar x.sp x.pl x.nn W eq er;have cO:=Z aK;clear aK e2 ht;go_enter func104,ntmps104;go_wp2_with fail;refine (HT.out _).mono ?_;rintro e g ⟨rfl,hb⟩;have HB:=Z ((QB w (tO t) (kB pc st ka ops.length kc)).trans (hb.mono (by simp;omega)));have v:Hid (g.heap[w.heap.size]?=some (tO t)/\g.heap[w.heap.size+1]?=some (kB pc st ka ops.length kc)):=by
  refine⟨?_,?_⟩
  ·rw [hb.block _ (by simp;omega),Qr _ _ _ (by simp)];exact yB _ _ _
  rw [hb.block _ (by simp)];have e:(w.alloc (tO t)).heap.size=w.heap.size+1:=by simp
  rw [<-e];exact yB _ _ _
 have k0:g.cell? (E (w.heap.size+1) 0)=Y pc:=by rw [Qa v.out.2];rfl
 have k1:g.cell? (E (w.heap.size+1) 1)=Y st:=by rw [Qa v.out.2];rfl
 have C:g.cell? (E (w.heap.size+1) 2)=some (.slice ka ops.length kc):=by rw [Qa v.out.2];rfl
 have hz:w.heap.size+1<g.heap.size:=by have:=hb.size;simp at this;omega
 clear hb HT;go_wp2_with (go_at_call 105;refine (zN _ _ _ _).mono ?_;rintro e w' ⟨rfl,aa⟩;have aa:=aa.symm;subst aa);go_loopw [7,33] (fun bv i wr=>∃k:Nat,k<=ops.length/\i=J k/\zF (fun i=>xL pc st (zv ops i) && XL t.r (zv ops i)) k=true/\Bw g wr/\∃B bc,bv=.slice B k bc/\wr.ownsRow g.heap.size 144 9 (.slice B k bc) k (zgk (Zx (ops.take k)))) (fun _ i _=>ops.length - (intOf i).toNat)
 case atStart=>exact⟨0,Ql _,rfl,rfl,Qd _ _,_,0,rfl,zsi g 144 9⟩
 clear k0 k1 C;obtain⟨k,hk,rfl,hall,n,B,bc,rfl,gJ⟩:=hrel;have HA:=Z hall;have eF:=Z n;have F:=Z gJ;have aO:=n.size;have f:=Z (HB.out.trans (n.mono (by omega)));have T:Hid (wr.heap[w.heap.size]?=some (tO t)/\wr.heap[w.heap.size+1]?=some (kB pc st ka ops.length kc)):=⟨by rw [n.block _ (by omega)];exact v.out.1,by rw [n.block _ (by omega)];exact v.out.2⟩;clear hall gJ n;by_cases ag:k<ops.length
 ·have bz:(k:Int)<(ops.length:Int):=by omega
  obtain⟨ob,oo,rfl,dI,af⟩:=cO.out (by omega);obtain⟨H,I,K,L,M,N,O,P,Q,R⟩:=ten (af k ag);rw [<-ze f.out _ _ dI] at H I K L M N O P Q R;have dJ:ob<wr.heap.size:=by omega
  have dm:=Z (zvp ops k ag);have di:=Z (zix (zv ops k));have au:=Z (eY.out (zv ops k));have df:=Z (eT.out (zv ops k));have s:Hid (∀b,(xL pc st (zv ops k) && XL t.r (zv ops k))=b->b=false->zF (fun i=>xL pc st (zv ops i) && XL t.r (zv ops i)) ops.length=false):=fun b h1 h2=>yd ag (h1.trans h2);have G:Hid ((xL pc st (zv ops k) && XL t.r (zv ops k))=true->zF (fun i=>xL pc st (zv ops i) && XL t.r (zv ops i)) (k+1)=true):=fun h=>yr HA.out h;clear af;obtain⟨p,cx⟩:∃p,zv ops k=p:=⟨_,rfl⟩;rw [cx] at H I K L M N O P Q R dm di au df s G;clear cx;obtain⟨vT,eB⟩:∃b,xL pc st p=b:=⟨_,rfl⟩;obtain⟨vR,eA⟩:∃b,XL t.r p=b:=⟨_,rfl⟩;rw [eB] at au s G;rw [eA] at df s G;have dW:Hid (∃z,stK p=z):=⟨_,rfl⟩;obtain⟨zk,eC⟩:=dW.out;rw [eC] at di dm;clear eB eA eC dW;obtain⟨sl,sg,o,d,a,b,ar,sp,pl,nn⟩:=p;obtain⟨z0,z1,z2,z3,z4,z5,z6,z7,z8⟩:=zk;(try simp only at H I K L M N O P Q R);have dj:Hid (∀W,Calls prog 164 #[.agg #[J sl,J sg,J o,J d,J a,J b,J ar,J sp,J pl,J nn]] W (Rt W (.agg #[J z0,J z1,J z2,J z3,J z4,J z5,J z6,J z7,J z8]))):=di.out;have b0:=Qa T.out.1;have b1:=Qa T.out.2;have X:wr.cell? (E w.heap.size 0)=Y t.u0:=by rw [b0];rfl
  have t1:wr.cell? (E w.heap.size 1)=Y t.u1:=by rw [b0];rfl
  have t2:wr.cell? (E w.heap.size 2)=Y t.u2:=by rw [b0];rfl
  have t3:wr.cell? (E w.heap.size 3)=Y t.w0:=by rw [b0];rfl
  have t4:wr.cell? (E w.heap.size 4)=Y t.w1:=by rw [b0];rfl
  have t5:wr.cell? (E w.heap.size 5)=Y t.w2:=by rw [b0];rfl
  have t6:wr.cell? (E w.heap.size 6)=Y t.r:=by rw [b0];rfl
  have k0:wr.cell? (E (w.heap.size+1) 0)=Y pc:=by rw [b1];rfl
  have k1:wr.cell? (E (w.heap.size+1) 1)=Y st:=by rw [b1];rfl
  have C:wr.cell? (E (w.heap.size+1) 2)=some (.slice (some (E ob oo)) ops.length kc):=by rw [b1];rfl
  have eD:w.heap.size+1<wr.heap.size:=by omega
  have bD:w.heap.size<wr.heap.size:=by omega
  clear b0 b1;go_wp2_with fail;refine (au.out _).mono ?_;rintro e D ⟨rfl,c⟩;have y:=ze c;have j:=Z ((Qd wr (.cells #[J sl,J sg,J o,J d,J a,J b,J ar,J sp,J pl,J nn] 79)).trans (c.mono (by simp)));have fO:=zbl (show D.heap[wr.heap.size]?=some (.cells #[J sl,J sg,J o,J d,J a,J b,J ar,J sp,J pl,J nn] 79 (0,0)) by rw [c.block _ (by simp)];exact yB _ _ _);have cA:wr.heap.size<D.heap.size:=by have:=c.size;simp at this;omega
  have A:=ze j.out;rw [<-A _ _ bD] at X t1 t2 t3 t4 t5 t6;clear c y A H I K L M N O P Q R k0 k1 C;cases vT with
  | false =>have HF:=Z (s.out _ rfl rfl);go_wp2_with fail;go_ret;refine⟨zi ?_,f.out.trans (j.out.mono f.out.size)⟩;rw [HF.out];rfl
  | true =>
   obtain⟨x20,x21,x22,x23,x24,x25,x26,x27,x28,x29⟩:=fO;go_wp2_with fail;refine (df.out _).mono ?_;rintro e x3 ⟨rfl,l⟩;have q:=Z (j.out.trans (l.mono j.out.size));have A:=ze l;rw [<-A _ _ cA] at x20 x21 x22 x23 x24 x25 x26 x27 x28 x29;have gd:wr.heap.size<x3.heap.size:=(by have:=l.size;omega);clear l A X t1 t2 t3 t4 t5 t6;cases vR with
   | false =>have HF:=Z (s.out _ rfl rfl);go_wp2_with fail;go_ret;refine⟨zi ?_,f.out.trans (q.out.mono f.out.size)⟩;rw [HF.out];rfl
   | true =>
    have HY:=Z (G.out rfl);go_wp2_with fail;refine (dj.out _).mono ?_;rintro e x4 ⟨rfl,ee⟩;have S:=Z (q.out.trans (ee.mono q.out.size));have eP:=Z (zp F.out (S.out.alloc S.out.size (nB z0 z1 z2 z3 z4 z5 z6 z7 z8)));have gh:g.heap.size<=x4.heap.size:=(by have:=S.out.size;omega);clear ee;go_wp2_with (at_builtin;refine QQ _ rfl (.tmp 47) (.tmp 50) 60 rfl g.heap.size 144 i0 (.agg #[J 0,J 0,J 0,J 0,J 0,J 0,J 0,J 0,J 0]) 9 72 underlying60 hi ay az aA rfl (by decide) _ _ _ rfl eP.out (E x4.heap.size 0) 1 1 (zG ⟨z0,z1,z2,z3,z4,z5,z6,z7,z8⟩).toList rfl rfl (by exact ygm x4 ⟨z0,z1,z2,z3,z4,z5,z6,z7,z8⟩ rfl) (by intro u hu;exact ycj hu) (by unfold maxLen;omega) (by omega) (by simp;omega) ?_;intro v1 w5 gM gL m;obtain⟨ba2,bc2,rfl,-,-⟩:=zD gM;have eQ:=Z gM;have bF:=Z gL;clear gM gL m);go_roundw
    case rel =>
     refine⟨k+1,by omega,by go_num,HY.out,?_,ba2,bc2,rfl,?_⟩
     ·exact ((eF.out.trans (S.out.mono aO)).alloc (by omega) _).grown bF.out (by simp;omega) (zE F.out)
     rw [dm.out,<-zrq];exact eQ.out
    simp [intOf];omega
 have e:k=ops.length:=by omega
 subst e;rw [Wd] at F;have bz:¬(ops.length:Int)<(ops.length:Int):=by omega
 have eL:Hid (zI wr (.agg #[.slice U logs.length V,.slice B ops.length bc,.slice none 0 0]) ⟨logs,Zx ops,[]⟩):=by refine⟨_,_,_,rfl,cX.out.gE f.out,?_,none,0,rfl,Qc _,Ql _,fun i hi=>absurd hi (Qv _),fun hp=>absurd hp (Qv _)⟩;have h:=F.out;rw [<-zaf ops] at h ⊢;exact zz6 h
 have dh:Hid (∀x∈ops,0<=x.sl/\x.sl<=1000):=fun x hx=>by
  obtain⟨i,hi,rfl⟩:=Wl.1 hx;have h:=zq HA.out i hi;have e:zv ops i=ops[i]:=by unfold zv;simp_all
  rw [e] at h;simp only [Qg] at h;have h1:=h.1;unfold xL at h1;simp only [Qg] at h1;have h2:=zH.1 h1.1.1;omega
 have b0:=Qa T.out.1;have b1:=Qa T.out.2;have X:wr.cell? (E w.heap.size 0)=Y t.u0:=by rw [b0];rfl
 have t1:wr.cell? (E w.heap.size 1)=Y t.u1:=by rw [b0];rfl
 have t2:wr.cell? (E w.heap.size 2)=Y t.u2:=by rw [b0];rfl
 have t3:wr.cell? (E w.heap.size 3)=Y t.w0:=by rw [b0];rfl
 have t4:wr.cell? (E w.heap.size 4)=Y t.w1:=by rw [b0];rfl
 have t5:wr.cell? (E w.heap.size 5)=Y t.w2:=by rw [b0];rfl
 have t6:wr.cell? (E w.heap.size 6)=Y t.r:=by rw [b0];rfl
 have k0:wr.cell? (E (w.heap.size+1) 0)=Y pc:=by rw [b1];rfl
 have k1:wr.cell? (E (w.heap.size+1) 1)=Y st:=by rw [b1];rfl
 have C:wr.cell? (E (w.heap.size+1) 2)=some (.slice ka ops.length kc):=by rw [b1];rfl
 have eD:w.heap.size+1<wr.heap.size:=by omega
 have bD:w.heap.size<wr.heap.size:=by omega
 obtain⟨vM,dK⟩:∃b,zQ ⟨logs,Zx ops,[]⟩=b:=⟨_,rfl⟩;obtain⟨vU,dL⟩:∃b,za5 t ops=b:=⟨_,rfl⟩;have dQ:Hid (Calls prog 43 #[.agg #[.slice U logs.length V,.slice B ops.length bc,.slice none 0 0]] wr (Rt wr (.bool vM))):=by show Calls _ _ _ _ _;rw [<-dK];exact Yo _ _ wr eL.out
 have fc:Hid (∀x,Bw wr x->Calls prog 165 #[(tV t),.agg #[J pc,J st,.slice ka ops.length kc]] x (Rt x (.bool vU))):=fun x hx=>by rw [<-dL];exact zzl t pc st ops ka kc x (bG.out.gE (f.out.trans (hx.mono f.out.size))) aI dh.out
 have bM:Hid ((zF (fun i=>xL pc st (zv ops i) && XL t.r (zv ops i)) ops.length && zQ ⟨logs,Zx ops,[]⟩ && za5 t ops)=(vM && vU)):=by show _=_;rw [HA.out,dK,dL];rfl
 clear b0 b1 dK dL;cases vM with
 | false =>go_wp2_with fail;refine dQ.out.mono ?_;rintro e D ⟨rfl,c⟩;have j:=Z (f.out.trans (c.mono f.out.size));clear c;go_wp2_with fail;go_ret;exact⟨zi (by rw [bM.out];rfl),j.out⟩
 | true =>go_wp2_with fail;refine dQ.out.mono ?_;rintro e D ⟨rfl,c⟩;have j:=Z (f.out.trans (c.mono f.out.size));have eZ:=Z (fc.out D c);have y:=ze c;rw [<-y _ _ bD] at X t1 t2 t3 t4 t5 t6;rw [<-y _ _ eD] at k0 k1 C;clear c y;go_wp2_with fail;refine eZ.out.mono ?_;rintro e x3 ⟨rfl,l⟩;have q:=Z (j.out.tm l);clear l;go_wp2;go_ret;exact⟨zi (by rw [bM.out];rfl),q.out⟩
theorem zdm (t:Tg) (kv:Value) (K:Kn) (f:Option Addr) (g:Nat) (logs:List Int) (w:World) (o:yQ w kv K) (j:zM w (.slice f logs.length g) logs) :
  Calls prog 104 #[.agg t.cells,kv,.slice f logs.length g] w (Rt w (.bool (X7 t K logs))):=by
 obtain⟨a,p1,p2,b,c,d,r⟩:=t;obtain⟨pc,st,ops⟩:=K;obtain⟨p,rfl,n⟩:=o;have h:=n;obtain⟨ka,kc,rfl,-⟩:=n;rw [<-zxc];by_cases k:ops.length<=16
 ·cases l:zS ⟨a,p1,p2,b,c,d,r⟩ with
  | false =>have e:zf1 ⟨a,p1,p2,b,c,d,r⟩ ⟨pc,st,ops⟩ logs=false:=(by grind [zf1]);rw [e];exact zod ⟨a,p1,p2,b,c,d,r⟩ pc st ops ka kc f g logs w h j k l
  | true =>
   cases m:inR pc 1 200 with
   | false =>have e:zf1 ⟨a,p1,p2,b,c,d,r⟩ ⟨pc,st,ops⟩ logs=false:=(by grind [zf1]);rw [e];exact zjt ⟨a,p1,p2,b,c,d,r⟩ pc st ops ka kc f g logs w h j k l (.inl m)
   | true =>
    cases hs:inR st 1 1001 with
    | false =>have e:zf1 ⟨a,p1,p2,b,c,d,r⟩ ⟨pc,st,ops⟩ logs=false:=(by grind [zf1]);rw [e];exact zjt ⟨a,p1,p2,b,c,d,r⟩ pc st ops ka kc f g logs w h j k l (.inr ⟨m,hs⟩)
    | true =>have e:zf1 ⟨a,p1,p2,b,c,d,r⟩ ⟨pc,st,ops⟩ logs=(zF (fun i=>xL pc st (zv ops i) && XL r (zv ops i)) ops.length && zQ ⟨logs,Zx ops,[]⟩ && za5 ⟨a,p1,p2,b,c,d,r⟩ ops):=(by grind [zf1]);rw [e];exact zwz ⟨a,p1,p2,b,c,d,r⟩ pc st ops ka kc f g logs w h j k l m hs
 have e:zf1 ⟨a,p1,p2,b,c,d,r⟩ ⟨pc,st,ops⟩ logs=false:=by grind [zf1]
 rw [e];exact zwy ⟨a,p1,p2,b,c,d,r⟩ pc st ops ka kc f g logs w h j (by omega)
section
set_option maxRecDepth 100000
def XR:Lib.len8tab.size=256:=by kernel_rfl
def zry (n:Int) (w:World) (h0:0<=n) (hn:n<=18446744073709551615):Calls prog 140 #[.int .u64 n] w fun e w'=>∃r,e=.returned (J r)/\w'=w:=by
 have a:=XR;go_enter func140,ntmps140;go_wp2
 all_goals first
  | (go_ret;exact⟨_,rfl,rfl⟩)
  | (exfalso;omega)
def yc0 (n:Nat) (w:World) (hn:n<=9223372036854775807):Calls prog 87 #[.int .u64 n] w fun e w'=>∃r,e=.returned (J r)/\w'=w:=by have H:=Z (zry n w (by omega) (by omega));go_enter func87,ntmps87;go_wp2_with fail;refine H.out.mono ?_;rintro e w' ⟨r,rfl,rfl⟩;go_wp2;go_ret;exact⟨_,rfl,rfl⟩
def yga (w:World):Calls prog 140 #[.int .u64 1] w fun e w'=>e=.returned (J 1)/\w'=w:=by
 have a:=XR;have b:Lib.len8 1=1:=by rw [Lib.len8_of _ (by omega) (by omega)];decide
 go_enter func140,ntmps140;go_wp2;go_ret;exact⟨rfl,rfl⟩
def ykd (w:World):Calls prog 87 #[.int .u64 1] w fun e w'=>e=.returned (J 1)/\w'=w:=by have H:=Z (yga w);go_enter func87,ntmps87;go_wp2_with fail;refine H.out.mono ?_;rintro e w' ⟨rfl,rfl⟩;go_wp2;go_ret;exact⟨rfl,rfl⟩
def ygb (w:World):Calls prog 140 #[.int .u64 2] w fun e w'=>e=.returned (J 2)/\w'=w:=by
 have a:=XR;have b:Lib.len8 2=2:=by rw [Lib.len8_of _ (by omega) (by omega)];decide
 go_enter func140,ntmps140;go_wp2;go_ret;exact⟨rfl,rfl⟩
def yke (w:World):Calls prog 87 #[.int .u64 2] w fun e w'=>e=.returned (J 2)/\w'=w:=by have H:=Z (ygb w);go_enter func87,ntmps87;go_wp2_with fail;refine H.out.mono ?_;rintro e w' ⟨rfl,rfl⟩;go_wp2;go_ret;exact⟨rfl,rfl⟩
def ygc (w:World):Calls prog 140 #[.int .u64 4] w fun e w'=>e=.returned (J 3)/\w'=w:=by
 have a:=XR;have b:Lib.len8 4=3:=by rw [Lib.len8_of _ (by omega) (by omega)];decide
 go_enter func140,ntmps140;go_wp2;go_ret;exact⟨rfl,rfl⟩
def ykf (w:World):Calls prog 87 #[.int .u64 4] w fun e w'=>e=.returned (J 3)/\w'=w:=by have H:=Z (ygc w);go_enter func87,ntmps87;go_wp2_with fail;refine H.out.mono ?_;rintro e w' ⟨rfl,rfl⟩;go_wp2;go_ret;exact⟨rfl,rfl⟩
def ygd (w:World):Calls prog 140 #[.int .u64 8] w fun e w'=>e=.returned (J 4)/\w'=w:=by
 have a:=XR;have b:Lib.len8 8=4:=by rw [Lib.len8_of _ (by omega) (by omega)];decide
 go_enter func140,ntmps140;go_wp2;go_ret;exact⟨rfl,rfl⟩
def ykg (w:World):Calls prog 87 #[.int .u64 8] w fun e w'=>e=.returned (J 4)/\w'=w:=by have H:=Z (ygd w);go_enter func87,ntmps87;go_wp2_with fail;refine H.out.mono ?_;rintro e w' ⟨rfl,rfl⟩;go_wp2;go_ret;exact⟨rfl,rfl⟩
def yby (w:World):Calls prog 140 #[.int .u64 16] w fun e w'=>e=.returned (J 5)/\w'=w:=by
 have a:=XR;have b:Lib.len8 16=5:=by rw [Lib.len8_of _ (by omega) (by omega)];decide
 go_enter func140,ntmps140;go_wp2;go_ret;exact⟨rfl,rfl⟩
def yj4 (w:World):Calls prog 87 #[.int .u64 16] w fun e w'=>e=.returned (J 5)/\w'=w:=by have H:=Z (yby w);go_enter func87,ntmps87;go_wp2_with fail;refine H.out.mono ?_;rintro e w' ⟨rfl,rfl⟩;go_wp2;go_ret;exact⟨rfl,rfl⟩
def ybz (w:World):Calls prog 140 #[.int .u64 32] w fun e w'=>e=.returned (J 6)/\w'=w:=by
 have a:=XR;have b:Lib.len8 32=6:=by rw [Lib.len8_of _ (by omega) (by omega)];decide
 go_enter func140,ntmps140;go_wp2;go_ret;exact⟨rfl,rfl⟩
def yj5 (w:World):Calls prog 87 #[.int .u64 32] w fun e w'=>e=.returned (J 6)/\w'=w:=by have H:=Z (ybz w);go_enter func87,ntmps87;go_wp2_with fail;refine H.out.mono ?_;rintro e w' ⟨rfl,rfl⟩;go_wp2;go_ret;exact⟨rfl,rfl⟩
def zoh (n:Nat):(n=1/\Z8 n=0)\/(n=2/\Z8 n=1)\/(n=4/\Z8 n=2)\/(n=8/\Z8 n=3)\/(n=16/\Z8 n=4)\/(n=32/\Z8 n=5)\/(Z8 n=6/\n≠1/\n≠2/\n≠4/\n≠8/\n≠16/\n≠32):=by
 by_cases h1:n=1
 ·subst h1;exact .inl ⟨rfl,rfl⟩
 by_cases a:n=2
 ·subst a;exact .inr (.inl ⟨rfl,rfl⟩)
 by_cases b:n=4
 ·subst b;exact .inr (.inr (.inl ⟨rfl,rfl⟩))
 grind [Z8]
def zea (w:World) (M:List (List Int)) (e:Ending) (w':World):Prop :=
 ∃lv,e=.returned (.tuple #[lv,.bool (Zz M && decide (M.length<=3))])/\(Zz M=true->M.length<=3->w'.ownsRow w.heap.size 3 1 lv (zK M).length ((zK M).map (Value.int .i64)))/\(∃la ll lc,lv=.slice la ll lc)/\Bw w w'
def zea.no {M:List (List Int)} (h:Zz M=false\/¬M.length<=3) (hb:Bw w w'):zea w M (.returned (.tuple #[.slice none 0 0,.bool false])) w':=by grind [zea]
def zkj (v:Value) (M:List (List Int)) (w:World) (h:yu w v M) :
  Calls prog 103 #[v] w fun e w'=>zea w M e w':=by
 obtain⟨ma,mcap,rfl,ml,mm,X⟩:=h;unfold maxLen at mm;obtain⟨H,hi,F,G,D⟩:=info_parts Tryz.i3;have cZ:=Z X;clear X;by_cases W:M.length<=3
 ·have fi:¬(3:Int)<(M.length:Int):=by omega
  have HD:Hid (decide (M.length<=3)=true):=Qi W;go_enter func103,ntmps103;go_wp2;go_loopw [4,14] (fun l i wr=>∃k:Nat,k<=M.length/\i=.int .i64 k/\zF (fun i=>zgm (zB M i)) k=true/\Bw w wr/\∃N O,l=.slice N k O/\wr.ownsRow w.heap.size 3 1 (.slice N k O) k (((zK M).take k).map (Value.int .i64))) (fun _ i _=>M.length - (intOf i).toNat)
  case atStart=>exact⟨0,Ql _,rfl,rfl,Qd _ _,_,0,rfl,VL w 3⟩
  obtain⟨k,hk,rfl,hall,L,N,O,rfl,V⟩:=hrel;have y:=Z hall;have s:=Z L;have p:=Z V;have aO:=L.size;clear hall V;by_cases A:k<M.length
  ·have bz:(k:Int)<(M.length:Int):=(by omega);obtain⟨b,off,rfl,hb,U⟩:=cZ.out (by omega);obtain⟨u,g,⟨ra,rc,rfl,rl,rm,rr,C⟩⟩:=U k A;rw [<-ze L _ _ hb] at g;have fU:b<wr.heap.size:=(by omega);unfold maxLen at rm;clear rr C U L;have x:=Z (zx7 M k A);have eJ:Hid (∀b,zgm (zB M k)=b->decide (Z8 (zB M k).length<6)=b):=fun b h=>h;have R:Hid (Z8 (zB M k).length=6->Zz M=false):=fun h=>yd A (by show decide (Z8 _<6)=false;rw [h];rfl);have t:Hid (Z8 (zB M k).length<6->zgm (zB M k)=true):=fun h=>Qi h;obtain⟨n,hn⟩:=nm ((zB M k).length);rw [hn] at g x R t rl;clear hn eJ;rename World=>wo;rcases zoh n with ⟨rfl,f⟩ | ⟨rfl,f⟩ | ⟨rfl,f⟩ | ⟨rfl,f⟩ | ⟨rfl,f⟩ | ⟨rfl,f⟩ | ⟨f,n1,n2,n4,n8,S,T⟩
   ·have z:inR 0 0 5=true:=rfl;have j:=Z f;clear f
    go_wp2_with (first
     | (go_at_call 87;refine (ykd _).mono ?_;rintro e w' ⟨rfl,a⟩;have a:=a.symm;subst a)
     | (go_at_call 105;refine (zN _ _ _ _).mono ?_;rintro e w' ⟨rfl,a⟩;have a:=a.symm;subst a)
     | (at_builtin;refine QQ _ rfl (.tmp 33) (.tmp 35) 34 rfl w.heap.size 3 H (.int .i64 0) 1 8 underlying34 hi F G D rfl (by decide) _ _ _ rfl (zp p.out (Qd _ _)) (E wo.heap.size 0) 1 1 [.int .i64 0] rfl rfl (by exact xH _ _ _) (by intro u g;simp at g;subst g;rfl) (by unfold maxLen;omega) (by omega) (by simp;omega) ?_;intro P w1 d m c;obtain⟨I,K,rfl,-,-,-,-⟩:=yC d (.inr (by omega));have o:=Z d;have q:=Z m;clear d m c))
    go_roundw
    case rel =>
     refine⟨k+1,by omega,by go_num,yr y.out (t.out (by rw [j.out];omega)),?_,_,_,rfl,?_⟩
     ·exact (s.out.alloc (by omega) _).grown q.out (by simp;omega) (zR p.out)
     rw [<-x.out,j.out];exact o.out
    simp [intOf];omega
   ·have z:inR 1 0 5=true:=rfl;have j:=Z f;clear f
    go_wp2_with (first
     | (go_at_call 87;refine (yke _).mono ?_;rintro e w' ⟨rfl,a⟩;have a:=a.symm;subst a)
     | (go_at_call 105;refine (zN _ _ _ _).mono ?_;rintro e w' ⟨rfl,a⟩;have a:=a.symm;subst a)
     | (at_builtin;refine QQ _ rfl (.tmp 33) (.tmp 35) 34 rfl w.heap.size 3 H (.int .i64 0) 1 8 underlying34 hi F G D rfl (by decide) _ _ _ rfl (zp p.out (Qd _ _)) (E wo.heap.size 0) 1 1 [.int .i64 1] rfl rfl (by exact xH _ _ _) (by intro u g;simp at g;subst g;rfl) (by unfold maxLen;omega) (by omega) (by simp;omega) ?_;intro P w1 d m c;obtain⟨I,K,rfl,-,-,-,-⟩:=yC d (.inr (by omega));have o:=Z d;have q:=Z m;clear d m c))
    go_roundw
    case rel =>
     refine⟨k+1,by omega,by go_num,yr y.out (t.out (by rw [j.out];omega)),?_,_,_,rfl,?_⟩
     ·exact (s.out.alloc (by omega) _).grown q.out (by simp;omega) (zR p.out)
     rw [<-x.out,j.out];exact o.out
    simp [intOf];omega
   ·have z:inR 2 0 5=true:=rfl;have j:=Z f;clear f
    go_wp2_with (first
     | (go_at_call 87;refine (ykf _).mono ?_;rintro e w' ⟨rfl,a⟩;have a:=a.symm;subst a)
     | (go_at_call 105;refine (zN _ _ _ _).mono ?_;rintro e w' ⟨rfl,a⟩;have a:=a.symm;subst a)
     | (at_builtin;refine QQ _ rfl (.tmp 33) (.tmp 35) 34 rfl w.heap.size 3 H (.int .i64 0) 1 8 underlying34 hi F G D rfl (by decide) _ _ _ rfl (zp p.out (Qd _ _)) (E wo.heap.size 0) 1 1 [.int .i64 2] rfl rfl (by exact xH _ _ _) (by intro u g;simp at g;subst g;rfl) (by unfold maxLen;omega) (by omega) (by simp;omega) ?_;intro P w1 d m c;obtain⟨I,K,rfl,-,-,-,-⟩:=yC d (.inr (by omega));have o:=Z d;have q:=Z m;clear d m c))
    go_roundw
    case rel =>
     refine⟨k+1,by omega,by go_num,yr y.out (t.out (by rw [j.out];omega)),?_,_,_,rfl,?_⟩
     ·exact (s.out.alloc (by omega) _).grown q.out (by simp;omega) (zR p.out)
     rw [<-x.out,j.out];exact o.out
    simp [intOf];omega
   ·have z:inR 3 0 5=true:=rfl;have j:=Z f;clear f
    go_wp2_with (first
     | (go_at_call 87;refine (ykg _).mono ?_;rintro e w' ⟨rfl,a⟩;have a:=a.symm;subst a)
     | (go_at_call 105;refine (zN _ _ _ _).mono ?_;rintro e w' ⟨rfl,a⟩;have a:=a.symm;subst a)
     | (at_builtin;refine QQ _ rfl (.tmp 33) (.tmp 35) 34 rfl w.heap.size 3 H (.int .i64 0) 1 8 underlying34 hi F G D rfl (by decide) _ _ _ rfl (zp p.out (Qd _ _)) (E wo.heap.size 0) 1 1 [.int .i64 3] rfl rfl (by exact xH _ _ _) (by intro u g;simp at g;subst g;rfl) (by unfold maxLen;omega) (by omega) (by simp;omega) ?_;intro P w1 d m c;obtain⟨I,K,rfl,-,-,-,-⟩:=yC d (.inr (by omega));have o:=Z d;have q:=Z m;clear d m c))
    go_roundw
    case rel =>
     refine⟨k+1,by omega,by go_num,yr y.out (t.out (by rw [j.out];omega)),?_,_,_,rfl,?_⟩
     ·exact (s.out.alloc (by omega) _).grown q.out (by simp;omega) (zR p.out)
     rw [<-x.out,j.out];exact o.out
    simp [intOf];omega
   ·have z:inR 4 0 5=true:=rfl;have j:=Z f;clear f
    go_wp2_with (first
     | (go_at_call 87;refine (yj4 _).mono ?_;rintro e w' ⟨rfl,a⟩;have a:=a.symm;subst a)
     | (go_at_call 105;refine (zN _ _ _ _).mono ?_;rintro e w' ⟨rfl,a⟩;have a:=a.symm;subst a)
     | (at_builtin;refine QQ _ rfl (.tmp 33) (.tmp 35) 34 rfl w.heap.size 3 H (.int .i64 0) 1 8 underlying34 hi F G D rfl (by decide) _ _ _ rfl (zp p.out (Qd _ _)) (E wo.heap.size 0) 1 1 [.int .i64 4] rfl rfl (by exact xH _ _ _) (by intro u g;simp at g;subst g;rfl) (by unfold maxLen;omega) (by omega) (by simp;omega) ?_;intro P w1 d m c;obtain⟨I,K,rfl,-,-,-,-⟩:=yC d (.inr (by omega));have o:=Z d;have q:=Z m;clear d m c))
    go_roundw
    case rel =>
     refine⟨k+1,by omega,by go_num,yr y.out (t.out (by rw [j.out];omega)),?_,_,_,rfl,?_⟩
     ·exact (s.out.alloc (by omega) _).grown q.out (by simp;omega) (zR p.out)
     rw [<-x.out,j.out];exact o.out
    simp [intOf];omega
   ·have z:inR 5 0 5=true:=rfl;have j:=Z f;clear f
    go_wp2_with (first
     | (go_at_call 87;refine (yj5 _).mono ?_;rintro e w' ⟨rfl,a⟩;have a:=a.symm;subst a)
     | (go_at_call 105;refine (zN _ _ _ _).mono ?_;rintro e w' ⟨rfl,a⟩;have a:=a.symm;subst a)
     | (at_builtin;refine QQ _ rfl (.tmp 33) (.tmp 35) 34 rfl w.heap.size 3 H (.int .i64 0) 1 8 underlying34 hi F G D rfl (by decide) _ _ _ rfl (zp p.out (Qd _ _)) (E wo.heap.size 0) 1 1 [.int .i64 5] rfl rfl (by exact xH _ _ _) (by intro u g;simp at g;subst g;rfl) (by unfold maxLen;omega) (by omega) (by simp;omega) ?_;intro P w1 d m c;obtain⟨I,K,rfl,-,-,-,-⟩:=yC d (.inr (by omega));have o:=Z d;have q:=Z m;clear d m c))
    go_roundw
    case rel =>
     refine⟨k+1,by omega,by go_num,yr y.out (t.out (by rw [j.out];omega)),?_,_,_,rfl,?_⟩
     ·exact (s.out.alloc (by omega) _).grown q.out (by simp;omega) (zR p.out)
     rw [<-x.out,j.out];exact o.out
    simp [intOf];omega
   have Q:Hid (Zz M=false):=R.out f;have b1:((n:Int) == 1)=false:=QM.2 (by omega);have b2:((n:Int) == 2)=false:=QM.2 (by omega);have b4:((n:Int) == 4)=false:=QM.2 (by omega);have b8:((n:Int) == 8)=false:=QM.2 (by omega);have b16:((n:Int) == 16)=false:=QM.2 (by omega);have b32:((n:Int) == 32)=false:=QM.2 (by omega);clear f n1 n2 n4 n8 S T x t R;go_wp2_with fail;refine (yc0 n _ (by omega)).mono ?_;rintro e w' ⟨r,rfl,rfl⟩;obtain⟨B,bC⟩:=nm (wrap64 (r - 1));cases z:inR B 0 5 with
   | false =>go_wp2_with (go_at_call 105;refine (zN _ _ _ _).mono ?_;rintro e w' ⟨rfl,rfl⟩);exact bodyPost_ret (v:=.tuple #[.slice none 0 0,.bool false]) (by simp [results,results103,go_sem]) rfl (zea.no (.inl Q.out) s.out)
   | true =>
    have fC:=zH.1 z;obtain rfl | rfl | rfl | rfl | rfl | rfl:B=0\/B=1\/B=2\/B=3\/B=4\/B=5:=by omega
    all_goals
     clear fC
     go_wp2_with (go_at_call 105;refine (zN _ _ _ _).mono ?_;rintro e w' ⟨rfl,rfl⟩)
     exact bodyPost_ret (v:=.tuple #[.slice none 0 0,.bool false]) (by simp [results,results103,go_sem]) rfl (zea.no (.inl Q.out) s.out)
  have e:k=M.length:=by omega
  subst e;have bz:¬(M.length:Int)<(M.length:Int):=by omega
  have Q:Hid (Zz M=true):=y.out;have o:Hid (wr.ownsRow w.heap.size 3 1 (.slice N M.length O) (zK M).length ((zK M).map (Value.int .i64))):=by grind [zK]
  clear L;go_wp2;exact bodyPost_ret (v:=.tuple #[.slice N M.length O,.bool true]) (by simp [results,results103,go_sem]) rfl ⟨_,by rw [Q.out,HD.out];rfl,fun _ _=>o.out,⟨_,_,_,rfl⟩,s.out⟩
 have fi:(3:Int)<(M.length:Int):=by omega
 have eN:=Z W;go_enter func103,ntmps103;go_wp2;exact bodyPost_ret (v:=.tuple #[.slice none 0 0,.bool false]) (by simp [results,results103,go_sem]) rfl (zea.no (.inr eN.out) (QA _ _))
end
section
def zj7 (v:Value) (zs:List Int) (w:World) (h:zM w v zs) (h0:0<zs.length) (K:zs.length<=128) :
  Calls prog 106 #[v] w fun e w'=>∃g cap,e=.returned (.slice (pA g) zs.length cap)/\w.heap.size<=g/\cap<=maxLen /\
   Zh w' g 2 cap zs.length (fun j=>J (nth zs j))/\Bw w w':=by
 obtain⟨a,rc,rfl,L,hm,hr,m⟩:=h
 unfold maxLen at hm
 obtain⟨b2,o,rfl,t,f⟩:=m h0
 obtain⟨I,hi,x,y,s⟩:=info_parts Tryz.i2
 have M:∀(w:World) (a:Option Addr) (n c d c':Nat),(binOp .eql 56 (.slice a n c) (.slice none d c')).run prog w=.ok (.bool a.isNone) w:=fun w a n c d c'=>Lib.run_eql_slice_nil w _ _ a n c d c' underlying56
 have A:Bw w (w.alloc (.cells #[] 2)):=Qd _ _
 have p:Hid ((zs.map (Value.int .i64)).length=zs.length*1):=by show _=_;simp
 have q:Hid (∀j u,(zs.map (Value.int .i64))[j]?=some u->(w.alloc (.cells #[] 2)).cell? (((E b2 o):Addr).add j)=some u):=zks (fun i hi=>by
  rw [ze A _ _ t];exact f i hi)
 have r:=Z (zo9 zs)
 clear m f hr
 go_enter func106,ntmps106
 go_wp2_with (at_builtin;refine QQ _ rfl (.tmp 5) (.tmp 6) 56 rfl w.heap.size 2 I (J 0) 1 8 underlying56 hi x y s rfl (by decide) _ _ _ rfl (VL w 2) (E b2 o) _ rc _ rfl p.out q.out r.out (by unfold maxLen;omega) (by omega) (by simp) ?_;intro N w1 l D b;obtain⟨B,C,rfl,-,-,-,-⟩:=yC l (.inr (by omega));have z:=zeb D;have k:=Z l)
 go_ret
 simp only [QO] at k ⊢
 obtain⟨h1,F,G⟩:=yd4 k.out
 refine⟨B,C,rfl,h1,F,G.congr fun j H=>?_,z⟩
 rw [W8]
 exact VE zs j H
def zb0 (M:List (List Int)) (i:Nat):Nat:=(zB M i).length
structure Vi (w0:World) (A gr cr:Nat) (R:List Int) (t:Tg) (pc st:Int) (kv lv:Value) (logs:List Int) (gD:Int) (M:List (List Int)) (k:Nat) (mv:Value) (G C:Nat->Nat) (wr:World):Prop where
 bel:Bw w0 wr
 hA:wr.heap[A]?=some (.cells #[J t.u0,J t.u1,J t.u2,J t.w0,J t.w1,J t.w2,J t.r,J pc,J st,kv,lv,.slice (pA gr) R.length cr,mv,J gD,.slice none 0 0,.slice none 0 0,.slice none 0 0,.slice none 0 0,.slice none 0 0,.slice none 0 0] 183 (0,0))
 hAb:w0.heap.size<=A
 regs:zr wr gr 2 R.length (fun i=>J (nth R i))
 hr:w0.heap.size<=gr/\R.length<=cr/\cr<=maxLen
 out:wr.ownsRow w0.heap.size 56 1 mv k ((List.range k).map (YU G C (zb0 M)))
 inn:Xc wr w0.heap.size G C k (zb0 M) (fun i j=>nth (zB M i) j)
 rM:∀i,i<k->gr≠G i
 lgs:wr.ownsRow w0.heap.size 3 1 lv logs.length (logs.map (Value.int .i64))
variable {w0:World} {A gr cr:Nat} {R:List Int} {t:Tg} {pc st:Int} {kv lv:Value} {logs:List Int} {gD:Int} {M:List (List Int)} {k:Nat} {mv:Value} {G C:Nat->Nat} {wr:World}
def Vi.A_lt (h:Vi w0 A gr cr R t pc st kv lv logs gD M k mv G C wr):A<wr.heap.size:=(lo h.hA)
def Vi.gE (h:Vi w0 A gr cr R t pc st kv lv logs gD M k mv G C wr) (hb:Bw wr x):Vi w0 A gr cr R t pc st kv lv logs gD M k mv G C x where
 bel:=h.bel.tm hb
 hA:=by rw [hb.block _ h.A_lt];exact h.hA
 hAb:=h.hAb
 regs:=h.regs.gE hb h.regs.lt
 hr:=h.hr
 out:=yJ h.out fun g a=>hb.block g (zA h.out g a)
 inn:=h.inn.gE hb
 rM:=h.rM
 lgs:=yJ h.lgs fun g a=>hb.block g (zA h.lgs g a)
theorem Vi.cell (h:Vi w0 A gr cr R t pc st kv lv logs gD M k mv G C wr):wr.cell? (E A 12)=some mv:=cb h.hA
def Vi.ends (h:Vi w0 A gr cr R t pc st kv lv logs gD M k mv G C wr):wr.cell? (E A 11)=some (.slice (pA gr) R.length cr)/\wr.cell? (E A 12)=some mv:=⟨cb h.hA,h.cell⟩
def Vi.grown (h:Vi w0 A gr cr R t pc st kv lv logs gD M k mv G C wr) (c:wr.grownBy w6 mv.ownBlock):w6.cell? (E A 12)=some mv/\w6.frozen? (E A 12)=false:=by have b:=zd0 h.out c h.hA (by decide);exact⟨by rw [World.cell?_of_block (a:=(E A 12)) b];exact h.cell,by simp [World.frozen?,b,h.hA]⟩
def Vi.step {g cap x y B0:Nat} (h:Vi w0 A gr cr R t pc st kv lv logs gD M k mv G C wr) (l:Zh wr g 2 cap (zb0 M k) (fun j=>J (nth (zB M k) j))) (F:w0.heap.size<=g) (D:cap<=maxLen) (N:gr≠g) (K:∀i,i<k->G i≠g)
  (B:w6.ownsRow w0.heap.size 56 1 (.slice (pA x) (k+1) y) (k+1) (((List.range k).map (YU G C (zb0 M)))++[.slice (pA g) (zb0 M k) cap])) (m:wr.grownBy w6 mv.ownBlock) :
  Vi w0 A gr cr R t pc st kv lv logs gD M (k+1) (.slice (pA x) (k+1) y) (fun i=>if i=k then g else G i) (fun i=>if i=k then cap else C i) (w6.setCell (E A 12) (.slice (pA x) (k+1) y)):=by
 have p:=zd0 h.out m h.hA (by decide);have r:∀{q:Nat} {e:TypeId} {n:Nat} {f:Nat->Value},zr wr q e n f->e≠56->w6.heap[q]?=wr.heap[q]?:=fun {q e n f} hr L=>by obtain⟨c,hb,_,_⟩:=hr;exact zd0 h.out m hb L
 have Q:A≠gr:=xN h.hA h.regs (by decide);have P:A≠g:=xN h.hA l.row (by decide);have O:∀i,i<k->A≠G i:=fun i hi=>xN h.hA (h.inn.1 i hi).2.2.2 (by decide);refine { bel:=(h.bel.grown m h.bel.size (zE h.out)).setCell (by show w0.heap.size<=A;exact h.hAb) _,hA:=?_,hAb:=h.hAb,regs:=?_,hr:=h.hr,out:=?_,inn:=?_,rM:=?_,lgs:=?_ }
 ·have hb:w6.heap[A]?=_:=p.trans h.hA;simp [World.setCell,QC,hb]
 ·exact (h.regs.gG (r h.regs (by decide))).gF (by grind) _
 ·rw [<-ze1];exact yJ B fun q a=>Qj _ _ _ _ (by
   show q≠A;intro e;subst e;obtain⟨-,z⟩:=B;rcases z with ⟨b,_⟩ | ⟨v,d,s,b,_,o,_⟩
   ·cases b
   have u:v=q:=(by rw [b] at a;simpa [Value.ownBlock] using a);subst u;exact xZ (p.trans h.hA) o (by decide) rfl)
 ·have h1:Xc w6 w0.heap.size G C k (zb0 M) (fun i j=>nth (zB M i) j):=h.inn.keep fun i hi=>r (h.inn.1 i hi).2.2.2 (by decide);have H:zr w6 g 2 (zb0 M k) (fun j=>J (nth (zB M k) j)):=l.row.gG (r l.row (by decide));have I:=h1.snoc g cap F l.le D H K;refine I.keep fun i hi=>Qj _ _ _ _ ?_;grind
 ·intro i hi;by_cases e:i=k
  ·grind
  simp only [Qe e];exact h.rM i (by omega)
 have h1:=yJ h.lgs fun q a=>m.block q (zA h.lgs q a) (zox h.lgs h.out (by decide) q a);exact yJ h1 fun q a=>Qj _ _ _ _ (by
  show q≠A;intro e;subst e;obtain⟨-,z⟩:=h1;rcases z with ⟨b,_⟩ | ⟨v,d,s,b,_,o,_⟩
  ·rw [b] at a;cases a
  have u:v=q:=by rw [b] at a;simpa [Value.ownBlock] using a
  subst u;exact xZ (p.trans h.hA) o (by decide) rfl)
def zon (w0 wr:World) (A gr cr:Nat) (R:List Int) (t:Tg) (pc st:Int) (kv lv:Value) (gD:Int) (M:List (List Int)) (mv:Value) (G:Nat->Nat):Mc:=⟨w0,wr,A,t,pc,st,kv,lv,mv,gD,R.length,gr,cr,M.length,zb0 M,G⟩
def Vi.mach (h:Vi w0 A gr cr R t pc st kv lv logs gD M M.length mv G C wr):yA (zon w0 wr A gr cr R t pc st kv lv gD M mv G) (fun _=>.slice none 0 0) [] (fun i=>nth R i) (fun i j=>nth (zB M i) j) wr where
 bel:=h.bel
 keep:=⟨Qc _,fun _ _ _ _ _=>rfl⟩
 hA:=h.hA
 hA1:=⟨h.hAb,h.A_lt⟩
 regs:=h.regs
 hr:=⟨h.hr.1,h.regs.lt,h.hr.2⟩
 min:=fun i hi=>⟨(h.inn.1 i hi).1,(h.inn.1 i hi).2.2.2.lt,(h.inn.1 i hi).2.2.2⟩
 minj:=h.inn.2
 rM:=h.rM
 due:=fun j b=>World.ownsRow_nil _ _ _ _
 dinj:=fun i j _ _ _ g a=>by cases a
 w01:=h.bel.size
def Vi.stat (h:Vi w0 A gr cr R t pc st kv lv logs gD M M.length mv G C wr) (z:∀i,i<logs.length->-9223372036854775808<=nth logs i/\nth logs i<=9223372036854775807):∃gm a,∀x,Yy (zon w0 wr A gr cr R t pc st kv lv gD M mv G) x->zfw (zon w0 wr A gr cr R t pc st kv lv gD M mv G) logs gm a C x/\(0<M.length->zr x gm 56 M.length (YU G C (zb0 M))/\w0.heap.size<=gm)/\∃k,mv=.slice k M.length a/\M.length<=a/\a<=maxLen:=by
 obtain⟨gm,a,n⟩:=MR.of_copy h.out h.inn;have l:∀(x:World),Yy (zon w0 wr A gr cr R t pc st kv lv gD M mv G) x->∀(g:Nat) (r:Array Value) (e:TypeId),wr.heap[g]?=some (.cells r e (0,0))->e≠183->e≠2->x.heap[g]?=wr.heap[g]?:=fun x m g r e hb h1 y =>
  m.2 g (lo hb) (xZ hb h.hA h1) (xN hb h.regs y) (fun i hi=>xN hb (h.inn.1 i hi).2.2.2 y)
 refine⟨gm,a,fun x m=>?_⟩;have D:x.ownsRow w0.heap.size 3 1 lv logs.length (logs.map (Value.int .i64)):=yJ h.lgs fun q j=>by
  obtain⟨-,K⟩:=h.lgs;rcases K with ⟨b,_⟩ | ⟨I,p,B,b,_,L,_⟩
  ·rw [b] at j;cases j
  have u:I=q:=by rw [b] at j;simpa [Value.ownBlock] using j
  grind
 have f:0<M.length->mv=.slice (pA gm) M.length a/\zr x gm 56 M.length (YU G C (zb0 M))/\w0.heap.size<=gm:=fun d=>by
  rcases n.out with e | ⟨H,s,b⟩
  ·omega
  refine⟨H,?_,b⟩;have u:=s;obtain⟨c,hb,_,_⟩:=s;exact u.gG (l x m _ _ _ hb (by decide) (by decide))
 obtain⟨k,F,o,v⟩:=n.shape;exact⟨⟨Ub D z,fun d=>⟨(f d).1,o,v,(f d).2.1.lt⟩,fun i hi=>⟨(f (by show 0<M.length;have:i<M.length:=hi;omega)).2.1.cell hi,(h.inn.1 i hi).2.1,(h.inn.1 i hi).2.2.1⟩⟩,fun d=>(f d).2,k,F,o,v⟩
end
def zaz:zex:=by grind [zex,zdm]
def yk9 (w:World) (t:Tg) (K:Kn) (R:List Int) (M:List (List Int)) (gD:Int) (e:Ending) (w':World):Prop :=
 ∃ ra rc ma mc rl ml,e=.returned (.tuple #[.slice ra rl rc,.slice ma ml mc,J (Vt t K R.length M gD)])/\Bw w w' /\
   (Vt t K R.length M gD=0->zM w' (.slice ra rl rc) (zhn R.length (UW t K (zK M) gD R M))/\yu w' (.slice ma ml mc) (zmr M (UW t K (zK M) gD R M)))/\(Vt t K R.length M gD≠0->rl=0/\ml=0)
def zjp {M:List (List Int)} (h:w.ownsRow base 3 1 v (zK M).length ((zK M).map (Value.int .i64))):zM w v (zK M) :=by grind [Ub,YF,Zn,zgv]
def ybo (t:Tg) (pc st:Int) (ops:List Kop) (ka:Option Addr) (kc:Nat) (ra:Option Addr) (rc:Nat) (R:List Int) (p:Option Addr) (q:Nat) (M:List (List Int)) (gD:Int) (w:World) (C:yQ w (.agg #[J pc,J st,.slice ka ops.length kc]) ⟨pc,st,ops⟩) (hR:zM w (.slice ra R.length rc) R) (n:yu w (.slice p M.length q) M) (o:(Zz M && decide (M.length<=3))=true) (hmay:X7 t ⟨pc,st,ops⟩ (zK M)=true) (hr:(R.length:Int)≠t.r):Calls prog 58 #[(tV t),.agg #[J pc,J st,.slice ka ops.length kc],.slice ra R.length rc,.slice p M.length q,J gD] w (Rt w (.tuple #[.slice none 0 0,.slice none 0 0,J 2])):=by
 have G:=Z C;have dS:=Z n;have dV:=Z hR;have H:Hid (Bw w ((w.alloc (tO t)).alloc (kB pc st ka ops.length kc))):=QB _ _ _;have j:=Z (zkj (.slice p M.length q) M ((w.alloc (tO t)).alloc (kB pc st ka ops.length kc)) (n.gE (QB _ _ _)));have y:Hid ((((w.alloc (tO t)).alloc (kB pc st ka ops.length kc))).heap[w.heap.size]?=some (tO t)/\(((w.alloc (tO t)).alloc (kB pc st ka ops.length kc))).heap[w.heap.size+1]?=some (kB pc st ka ops.length kc)):=by
  refine⟨?_,?_⟩
  ·rw [Qr _ _ _ (by simp)];exact yB _ _ _
  have e:(w.alloc (tO t)).heap.size=w.heap.size+1:=by simp
  grind [yB]
 have V:w.heap.size+1<((w.alloc (tO t)).alloc (kB pc st ka ops.length kc)).heap.size:=by simp
 unfold zea at j;rw [o] at j;have A:Zz M=true/\M.length<=3:=by simpa using o
 have fI:R.length<=9223372036854775807:=by obtain⟨a,c,e,h1,m,_⟩:=hR;unfold maxLen at m;omega
 have z:Hid (∀(g:Option Addr) (i:Nat) W,yQ W (.agg #[J pc,J st,.slice ka ops.length kc]) ⟨pc,st,ops⟩->zM W (.slice g (zK M).length i) (zK M)->Calls prog 104 #[(tV t),.agg #[J pc,J st,.slice ka ops.length kc],.slice g (zK M).length i] W (Rt W (.bool true))):=fun g i W h1 m=>by have h:=zdm t _ ⟨pc,st,ops⟩ g i (zK M) W h1 m;rw [hmay] at h;exact h
 have k:=Z A;have fH:((R.length:Int) == t.r)=false:=QM.2 hr;have fJ:((R.length:Int) != t.r)=true:=by simpa using hr
 clear C n hR o hmay A hr;go_enter func58,ntmps58;go_wp2_with fail;refine j.out.mono ?_;rintro e b ⟨lv,rfl,l,⟨g,N,i,rfl⟩,hb⟩;have B:=Z (H.out.trans (hb.mono (by simp;omega)));have d:Hid ((b).heap[w.heap.size]?=some (tO t)/\(b).heap[w.heap.size+1]?=some (kB pc st ka ops.length kc)):=⟨by rw [hb.block _ (by omega)];exact y.out.1,by rw [hb.block _ (by omega)];exact y.out.2⟩;have fP:w.heap.size+1<b.heap.size:=by have:=hb.size;omega
 have X:=Z l;have fg:=Z hb.size;have x:=zjp (l k.out.1 k.out.2);have I:N=(zK M).length:=by obtain⟨a,c,e,_⟩:=zD (l k.out.1 k.out.2);injection e
 subst I;have u:=Z (z.out g i b (G.out.gE B.out) x);have O:b.cell? (E w.heap.size 0)=Y t.u0:=cb d.out.1
 have P:b.cell? (E w.heap.size 1)=Y t.u1:=cb d.out.1
 have Q:b.cell? (E w.heap.size 2)=Y t.u2:=cb d.out.1
 have S:b.cell? (E w.heap.size 3)=Y t.w0:=cb d.out.1
 have T:b.cell? (E w.heap.size 4)=Y t.w1:=cb d.out.1
 have U:b.cell? (E w.heap.size 5)=Y t.w2:=cb d.out.1
 have D:b.cell? (E w.heap.size 6)=Y t.r:=cb d.out.1
 have k0:b.cell? (E (w.heap.size+1) 0)=Y pc:=cb d.out.2
 have k1:b.cell? (E (w.heap.size+1) 1)=Y st:=cb d.out.2
 have L:b.cell? (E (w.heap.size+1) 2)=some (.slice ka ops.length kc):=cb d.out.2
 clear l hb j x z;go_wp2_with fail;refine u.out.mono ?_;rintro e s ⟨rfl,f⟩;have F:=Z (B.out.tm f);have K:Hid ((s).heap[w.heap.size]?=some (tO t)/\(s).heap[w.heap.size+1]?=some (kB pc st ka ops.length kc)):=⟨by rw [f.block _ (by omega)];exact d.out.1,by rw [f.block _ (by omega)];exact d.out.2⟩;have fS:=Z f.size;have fR:=Z f;clear f O P Q S T U D k0 k1 L u;have D:s.cell? (E w.heap.size 6)=Y t.r:=cb K.out.1
 go_wp2;exact bodyPost_ret (v:=.tuple #[.slice none 0 0,.slice none 0 0,J 2]) (by simp [results,results58,go_sem]) rfl ⟨rfl,F.out⟩
def U4 {t:Tg} {pc st:Int} {ops:List Kop} {ka:Option Addr} {kc:Nat} (h:((x).heap[w.heap.size]?=some (tO t)/\(x).heap[w.heap.size+1]?=some (kB pc st ka ops.length kc))):(x.cell? (E w.heap.size 0)=Y t.u0/\x.cell? (E w.heap.size 1)=Y t.u1/\x.cell? (E w.heap.size 2)=Y t.u2/\x.cell? (E w.heap.size 3)=Y t.w0/\x.cell? (E w.heap.size 4)=Y t.w1/\x.cell? (E w.heap.size 5)=Y t.w2/\x.cell? (E w.heap.size 6)=Y t.r)/\x.cell? (E (w.heap.size+1) 0)=Y pc/\x.cell? (E (w.heap.size+1) 1)=Y st/\x.cell? (E (w.heap.size+1) 2)=some (.slice ka ops.length kc):=by
 have a:=Qa h.1;have b:=Qa h.2;simp_all
def ydw {t:Tg} {R:List Int} {M:List (List Int)} {gD:Int} (hmay:X7 t K (zK M)=true) (c:∀x∈K.ops,I64 x.nn) (hR:∀i,I64 (nth R i)) (f:∀i j,I64 (nth (zB M i) j)) (T:Nat) (hT:T<=40000):(ym t K (zK M) gD (za2 R M) T).fine t.r:=by obtain⟨d,h,l,m,n,o,p,hall⟩:=Zo hmay;refine zwm (N:=40000) (yi d).2.2.2.1 (zej hR f) (fun a g k b=>⟨c _ (zcv b),?_⟩) T hT;obtain⟨-,q,-⟩:=zds (hall k b);have h1:0<=(a:Int) / K.pc:=WY (by omega) (by omega);have s:(a:Int) / K.pc<=a:=Eg _ (by omega);unfold I64;omega
def zx9 {D:List Du} {f:Nat->Int} {m:Nat->Nat->Int} (a:yA c V D f m w') (d:∀i,I64 (f i)):zM w' (.slice (pA c.gr) c.R c.cr) ((List.range c.R).map f):=by
 have b:((List.range c.R).map f).length=c.R:=by simp
 have hn:∀i,i<c.R->nth ((List.range c.R).map f) i=f i:=fun i hi=>by grind [nth]
 refine⟨some (E c.gr 0),c.cr,by rw [b],by rw [b];exact a.hr.2.2.1,a.hr.2.2.2,fun i hi=>?_,fun _=>⟨c.gr,0,rfl,a.regs.lt,fun i hi=>?_⟩⟩
 ·rw [b] at hi;rw [hn i hi];exact d i
 rw [b] at hi;rw [hn i hi,QO];exact a.regs.cell hi
def zs1 {D:List Du} {f:Nat->Int} {m:Nat->Nat->Int} {gm a:Nat} {C:Nat->Nat} {d:Option Addr} (b:yA c V D f m w') (hm:∀i j,I64 (m i j)) (h1:c.mv=.slice d c.n a) (k:c.n<=a) (l:a<=maxLen) (o:0<c.n->c.mv=.slice (pA gm) c.n a/\zr w' gm 56 c.n (YU c.GM C c.lenM)/\c.w0.heap.size<=gm) (g:∀i,i<c.n->c.lenM i<=C i/\C i<=maxLen) :
  yu w' c.mv ((List.range c.n).map fun i=>(List.range (c.lenM i)).map fun j=>m i j):=by
 have h:MR w' c.w0.heap.size c.mv c.n c.lenM m gm a c.GM C:=⟨⟨d,h1,k,l⟩,by
  by_cases e:c.n=0
  ·exact .inl e
  exact .inr (o (by omega)),fun i hi=>⟨(b.min i hi).1,(g i hi).1,(g i hi).2,(b.min i hi).2.2⟩,b.minj⟩
 exact h.rows hm
def zpf {wr:World} {A gr cr:Nat} {R:List Int} {t:Tg} {kv lv mv:Value} {gD:Int} {M:List (List Int)} {G C:Nat->Nat} {D:List Du} {s:Kst} (hB:Vi w A gr cr R t K.pc K.st kv lv (zK M) gD M M.length mv G C wr) (u:Bw wr x) (d:yA ((zon w wr A gr cr R t K.pc K.st kv lv gD M mv G).at x) V D s.f s.m w') (hs:UW t K (zK M) gD R M=s) (n:s.fine t.r) (o:Vt t K R.length M gD=0)
  {g:Option Addr} {j:Nat} (z:mv=.slice g M.length j) :
  yk9 w t K R M gD (.returned (.tuple #[.slice (pA gr) R.length cr,.slice g M.length j,J 0])) w':=by
 have p:∀i,i<(zK M).length->-9223372036854775808<=nth (zK M) i/\nth (zK M) i<=9223372036854775807:=fun i hi=>by grind [YF,Zn,zgv]
 obtain⟨gm,b,q⟩:=hB.stat p;obtain⟨hS,l,a,h1,v,y⟩:=q w' (zuf (c:=zon w wr A gr cr R t K.pc K.st kv lv gD M mv G) u d.keep);have e:a=g/\b=j:=by simp_all
 obtain⟨rfl,rfl⟩:=e;refine⟨some (E gr 0),cr,a,b,R.length,M.length,by rw [o],d.bel,fun _=>?_,fun h=>absurd o h⟩;rw [hs];refine⟨zx9 d n.f,?_⟩;have h:=zs1 d n.m h1 v y (gm:=gm) (C:=C) (fun k=>⟨(hS.2.1 k).1,(l k).1,(l k).2⟩) (fun i hi=>(hS.2.2 i hi).2);have B:yu w' mv (zmr M s):=h;simp_all
def yg7 (T:Tg) (pc st:Int) (ops:List Kop) (ka:Option Addr) (kc:Nat) (ra:Option Addr) (rc:Nat) (R:List Int) (ma:Option Addr) (mc:Nat) (M:List (List Int)) (gD:Int) (w:World) (b:yQ w (.agg #[J pc,J st,.slice ka ops.length kc]) ⟨pc,st,ops⟩) (hR:zM w (.slice ra R.length rc) R) (hM:yu w (.slice ma M.length mc) M) (hf:(Zz M && decide (M.length<=3))=true) (hmay:X7 T ⟨pc,st,ops⟩ (zK M)=true) (hr:(R.length:Int)=T.r) (B:inR gD 0 200=true) (bJ:∀x∈ops,I64 x.nn) (aU:gD=0\/(gD+st)*pc<=30000):Calls prog 58 #[(tV T),.agg #[J pc,J st,.slice ka ops.length kc],.slice ra R.length rc,.slice ma M.length mc,J gD] w fun e w'=>yk9 w T ⟨pc,st,ops⟩ R M gD e w':=by
 have bG:=Z b;have dS:=Z hM;have dV:=Z hR;have cN:Hid (Bw w ((w.alloc (tO T)).alloc (kB pc st ka ops.length kc))):=QB _ _ _;have HL:=Z (zkj (.slice ma M.length mc) M ((w.alloc (tO T)).alloc (kB pc st ka ops.length kc)) (hM.gE (QB _ _ _)));have aB:Hid ((((w.alloc (tO T)).alloc (kB pc st ka ops.length kc))).heap[w.heap.size]?=some (tO T)/\(((w.alloc (tO T)).alloc (kB pc st ka ops.length kc))).heap[w.heap.size+1]?=some (kB pc st ka ops.length kc)):=by
  refine⟨?_,?_⟩
  ·rw [Qr _ _ _ (by simp)];exact yB _ _ _
  have e:(w.alloc (tO T)).heap.size=w.heap.size+1:=by simp
  grind [yB]
 have ay:w.heap.size+1<((w.alloc (tO T)).alloc (kB pc st ka ops.length kc)).heap.size:=by simp
 unfold zea at HL;rw [hf] at HL;have X:Zz M=true/\M.length<=3:=by simpa using hf
 have fI:R.length<=9223372036854775807:=by obtain⟨a,c,e,h1,h2,_⟩:=hR;unfold maxLen at h2;omega
 have aF:Hid (∀(o:Option Addr) (p:Nat) W,yQ W (.agg #[J pc,J st,.slice ka ops.length kc]) ⟨pc,st,ops⟩->zM W (.slice o (zK M).length p) (zK M)->Calls prog 104 #[(tV T),.agg #[J pc,J st,.slice ka ops.length kc],.slice o (zK M).length p] W (Rt W (.bool true))):=fun o p W h1 h2=>by have h:=zdm T _ ⟨pc,st,ops⟩ o p (zK M) W h1 h2;rw [hmay] at h;exact h
 have P:=Z X;have HW:Hid (Vt T ⟨pc,st,ops⟩ R.length M gD=0):=by grind [Vt,zH]
 have fH:((R.length:Int) == T.r)=true:=by simpa using hr
 have fJ:((R.length:Int) != T.r)=false:=by simpa using hr
 have eX:=Z (fun W=>B ▸ zN gD 0 200 W);obtain⟨fY,ht2⟩:=zH.1 B;have aW:=(yi (Zo hmay).1).2.2.2;(try simp only at aW);have ft:0<R.length:=by omega
 have bQ:R.length<=128:=by omega
 obtain⟨i0,hi,dM,az,aA⟩:=info_parts Tryz.i56;have cB:Hid (∀W,Bw w W->Calls prog 106 #[.slice ra R.length rc] W fun e w'=>∃g cap,e=.returned (.slice (pA g) R.length cap)/\W.heap.size<=g/\cap<=maxLen/\Zh w' g 2 cap R.length (fun j=>J (nth R j))/\Bw W w'):=fun W h=>zj7 _ R W (dV.out.gE h) ft bQ;have aH:=Z (zpd X.1);have aG:=Z hmay;have eO:=Z bJ;have cS:=Z aU;have eS:=Z hr;have cY:Hid (M.length<=3):=X.2;have fT:M.length<=3:=X.2;have aP:Hid ((∀i,I64 (nth R i))/\∀i j,I64 (nth (zB M i) j)):=⟨zma (by obtain⟨a,c,e,h1,h2,h3,_⟩:=hR;exact h3),zzr hM⟩;obtain⟨ma',mc',fE,fW,dG,-⟩:=hM;injection fE with e1 e2 e3;subst e1;subst e3;unfold maxLen at dG;clear b hR hf hmay X hr B bJ aU e2 aW;go_enter func58,ntmps58;go_wp2_with fail;refine HL.out.mono ?_;rintro e n ⟨lv,rfl,U,⟨o,ll,p,rfl⟩,hb⟩;have bg:=Z (cN.out.trans (hb.mono (by simp;omega)));have q:Hid ((n).heap[w.heap.size]?=some (tO T)/\(n).heap[w.heap.size+1]?=some (kB pc st ka ops.length kc)):=⟨by rw [hb.block _ (by omega)];exact aB.out.1,by rw [hb.block _ (by omega)];exact aB.out.2⟩;have fP:w.heap.size+1<n.heap.size:=by have:=hb.size;omega
 have cX:=Z U;have fg:=Z hb.size;have HI:=zjp (U P.out.1 P.out.2);have dB:ll=(zK M).length:=by obtain⟨a,c,e,_⟩:=zD (U P.out.1 P.out.2);injection e
 subst dB;have eK:Hid (n.ownsRow w.heap.size 3 1 (.slice o (zK M).length p) (zK M).length ((zK M).map (Value.int .i64))):=zdw (U P.out.1 P.out.2) (by simp;omega);have HC:=Z (aF.out o p n (bG.out.gE bg.out) HI);have t0:n.cell? (E w.heap.size 0)=Y T.u0:=cb q.out.1
 have t1:n.cell? (E w.heap.size 1)=Y T.u1:=cb q.out.1
 have t2:n.cell? (E w.heap.size 2)=Y T.u2:=cb q.out.1
 have t3:n.cell? (E w.heap.size 3)=Y T.w0:=cb q.out.1
 have t4:n.cell? (E w.heap.size 4)=Y T.w1:=cb q.out.1
 have t5:n.cell? (E w.heap.size 5)=Y T.w2:=cb q.out.1
 have t6:n.cell? (E w.heap.size 6)=Y T.r:=cb q.out.1
 have k0:n.cell? (E (w.heap.size+1) 0)=Y pc:=cb q.out.2
 have k1:n.cell? (E (w.heap.size+1) 1)=Y st:=cb q.out.2
 have k2:n.cell? (E (w.heap.size+1) 2)=some (.slice ka ops.length kc):=cb q.out.2
 clear U hb HL HI aF;go_wp2_with fail;refine HC.out.mono ?_;rintro e x2 ⟨rfl,Q⟩;have ai:=Z (bg.out.tm Q);have gT:Hid ((x2).heap[w.heap.size]?=some (tO T)/\(x2).heap[w.heap.size+1]?=some (kB pc st ka ops.length kc)):=⟨by rw [Q.block _ (by omega)];exact q.out.1,by rw [Q.block _ (by omega)];exact q.out.2⟩;have cU:=Z (zp eK.out Q);have cA:w.heap.size+1<x2.heap.size:=by have:=Q.size;omega
 clear Q t0 t1 t2 t3 t4 t5 t6 k0 k1 k2 HC;have t6:x2.cell? (E w.heap.size 6)=Y T.r:=cb gT.out.1
 go_wp2_with (go_at_call 105;refine (eX.out _).mono ?_;rintro e w' ⟨rfl,aa⟩;have aa:=aa.symm;subst aa);clear t6;refine rg 99 (fun w'=>(w'.cell? (E w.heap.size 0)=Y T.u0/\w'.cell? (E w.heap.size 1)=Y T.u1/\w'.cell? (E w.heap.size 2)=Y T.u2/\w'.cell? (E w.heap.size 3)=Y T.w0/\w'.cell? (E w.heap.size 4)=Y T.w1/\w'.cell? (E w.heap.size 5)=Y T.w2/\w'.cell? (E w.heap.size 6)=Y T.r)/\w'.cell? (E (w.heap.size+1) 0)=Y pc/\w'.cell? (E (w.heap.size+1) 1)=Y st/\w'.cell? (E (w.heap.size+1) 2)=some (.slice ka ops.length kc)) (U4 gT.out) fun s=>?_;refine uk2 0 ?_;refine uk2 2 ?_;refine uk 5 ?_;refine uo 4 fun K b=>?_;go_simp;refine (cB.out _ ai.out.drew).mono ?_;rintro e D ⟨gr,cr,rfl,cG,cF,cL,aj⟩;have bf:Hid (Bw x2 D):=(QA _ _).drew.trans aj;have aM:=Z (ai.out.tm bf.out);have S:Hid ((D).heap[w.heap.size]?=some (tO T)/\(D).heap[w.heap.size+1]?=some (kB pc st ka ops.length kc)):=⟨by rw [bf.out.block _ (by omega)];exact gT.out.1,by rw [bf.out.block _ (by omega)];exact gT.out.2⟩;have dP:Hid (w.heap.size<=gr/\gr<D.heap.size/\R.length<=cr/\cr<=maxLen):=⟨QH ai.out.size cG,cL.lt,cL.le,cF⟩;have eU:=Z cL;have cW:=Z (zp cU.out bf.out);clear cG cF cL aj s;have s:=U4 S.out;refine nxt b.out (.inr s) ?_;clear b K;refine uk 6 ?_;refine uo 7 fun K b=>?_;go_simp;have bK:Hid ((D.alloc (.cells #[J T.u0,J T.u1,J T.u2,J T.w0,J T.w1,J T.w2,J T.r,J pc,J st,.slice ka ops.length kc,.slice o (zK M).length p,.slice (pA gr) R.length cr,.slice none 0 0,J gD,.slice none 0 0,.slice none 0 0,.slice none 0 0,.slice none 0 0,.slice none 0 0,.slice none 0 0] 183)).heap[w.heap.size]?=some (tO T)/\(D.alloc (.cells #[J T.u0,J T.u1,J T.u2,J T.w0,J T.w1,J T.w2,J T.r,J pc,J st,.slice ka ops.length kc,.slice o (zK M).length p,.slice (pA gr) R.length cr,.slice none 0 0,J gD,.slice none 0 0,.slice none 0 0,.slice none 0 0,.slice none 0 0,.slice none 0 0,.slice none 0 0] 183)).heap[w.heap.size+1]?=some (kB pc st ka ops.length kc)):=⟨by rw [Qr _ _ _ (by have:=aM.out.size;have:=(lo S.out.1);omega)];exact S.out.1,by rw [Qr _ _ _ (lo S.out.2)];exact S.out.2⟩;refine nxt b.out (.inr (U4 bK.out)) ?_;clear b K s;have s:=U4 bK.out;refine uo 8 fun K b=>?_;go_simp;refine nxt b.out (.inr s) ?_;clear b K;refine rd ?_;clear s;obtain⟨A,hA⟩:=nm D.heap.size
 have H0:Hid (Vi w A gr cr R T pc st (.slice ka ops.length kc) (.slice o (zK M).length p) (zK M) gD M 0 (.slice none 0 0) (fun _=>0) (fun _=>0) (D.alloc (.cells #[J T.u0,J T.u1,J T.u2,J T.w0,J T.w1,J T.w2,J T.r,J pc,J st,.slice ka ops.length kc,.slice o (zK M).length p,.slice (pA gr) R.length cr,.slice none 0 0,J gD,.slice none 0 0,.slice none 0 0,.slice none 0 0,.slice none 0 0,.slice none 0 0,.slice none 0 0] 183))) :=
  { bel:=aM.out.alloc aM.out.size _,hA:=by rw [<-hA];exact yB _ _ _,hAb:=by rw [<-hA];exact aM.out.size,regs:=eU.out.row.alloc _,hr:=⟨dP.out.1,dP.out.2.2⟩,out:=World.ownsRow_nil _ _ _ _,inn:=⟨fun i hi=>absurd hi (Qv _),fun i j hi=>absurd hi (Qv _)⟩,rM:=fun i hi=>absurd hi (Qv _),lgs:=zp cW.out (Qd _ _) }
 have fQ:=Z hA;go_wp2;clear hA;go_loopw [52] (fun i wr=>∃k:Nat,k<=M.length/\i=J k/\∃mv G C,Vi w A gr cr R T pc st (.slice ka ops.length kc) (.slice o (zK M).length p) (zK M) gD M k mv G C wr) (fun i _=>M.length - (intOf i).toNat)
 case atStart=>exact⟨0,Ql _,rfl,_,_,_,H0.out⟩
 clear H0;obtain⟨k,hk,rfl,mv,G,C,l⟩:=hrel;by_cases ag:k<M.length
 ·have bz:(k:Int)<(M.length:Int):=by omega
  obtain⟨H,I,bI,dE,cJ⟩:=zD l.out;subst bI;have eM:=dS.out.gE l.bel;obtain⟨ma2,mc2,dF,-,-,bW⟩:=eM;injection dF with e1 e2 e3;subst e1;subst e3;obtain⟨mb,mo,rfl,fD,aZ⟩:=bW (by omega);obtain⟨u,hu,ey⟩:=aZ k ag;have fa:=Z ey;obtain⟨ua,uc,rfl,-⟩:=ey;have F:=Z l;have dw:=l.cell;have dY:=l.A_lt;obtain⟨r0,r32,-⟩:=aH.out k ag;have dO:Hid (∀W,Bw wr W->Calls prog 106 #[.slice ua (zB M k).length uc] W fun e w'=>∃g cap,e=.returned (.slice (pA g) (zB M k).length cap)/\W.heap.size<=g/\cap<=maxLen/\Zh w' g 2 cap (zB M k).length (fun j=>J (nth (zB M k) j))/\Bw W w'):=fun W h=>zj7 _ (zB M k) W (fa.out.gE h) r0 (by omega);obtain⟨ln,dC⟩:=nm ((zB M k).length);rw [dC] at hu dO;have dR:=Z dC;clear aZ bW l dC;go_wp2;refine rg 11 (fun w'=>w'.cell? (E A 12)=some (.slice H k I)) dw fun s=>?_;refine uk2 0 ?_;refine uk2 2 ?_;refine uk2 4 ?_;refine uo 6 fun K b=>?_;go_simp;refine (dO.out _ (QA _ _).drew).mono ?_;rintro e x5 ⟨g,cap,rfl,bV,bU,ce,ef⟩;have eE:Hid (Bw wr x5):=(QA _ _).drew.trans ef;have bF:Hid (wr.heap.size<=g/\cap<=maxLen):=⟨bV,bU⟩;have bO:=Z ce;have dU:=Z (F.out.gE eE.out);clear bV bU ce ef s;refine nxt b.out (.inr dU.out.cell) ?_;clear b K;refine uo 7 fun K b=>?_;go_simp;have bN:=Z (dU.out.gE (Qd x5 (.cells #[.slice (pA g) ln cap] 56)));refine nxt b.out (.inr bN.out.cell) ?_;clear b K;refine uo 8 fun K b=>?_;refine step_append_lies _ (by rfl) (.tmp 60) (.tmp 63) 114 (by rfl) w.heap.size 56 i0 (.slice none 0 0) 1 24 underlying114 hi dM az aA rfl (by decide) _ k _ (by rfl) bN.out.out (E x5.heap.size 0) 1 1 [.slice (pA g) ln cap] (by rfl) rfl (xH _ _ _) (by intro u hu;simp at hu;subst hu;rfl) (by decide) (by unfold maxLen;omega) (by omega) bN.out.bel.size (x5.heap.size+1) (by simp) ?_;intro g2 gC w6 z d hat6 hlt6;have cI:=bN.out.grown d;have eR:=Z z;have eH:=Z d;clear z d hat6;refine nxt b.out (.inr cI.1) ?_;clear b K;have s:=cI.1;have fV:=cI.2;refine uk2 9 ?_;refine uo 11 fun K b=>?_;go_simp;refine nxt b.out (.inl rfl) ?_;clear b K;refine rd ?_;clear cI s;go_wp2;go_roundw
  case rel =>
   refine⟨k+1,by omega,by go_num,_,_,_,bN.out.step (g:=g) (cap:=cap) (B0:=0) ?_ (by have:=bF.out.1;have:=F.out.bel.size;omega) bF.out.2 ?_ ?_ (by show w6.ownsRow _ _ _ _ _ (_++[.slice _ (zB M k).length _]);rw [dR.out];exact eR.out) eH.out⟩
   ·have h:=bO.out.gE (Qd x5 (.cells #[.slice (pA g) ln cap] 56)) bO.out.lt;rw [<-dR.out] at h ⊢;exact h
   ·have:=F.out.regs.lt;have:=bF.out.1;omega
   intro i hi;have:=(F.out.inn.1 i hi).2.2.2.lt;have:=bF.out.1;omega
  simp [intOf];omega
 have e:k=M.length:=by omega
 subst e;have bz:¬(M.length:Int)<(M.length:Int):=by omega
 obtain⟨H,I,bI,dE,cJ⟩:=zD l.out;subst bI;have F:=Z l;have cZ:=Z l.mach;by_cases B:gD=0
 ·obtain⟨L,O⟩:=l.ends;have fL:decide (0<gD)=false:=Qk (by omega);have fM:¬0<gD:=by omega
  have de:Hid (UW T ⟨pc,st,ops⟩ (zK M) gD R M=za2 R M):=by show _=_;unfold UW;rw [Qf B]
  have dY:=l.A_lt;clear l B;go_wp2;go_big_quiet ((fail));go_wp2_with fail;have hI:yA ((zon w wr A gr cr R T pc st (.slice ka ops.length kc) (.slice o (zK M).length p) gD M (.slice H M.length I) G).at wr) (fun _=>.slice none 0 0) [] (za2 R M).f (za2 R M).m (wr.drewN nq):=cZ.out.gE (Qm _ _ _);exact bodyPost_ret (v:=.tuple #[.slice (pA gr) R.length cr,.slice H M.length I,J 0]) (by simp [results,results58,go_sem]) rfl (zpf (K:=⟨pc,st,ops⟩) F.out (QA _ _) hI de.out (zej aP.out.1 aP.out.2) HW.out rfl)
 have fL:decide (0<gD)=true:=Qi (by omega);have fM:0<gD:=by omega
 have bC:∀i,i<(zK M).length->-9223372036854775808<=nth (zK M) i/\nth (zK M) i<=9223372036854775807:=fun i hi=>by rw [YF M i (by rw [Zn] at hi;exact hi)];have:=zgv (zB M i).length;omega
 obtain⟨gm,cm',cM⟩:=l.stat bC;obtain⟨dH,bY,bZ,cg,cu,fF,fG,-⟩:=Zo aG.out;(try simp only at bY bZ cg cu);obtain⟨PC,hPC⟩:∃PC:Nat,pc=(PC:Int):=⟨pc.toNat,by omega⟩;obtain⟨ST,dZ⟩:∃ST:Nat,st=(ST:Int):=⟨st.toNat,by omega⟩;obtain⟨N,hN⟩:∃N:Nat,gD+st - 1=(N:Int):=⟨(gD+st - 1).toNat,by omega⟩;have hNP:N*PC<=30000:=by
  have h1:(gD+st)*pc<=30000:=cS.out.resolve_left B;have h2:((N*PC:Nat):Int)<=(gD+st)*pc:=by rw [ES,<-hPC,<-hN];exact Wx (by omega) (by omega)
  omega
 have aL:VH ⟨pc,st,ops⟩ gD=((N*PC:Nat):Int):=by unfold VH;show (gD+st - 1)*pc=_;rw [hN,hPC,ES]
 have de:Hid (UW T ⟨pc,st,ops⟩ (zK M) gD R M=ym T ⟨pc,st,ops⟩ (zK M) gD (za2 R M) (N*PC+6)):=by show _=_;unfold UW;rw [Qe B,aL,show (((N*PC:Nat):Int)+7).toNat=N*PC+7 by omega];exact yhe dH rfl aL
 have eG:=Z (ydw (t:=T) (gD:=gD) aG.out eO.out aP.out.1 aP.out.2 (N*PC+6) (by omega))
 have dg:=Z (ycf (zon w wr A gr cr R T pc st (.slice ka ops.length kc) (.slice o (zK M).length p) gD M (.slice H M.length I) G) (zK M) gm cm' C ⟨pc,st,ops⟩ ka kc PC ST N (fun i=>nth R i) (fun i j=>nth (zB M i) j)
  l.mach (fun x hx=>(cM x hx).1) rfl (by obtain⟨ov,e,h⟩:=bG.out;injection e with e;have e2:ov=.slice ka ops.length kc:=(by simpa using e.symm);rw [e2] at h;exact h.gE l.bel) (Zn M).symm (fun i hi=>⟨(aH.out i hi).2.2,(aH.out i hi).2.1⟩) eS.out aG.out rfl hPC rfl dZ hN (by show 1<=gD;omega) ht2 hNP)
 have dY:=l.A_lt;clear l B bC cM aL hPC dZ hN bY bZ cg cu;go_wp2_with fail;refine dg.out.mono ?_;rintro e x9 ⟨rfl,y,V,eh,dt⟩;obtain⟨-,⟨-,-,-,-,L,O,-⟩,-⟩:=dt.cells;have e11':x9.cell? (E A 11)=some (.slice (pA gr) R.length cr):=L;have e12':x9.cell? (E A 12)=some (.slice H M.length I):=O;have eI:=Z dt;have bL:=Z eh;clear L O dt eh;go_wp2;go_big_quiet ((fail));go_wp2;exact bodyPost_ret (v:=.tuple #[.slice (pA gr) R.length cr,.slice H M.length I,J 0]) (by simp [results,results58,go_sem]) rfl (zpf (K:=⟨pc,st,ops⟩) F.out bL.out (eI.out.gE (Qm _ _ _)) de.out eG.out HW.out rfl)
def zm6:zj1:=fun t kv D mv K R M gD w c hR d o x v n=>by
 obtain⟨j,p1,p2,k,l,m,r⟩:=t
 obtain⟨pc,st,ops⟩:=K
 have p:=c
 have s:=hR
 have q:=d
 obtain⟨B,rfl,u⟩:=p
 obtain⟨ka,kc,rfl,-⟩:=u
 obtain⟨ra,rc,rfl,-⟩:=s
 obtain⟨g,i,rfl,-⟩:=q
 have a:=v
 unfold Vt at a
 by_cases b:Zz M=true/\X7 ⟨j,p1,p2,k,l,m,r⟩ ⟨pc,st,ops⟩ (zK M)=true/\(R.length:Int)=r
 ·rw [Qf b] at a
  by_cases f:0<=gD/\gD<=200
  ·refine (yg7 ⟨j,p1,p2,k,l,m,r⟩ pc st ops ka kc ra rc R g i M gD w c hR d (by simp_all) b.2.1 b.2.2 (yh f) o (.inr n)).mono fun e w' h=>?_
   obtain⟨ra,rc,g,i,C,A,y,hb,z,-⟩:=h
   grind
  ·rw [Qe f] at a;cases a
 ·rw [Qe b] at a;cases a
end
end Go.Proofs.YtjlfcbccpcigeacGreatDoor
