import Derived.Test.YtjlfcbccpcigeacGreatDoorD
import Derived.Lib.BitFns
import Derived.Lib.Small
import Derived.Lib.Walk
set_option maxHeartbeats 40000000
set_option linter.defProp false
namespace Go.Proofs.YtjlfcbccpcigeacGreatDoor
open Go.Proofs.Tryz Go.RowKit Go.Joins
set_option linter.unusedVariables false
set_option linter.unusedSimpArgs false
set_option maxRecDepth 8192
section
open Go.WideMaps (KeyLaw)
variable {b base:Nat} {x w w' w6:wO} {v:vO} {K:Kn} {c:Mc} {V:Nat->vO}
def jD:laidOutB prog:=kR
def wR:(296:TypeId)<prog.types.size:=QI kR
def Hz:(match prog.underlying 296 with | some (.array _ _) | some (.struct _)=>true | _=>false)=true:=kR
def pg:KeyLaw prog 296:=deep_law_laid jD (m:=2) lI wR kR Hz
def wS (u:wO):(zeroValue 3).run prog u=.ok (J 0) u:=kR
def wT (a b:Int) (n:(Lit.int .i64 a).wf) (hb:(Lit.int .i64 b).wf):∃i,keyOf prog 296 (.agg #[.int .i64 a,.int .i64 b])=some i:=by
 have h1:prog.keyType 296:=kR
 have f:prog.cellsOf 296=2:=kR
 have j:prog.cellsOf 3=1:=kR
 obtain⟨c,g⟩:∃c,prog.types.size=c+1:=⟨_,(qF (Nat.lt_of_le_of_lt (Ql _) wR)).s⟩;have h:(Value.agg #[.int .i64 a,.int .i64 b]).formed prog 296:=by simp [Value.formed,underlying296,f]
 have k:∀d (x:Int),(Lit.int .i64 x).wf->prog.keyLits (d+1) 3 [.int .i64 x]=some [.int .i64 x]:=fun d x o=>by unfold Program.keyLits;simp_all
 have l:prog.keyLits (c+1+1) 296 [.int .i64 a,.int .i64 b]=some [.int .i64 a,.int .i64 b]:=by unfold Program.keyLits;simp_all
 unfold keyOf;rw [underlying296];simp only [h1,h,Bool.and_self,if_true];rw [g];have m:(Value.agg #[.int .i64 a,.int .i64 b]).cells.toList=[.int .i64 a,.int .i64 b]:=rfl;simp_all
def YW (l:List bt) (k:Nat) (s c:Int):Nat:=cnt (fun j=>decide ((zv l j).sl=s) && decide (ye (zv l j).o=c)) k
theorem HG (l:List bt) (k:Nat):YW l (k+1) (zv l k).sl (ye (zv l k).o)=me l k:=rfl
theorem sr (l:List bt) (k:Nat) (s c:Int):YW l (k+1) s c=if (zv l k).sl=s/\ye (zv l k).o=c then YW l k s c+1 else YW l k s c:=by grind [YW,cnt]
def V5 (l:List bt) (k b:Nat) (x:wO):Prop :=
 ∃D:DataW Unit,x.ownsMap prog 296 (plainElem prog 3) b k D/\Maps.IsMap D/\∀s c kl,keyOf prog 296 (.agg #[.int .i64 s,.int .i64 c])=some kl->D.atKey kl (.lit (.int .i64 0))=.lit (.int .i64 (YW l k s c))
def V5.gE {l:List bt} {k:Nat} {y:wO} (h:V5 l k b x) (hb:Bw x y):V5 l k b y:=by obtain⟨D,h1,a,c⟩:=h;refine⟨D,h1.kept (row:=none) ⟨hb.os,hb.tape,hb.output,hb.size,fun i hi _=>hb.block i hi⟩ sM,a,c⟩
def V5.look {l:List bt} {k:Nat} (h:V5 l k b x) (s c:Int) (hs:(Lit.int .i64 s).wf) (g:(Lit.int .i64 c).wf):(Instr.lookup 294 (.map (some b)) (.agg #[.int .i64 s,.int .i64 c]) false).run prog x=.ok (.int .i64 (YW l k s c)) x:=by obtain⟨D,h1,j,f⟩:=h;obtain⟨i,a⟩:=wT s c hs g;obtain⟨q,hr,d,_⟩:=h1.lookup_int (EZ pg) underlying294 underlying3 (wS _) a;rw [f s c i a] at d;injection d with e1;injection e1 with _ e2;rw [hr,e2]
def V5.step {l:List bt} {k:Nat} (h:V5 l k b x) (I:k<l.length) (G:l.length<=16) (s c:Int) (hs:(zv l k).sl=s) (C:ye (zv l k).o=c) (ws:(Lit.int .i64 s).wf) (p:(Lit.int .i64 c).wf) :
  ∃ v0 st w1,(Instr.mapEntry 294 (.map (some b)) (.agg #[.int .i64 s,.int .i64 c])).run prog x=.ok (.tuple #[v0,goInt st]) w1/\x.grownBy w1 (some b)/\(Instr.lookup 294 (.map (some b)) (.agg #[.int .i64 s,.int .i64 c]) false).run prog w1=.ok (.int .i64 (YW l k s c)) w1 /\
    ∃f,(Instr.entryStore 294 (.map (some b)) (goInt st) (.int .i64 ((YW l k s c:Int)+1))).run prog w1=.ok () f/\w1.grownBy f (some b)/\V5 l (k+1) b f:=by
 have F:=h.look s c ws p
 obtain⟨D,h1,j,B⟩:=h
 obtain⟨m,i⟩:=wT s c ws p
 have H:YW l k s c<=16:=QH (U5 _ _) lI
 obtain⟨v0,st,w1,q,r,t,u⟩:=DO pg underlying294 underlying3 wS h1 (by unfold maxLen;lia) i F
 obtain⟨f,v,y,z⟩:=u w1 ((YW l k s c:Int)+1) rfl (WN lI)
 refine⟨v0,st,w1,q,r,t,f,v,y,D.put m (.lit (.int .i64 ((YW l k s c:Int)+1))),z,j.put _ _,fun n c' d a=>?_⟩
 by_cases e:d=m
 ·subst e
  have g:=pg.inj i a
  injection g with g
  have A:s=n/\c=c':=by simpa using g
  obtain⟨rfl,rfl⟩:=A
  rw [ql j ((EZ pg).key a),sr,Qf ⟨hs,C⟩]
  rfl
 ·rw [q7 e,B n c' d a,sr,Qe fun h=>e ?_]
  simp_all
theorem H8 (n:Int):goInt n=J n:=rfl
def H9 (t:Tg) (c:Nat) (a:c<3) (w:wO) (x:wO) (h:x.heap[w.heap.size]?=some (.cells #[J t.u0,J t.u1,J t.u2,J t.w0,J t.w1,J t.w2,J t.r] 27 (0,0))):x.cell? (E w.heap.size c)=Y (yf t c):=by
 rw [Qa h];obtain rfl | rfl | rfl:c=0\/c=1\/c=2:=lI
 all_goals rfl
def H' (t:Tg) (pc st:Int) (ops:List bt) (ka:Option Addr) (kc:Nat) (w:wO) (j:Y5 w (.slice ka ops.length kc) ops) (aI:ops.length<=16) (eu:∀x∈ops,0<=x.sl/\x.sl<=1000) :
  Cp 165 #[(tV t),.agg #[J pc,J st,.slice ka ops.length kc]] w (Rt w (.bool (lH t ops))):=by
 obtain⟨ka',kc',aS,cH,aT,aK⟩:=j;injection aS with A l B;subst A;subst B;unfold maxLen at aT;have cO:=Z aK;have eV:=Z eu;have dG:=@run_makeMap prog;have H0:Hid (V5 ops 0 (w.heap.size+1+1) (((w.alloc (tO t)).alloc (kB pc st ka ops.length kc)).alloc (.map #[] 0))):=by
  show V5 _ _ _ _;have h:=World.ownsMap_made (H:=Unit) ((w.alloc (tO t)).alloc (kB pc st ka ops.length kc)) prog 296 (plainElem prog 3);have e:((w.alloc (tO t)).alloc (kB pc st ka ops.length kc)).heap.size=w.heap.size+1+1:=sM
  rw [e] at h;exact⟨_,h,Maps.isMap_empty,fun s c kl _=>rfl⟩
 clear aK eu l;go_enter func165,ntmps165;go_wp2;go_loopw [13] (fun i wr=>∃k:Nat,k<=ops.length/\i=J k/\zF (fun i=>decide ((me ops i:Int)<=yf t (ye (zv ops i).o))) k=true/\Below (w.heap.size+1+1) ((w.alloc (tO t)).alloc (kB pc st ka ops.length kc)) wr/\V5 ops k (w.heap.size+1+1) wr) (fun i _=>ops.length - (intOf i).toNat)
 case atStart=>exact⟨0,Ql _,rfl,rfl,(QA _ _).alloc sM _,H0.o⟩
 clear H0 dG;obtain⟨k,hk,rfl,hall,r,hM⟩:=hrel;have HA:=Z hall;have HB:=Z r;have HM:=Z hM;have n:Bw w wr:=(QB _ _ _).t (r.m oM);have aO:w.heap.size+1+1<=wr.heap.size:=by have:=r.size;simp at this;omega
 clear hall hM;by_cases y:k<ops.length
 ·have bz:(k:Int)<(ops.length:Int):=oM
  obtain⟨ob,oo,rfl,dI,af⟩:=cO.o oM;obtain⟨I,L,M,N,O,P,Q,R,S,T⟩:=jP (af k y);rw [<-ze n _ _ dI] at I L M N O P Q R S T;have dJ:ob<wr.heap.size:=oM
  have F:=Z n;obtain⟨s0,s1⟩:=eV.o _ (nV y);obtain⟨f,m,dy⟩:∃f:Nat,ye (zv ops k).o=(f:Int)/\f<3:=by
   rcases VA (zv ops k).o with h | h | h
   ·exact⟨0,h,oM⟩
   ·exact⟨1,h,oM⟩
   exact⟨2,h,oM⟩
  have eW:Hid (∀x,Below (w.heap.size+1+1) wr x->x.c w.heap.size f=Y (yf t f)):=fun x hx=>H9 t f dy w x (by rw [hx.block _ oM,HB.o.block _ oM,Qr _ _ _ sM];exact yB _ _ _);have aY:=Z (fun (x:wO) (h:V5 ops k (w.heap.size+1+1) x)=>h.step y aI _ f rfl m (WN oM) (WN oM));have aX:=Z (fun (x:wO) (h:V5 ops k (w.heap.size+1+1) x)=>h.look (zv ops k).sl f (WN oM) (WN oM));have G:=Z (fun (x:wO) (h:V5 ops (k+1) (w.heap.size+1+1) x)=>h.look (zv ops k).sl f (WN oM) (WN oM));have cB:Hid (∀W,Cp 90 #[J (zv ops k).o] W (Re W (J f))):=fun W=>by rw [<-m];exact pE _ _
  have dx:YW ops (k+1) (zv ops k).sl f=YW ops k (zv ops k).sl f+1:=by rw [sr,Qf ⟨rfl,m⟩]
  have U:Hid (me ops k=YW ops k (zv ops k).sl f+1):=by grind [HG]
  have ek:YW ops k (zv ops k).sl f<=16:=QH (U5 _ _) oM;rw [dx] at G;have V:Hid (yf t (ye (zv ops k).o)=yf t f):=by show _=_;rw [m]
  generalize YW ops k (zv ops k).sl f=cc at *
  generalize yf t (f:Int)=un at *
  clear m dx af n r;have fe:Hid (∃xk,zv ops k=xk):=⟨_,rfl⟩;generalize cx:zv ops k=xk at *
  have dX:=Z cx;clear cx fe;obtain⟨sl,sg,o,d,a,b,ar,sp,pl,nn⟩:=xk;(try simp only at I L M N O P Q R S T s0 s1 aY aX G cB U V);go_wp2;clear I L M N O P Q R S T;go_region_held3 (fun w'=>w'.c wr.heap.size 0=Y sl/\w'.c wr.heap.size 2=Y o) ((go_keep;done)) (first | (go_at_call 90;refine (cB.o _).mr fun w' C=>?_;have C:=C.s;subst C))
  all_goals
   have HY:=Z (HM.o.gE ((QB wr (Ij sl sg o d a b ar sp pl nn 79) (Ib sl f 296)).drew.drew))
   have fx:w.heap.size+1+1<wr.heap.size:=by obtain⟨D,h1,_⟩:=HM.o;exact h1.lt
   obtain⟨v0,stp,w1,A,l,B,g,f1,f2,f3⟩:=aY.o _ HY.o
   rw [H8] at A f1
   have em:(f:Int)<3:=oM
   have fZ:IntKind.i64.wrap ((cc:Int)+1)=(cc:Int)+1:=uT _ oM oM
   have bL:Hid (((wr.alloc (Ij sl sg o d a b ar sp pl nn 79)).alloc (Ib sl f 296)).heap[wr.heap.size+1]?=some (Ib sl f 296)):=by
    show _=_
    have e:(wr.alloc (Ij sl sg o d a b ar sp pl nn 79)).heap.size=wr.heap.size+1:=sM
    rw [<-e];exact yB _ _ _
   have z:Hid (w1.heap[wr.heap.size+1]?=some (Ib sl f 296)):=by show _=_;rw [l.block _ sM (by intro e;have:=QD e;omega)];exact bL.o
   have bf:Hid (g.heap[wr.heap.size+1]?=some (Ib sl f 296)):=by show _=_;rw [f2.block _ (lo z.o) (by intro e;have:=QD e;omega)];exact z.o
   have X:Hid (Below (w.heap.size+1+1) wr g):=(((((QB wr (Ij sl sg o d a b ar sp pl nn 79) (Ib sl f 296)).drew.drew).m oM).grown l sO (fun q hq=>by have:=QD hq;omega)).grown f2 (by have:=l.size;simp at this;omega) (fun q hq=>by have:=QD hq;omega))
   have cY:=Z f3
   have p:w1.c (wr.heap.size+1) 0=Y sl/\w1.c (wr.heap.size+1) 1=Y f/\(Instr.lookup 294 (.map (some (w.heap.size+1+1))) (.agg #[J sl,J f]) false).run prog w1=.ok (J cc) w1:=⟨cb z.o,cb z.o,B⟩
   have dN:=Z p
   have H7:Hid (g.drew.c (wr.heap.size+1) 0=Y sl/\g.drew.c (wr.heap.size+1) 1=Y f/\g.drew.c w.heap.size f=Y un/\(Instr.lookup 294 (.map (some (w.heap.size+1+1))) (.agg #[J sl,J f]) false).run prog g.drew=.ok (J ((cc:Int)+1)) g.drew):=⟨by show g.cell? _=_;rw [Qa bf.o];rfl,by show g.cell? _=_;rw [Qa bf.o];rfl,eW.o _ X.o.drew,by have h:=G.o _ (cY.o.gE (QA _ _).drew);rw [ET] at h;exact h⟩
   clear f3 l B f2 p
   go_wp2
   refine rg 6 (fun w'=>w'.c (wr.heap.size+1) 0=Y sl/\w'.c (wr.heap.size+1) 1=Y f/\(Instr.lookup 294 (.map (some (w.heap.size+1+1))) (.agg #[J sl,J f]) false).run prog w'=.ok (J cc) w') (⟨sM,sM,aX.o _ HY.o⟩) fun u=>?_
   refine aq 0 ?_
   refine aq 2 ?_
   refine uo 4 fun K j=>?_
   go_simp
   refine bq j.o (.inr dN.o) ?_
   clear j K u
   have u:=dN.o
   refine uk 5 ?_
   refine uo 6 fun K j=>?_
   go_simp
   refine bq j.o (.inl rfl) ?_
   clear j K u
   refine rd ?_
   clear A f1
   by_cases v:un<(cc:Int)+1
   ·have dA:decide (un<(cc:Int)+1):=Qi v
    have HF:Hid (lH t ops=false):=yd y (Qk (by rw [dX.o,U.o,V.o];omega))
    go_wp2
    refine rg 99 (fun w'=>w'.c (wr.heap.size+1) 0=Y sl/\w'.c (wr.heap.size+1) 1=Y f/\w'.c w.heap.size f=Y un/\(Instr.lookup 294 (.map (some (w.heap.size+1+1))) (.agg #[J sl,J f]) false).run prog w'=.ok (J (cc+1)) w') H7.o fun u=>?_
    refine aq 0 ?_
    refine aq 2 ?_
    refine aq 4 ?_
    refine aq 6 ?_
    refine uk 8 ?_
    refine rd ?_
    go_wp2
    go_ret
    exact⟨zi HF.o.s,F.o.t ((X.o.drew).m oM)⟩
   ·have dA:decide (un<(cc:Int)+1)=false:=Qk v
    have HT:Hid (decide ((me ops k:Int)<=yf t (ye (zv ops k).o))):=Qi (by rw [dX.o,U.o,V.o];omega)
    go_wp2
    refine rg 99 (fun w'=>w'.c (wr.heap.size+1) 0=Y sl/\w'.c (wr.heap.size+1) 1=Y f/\w'.c w.heap.size f=Y un/\(Instr.lookup 294 (.map (some (w.heap.size+1+1))) (.agg #[J sl,J f]) false).run prog w'=.ok (J (cc+1)) w') H7.o fun u=>?_
    refine aq 0 ?_
    refine aq 2 ?_
    refine aq 4 ?_
    refine aq 6 ?_
    refine uk 8 ?_
    refine rd ?_
    go_wp2
    go_roundw
    case rel=>exact⟨k+1,oM,nQ,yr HA.o HT.o,HB.o.t X.o.drew,cY.o.gE (QA _ _).drew⟩
    case measure=>simp [intOf];omega
 have e:k=ops.length:=oM
 subst e;have bz:¬(ops.length:Int)<(ops.length:Int):=oM
 have F:=Z n;clear n r;go_wp2;go_ret;exact⟨zi HA.o.s,F.o⟩
def Tryz.i144:(prog.info? 144).map (fun i=>(i.zero,i.size,i.bytes))=some (some (.agg #[J 0,J 0,J 0,J 0,J 0,J 0,J 0,J 0,J 0]),9,72):=kR
def mg (l:List St):List vO:=l.flatMap fun x=>(zG x).toList
theorem If (l:List St) (x:St):mg l++(zG x).toList=mg (l++[x]):=by unfold mg;simp
def Ig (l:List St):∀i j,i<l.length->j<9->(mg l)[i*9+j]?=(zG (zc l i))[j]?:=by
 induction l with
 | nil=>intro i c h;exact absurd h (Qv _)
 | cons d l ih =>
  intro i j h b;show ((zG d).toList++mg l)[i*9+j]?=_;have a:(zG d).toList.length=9:=rfl;cases i with
  | zero =>rw [Wj lI,EY,QO,E6];rfl
  | succ i =>rw [Ww lI,a,show (i+1)*9+j - 9=i*9+j from lI,ih i j (by simpa using h) b];rfl
def Ih {l:List St} (h:w.ownsRow base 144 9 v l.length (mg l)):kY w v l:=by
 obtain⟨k,h⟩:=h;rcases h with ⟨rfl,hn⟩ | ⟨g,cap,a,rfl,f,hb,hn,hm,d,c⟩
 ·exact⟨none,0,by rw [hn],lI,Ql _,fun m=>lI⟩
 refine⟨_,cap,rfl,hn,hm,fun _=>⟨g,0,rfl,(lo hb),fun i hi j b=>?_⟩⟩;rw [Qa hb,<-Ig l i j hi b,<-c,We,Qf lI,QO];simp
def Ik (w:wO) (e:TypeId) (a:Nat):(w.alloc (.cells #[] e)).ownsRow w.heap.size e a (.slice (pA w.heap.size) 0 0) 0 []:=by refine⟨sM,.inr ⟨w.z,0,#[],rfl,Qc _,?_,Qc _,Ql _,sM,sM⟩⟩;show (w.heap.push _)[w.z]?=_;simp
def Il (l:List bt) (k:Nat) (h:k<l.length):Zx (l.take (k+1))=Zx (l.take k)++[jH (zv l k)]:=by
 have h1:l[k]?=some (zv l k):=by grind [zv]
 unfold Zx;rw [Wm,h1,QV];rfl
def Im (w:wO) (x:St) {B:Nat} (hB:w.heap.size=B):∀(j:Nat) (u:vO),(zG x).toList[j]?=some u->(w.alloc (.cells (zG x) 144)).cell? (((E B 0):Addr).add j)=some u:=by
 subst hB;intro j u b;have a:((E w.z 0):Addr).add j=(E w.z j):=by simp [Addr.add];lia
 simp_all
def In {x:St} {u:vO} (h:u∈(zG x).toList):u.oneCell':=by unfold zG at h;simp at h;rcases h with rfl | rfl | rfl | rfl | rfl | rfl | rfl | rfl | rfl <;> rfl
def Io (t:Tg) (pc st:Int) (ops:List bt) (ka:Option Addr) (kc:Nat) (a:Option Addr) (b:Nat) (logs:Li) (w:wO) (g:Y5 w (.slice ka ops.length kc) ops) (k:zM w (.slice a logs.length b) logs) (h:16<ops.length):Cp 104 #[(tV t),.agg #[J pc,J st,.slice ka ops.length kc],.slice a logs.length b] w (Rt w (.bool false)):=by
 obtain⟨i,j,d,l,f,c⟩:=g;injection d with e1 e2 e3;subst e1;subst e3;unfold maxLen at f;have hi:(16:Int)<(ops.length:Int):=oM
 clear c e2;go_enter func104,ntmps104;go_wp2;go_ret;exact⟨rfl,QB _ _ _⟩
def Ip (t:Tg) (pc st:Int) (ops:List bt) (ka:Option Addr) (kc:Nat) (c:Option Addr) (d:Nat) (logs:Li) (w:wO) (k:Y5 w (.slice ka ops.length kc) ops) (n:zM w (.slice c logs.length d) logs) (h:ops.length<=16) (b:zS t=false):Cp 104 #[(tV t),.agg #[J pc,J st,.slice ka ops.length kc],.slice c logs.length d] w (Rt w (.bool false)):=by
 obtain⟨l,m,i,o,j,g⟩:=k;injection i with e1 e2 e3;subst e1;subst e3;unfold maxLen at j;have hi:¬(16:Int)<(ops.length:Int):=oM
 have a:=Z (fun W=>b ▸ Y8 t W);clear g e2 b;go_enter func104,ntmps104;go_wp2_with fail;refine (a.o _).mr fun p hb=>?_;have f:=Z ((QB w _ _).t (hb.m sO));clear hb a;go_wp2;go_ret;exact⟨rfl,f.o⟩
def wU (t:Tg) (pc st:Int) (ops:List bt) (ka:Option Addr) (kc:Nat) (f:Option Addr) (g:Nat) (logs:Li) (w:wO) (n:Y5 w (.slice ka ops.length kc) ops) (q:zM w (.slice f logs.length g) logs) (h:ops.length<=16) (d:zS t) (b:br pc 1 200=false\/(br pc 1 200/\br st 1 1001=false)):Cp 104 #[(tV t),.agg #[J pc,J st,.slice ka ops.length kc],.slice f logs.length g] w (Rt w (.bool false)):=by
 obtain⟨o,p,l,r,m,k⟩:=n;injection l with e1 e2 e3;subst e1;subst e3;unfold maxLen at m;have hi:¬(16:Int)<(ops.length:Int):=oM
 have c:=Z (fun W=>d ▸ Y8 t W);clear k e2 d;rcases b with b | ⟨b,hs⟩
 all_goals
  go_enter func104,ntmps104
  go_wp2_with fail
  refine (c.o _).mr fun i hb=>?_
  have j:=Z ((QB w (tO t) (kB pc st ka ops.length kc)).t (hb.m sO))
  have k0:i.cell? (E (w.z+1) 0)=Y pc:=by rw [ze hb _ _ sM];go_simp
  have k1:i.cell? (E (w.z+1) 1)=Y st:=by rw [ze hb _ _ sM];go_simp
  clear hb c
  go_wp2_with (go_at_call 105;refine (zN _ _ _ _).mr fun w' a=>?_;have a:=a.s;subst a)
  go_ret
  exact⟨rfl,j.o⟩
def Iq (t:Tg) (pc st:Int) (ops:List bt) (ka:Option Addr) (kc:Nat) (U:Option Addr) (V:Nat) (logs:Li) (w:wO) (hK:Y5 w (.slice ka ops.length kc) ops) (cD:zM w (.slice U logs.length V) logs) (aI:ops.length<=16) (ht:zS t) (hp:br pc 1 200) (hs:br st 1 1001):Cp 104 #[(tV t),.agg #[J pc,J st,.slice ka ops.length kc],.slice U logs.length V] w (Rt w (.bool (zF (fun i=>xL pc st (zv ops i) && XL t.r (zv ops i)) ops.length && zQ ⟨logs,Zx ops,[]⟩ && lH t ops))):=by
 have bG:=Z hK;have cX:=Z cD;obtain⟨ka',kc',aS,cH,aT,aK⟩:=hK;injection aS with e1 e2 e3;subst e1;subst e3;unfold maxLen at aT;have fB:¬(16:Int)<(ops.length:Int):=oM
 obtain⟨bY,bZ⟩:=zH.1 hp;obtain⟨cg,cu⟩:=zH.1 hs;have aW:=(yi ht).2.2.2;obtain⟨eq,er⟩:=aW;(try simp only at eq er);obtain⟨i0,hi,ay,az,aA⟩:=info_parts Tryz.i144;have HT:=Z (fun W=>ht ▸ Y8 t W);have eY:Hid (∀x W,Cp 162 #[.agg #[J pc,J st,.slice ka ops.length kc],.agg (yZ x)] W (Rt W (.bool (xL pc st x)))):=fun x W=>G9 pc st _ x.sl x.sg x.o x.d x.a x.b x.ar x.sp x.pl x.nn W bY bZ cg cu;have eT:Hid (∀x W,Cp 163 #[(tV t),.agg (yZ x)] W (Rt W (.bool (XL t.r x)))):=fun x W=>He t x.sl x.sg x.o x.d x.a x.b x.ar x.sp x.pl x.nn W eq er;have cO:=Z aK;clear aK e2 ht;go_enter func104,ntmps104;go_wp2_with fail;apply (HT.o _).m;rintro e g ⟨rfl,hb⟩;have HB:=Z ((QB w (tO t) (kB pc st ka ops.length kc)).t (hb.m sO));have v:Hid (g.heap[w.heap.size]?=some (tO t)/\g.heap[w.heap.size+1]?=some (kB pc st ka ops.length kc)):=by
  refine⟨?_,?_⟩
  ·rw [hb.block _ sO,Qr _ _ _ sM];exact yB _ _ _
  rw [hb.block _ sM];have e:(w.alloc (tO t)).heap.size=w.heap.size+1:=sM
  rw [<-e];exact yB _ _ _
 have k0:g.cell? (E (w.heap.size+1) 0)=Y pc:=by rw [Qa v.o.2];rfl
 have k1:g.cell? (E (w.heap.size+1) 1)=Y st:=by rw [Qa v.o.2];rfl
 have C:g.cell? (E (w.heap.size+1) 2)=some (.slice ka ops.length kc):=by rw [Qa v.o.2];rfl
 have hz:w.heap.size+1<g.heap.size:=by have:=hb.size;simp at this;omega
 clear hb HT;go_wp2_with (go_at_call 105;apply (zN _ _ _ _).m;rintro e w' ⟨rfl,aa⟩;have aa:=aa.s;subst aa);go_loopw [7,33] (fun bv i wr=>∃k:Nat,k<=ops.length/\i=J k/\zF (fun i=>xL pc st (zv ops i) && XL t.r (zv ops i)) k/\Bw g wr/\∃B bc,bv=.slice B k bc/\wr.ownsRow g.heap.size 144 9 (.slice B k bc) k (mg (Zx (ops.take k)))) (fun _ i _=>ops.length - (intOf i).toNat)
 case atStart=>exact⟨0,Ql _,rfl,rfl,Qd _ _,_,0,rfl,Ik g 144 9⟩
 clear k0 k1 C;obtain⟨k,hk,rfl,hall,n,B,bc,rfl,gJ⟩:=hrel;have HA:=Z hall;have eF:=Z n;have F:=Z gJ;have aO:=n.size;have f:=Z (HB.o.t (n.m oM));have T:Hid (wr.heap[w.heap.size]?=some (tO t)/\wr.heap[w.heap.size+1]?=some (kB pc st ka ops.length kc)):=⟨by rw [n.block _ oM];exact v.o.1,by rw [n.block _ oM];exact v.o.2⟩;clear hall gJ n;by_cases ag:k<ops.length
 ·have bz:(k:Int)<(ops.length:Int):=oM
  obtain⟨ob,oo,rfl,dI,af⟩:=cO.o oM;obtain⟨H,I,K,L,M,N,O,P,Q,R⟩:=jP (af k ag);rw [<-ze f.o _ _ dI] at H I K L M N O P Q R;have dJ:ob<wr.heap.size:=oM
  have dm:=Z (Il ops k ag);have di:=Z (Hi (zv ops k));have au:=Z (eY.o (zv ops k));have df:=Z (eT.o (zv ops k));have s:Hid (∀b,(xL pc st (zv ops k) && XL t.r (zv ops k))=b->b=false->zF (fun i=>xL pc st (zv ops i) && XL t.r (zv ops i)) ops.length=false):=fun b h1 h2=>yd ag (h1.t h2);have G:Hid ((xL pc st (zv ops k) && XL t.r (zv ops k))->zF (fun i=>xL pc st (zv ops i) && XL t.r (zv ops i)) (k+1)):=fun h=>yr HA.o h;clear af;obtain⟨p,cx⟩:∃p,zv ops k=p:=⟨_,rfl⟩;rw [cx] at H I K L M N O P Q R dm di au df s G;clear cx;obtain⟨vT,eB⟩:∃b,xL pc st p=b:=⟨_,rfl⟩;obtain⟨vR,eA⟩:∃b,XL t.r p=b:=⟨_,rfl⟩;rw [eB] at au s G;rw [eA] at df s G;have dW:Hid (∃z,jH p=z):=⟨_,rfl⟩;obtain⟨zk,eC⟩:=dW.o;rw [eC] at di dm;clear eB eA eC dW;obtain⟨sl,sg,o,d,a,b,ar,sp,pl,nn⟩:=p;obtain⟨z0,z1,z2,z3,z4,z5,z6,z7,z8⟩:=zk;(try simp only at H I K L M N O P Q R);have dj:Hid (∀W,Cp 164 #[.agg #[J sl,J sg,J o,J d,J a,J b,J ar,J sp,J pl,J nn]] W (Rt W (.agg #[J z0,J z1,J z2,J z3,J z4,J z5,J z6,J z7,J z8]))):=di.o;have b0:=Qa T.o.1;have b1:=Qa T.o.2;have X:wr.cell? (E w.heap.size 0)=Y t.u0:=by rw [b0];rfl
  have t1:wr.cell? (E w.heap.size 1)=Y t.u1:=by rw [b0];rfl
  have t2:wr.cell? (E w.heap.size 2)=Y t.u2:=by rw [b0];rfl
  have t3:wr.cell? (E w.heap.size 3)=Y t.w0:=by rw [b0];rfl
  have t4:wr.cell? (E w.heap.size 4)=Y t.w1:=by rw [b0];rfl
  have t5:wr.cell? (E w.heap.size 5)=Y t.w2:=by rw [b0];rfl
  have t6:wr.cell? (E w.heap.size 6)=Y t.r:=by rw [b0];rfl
  have k0:wr.cell? (E (w.heap.size+1) 0)=Y pc:=by rw [b1];rfl
  have k1:wr.cell? (E (w.heap.size+1) 1)=Y st:=by rw [b1];rfl
  have C:wr.cell? (E (w.heap.size+1) 2)=some (vE ob oo ops.length kc):=by rw [b1];rfl
  have eD:w.heap.size+1<wr.heap.size:=oM
  have bD:w.heap.size<wr.heap.size:=oM
  clear b0 b1;go_wp2_with fail;apply (au.o _).m;rintro e D ⟨rfl,c⟩;have y:=ze c;have j:=Z ((Qd wr (.cells #[J sl,J sg,J o,J d,J a,J b,J ar,J sp,J pl,J nn] 79)).t (c.m sM));have fO:=lZ (show D.heap[wr.heap.size]?=some (.cells #[J sl,J sg,J o,J d,J a,J b,J ar,J sp,J pl,J nn] 79 (0,0)) by rw [c.block _ sM];exact yB _ _ _);have cA:wr.heap.size<D.heap.size:=by have:=c.size;simp at this;omega
  have A:=ze j.o;rw [<-A _ _ bD] at X t1 t2 t3 t4 t5 t6;clear c y A H I K L M N O P Q R k0 k1 C;cases vT with
  | false =>have HF:=Z (s.o _ rfl rfl);go_wp2_with fail;go_ret;refine⟨zi ?_,f.o.tm j.o⟩;rw [HF.o];rfl
  | true =>
   obtain⟨x20,x21,x22,x23,x24,x25,x26,x27,x28,x29⟩:=fO;go_wp2_with fail;apply (df.o _).m;rintro e x3 ⟨rfl,l⟩;have q:=Z (j.o.tm l);have A:=ze l;rw [<-A _ _ cA] at x20 x21 x22 x23 x24 x25 x26 x27 x28 x29;have gd:wr.heap.size<x3.heap.size:=(by have:=l.size;omega);clear l A X t1 t2 t3 t4 t5 t6;cases vR with
   | false =>have HF:=Z (s.o _ rfl rfl);go_wp2_with fail;go_ret;refine⟨zi ?_,f.o.tm q.o⟩;rw [HF.o];rfl
   | true =>
    have HY:=Z (G.o rfl);go_wp2_with fail;apply (dj.o _).m;rintro e x4 ⟨rfl,ee⟩;have S:=Z (q.o.tm ee);have eP:=Z (zp F.o (S.o.alloc S.o.size (nB z0 z1 z2 z3 z4 z5 z6 z7 z8)));have gh:g.heap.size<=x4.heap.size:=(by have:=S.o.size;omega);clear ee;go_wp2_with (at_builtin;refine QQ _ rfl (.tmp 47) (.tmp 50) 60 rfl g.heap.size 144 i0 (.agg #[J 0,J 0,J 0,J 0,J 0,J 0,J 0,J 0,J 0]) 9 72 underlying60 hi ay az aA rfl tQ _ _ _ rfl eP.o (E x4.heap.size 0) 1 1 (zG ⟨z0,z1,z2,z3,z4,z5,z6,z7,z8⟩).toList rfl rfl (by exact Im x4 ⟨z0,z1,z2,z3,z4,z5,z6,z7,z8⟩ rfl) (by intro u hu;exact In hu) mL oM sO ?_;intro v1 w5 gM gL m;obtain⟨ba2,bc2,rfl,-,-⟩:=zD gM;have eQ:=Z gM;have bF:=Z gL;clear gM gL m);go_roundw
    case rel =>
     refine⟨k+1,oM,nQ,HY.o,?_,ba2,bc2,rfl,?_⟩
     ·exact ((eF.o.t (S.o.m aO)).alloc oM _).grown bF.o sO (zE F.o)
     rw [dm.o,<-If];exact eQ.o
    simp [intOf];omega
 have e:k=ops.length:=oM
 subst e;rw [Wd] at F;have bz:¬(ops.length:Int)<(ops.length:Int):=oM
 have eL:Hid (zI wr (.agg #[.slice U logs.length V,.slice B ops.length bc,sN]) ⟨logs,Zx ops,[]⟩):=by refine⟨_,_,_,rfl,cX.o.gE f.o,?_,none,0,rfl,Qc _,Ql _,fun i hi=>absurd hi (Qv _),fun hp=>absurd hp (Qv _)⟩;have h:=F.o;rw [<-oZ ops] at h ⊢;exact Ih h
 have dh:Hid (∀x∈ops,0<=x.sl/\x.sl<=1000):=fun x hx=>by
  obtain⟨i,hi,rfl⟩:=Wl.1 hx;have h:=zq HA.o i hi;have e:zv ops i=ops[i]:=by unfold zv;simp_all
  rw [e] at h;simp only [Qg] at h;have h1:=h.1;unfold xL at h1;simp only [Qg] at h1;have h2:=zH.1 h1.1.1;omega
 have b0:=Qa T.o.1;have b1:=Qa T.o.2;have X:wr.cell? (E w.heap.size 0)=Y t.u0:=by rw [b0];rfl
 have t1:wr.cell? (E w.heap.size 1)=Y t.u1:=by rw [b0];rfl
 have t2:wr.cell? (E w.heap.size 2)=Y t.u2:=by rw [b0];rfl
 have t3:wr.cell? (E w.heap.size 3)=Y t.w0:=by rw [b0];rfl
 have t4:wr.cell? (E w.heap.size 4)=Y t.w1:=by rw [b0];rfl
 have t5:wr.cell? (E w.heap.size 5)=Y t.w2:=by rw [b0];rfl
 have t6:wr.cell? (E w.heap.size 6)=Y t.r:=by rw [b0];rfl
 have k0:wr.cell? (E (w.heap.size+1) 0)=Y pc:=by rw [b1];rfl
 have k1:wr.cell? (E (w.heap.size+1) 1)=Y st:=by rw [b1];rfl
 have C:wr.cell? (E (w.heap.size+1) 2)=some (.slice ka ops.length kc):=by rw [b1];rfl
 have eD:w.heap.size+1<wr.heap.size:=oM
 have bD:w.heap.size<wr.heap.size:=oM
 obtain⟨vM,dK⟩:∃b,zQ ⟨logs,Zx ops,[]⟩=b:=⟨_,rfl⟩;obtain⟨vU,dL⟩:∃b,lH t ops=b:=⟨_,rfl⟩;have dQ:Hid (Cp 43 #[.agg #[.slice U logs.length V,.slice B ops.length bc,sN]] wr (Rt wr (.bool vM))):=dK ▸ Yo _ _ wr eL.o
 have fc:Hid (∀x,Bw wr x->Cp 165 #[(tV t),.agg #[J pc,J st,.slice ka ops.length kc]] x (Rt x (.bool vU))):=fun x hx=>by rw [<-dL];exact H' t pc st ops ka kc x (bG.o.gE (f.o.tm hx)) aI dh.o
 have bM:Hid ((zF (fun i=>xL pc st (zv ops i) && XL t.r (zv ops i)) ops.length && zQ ⟨logs,Zx ops,[]⟩ && lH t ops)=(vM && vU)):=by show _=_;rw [HA.o,dK,dL];rfl
 clear b0 b1 dK dL;cases vM with
 | false =>go_wp2_with fail;apply dQ.o.m;rintro e D ⟨rfl,c⟩;have j:=Z (f.o.tm c);clear c;go_wp2_with fail;go_ret;exact⟨zi (by rw [bM.o];rfl),j.o⟩
 | true =>go_wp2_with fail;apply dQ.o.m;rintro e D ⟨rfl,c⟩;have j:=Z (f.o.tm c);have eZ:=Z (fc.o D c);have y:=ze c;rw [<-y _ _ bD] at X t1 t2 t3 t4 t5 t6;rw [<-y _ _ eD] at k0 k1 C;clear c y;go_wp2_with fail;apply eZ.o.m;rintro e x3 ⟨rfl,l⟩;have q:=Z (j.o.tm l);clear l;go_wp2;go_ret;exact⟨zi (by rw [bM.o];rfl),q.o⟩
theorem ss (t:Tg) (kv:vO) (K:Kn) (f:Option Addr) (g:Nat) (logs:Li) (w:wO) (o:yQ w kv K) (j:zM w (.slice f logs.length g) logs) :
  Cp 104 #[.agg t.cells,kv,.slice f logs.length g] w (Rt w (.bool (X7 t K logs))):=by
 obtain⟨a,p1,p2,b,c,d,r⟩:=t;obtain⟨pc,st,ops⟩:=K;obtain⟨p,rfl,n⟩:=o;have h:=n;obtain⟨ka,kc,rfl,-⟩:=n;rw [<-GI];by_cases k:ops.length<=16
 ·cases l:zS ⟨a,p1,p2,b,c,d,r⟩ with
  | false =>have e:jO ⟨a,p1,p2,b,c,d,r⟩ ⟨pc,st,ops⟩ logs=false:=(by grind [jO]);rw [e];exact Ip ⟨a,p1,p2,b,c,d,r⟩ pc st ops ka kc f g logs w h j k l
  | true =>
   cases m:br pc 1 200 with
   | false =>have e:jO ⟨a,p1,p2,b,c,d,r⟩ ⟨pc,st,ops⟩ logs=false:=(by grind [jO]);rw [e];exact wU ⟨a,p1,p2,b,c,d,r⟩ pc st ops ka kc f g logs w h j k l (.inl m)
   | true =>
    cases hs:br st 1 1001 with
    | false =>have e:jO ⟨a,p1,p2,b,c,d,r⟩ ⟨pc,st,ops⟩ logs=false:=(by grind [jO]);rw [e];exact wU ⟨a,p1,p2,b,c,d,r⟩ pc st ops ka kc f g logs w h j k l (.inr ⟨m,hs⟩)
    | true =>have e:jO ⟨a,p1,p2,b,c,d,r⟩ ⟨pc,st,ops⟩ logs=(zF (fun i=>xL pc st (zv ops i) && XL r (zv ops i)) ops.length && zQ ⟨logs,Zx ops,[]⟩ && lH ⟨a,p1,p2,b,c,d,r⟩ ops):=(by grind [jO]);rw [e];exact Iq ⟨a,p1,p2,b,c,d,r⟩ pc st ops ka kc f g logs w h j k l m hs
 have e:jO ⟨a,p1,p2,b,c,d,r⟩ ⟨pc,st,ops⟩ logs=false:=by grind [jO]
 rw [e];exact Io ⟨a,p1,p2,b,c,d,r⟩ pc st ops ka kc f g logs w h j lI
section
set_option maxRecDepth 100000
def XR:Lib.len8tab.size=256:=kR
def Ir (n:Int) (w:wO) (h0:0<=n) (hn:n<=18446744073709551615):Cp 140 #[.int .u64 n] w fun e w'=>∃r,e=.returned (J r)/\w'=w:=by
 have a:=XR;go_enter func140,ntmps140;go_wp2
 all_goals first
  | (go_ret;exact⟨_,rfl,rfl⟩)
  | (exfalso;omega)
def Is (n:Nat) (w:wO) (hn:n<=9223372036854775807):Cp 87 #[.int .u64 n] w fun e w'=>∃r,e=.returned (J r)/\w'=w:=by have H:=Z (Ir n w oM oM);go_enter func87,ntmps87;go_wp2_with fail;apply H.o.m;rintro e w' ⟨r,rfl,rfl⟩;go_wp2;go_ret;exact⟨_,rfl,rfl⟩
def It (w:wO):Cp 140 #[.int .u64 1] w (Re w (J 1)):=by
 have a:=XR;have b:Lib.len8 1=1:=by rw [Lib.len8_of _ oM oM];decide
 go_enter func140,ntmps140;go_wp2;go_ret;exact⟨rfl,rfl⟩
def Iu (w:wO):Cp 87 #[.int .u64 1] w (Re w (J 1)):=by have H:=Z (It w);go_enter func87,ntmps87;go_wp2_with fail;apply H.o.m;rintro e w' ⟨rfl,rfl⟩;go_wp2;go_ret;exact⟨rfl,rfl⟩
def Iv (w:wO):Cp 140 #[.int .u64 2] w (Re w (J 2)):=by
 have a:=XR;have b:Lib.len8 2=2:=by rw [Lib.len8_of _ oM oM];decide
 go_enter func140,ntmps140;go_wp2;go_ret;exact⟨rfl,rfl⟩
def Iw (w:wO):Cp 87 #[.int .u64 2] w (Re w (J 2)):=by have H:=Z (Iv w);go_enter func87,ntmps87;go_wp2_with fail;apply H.o.m;rintro e w' ⟨rfl,rfl⟩;go_wp2;go_ret;exact⟨rfl,rfl⟩
def Ix (w:wO):Cp 140 #[.int .u64 4] w (Re w (J 3)):=by
 have a:=XR;have b:Lib.len8 4=3:=by rw [Lib.len8_of _ oM oM];decide
 go_enter func140,ntmps140;go_wp2;go_ret;exact⟨rfl,rfl⟩
def Iy (w:wO):Cp 87 #[.int .u64 4] w (Re w (J 3)):=by have H:=Z (Ix w);go_enter func87,ntmps87;go_wp2_with fail;apply H.o.m;rintro e w' ⟨rfl,rfl⟩;go_wp2;go_ret;exact⟨rfl,rfl⟩
def Iz (w:wO):Cp 140 #[.int .u64 8] w (Re w (J 4)):=by
 have a:=XR;have b:Lib.len8 8=4:=by rw [Lib.len8_of _ oM oM];decide
 go_enter func140,ntmps140;go_wp2;go_ret;exact⟨rfl,rfl⟩
def IA (w:wO):Cp 87 #[.int .u64 8] w (Re w (J 4)):=by have H:=Z (Iz w);go_enter func87,ntmps87;go_wp2_with fail;apply H.o.m;rintro e w' ⟨rfl,rfl⟩;go_wp2;go_ret;exact⟨rfl,rfl⟩
def IB (w:wO):Cp 140 #[.int .u64 16] w (Re w (J 5)):=by
 have a:=XR;have b:Lib.len8 16=5:=by rw [Lib.len8_of _ oM oM];decide
 go_enter func140,ntmps140;go_wp2;go_ret;exact⟨rfl,rfl⟩
def IC (w:wO):Cp 87 #[.int .u64 16] w (Re w (J 5)):=by have H:=Z (IB w);go_enter func87,ntmps87;go_wp2_with fail;apply H.o.m;rintro e w' ⟨rfl,rfl⟩;go_wp2;go_ret;exact⟨rfl,rfl⟩
def ID (w:wO):Cp 140 #[.int .u64 32] w (Re w (J 6)):=by
 have a:=XR;have b:Lib.len8 32=6:=by rw [Lib.len8_of _ oM oM];decide
 go_enter func140,ntmps140;go_wp2;go_ret;exact⟨rfl,rfl⟩
def IE (w:wO):Cp 87 #[.int .u64 32] w (Re w (J 6)):=by have H:=Z (ID w);go_enter func87,ntmps87;go_wp2_with fail;apply H.o.m;rintro e w' ⟨rfl,rfl⟩;go_wp2;go_ret;exact⟨rfl,rfl⟩
def IF (n:Nat):(n=1/\Z8 n=0)\/(n=2/\Z8 n=1)\/(n=4/\Z8 n=2)\/(n=8/\Z8 n=3)\/(n=16/\Z8 n=4)\/(n=32/\Z8 n=5)\/(Z8 n=6/\n≠1/\n≠2/\n≠4/\n≠8/\n≠16/\n≠32):=by
 by_cases h1:n=1
 ·subst h1;exact .inl ⟨rfl,rfl⟩
 by_cases a:n=2
 ·subst a;exact .inr (.inl ⟨rfl,rfl⟩)
 by_cases b:n=4
 ·subst b;exact .inr (.inr (.inl ⟨rfl,rfl⟩))
 grind [Z8]
def kS (w:wO) (M:List Li) (e:Ending) (w':wO):Prop :=
 ∃lv,e=.returned (.tuple #[lv,.bool (Zz M && decide (M.length<=3))])/\(Zz M->M.length<=3->w'.ownsRow w.heap.size 3 1 lv (zK M).length ((zK M).map (Value.int .i64)))/\(∃la ll lc,lv=.slice la ll lc)/\Bw w w'
def kS.no {M:List Li} (h:Zz M=false\/¬M.length<=3) (hb:Bw w w'):kS w M (.returned (.tuple #[.slice none 0 0,.bool false])) w':=by grind [kS]
def wV (v:vO) (M:List Li) (w:wO) (h:yu w v M) :
  Cp 103 #[v] w fun e w'=>kS w M e w':=by
 obtain⟨ma,mcap,rfl,ml,mm,X⟩:=h;unfold maxLen at mm;obtain⟨H,hi,F,G,D⟩:=info_parts Tryz.i3;have cZ:=Z X;clear X;by_cases W:M.length<=3
 ·have fi:¬(3:Int)<(M.length:Int):=oM
  have HD:Hid (decide (M.length<=3)):=Qi W;go_enter func103,ntmps103;go_wp2;go_loopw [4,14] (fun l i wr=>∃k:Nat,k<=M.length/\i=.int .i64 k/\zF (fun i=>oG (zB M i)) k/\Bw w wr/\∃N O,l=.slice N k O/\wr.ownsRow w.heap.size 3 1 (.slice N k O) k (((zK M).take k).map (Value.int .i64))) (fun _ i _=>M.length - (intOf i).toNat)
  case atStart=>exact⟨0,Ql _,rfl,rfl,Qd _ _,_,0,rfl,VL w 3⟩
  obtain⟨k,hk,rfl,hall,L,N,O,rfl,V⟩:=hrel;have y:=Z hall;have s:=Z L;have p:=Z V;have aO:=L.size;clear hall V;by_cases A:k<M.length
  ·have bz:(k:Int)<(M.length:Int):=(by omega);obtain⟨b,off,rfl,hb,U⟩:=cZ.o oM;obtain⟨u,g,⟨ra,rc,rfl,rl,rm,rr,C⟩⟩:=U k A;rw [<-ze L _ _ hb] at g;have fU:b<wr.heap.size:=(by omega);unfold maxLen at rm;clear rr C U L;have x:=Z (Mx M k A);have eJ:Hid (∀b,oG (zB M k)=b->decide (Z8 (zB M k).length<6)=b):=fun b h=>h;have R:Hid (Z8 (zB M k).length=6->Zz M=false):=fun h=>yd A (by show decide (Z8 _<6)=false;rw [h];rfl);have t:Hid (Z8 (zB M k).length<6->oG (zB M k)):=fun h=>Qi h;obtain⟨n,hn⟩:=nm ((zB M k).length);rw [hn] at g x R t rl;clear hn eJ;rename wO=>wo;rcases IF n with ⟨rfl,f⟩ | ⟨rfl,f⟩ | ⟨rfl,f⟩ | ⟨rfl,f⟩ | ⟨rfl,f⟩ | ⟨rfl,f⟩ | ⟨f,n1,n2,n4,n8,S,T⟩
   ·have z:br 0 0 5:=rfl;have j:=Z f;clear f
    go_wp2_with (first
     | (go_at_call 87;refine (Iu _).mr fun w' a=>?_;have a:=a.s;subst a)
     | (go_at_call 105;refine (zN _ _ _ _).mr fun w' a=>?_;have a:=a.s;subst a)
     | (at_builtin;refine QQ _ rfl (.tmp 33) (.tmp 35) 34 rfl w.heap.size 3 H (.int .i64 0) 1 8 underlying34 hi F G D rfl tQ _ _ _ rfl (zp p.o (Qd _ _)) (E wo.heap.size 0) 1 1 [.int .i64 0] rfl rfl (by exact xH _ _ _) (by intro u g;simp at g;subst g;rfl) mL oM sO ?_;intro P w1 d m c;obtain⟨I,K,rfl,-,-,-,-⟩:=yC d (.inr oM);have o:=Z d;have q:=Z m;clear d m c))
    go_roundw
    case rel =>
     refine⟨k+1,oM,nQ,yr y.o (t.o (by rw [j.o];omega)),?_,_,_,rfl,?_⟩
     ·exact (s.o.alloc oM _).grown q.o sO (zR p.o)
     rw [<-x.o,j.o];exact o.o
    simp [intOf];omega
   ·have z:br 1 0 5:=rfl;have j:=Z f;clear f
    go_wp2_with (first
     | (go_at_call 87;refine (Iw _).mr fun w' a=>?_;have a:=a.s;subst a)
     | (go_at_call 105;refine (zN _ _ _ _).mr fun w' a=>?_;have a:=a.s;subst a)
     | (at_builtin;refine QQ _ rfl (.tmp 33) (.tmp 35) 34 rfl w.heap.size 3 H (.int .i64 0) 1 8 underlying34 hi F G D rfl tQ _ _ _ rfl (zp p.o (Qd _ _)) (E wo.heap.size 0) 1 1 [.int .i64 1] rfl rfl (by exact xH _ _ _) (by intro u g;simp at g;subst g;rfl) mL oM sO ?_;intro P w1 d m c;obtain⟨I,K,rfl,-,-,-,-⟩:=yC d (.inr oM);have o:=Z d;have q:=Z m;clear d m c))
    go_roundw
    case rel =>
     refine⟨k+1,oM,nQ,yr y.o (t.o (by rw [j.o];omega)),?_,_,_,rfl,?_⟩
     ·exact (s.o.alloc oM _).grown q.o sO (zR p.o)
     rw [<-x.o,j.o];exact o.o
    simp [intOf];omega
   ·have z:br 2 0 5:=rfl;have j:=Z f;clear f
    go_wp2_with (first
     | (go_at_call 87;refine (Iy _).mr fun w' a=>?_;have a:=a.s;subst a)
     | (go_at_call 105;refine (zN _ _ _ _).mr fun w' a=>?_;have a:=a.s;subst a)
     | (at_builtin;refine QQ _ rfl (.tmp 33) (.tmp 35) 34 rfl w.heap.size 3 H (.int .i64 0) 1 8 underlying34 hi F G D rfl tQ _ _ _ rfl (zp p.o (Qd _ _)) (E wo.heap.size 0) 1 1 [.int .i64 2] rfl rfl (by exact xH _ _ _) (by intro u g;simp at g;subst g;rfl) mL oM sO ?_;intro P w1 d m c;obtain⟨I,K,rfl,-,-,-,-⟩:=yC d (.inr oM);have o:=Z d;have q:=Z m;clear d m c))
    go_roundw
    case rel =>
     refine⟨k+1,oM,nQ,yr y.o (t.o (by rw [j.o];omega)),?_,_,_,rfl,?_⟩
     ·exact (s.o.alloc oM _).grown q.o sO (zR p.o)
     rw [<-x.o,j.o];exact o.o
    simp [intOf];omega
   ·have z:br 3 0 5:=rfl;have j:=Z f;clear f
    go_wp2_with (first
     | (go_at_call 87;refine (IA _).mr fun w' a=>?_;have a:=a.s;subst a)
     | (go_at_call 105;refine (zN _ _ _ _).mr fun w' a=>?_;have a:=a.s;subst a)
     | (at_builtin;refine QQ _ rfl (.tmp 33) (.tmp 35) 34 rfl w.heap.size 3 H (.int .i64 0) 1 8 underlying34 hi F G D rfl tQ _ _ _ rfl (zp p.o (Qd _ _)) (E wo.heap.size 0) 1 1 [.int .i64 3] rfl rfl (by exact xH _ _ _) (by intro u g;simp at g;subst g;rfl) mL oM sO ?_;intro P w1 d m c;obtain⟨I,K,rfl,-,-,-,-⟩:=yC d (.inr oM);have o:=Z d;have q:=Z m;clear d m c))
    go_roundw
    case rel =>
     refine⟨k+1,oM,nQ,yr y.o (t.o (by rw [j.o];omega)),?_,_,_,rfl,?_⟩
     ·exact (s.o.alloc oM _).grown q.o sO (zR p.o)
     rw [<-x.o,j.o];exact o.o
    simp [intOf];omega
   ·have z:br 4 0 5:=rfl;have j:=Z f;clear f
    go_wp2_with (first
     | (go_at_call 87;refine (IC _).mr fun w' a=>?_;have a:=a.s;subst a)
     | (go_at_call 105;refine (zN _ _ _ _).mr fun w' a=>?_;have a:=a.s;subst a)
     | (at_builtin;refine QQ _ rfl (.tmp 33) (.tmp 35) 34 rfl w.heap.size 3 H (.int .i64 0) 1 8 underlying34 hi F G D rfl tQ _ _ _ rfl (zp p.o (Qd _ _)) (E wo.heap.size 0) 1 1 [.int .i64 4] rfl rfl (by exact xH _ _ _) (by intro u g;simp at g;subst g;rfl) mL oM sO ?_;intro P w1 d m c;obtain⟨I,K,rfl,-,-,-,-⟩:=yC d (.inr oM);have o:=Z d;have q:=Z m;clear d m c))
    go_roundw
    case rel =>
     refine⟨k+1,oM,nQ,yr y.o (t.o (by rw [j.o];omega)),?_,_,_,rfl,?_⟩
     ·exact (s.o.alloc oM _).grown q.o sO (zR p.o)
     rw [<-x.o,j.o];exact o.o
    simp [intOf];omega
   ·have z:br 5 0 5:=rfl;have j:=Z f;clear f
    go_wp2_with (first
     | (go_at_call 87;refine (IE _).mr fun w' a=>?_;have a:=a.s;subst a)
     | (go_at_call 105;refine (zN _ _ _ _).mr fun w' a=>?_;have a:=a.s;subst a)
     | (at_builtin;refine QQ _ rfl (.tmp 33) (.tmp 35) 34 rfl w.heap.size 3 H (.int .i64 0) 1 8 underlying34 hi F G D rfl tQ _ _ _ rfl (zp p.o (Qd _ _)) (E wo.heap.size 0) 1 1 [.int .i64 5] rfl rfl (by exact xH _ _ _) (by intro u g;simp at g;subst g;rfl) mL oM sO ?_;intro P w1 d m c;obtain⟨I,K,rfl,-,-,-,-⟩:=yC d (.inr oM);have o:=Z d;have q:=Z m;clear d m c))
    go_roundw
    case rel =>
     refine⟨k+1,oM,nQ,yr y.o (t.o (by rw [j.o];omega)),?_,_,_,rfl,?_⟩
     ·exact (s.o.alloc oM _).grown q.o sO (zR p.o)
     rw [<-x.o,j.o];exact o.o
    simp [intOf];omega
   have Q:Hid (Zz M=false):=R.o f;have b1:((n:Int) == 1)=false:=QM.2 oM;have b2:((n:Int) == 2)=false:=QM.2 oM;have b4:((n:Int) == 4)=false:=QM.2 oM;have b8:((n:Int) == 8)=false:=QM.2 oM;have b16:((n:Int) == 16)=false:=QM.2 oM;have b32:((n:Int) == 32)=false:=QM.2 oM;clear f n1 n2 n4 n8 S T x t R;go_wp2_with fail;refine (Is n _ oM).m ?_;rintro e w' ⟨r,rfl,rfl⟩;obtain⟨B,bC⟩:=nm (wrap64 (r - 1));cases z:br B 0 5 with
   | false =>go_wp2_with (go_at_call 105;refine (zN _ _ _ _).m ?_;rintro e w' ⟨rfl,rfl⟩);exact oB (kS.no (.inl Q.o) s.o)
   | true =>
    have fC:=zH.1 z;obtain rfl | rfl | rfl | rfl | rfl | rfl:B=0\/B=1\/B=2\/B=3\/B=4\/B=5:=oM
    all_goals
     clear fC
     go_wp2_with (go_at_call 105;refine (zN _ _ _ _).m ?_;rintro e w' ⟨rfl,rfl⟩)
     exact oB (kS.no (.inl Q.o) s.o)
  have e:k=M.length:=oM
  subst e;have bz:¬(M.length:Int)<(M.length:Int):=oM
  have Q:Hid (Zz M):=y.o;have o:Hid (wr.ownsRow w.heap.size 3 1 (.slice N M.length O) (zK M).length ((zK M).map (Value.int .i64))):=by grind [zK]
  clear L;go_wp2;exact bodyPost_ret (v:=.tuple #[.slice N M.length O,.bool true]) (by simp [results,results103,go_sem]) rfl ⟨_,by rw [Q.o,HD.o];rfl,fun _ _=>o.o,⟨_,_,_,rfl⟩,s.o⟩
 have fi:(3:Int)<(M.length:Int):=oM
 have eN:=Z W;go_enter func103,ntmps103;go_wp2;exact bodyPost_ret (v:=.tuple #[sN,.bool false]) (by simp [results,results103,go_sem]) rfl (kS.no (.inr eN.o) (QA _ _))
end
section
def wW (v:vO) (zs:Li) (w:wO) (h:zM w v zs) (h0:0<zs.length) (K:zs.length<=128) :
  Cp 106 #[v] w fun e w'=>∃g cap,e=.returned (.slice (pA g) zs.length cap)/\w.heap.size<=g/\cap<=maxLen /\
   Zh w' g 2 cap zs.length (fun j=>J (ak zs j))/\Bw w w':=by
 obtain⟨a,rc,rfl,L,hm,hr,m⟩:=h
 unfold maxLen at hm
 obtain⟨b2,o,rfl,t,f⟩:=m h0
 obtain⟨I,hi,x,y,s⟩:=info_parts Tryz.i2
 have M:∀(w:wO) (a:Option Addr) (n c d c':Nat),(binOp .eql 56 (.slice a n c) (.slice none d c')).run prog w=.ok (.bool a.isNone) w:=fun w a n c d c'=>Lib.run_eql_slice_nil w _ _ a n c d c' underlying56
 have A:Bw w (w.alloc (.cells #[] 2)):=Qd _ _
 have p:Hid ((zs.map (Value.int .i64)).length=zs.length*1):=by show _=_;simp
 have q:Hid (∀j u,(zs.map (Value.int .i64))[j]?=some u->(w.alloc (.cells #[] 2)).cell? (((E b2 o):Addr).add j)=some u):=wD (fun i hi=>by
  rw [ze A _ _ t];exact f i hi)
 have r:=Z (wE zs)
 clear m f hr
 go_enter func106,ntmps106
 go_wp2_with (at_builtin;apply QQ _ rfl (.tmp 5) (.tmp 6) 56 rfl w.z 2 I (J 0) 1 8 underlying56 hi x y s rfl tQ _ _ _ rfl (VL w 2) (E b2 o) _ rc _ rfl p.o q.o r.o mL oM sM;intro N w1 l D b;obtain⟨B,C,rfl,-,-,-,-⟩:=yC l (.inr oM);have z:=wF D;have k:=Z l)
 go_ret
 simp only [QO] at k ⊢
 obtain⟨h1,F,G⟩:=uw k.o
 refine⟨B,C,rfl,h1,F,G.congr fun j H=>?_,z⟩
 rw [W8]
 exact VE zs j H
def kF (M:List Li) (i:Nat):Nat:=(zB M i).length
structure Vi (w0:wO) (A gr cr:Nat) (R:Li) (t:Tg) (pc st:Int) (kv lv:vO) (logs:Li) (gD:Int) (M:List Li) (k:Nat) (mv:vO) (G C:Nat->Nat) (wr:wO):Prop where
 bel:Bw w0 wr
 hA:wr.heap[A]?=some (.cells #[J t.u0,J t.u1,J t.u2,J t.w0,J t.w1,J t.w2,J t.r,J pc,J st,kv,lv,.slice (pA gr) R.length cr,mv,J gD,.slice none 0 0,.slice none 0 0,.slice none 0 0,.slice none 0 0,.slice none 0 0,.slice none 0 0] 183 (0,0))
 hAb:w0.heap.size<=A
 regs:zr wr gr 2 R.length (fun i=>J (ak R i))
 hr:w0.heap.size<=gr/\R.length<=cr/\cr<=maxLen
 o:wr.ownsRow w0.heap.size 56 1 mv k ((List.range k).map (YU G C (kF M)))
 inn:Xc wr w0.heap.size G C k (kF M) (fun i j=>ak (zB M i) j)
 rM:∀i,i<k->gr≠G i
 lgs:wr.ownsRow w0.heap.size 3 1 lv logs.length (logs.map (Value.int .i64))
variable {w0:wO} {A gr cr:Nat} {R:Li} {t:Tg} {pc st:Int} {kv lv:vO} {logs:Li} {gD:Int} {M:List Li} {k:Nat} {mv:vO} {G C:Nat->Nat} {wr:wO}
def Vi.A_lt (h:Vi w0 A gr cr R t pc st kv lv logs gD M k mv G C wr):A<wr.heap.size:=(lo h.hA)
def Vi.gE (h:Vi w0 A gr cr R t pc st kv lv logs gD M k mv G C wr) (hb:Bw wr x):Vi w0 A gr cr R t pc st kv lv logs gD M k mv G C x where
 bel:=h.bel.tm hb
 hA:=by rw [hb.block _ h.A_lt];exact h.hA
 hAb:=h.hAb
 regs:=h.regs.gE hb h.regs.lt
 hr:=h.hr
 o:=yJ h.o fun g a=>hb.block g (zA h.o g a)
 inn:=h.inn.gE hb
 rM:=h.rM
 lgs:=yJ h.lgs fun g a=>hb.block g (zA h.lgs g a)
theorem Vi.cell (h:Vi w0 A gr cr R t pc st kv lv logs gD M k mv G C wr):wr.cell? (E A 12)=some mv:=cb h.hA
def Vi.ends (h:Vi w0 A gr cr R t pc st kv lv logs gD M k mv G C wr):wr.cell? (E A 11)=some (.slice (pA gr) R.length cr)/\wr.cell? (E A 12)=some mv:=⟨cb h.hA,h.cell⟩
def Vi.grown (h:Vi w0 A gr cr R t pc st kv lv logs gD M k mv G C wr) (c:wr.grownBy w6 mv.ownBlock):w6.cell? (E A 12)=some mv/\w6.frozen? (E A 12)=false:=by have b:=nh h.o c h.hA tQ;exact⟨by rw [World.cell?_of_block (a:=(E A 12)) b];exact h.cell,by simp [World.frozen?,b,h.hA]⟩
def Vi.step {g cap x y B0:Nat} (h:Vi w0 A gr cr R t pc st kv lv logs gD M k mv G C wr) (l:Zh wr g 2 cap (kF M k) (fun j=>J (ak (zB M k) j))) (F:w0.heap.size<=g) (D:cap<=maxLen) (N:gr≠g) (K:∀i,i<k->G i≠g)
  (B:w6.ownsRow w0.heap.size 56 1 (.slice (pA x) (k+1) y) (k+1) (((List.range k).map (YU G C (kF M)))++[.slice (pA g) (kF M k) cap])) (m:wr.grownBy w6 mv.ownBlock) :
  Vi w0 A gr cr R t pc st kv lv logs gD M (k+1) (.slice (pA x) (k+1) y) (fun i=>if i=k then g else G i) (fun i=>if i=k then cap else C i) (w6.setCell (E A 12) (.slice (pA x) (k+1) y)):=by
 have p:=nh h.o m h.hA tQ;have r:∀{q:Nat} {e:TypeId} {n:Nat} {f:Nat->vO},zr wr q e n f->e≠56->w6.heap[q]?=wr.heap[q]?:=fun {q e n f} hr L=>by obtain⟨c,hb,_,_⟩:=hr;exact nh h.o m hb L
 have Q:A≠gr:=xN h.hA h.regs tQ;have P:A≠g:=xN h.hA l.row tQ;have O:∀i,i<k->A≠G i:=fun i hi=>xN h.hA (h.inn.1 i hi).2.2.2 tQ;refine { bel:=(h.bel.grown m h.bel.size (zE h.o)).setCell (by show w0.z<=A;exact h.hAb) _,hA:=?_,hAb:=h.hAb,regs:=?_,hr:=h.hr,o:=?_,inn:=?_,rM:=?_,lgs:=?_ }
 ·have hb:w6.heap[A]?=_:=p.t h.hA;simp [World.setCell,QC,hb]
 ·exact (h.regs.gG (r h.regs tQ)).gF rQ _
 ·rw [<-sd];exact yJ B fun q a=>Qj _ _ _ _ (by
   show q≠A;intro e;subst e;obtain⟨-,z⟩:=B;rcases z with ⟨b,_⟩ | ⟨v,d,s,b,_,o,_⟩
   ·cases b
   have u:v=q:=(by rw [b] at a;simpa [Value.ownBlock] using a);subst u;exact xZ (p.t h.hA) o tQ rfl)
 ·have h1:Xc w6 w0.z G C k (kF M) (fun i j=>ak (zB M i) j):=h.inn.keep fun i hi=>r (h.inn.1 i hi).2.2.2 tQ;have H:zr w6 g 2 (kF M k) (fun j=>J (ak (zB M k) j)):=l.row.gG (r l.row tQ);have I:=h1.snoc g cap F l.le D H K;refine I.keep fun i hi=>Qj _ _ _ _ ?_;grind
 ·intro i hi;by_cases e:i=k
  ·grind
  simp only [Qe e];exact h.rM i lI
 have h1:=yJ h.lgs fun q a=>m.block q (zA h.lgs q a) (Bh h.lgs h.o tQ q a);exact yJ h1 fun q a=>Qj _ _ _ _ (by
  show q≠A;intro e;subst e;obtain⟨-,z⟩:=h1;rcases z with ⟨b,_⟩ | ⟨v,d,s,b,_,o,_⟩
  ·rw [b] at a;cases a
  have u:v=q:=by rw [b] at a;simpa [Value.ownBlock] using a
  subst u;exact xZ (p.t h.hA) o tQ rfl)
def lK (w0 wr:wO) (A gr cr:Nat) (R:Li) (t:Tg) (pc st:Int) (kv lv:vO) (gD:Int) (M:List Li) (mv:vO) (G:Nat->Nat):Mc:=⟨w0,wr,A,t,pc,st,kv,lv,mv,gD,R.length,gr,cr,M.length,kF M,G⟩
def Vi.mach (h:Vi w0 A gr cr R t pc st kv lv logs gD M M.length mv G C wr):yA (lK w0 wr A gr cr R t pc st kv lv gD M mv G) (fun _=>.slice none 0 0) [] (fun i=>ak R i) (fun i j=>ak (zB M i) j) wr where
 bel:=h.bel
 keep:=⟨Qc _,fun _ _ _ _ _=>rfl⟩
 hA:=h.hA
 hA1:=⟨h.hAb,h.A_lt⟩
 regs:=h.regs
 hr:=⟨h.hr.1,h.regs.lt,h.hr.2⟩
 min:=fun i hi=>⟨(h.inn.1 i hi).1,(h.inn.1 i hi).2.2.2.lt,(h.inn.1 i hi).2.2.2⟩
 minj:=h.inn.2
 rM:=h.rM
 due:=fun j b=>World.ownsRow_nil _ _ _ _
 dinj:=fun i j _ _ _ g a=>by cases a
 w01:=h.bel.size
def Vi.stat (h:Vi w0 A gr cr R t pc st kv lv logs gD M M.length mv G C wr) (z:∀i,i<logs.length->-9223372036854775808<=ak logs i/\ak logs i<=9223372036854775807):∃gm a,∀x,Yy (lK w0 wr A gr cr R t pc st kv lv gD M mv G) x->lY (lK w0 wr A gr cr R t pc st kv lv gD M mv G) logs gm a C x/\(0<M.length->zr x gm 56 M.length (YU G C (kF M))/\w0.heap.size<=gm)/\∃k,mv=.slice k M.length a/\M.length<=a/\a<=maxLen:=by
 obtain⟨gm,a,n⟩:=MR.of_copy h.o h.inn;have l:∀(x:wO),Yy (lK w0 wr A gr cr R t pc st kv lv gD M mv G) x->∀(g:Nat) (r:Array vO) (e:TypeId),wr.heap[g]?=some (.cells r e (0,0))->e≠183->e≠2->x.heap[g]?=wr.heap[g]?:=fun x m g r e hb h1 y =>
  m.2 g (lo hb) (xZ hb h.hA h1) (xN hb h.regs y) (fun i hi=>xN hb (h.inn.1 i hi).2.2.2 y)
 refine⟨gm,a,fun x m=>?_⟩;have D:x.ownsRow w0.z 3 1 lv logs.length (logs.map (Value.int .i64)):=yJ h.lgs fun q j=>by
  obtain⟨-,K⟩:=h.lgs;rcases K with ⟨b,_⟩ | ⟨I,p,B,b,_,L,_⟩
  ·rw [b] at j;cases j
  have u:I=q:=by rw [b] at j;simpa [Value.ownBlock] using j
  grind
 have f:0<M.length->mv=vP gm M.length a/\zr x gm 56 M.length (YU G C (kF M))/\w0.z<=gm:=fun d=>by
  rcases n.o with e | ⟨H,s,b⟩
  ·lia
  refine⟨H,?_,b⟩;have u:=s;obtain⟨c,hb,_,_⟩:=s;exact u.gG (l x m _ _ _ hb tQ tQ)
 obtain⟨k,F,o,v⟩:=n.shape;exact⟨⟨Ub D z,fun d=>⟨(f d).1,o,v,(f d).2.1.lt⟩,fun i hi=>⟨(f (by show 0<M.length;have:i<M.length:=hi;lia)).2.1.cell hi,(h.inn.1 i hi).2.1,(h.inn.1 i hi).2.2.1⟩⟩,fun d=>(f d).2,k,F,o,v⟩
end
def wX:jK:=by grind [jK,ss]
def wY (w:wO) (t:Tg) (K:Kn) (R:Li) (M:List Li) (gD:Int) (e:Ending) (w':wO):Prop :=
 ∃ ra rc ma mc rl ml,e=.returned (.tuple #[.slice ra rl rc,.slice ma ml mc,J (Vt t K R.length M gD)])/\Bw w w' /\
   (Vt t K R.length M gD=0->zM w' (.slice ra rl rc) (nw R.length (UW t K (zK M) gD R M))/\yu w' (.slice ma ml mc) (rU M (UW t K (zK M) gD R M)))/\(Vt t K R.length M gD≠0->rl=0/\ml=0)
def wZ {M:List Li} (h:w.ownsRow base 3 1 v (zK M).length ((zK M).map (Value.int .i64))):zM w v (zK M) :=by grind [Ub,YF,Zn,uv]
def IG (t:Tg) (pc st:Int) (ops:List bt) (ka:Option Addr) (kc:Nat) (ra:Option Addr) (rc:Nat) (R:Li) (p:Option Addr) (q:Nat) (M:List Li) (gD:Int) (w:wO) (C:yQ w (.agg #[J pc,J st,.slice ka ops.length kc]) ⟨pc,st,ops⟩) (hR:zM w (.slice ra R.length rc) R) (n:yu w (.slice p M.length q) M) (o:(Zz M && decide (M.length<=3))) (hmay:X7 t ⟨pc,st,ops⟩ (zK M)) (hr:(R.length:Int)≠t.r):Cp 58 #[(tV t),.agg #[J pc,J st,.slice ka ops.length kc],.slice ra R.length rc,.slice p M.length q,J gD] w (Rt w (.tuple #[.slice none 0 0,.slice none 0 0,J 2])):=by
 have G:=Z C;have v:=Z n;have dV:=Z hR;have H:Hid (Bw w ((w.alloc (tO t)).alloc (kB pc st ka ops.length kc))):=QB _ _ _;have j:=Z (wV (.slice p M.length q) M ((w.alloc (tO t)).alloc (kB pc st ka ops.length kc)) (n.gE (QB _ _ _)));have y:Hid ((((w.alloc (tO t)).alloc (kB pc st ka ops.length kc))).heap[w.heap.size]?=some (tO t)/\(((w.alloc (tO t)).alloc (kB pc st ka ops.length kc))).heap[w.heap.size+1]?=some (kB pc st ka ops.length kc)):=by
  refine⟨?_,?_⟩
  ·rw [Qr _ _ _ sM];exact yB _ _ _
  have e:(w.alloc (tO t)).heap.size=w.heap.size+1:=sM
  grind [yB]
 have V:w.heap.size+1<((w.alloc (tO t)).alloc (kB pc st ka ops.length kc)).heap.size:=sM
 unfold kS at j;rw [o] at j;have A:Zz M/\M.length<=3:=by simpa using o
 have fI:R.length<=9223372036854775807:=by obtain⟨a,c,e,h1,m,_⟩:=hR;unfold maxLen at m;omega
 have z:Hid (∀(g:Option Addr) (i:Nat) W,yQ W (.agg #[J pc,J st,.slice ka ops.length kc]) ⟨pc,st,ops⟩->zM W (.slice g (zK M).length i) (zK M)->Cp 104 #[(tV t),.agg #[J pc,J st,.slice ka ops.length kc],.slice g (zK M).length i] W (Rt W (.bool true))):=fun g i W h1 m=>by have h:=ss t _ ⟨pc,st,ops⟩ g i (zK M) W h1 m;rw [hmay] at h;exact h
 have k:=Z A;have fH:((R.length:Int) == t.r)=false:=QM.2 hr;have fJ:((R.length:Int) != t.r):=by simpa using hr
 clear C n hR o hmay A hr;go_enter func58,ntmps58;go_wp2_with fail;apply j.o.m;rintro e b ⟨lv,rfl,l,⟨g,N,i,rfl⟩,hb⟩;have B:=Z (H.o.t (hb.m sO));have d:Hid ((b).heap[w.heap.size]?=some (tO t)/\(b).heap[w.heap.size+1]?=some (kB pc st ka ops.length kc)):=⟨by rw [hb.block _ oM];exact y.o.1,by rw [hb.block _ oM];exact y.o.2⟩;have fP:w.heap.size+1<b.heap.size:=by have:=hb.size;omega
 have X:=Z l;have fg:=Z hb.size;have x:=wZ (l k.o.1 k.o.2);have I:N=(zK M).length:=by obtain⟨a,c,e,_⟩:=zD (l k.o.1 k.o.2);injection e
 subst I;have u:=Z (z.o g i b (G.o.gE B.o) x);have O:b.c w.heap.size 0=Y t.u0:=cb d.o.1
 have P:b.c w.heap.size 1=Y t.u1:=cb d.o.1
 have Q:b.c w.heap.size 2=Y t.u2:=cb d.o.1
 have S:b.c w.heap.size 3=Y t.w0:=cb d.o.1
 have T:b.c w.heap.size 4=Y t.w1:=cb d.o.1
 have U:b.c w.heap.size 5=Y t.w2:=cb d.o.1
 have D:b.c w.heap.size 6=Y t.r:=cb d.o.1
 have k0:b.c (w.heap.size+1) 0=Y pc:=cb d.o.2
 have k1:b.c (w.heap.size+1) 1=Y st:=cb d.o.2
 have L:b.c (w.heap.size+1) 2=some (.slice ka ops.length kc):=cb d.o.2
 clear l hb j x z;go_wp2_with fail;refine u.o.mr fun s f=>?_;have F:=Z (B.o.tm f);have K:Hid ((s).heap[w.heap.size]?=some (tO t)/\(s).heap[w.heap.size+1]?=some (kB pc st ka ops.length kc)):=⟨by rw [f.block _ oM];exact d.o.1,by rw [f.block _ oM];exact d.o.2⟩;have fS:=Z f.size;have fR:=Z f;clear f O P Q S T U D k0 k1 L u;have D:s.c w.heap.size 6=Y t.r:=cb K.o.1
 go_wp2;exact oB ⟨rfl,F.o⟩
def U4 {t:Tg} {pc st:Int} {ops:List bt} {ka:Option Addr} {kc:Nat} (h:((x).heap[w.heap.size]?=some (tO t)/\(x).heap[w.heap.size+1]?=some (kB pc st ka ops.length kc))):(x.cell? (E w.heap.size 0)=Y t.u0/\x.cell? (E w.heap.size 1)=Y t.u1/\x.cell? (E w.heap.size 2)=Y t.u2/\x.cell? (E w.heap.size 3)=Y t.w0/\x.cell? (E w.heap.size 4)=Y t.w1/\x.cell? (E w.heap.size 5)=Y t.w2/\x.cell? (E w.heap.size 6)=Y t.r)/\x.cell? (E (w.heap.size+1) 0)=Y pc/\x.cell? (E (w.heap.size+1) 1)=Y st/\x.cell? (E (w.heap.size+1) 2)=some (.slice ka ops.length kc):=by
 have a:=Qa h.1;have b:=Qa h.2;simp_all
def IH {t:Tg} {R:Li} {M:List Li} {gD:Int} (hmay:X7 t K (zK M)) (c:∀x∈K.ops,bB x.nn) (hR:∀i,bB (ak R i)) (f:∀i j,bB (ak (zB M i) j)) (T:Nat) (hT:T<=40000):(ym t K (zK M) gD (lG R M) T).fine t.r:=by obtain⟨d,h,l,m,n,o,p,hall⟩:=Zo hmay;refine MD (N:=40000) (yi d).2.2.2.1 (BP hR f) (fun a g k b=>⟨c _ (nV b),?_⟩) T hT;obtain⟨-,q,-⟩:=tw (hall k b);have h1:0<=(a:Int) / K.pc:=WY lI lI;have s:(a:Int) / K.pc<=a:=Eg _ lI;unfold bB;lia
def II {D:List Du} {f:Nat->Int} {m:Nat->Nat->Int} (a:yA c V D f m w') (d:∀i,bB (f i)):zM w' (.slice (pA c.gr) c.R c.cr) ((List.range c.R).map f):=by
 have b:((List.range c.R).map f).length=c.R:=sM
 have hn:∀i,i<c.R->ak ((List.range c.R).map f) i=f i:=fun i hi=>by grind [ak]
 refine⟨some (E c.gr 0),c.cr,by rw [b],by rw [b];exact a.hr.2.2.1,a.hr.2.2.2,fun i hi=>?_,fun _=>⟨c.gr,0,rfl,a.regs.lt,fun i hi=>?_⟩⟩
 ·rw [b] at hi;rw [hn i hi];exact d i
 rw [b] at hi;rw [hn i hi,QO];exact a.regs.cell hi
def IJ {D:List Du} {f:Nat->Int} {m:Nat->Nat->Int} {gm a:Nat} {C:Nat->Nat} {d:Option Addr} (b:yA c V D f m w') (hm:∀i j,bB (m i j)) (h1:c.mv=.slice d c.n a) (k:c.n<=a) (l:a<=maxLen) (o:0<c.n->c.mv=.slice (pA gm) c.n a/\zr w' gm 56 c.n (YU c.GM C c.lenM)/\c.w0.heap.size<=gm) (g:∀i,i<c.n->c.lenM i<=C i/\C i<=maxLen) :
  yu w' c.mv ((List.range c.n).map fun i=>(List.range (c.lenM i)).map fun j=>m i j):=by
 have h:MR w' c.w0.z c.mv c.n c.lenM m gm a c.GM C:=⟨⟨d,h1,k,l⟩,by
  by_cases e:c.n=0
  ·exact .inl e
  exact .inr (o lI),fun i hi=>⟨(b.min i hi).1,(g i hi).1,(g i hi).2,(b.min i hi).2.2⟩,b.minj⟩
 exact h.rows hm
def w7 {wr:wO} {A gr cr:Nat} {R:Li} {t:Tg} {kv lv mv:vO} {gD:Int} {M:List Li} {G C:Nat->Nat} {D:List Du} {s:i'} (hB:Vi w A gr cr R t K.pc K.st kv lv (zK M) gD M M.length mv G C wr) (u:Bw wr x) (d:yA ((lK w wr A gr cr R t K.pc K.st kv lv gD M mv G).at x) V D s.f s.m w') (hs:UW t K (zK M) gD R M=s) (n:s.fine t.r) (o:Vt t K R.length M gD=0)
  {g:Option Addr} {j:Nat} (z:mv=.slice g M.length j) :
  wY w t K R M gD (.returned (.tuple #[.slice (pA gr) R.length cr,.slice g M.length j,J 0])) w':=by
 have p:∀i,i<(zK M).length->-9223372036854775808<=ak (zK M) i/\ak (zK M) i<=9223372036854775807:=fun i hi=>by grind [YF,Zn,uv]
 obtain⟨gm,b,q⟩:=hB.stat p;obtain⟨hS,l,a,h1,v,y⟩:=q w' (u7 (c:=lK w wr A gr cr R t K.pc K.st kv lv gD M mv G) u d.keep);have e:a=g/\b=j:=sA
 obtain⟨rfl,rfl⟩:=e;refine⟨some (E gr 0),cr,a,b,R.length,M.length,by rw [o],d.bel,fun _=>?_,fun h=>absurd o h⟩;rw [hs];refine⟨II d n.f,?_⟩;have h:=IJ d n.m h1 v y (gm:=gm) (C:=C) (fun k=>⟨(hS.2.1 k).1,(l k).1,(l k).2⟩) (fun i hi=>(hS.2.2 i hi).2);have B:yu w' mv (rU M s):=h;simp_all
def IK (T:Tg) (pc st:Int) (ops:List bt) (ka:Option Addr) (kc:Nat) (ra:Option Addr) (rc:Nat) (R:Li) (ma:Option Addr) (mc:Nat) (M:List Li) (gD:Int) (w:wO) (b:yQ w (.agg #[J pc,J st,.slice ka ops.length kc]) ⟨pc,st,ops⟩) (hR:zM w (.slice ra R.length rc) R) (hM:yu w (.slice ma M.length mc) M) (hf:(Zz M && decide (M.length<=3))) (hmay:X7 T ⟨pc,st,ops⟩ (zK M)) (hr:(R.length:Int)=T.r) (B:br gD 0 200) (bJ:∀x∈ops,bB x.nn) (aU:gD=0\/(gD+st)*pc<=30000):Cp 58 #[(tV T),.agg #[J pc,J st,.slice ka ops.length kc],.slice ra R.length rc,.slice ma M.length mc,J gD] w fun e w'=>wY w T ⟨pc,st,ops⟩ R M gD e w':=by
 have bG:=Z b;have dS:=Z hM;have dV:=Z hR;have cN:Hid (Bw w ((w.alloc (tO T)).alloc (kB pc st ka ops.length kc))):=QB _ _ _;have HL:=Z (wV (.slice ma M.length mc) M ((w.alloc (tO T)).alloc (kB pc st ka ops.length kc)) (hM.gE (QB _ _ _)));have aB:Hid ((((w.alloc (tO T)).alloc (kB pc st ka ops.length kc))).heap[w.heap.size]?=some (tO T)/\(((w.alloc (tO T)).alloc (kB pc st ka ops.length kc))).heap[w.heap.size+1]?=some (kB pc st ka ops.length kc)):=by
  refine⟨?_,?_⟩
  ·rw [Qr _ _ _ sM];exact yB _ _ _
  have e:(w.alloc (tO T)).heap.size=w.heap.size+1:=sM
  grind [yB]
 have ay:w.heap.size+1<((w.alloc (tO T)).alloc (kB pc st ka ops.length kc)).heap.size:=sM
 unfold kS at HL;rw [hf] at HL;have X:Zz M/\M.length<=3:=by simpa using hf
 have fI:R.length<=9223372036854775807:=by obtain⟨a,c,e,h1,h2,_⟩:=hR;unfold maxLen at h2;omega
 have aF:Hid (∀(o:Option Addr) (p:Nat) W,yQ W (.agg #[J pc,J st,.slice ka ops.length kc]) ⟨pc,st,ops⟩->zM W (.slice o (zK M).length p) (zK M)->Cp 104 #[(tV T),.agg #[J pc,J st,.slice ka ops.length kc],.slice o (zK M).length p] W (Rt W (.bool true))):=fun o p W h1 h2=>by have h:=ss T _ ⟨pc,st,ops⟩ o p (zK M) W h1 h2;rw [hmay] at h;exact h
 have P:=Z X;have HW:Hid (Vt T ⟨pc,st,ops⟩ R.length M gD=0):=by grind [Vt,zH]
 have fH:((R.length:Int) == T.r):=by simpa using hr
 have fJ:((R.length:Int) != T.r)=false:=by simpa using hr
 have eX:=Z (fun W=>B ▸ zN gD 0 200 W);obtain⟨fY,ht2⟩:=zH.1 B;have aW:=(yi (Zo hmay).1).2.2.2;(try simp only at aW);have ft:0<R.length:=oM
 have bQ:R.length<=128:=oM
 obtain⟨i0,hi,dM,az,aA⟩:=info_parts Tryz.i56;have cB:Hid (∀W,Bw w W->Cp 106 #[.slice ra R.length rc] W fun e w'=>∃g cap,e=.returned (vP g R.length cap)/\W.heap.size<=g/\cap<=maxLen/\Zh w' g 2 cap R.length (fun j=>J (ak R j))/\Bw W w'):=fun W h=>wW _ R W (dV.o.gE h) ft bQ;have aH:=Z (Mz X.1);have aG:=Z hmay;have eO:=Z bJ;have cS:=Z aU;have eS:=Z hr;have cY:Hid (M.length<=3):=X.2;have fT:M.length<=3:=X.2;have aP:Hid ((∀i,bB (ak R i))/\∀i j,bB (ak (zB M i) j)):=⟨tA (by obtain⟨a,c,e,h1,h2,h3,_⟩:=hR;exact h3),MA hM⟩;obtain⟨ma',mc',fE,fW,dG,-⟩:=hM;injection fE with e1 e2 e3;subst e1;subst e3;unfold maxLen at dG;clear b hR hf hmay X hr B bJ aU e2 aW;go_enter func58,ntmps58;go_wp2_with fail;refine HL.o.m ?_;rintro e n ⟨lv,rfl,U,⟨o,ll,p,rfl⟩,hb⟩;have bg:=Z (cN.o.t (hb.m sO));have q:Hid ((n).heap[w.heap.size]?=some (tO T)/\(n).heap[w.heap.size+1]?=some (kB pc st ka ops.length kc)):=⟨by rw [hb.block _ oM];exact aB.o.1,by rw [hb.block _ oM];exact aB.o.2⟩;have fP:w.heap.size+1<n.heap.size:=by have:=hb.size;omega
 have cX:=Z U;have fg:=Z hb.size;have HI:=wZ (U P.o.1 P.o.2);have dB:ll=(zK M).length:=by obtain⟨a,c,e,_⟩:=zD (U P.o.1 P.o.2);injection e
 subst dB;have eK:Hid (n.ownsRow w.heap.size 3 1 (.slice o (zK M).length p) (zK M).length ((zK M).map (Value.int .i64))):=s3 (U P.o.1 P.o.2) sO;have HC:=Z (aF.o o p n (bG.o.gE bg.o) HI);have t0:n.c w.heap.size 0=Y T.u0:=cb q.o.1
 have t1:n.c w.heap.size 1=Y T.u1:=cb q.o.1
 have t2:n.c w.heap.size 2=Y T.u2:=cb q.o.1
 have t3:n.c w.heap.size 3=Y T.w0:=cb q.o.1
 have t4:n.c w.heap.size 4=Y T.w1:=cb q.o.1
 have t5:n.c w.heap.size 5=Y T.w2:=cb q.o.1
 have t6:n.c w.heap.size 6=Y T.r:=cb q.o.1
 have k0:n.c (w.heap.size+1) 0=Y pc:=cb q.o.2
 have k1:n.c (w.heap.size+1) 1=Y st:=cb q.o.2
 have k2:n.c (w.heap.size+1) 2=some (.slice ka ops.length kc):=cb q.o.2
 clear U hb HL HI aF;go_wp2_with fail;refine HC.o.mr fun x2 Q=>?_;have ai:=Z (bg.o.tm Q);have gT:Hid ((x2).heap[w.heap.size]?=some (tO T)/\(x2).heap[w.heap.size+1]?=some (kB pc st ka ops.length kc)):=⟨by rw [Q.block _ oM];exact q.o.1,by rw [Q.block _ oM];exact q.o.2⟩;have cU:=Z (zp eK.o Q);have cA:w.heap.size+1<x2.heap.size:=by have:=Q.size;omega
 clear Q t0 t1 t2 t3 t4 t5 t6 k0 k1 k2 HC;have t6:x2.c w.heap.size 6=Y T.r:=cb gT.o.1
 go_wp2_with (go_at_call 105;refine (eX.o _).mr fun w' aa=>?_;have aa:=aa.s;subst aa);clear t6;refine rg 99 (fun w'=>(w'.c w.heap.size 0=Y T.u0/\w'.c w.heap.size 1=Y T.u1/\w'.c w.heap.size 2=Y T.u2/\w'.c w.heap.size 3=Y T.w0/\w'.c w.heap.size 4=Y T.w1/\w'.c w.heap.size 5=Y T.w2/\w'.c w.heap.size 6=Y T.r)/\w'.c (w.heap.size+1) 0=Y pc/\w'.c (w.heap.size+1) 1=Y st/\w'.c (w.heap.size+1) 2=some (.slice ka ops.length kc)) (U4 gT.o) fun s=>?_;refine aq 0 ?_;refine aq 2 ?_;refine uk 5 ?_;refine uo 4 fun K b=>?_;go_simp;refine (cB.o _ ai.o.drew).m ?_;rintro e D ⟨gr,cr,rfl,cG,cF,cL,aj⟩;have bf:Hid (Bw x2 D):=(QA _ _).drew.t aj;have aM:=Z (ai.o.tm bf.o);have S:Hid ((D).heap[w.heap.size]?=some (tO T)/\(D).heap[w.heap.size+1]?=some (kB pc st ka ops.length kc)):=⟨by rw [bf.o.block _ oM];exact gT.o.1,by rw [bf.o.block _ oM];exact gT.o.2⟩;have dP:Hid (w.heap.size<=gr/\gr<D.heap.size/\R.length<=cr/\cr<=maxLen):=⟨QH ai.o.size cG,cL.lt,cL.le,cF⟩;have eU:=Z cL;have cW:=Z (zp cU.o bf.o);clear cG cF cL aj s;have s:=U4 S.o;refine bq b.o (.inr s) ?_;clear b K;refine uk 6 ?_;refine uo 7 fun K b=>?_;go_simp;have bK:Hid ((D.alloc (.cells #[J T.u0,J T.u1,J T.u2,J T.w0,J T.w1,J T.w2,J T.r,J pc,J st,.slice ka ops.length kc,.slice o (zK M).length p,.slice (pA gr) R.length cr,.slice none 0 0,J gD,.slice none 0 0,.slice none 0 0,.slice none 0 0,.slice none 0 0,.slice none 0 0,.slice none 0 0] 183)).heap[w.heap.size]?=some (tO T)/\(D.alloc (.cells #[J T.u0,J T.u1,J T.u2,J T.w0,J T.w1,J T.w2,J T.r,J pc,J st,.slice ka ops.length kc,.slice o (zK M).length p,.slice (pA gr) R.length cr,.slice none 0 0,J gD,.slice none 0 0,.slice none 0 0,.slice none 0 0,.slice none 0 0,.slice none 0 0,.slice none 0 0] 183)).heap[w.heap.size+1]?=some (kB pc st ka ops.length kc)):=⟨by rw [Qr _ _ _ (by have:=aM.o.size;have:=(lo S.o.1);omega)];exact S.o.1,by rw [Qr _ _ _ (lo S.o.2)];exact S.o.2⟩;refine bq b.o (.inr (U4 bK.o)) ?_;clear b K s;have s:=U4 bK.o;refine uo 8 fun K b=>?_;go_simp;refine bq b.o (.inr s) ?_;clear b K;refine rd ?_;clear s;obtain⟨A,hA⟩:=nm D.heap.size
 have H0:Hid (Vi w A gr cr R T pc st (.slice ka ops.length kc) (.slice o (zK M).length p) (zK M) gD M 0 (.slice none 0 0) (fun _=>0) (fun _=>0) (D.alloc (.cells #[J T.u0,J T.u1,J T.u2,J T.w0,J T.w1,J T.w2,J T.r,J pc,J st,.slice ka ops.length kc,.slice o (zK M).length p,.slice (pA gr) R.length cr,.slice none 0 0,J gD,.slice none 0 0,.slice none 0 0,.slice none 0 0,.slice none 0 0,.slice none 0 0,.slice none 0 0] 183))) :=
  { bel:=aM.o.alloc aM.o.size _,hA:=by rw [<-hA];exact yB _ _ _,hAb:=by rw [<-hA];exact aM.o.size,regs:=eU.o.row.alloc _,hr:=⟨dP.o.1,dP.o.2.2⟩,o:=World.ownsRow_nil _ _ _ _,inn:=⟨fun i hi=>absurd hi (Qv _),fun i j hi=>absurd hi (Qv _)⟩,rM:=fun i hi=>absurd hi (Qv _),lgs:=zp cW.o (Qd _ _) }
 have fQ:=Z hA;go_wp2;clear hA;go_loopw [52] (fun i wr=>∃k:Nat,k<=M.length/\i=J k/\∃mv G C,Vi w A gr cr R T pc st (.slice ka ops.length kc) (.slice o (zK M).length p) (zK M) gD M k mv G C wr) (fun i _=>M.length - (intOf i).toNat)
 case atStart=>exact⟨0,Ql _,rfl,_,_,_,H0.o⟩
 clear H0;obtain⟨k,hk,rfl,mv,G,C,l⟩:=hrel;by_cases ag:k<M.length
 ·have bz:(k:Int)<(M.length:Int):=oM
  obtain⟨H,I,bI,dE,cJ⟩:=zD l.o;subst bI;have eM:=dS.o.gE l.bel;obtain⟨ma2,mc2,dF,-,-,bW⟩:=eM;injection dF with e1 e2 e3;subst e1;subst e3;obtain⟨mb,mo,rfl,fD,aZ⟩:=bW oM;obtain⟨u,hu,ey⟩:=aZ k ag;have fa:=Z ey;obtain⟨ua,uc,rfl,-⟩:=ey;have F:=Z l;have dw:=l.cell;have dY:=l.A_lt;obtain⟨r0,r32,-⟩:=aH.o k ag;have dO:Hid (∀W,Bw wr W->Cp 106 #[.slice ua (zB M k).length uc] W fun e w'=>∃g cap,e=.returned (vP g (zB M k).length cap)/\W.heap.size<=g/\cap<=maxLen/\Zh w' g 2 cap (zB M k).length (fun j=>J (ak (zB M k) j))/\Bw W w'):=fun W h=>wW _ (zB M k) W (fa.o.gE h) r0 oM;obtain⟨ln,dC⟩:=nm ((zB M k).length);rw [dC] at hu dO;have dR:=Z dC;clear aZ bW l dC;go_wp2;refine rg 11 (fun w'=>w'.c A 12=some (.slice H k I)) dw fun s=>?_;refine aq 0 ?_;refine aq 2 ?_;refine aq 4 ?_;refine uo 6 fun K b=>?_;go_simp;refine (dO.o _ (QA _ _).drew).m ?_;rintro e x5 ⟨g,cap,rfl,bV,bU,ce,ef⟩;have eE:Hid (Bw wr x5):=(QA _ _).drew.t ef;have bF:Hid (wr.heap.size<=g/\cap<=maxLen):=⟨bV,bU⟩;have bO:=Z ce;have dU:=Z (F.o.gE eE.o);clear bV bU ce ef s;refine bq b.o (.inr dU.o.cell) ?_;clear b K;refine uo 7 fun K b=>?_;go_simp;have v:=Z (dU.o.gE (Qd x5 (.cells #[vP g ln cap] 56)));refine bq b.o (.inr v.o.cell) ?_;clear b K;refine uo 8 fun K b=>?_;refine step_append_lies _ rfl (.tmp 60) (.tmp 63) 114 rfl w.heap.size 56 i0 sN 1 24 underlying114 hi dM az aA rfl tQ _ k _ rfl v.o.o (E x5.heap.size 0) 1 1 [vP g ln cap] rfl rfl (xH _ _ _) (by intro u hu;simp at hu;subst hu;rfl) tQ mL oM v.o.bel.size (x5.heap.size+1) sM ?_;intro g2 gC w6 z d hat6 hlt6;have cI:=v.o.grown d;have eR:=Z z;have eH:=Z d;clear z d hat6;refine bq b.o (.inr cI.1) ?_;clear b K;have s:=cI.1;have fV:=cI.2;refine aq 9 ?_;refine uo 11 fun K b=>?_;go_simp;refine bq b.o (.inl rfl) ?_;clear b K;refine rd ?_;clear cI s;go_wp2;go_roundw
  case rel =>
   refine⟨k+1,oM,nQ,_,_,_,v.o.step (g:=g) (cap:=cap) (B0:=0) ?_ (by have:=bF.o.1;have:=F.o.bel.size;omega) bF.o.2 ?_ ?_ (by show w6.ownsRow _ _ _ _ _ (_++[.slice _ (zB M k).length _]);rw [dR.o];exact eR.o) eH.o⟩
   ·have h:=bO.o.gE (Qd x5 (.cells #[vP g ln cap] 56)) bO.o.lt;rw [<-dR.o] at h ⊢;exact h
   ·have:=F.o.regs.lt;have:=bF.o.1;omega
   intro i hi;have:=(F.o.inn.1 i hi).2.2.2.lt;have:=bF.o.1;omega
  simp [intOf];omega
 have e:k=M.length:=oM
 subst e;have bz:¬(M.length:Int)<(M.length:Int):=oM
 obtain⟨H,I,bI,dE,cJ⟩:=zD l.o;subst bI;have F:=Z l;have cZ:=Z l.mach;by_cases B:gD=0
 ·obtain⟨L,O⟩:=l.ends;have fL:decide (0<gD)=false:=Qk oM;have fM:¬0<gD:=oM
  have de:Hid (UW T ⟨pc,st,ops⟩ (zK M) gD R M=lG R M):=by show _=_;unfold UW;rw [Qf B]
  have dY:=l.A_lt;clear l B;go_wp2;go_big_quiet ((fail));go_wp2_with fail;have hI:yA ((lK w wr A gr cr R T pc st (.slice ka ops.length kc) (.slice o (zK M).length p) gD M (.slice H M.length I) G).at wr) (fun _=>sN) [] (lG R M).f (lG R M).m (wr.drewN nq):=cZ.o.gE (Qm _ _ _);exact oB (w7 (K:=⟨pc,st,ops⟩) F.o (QA _ _) hI de.o (BP aP.o.1 aP.o.2) HW.o rfl)
 have fL:decide (0<gD):=Qi oM;have fM:0<gD:=oM
 have bC:∀i,i<(zK M).length->-9223372036854775808<=ak (zK M) i/\ak (zK M) i<=9223372036854775807:=fun i hi=>by rw [YF M i (by rw [Zn] at hi;exact hi)];have:=uv (zB M i).length;omega
 obtain⟨gm,cm',cM⟩:=l.stat bC;obtain⟨dH,bY,bZ,cg,cu,fF,fG,-⟩:=Zo aG.o;(try simp only at bY bZ cg cu);obtain⟨PC,hPC⟩:∃PC:Nat,pc=(PC:Int):=⟨pc.toNat,oM⟩;obtain⟨ST,dZ⟩:∃ST:Nat,st=(ST:Int):=⟨st.toNat,oM⟩;obtain⟨N,hN⟩:∃N:Nat,gD+st - 1=(N:Int):=⟨(gD+st - 1).toNat,oM⟩;have hNP:N*PC<=30000:=by
  have h1:(gD+st)*pc<=30000:=cS.o.resolve_left B;have h2:((N*PC:Nat):Int)<=(gD+st)*pc:=by rw [ES,<-hPC,<-hN];exact Wx oM oM
  omega
 have aL:VH ⟨pc,st,ops⟩ gD=((N*PC:Nat):Int):=by unfold VH;show (gD+st - 1)*pc=_;rw [hN,hPC,ES]
 have de:Hid (UW T ⟨pc,st,ops⟩ (zK M) gD R M=ym T ⟨pc,st,ops⟩ (zK M) gD (lG R M) (N*PC+6)):=by show _=_;unfold UW;rw [Qe B,aL,show (((N*PC:Nat):Int)+7).toNat=N*PC+7 by omega];exact FB dH rfl aL
 have eG:=Z (IH (t:=T) (gD:=gD) aG.o eO.o aP.o.1 aP.o.2 (N*PC+6) oM)
 have dg:=Z (FG (lK w wr A gr cr R T pc st (.slice ka ops.length kc) (.slice o (zK M).length p) gD M (.slice H M.length I) G) (zK M) gm cm' C ⟨pc,st,ops⟩ ka kc PC ST N (fun i=>ak R i) (fun i j=>ak (zB M i) j)
  l.mach (fun x hx=>(cM x hx).1) rfl (by obtain⟨ov,e,h⟩:=bG.o;injection e with e;have e2:ov=.slice ka ops.length kc:=(by simpa using e.s);rw [e2] at h;exact h.gE l.bel) (Zn M).s (fun i hi=>⟨(aH.o i hi).2.2,(aH.o i hi).2.1⟩) eS.o aG.o rfl hPC rfl dZ hN (by show 1<=gD;omega) ht2 hNP)
 have dY:=l.A_lt;clear l B bC cM aL hPC dZ hN bY bZ cg cu;go_wp2_with fail;refine dg.o.m ?_;rintro e x9 ⟨rfl,y,V,eh,dt⟩;obtain⟨-,⟨-,-,-,-,L,O,-⟩,-⟩:=dt.cells;have e11':x9.c A 11=some (vP gr R.length cr):=L;have e12':x9.c A 12=some (.slice H M.length I):=O;have eI:=Z dt;have bL:=Z eh;clear L O dt eh;go_wp2;go_big_quiet ((fail));go_wp2;exact oB (w7 (K:=⟨pc,st,ops⟩) F.o bL.o (eI.o.gE (Qm _ _ _)) de.o eG.o HW.o rfl)
def w8:lT:=fun t kv D mv K R M gD w c hR d o x v n=>by
 obtain⟨j,p1,p2,k,l,m,r⟩:=t
 obtain⟨pc,st,ops⟩:=K
 have p:=c
 have s:=hR
 have q:=d
 obtain⟨B,rfl,u⟩:=p
 obtain⟨ka,kc,rfl,-⟩:=u
 obtain⟨ra,rc,rfl,-⟩:=s
 obtain⟨g,i,rfl,-⟩:=q
 have a:=v
 unfold Vt at a
 by_cases b:Zz M/\X7 ⟨j,p1,p2,k,l,m,r⟩ ⟨pc,st,ops⟩ (zK M)/\(R.length:Int)=r
 ·rw [Qf b] at a
  by_cases f:0<=gD/\gD<=200
  ·refine (IK ⟨j,p1,p2,k,l,m,r⟩ pc st ops ka kc ra rc R g i M gD w c hR d sA b.2.1 b.2.2 (yh f) o (.inr n)).m fun e w' h=>?_
   obtain⟨ra,rc,g,i,C,A,y,hb,z,-⟩:=h
   grind
  ·rw [Qe f] at a;cases a
 ·rw [Qe b] at a;cases a
end
end Go.Proofs.YtjlfcbccpcigeacGreatDoor
