import Derived.Test.YtjlfcbccpcigeacGreatDoorD2
import Derived.Test.YtjlfcbccpcigeacGreatDoorH2
import Derived.Test.YtjlfcbccpcigeacGreatDoorI
import Derived.Test.YtjlfcbccpcigeacGreatDoorJ
import Derived.Test.YtjlfcbccpcigeacGreatDoorK
set_option maxHeartbeats 40000000
set_option linter.defProp false
namespace Go.Proofs.YtjlfcbccpcigeacGreatDoor
open Go.Proofs.Tryz Go.RowKit Go.Joins
set_option linter.unusedVariables false
set_option linter.unusedSimpArgs false
set_option maxRecDepth 8192
section
variable {L:Lp} {n:Int}
structure Sb (L:Lp) (t:Tg) (K:Kn) (n:Int):Prop where
 enter:∀(v kv ov bv:vO) (w:wO),zI w v L->yQ w kv K->zM w ov (X8 L.b.length)->yu w bv (ZM L)->Cp 57 #[v,.agg t.cells,kv,ov,bv] w fun e w'=>∃ra rl rc c,e=.returned (.tuple #[.slice ra rl rc,J c])/\zM w' (.slice ra rl rc) (kN L t K)/\Bw w w'
 run:∀(kv rv mv:vO) (w:wO),yQ w kv K->zM w rv (kN L t K)->yu w mv (ZQ L)->Cp 58 #[.agg t.cells,kv,rv,mv,J n] w fun e w'=>∃ra rl rc ma ml mc c,e=.returned (.tuple #[.slice ra rl rc,.slice ma ml mc,J c])/\zM w' (.slice ra rl rc) (lW L t K n)/\Bw w w'
 leave:∀(v kv ov bv rv:vO) (w:wO),zI w v L->yQ w kv K->zM w ov (X8 L.b.length)->yu w bv (ZM L)->zM w rv (lW L t K n)->Cp 59 #[v,.agg t.cells,kv,ov,bv,rv,J n] w fun e w'=>∃ra rl rc c,e=.returned (.tuple #[.slice ra rl rc,J c])/\zM w' (.slice ra rl rc) (jo L t K n)/\Bw w w'
theorem uI (w:wO) (a:Option Addr):zM w (.slice a 0 0) []:=by grind [zM]
def D7 (A:lh) (C:li) (hR:lT) {t:Tg} {K:Kn} (hm:zQ L) (F:zS t) (H:cn L) (hS:yN L t 1 (some K)) (h0:0<=n) (U:n<=200):Sb L t K n:=by
 obtain⟨P,T,D,p,V,O,rfl⟩:=hS.made _ rfl;obtain⟨-,-,aB,Q⟩:=Ja (D:=D) p V;have aA:=(mN hm F).2;have o:=DB p (O.dests p);generalize Zy L t P T D=K at *
 have y:=rC hm;obtain⟨ai,I⟩:=NP y;have ah:=NQ y;have M:(ZQ L).length<=3:=by grind [rB,zy]
 have h1:1<=t.r:=(yi F).2.2.2.1;have hpc:0<=K.pc:=by have:=(Zo o).2.1;lia
 rw [<-I] at o;cases g:yg L t K (X8 L.b.length) with
 | true =>
  have z:kN L t K=U7 L t K (X8 L.b.length) (ZM L):=Qf g;have G:=OU L t K (X8 L.b.length) (ZM L);rw [<-z] at G;have q:lW L t K n=nw (kN L t K).length (UW t K (zK (ZQ L)) n (kN L t K) (ZQ L)):=Qf g;have S:jo L t K n=Zm L t K (X8 L.b.length) (ZM L) (lW L t K n) n:=Qf g;have R:Vt t K (kN L t K).length (ZQ L) n=0:=by grind [Vt]
  have au:((lW L t K n).length:Int)=t.r:=by grind [nw]
  refine⟨fun v kv h i w j f a d=>(A v kv h i t L K _ _ w j f a d).m fun e w' ⟨hb,ra,m,rc,c,k,_,X⟩=>?_,fun kv l mv w f a d=>(hR t kv l mv K _ _ n w f a d (NR g H) M R (FN U h0 hpc lI Q)).m fun e w' ⟨ra,rc,na,nc,m,nl,k,hb,h1,_⟩=>⟨ra,m,rc,na,nl,nc,_,k,q ▸ h1,hb⟩,fun v kv h i l w j f a d x=>(C v kv h i l t L K _ _ _ n w j f a d x).m fun e w' ⟨hb,ra,m,rc,c,k,_,_,X⟩=>?_⟩
  ·grind
  grind [yh]
 | false =>
  have hn:¬yg L t K (X8 L.b.length):=by rw [g];decide
  have z:kN L t K=[]:=Qe hn;have q:lW L t K n=[]:=Qe hn;have S:jo L t K n=[]:=Qe hn;refine⟨fun v kv h i w j f a d=>(A v kv h i t L K _ _ w j f a d).m fun e w' ⟨hb,ra,m,rc,c,k,W,_⟩=>?_,fun kv l mv w f a d=>?_,fun v kv h i l w j f a d x=>(C v kv h i l t L K _ _ _ n w j f a d x).m fun e w' ⟨hb,ra,m,rc,c,k,W,_,_⟩=>?_⟩
  ·grind [uI]
  ·obtain⟨p0,p1,p2,q0,q1,q2,r⟩:=t;obtain⟨pc,st,ops⟩:=K;obtain⟨h,rfl,B⟩:=f;have N:=B;obtain⟨ka,kc,rfl,-⟩:=N;have s:=a;obtain⟨ra,rc,rfl,-⟩:=s;have u:=d;obtain⟨ma,mc,rfl,-⟩:=u;refine (IG ⟨p0,p1,p2,q0,q1,q2,r⟩ pc st ops ka kc ra rc _ ma mc _ n w ⟨_,rfl,B⟩ a d sA o rQ).m fun e w' ⟨k,hb⟩=>⟨none,0,0,none,0,0,2,k,q ▸ uI _ _,hb⟩
  grind [uI]
def Sc (hm:zQ L) (k:cn L) (h0:0<=n) (m:n<=200) (v s:vO) (w:wO) (l:zI w v L) (hS:Vk w s (ZM L) (ZQ L)) :
  Cp 56 #[v,s,J n] w fun e w'=>∃a c b d g f,e=.returned (.tuple #[.agg #[.slice a c b,.slice d g f],J 0])/\zM w' (.slice a c b) (XG L n)/\Bw w w':=by
 have j:Vu L (ZM L) (ZQ L) n=0:=by grind [Vu,rC]
 refine (B4 v s L _ _ n w l hS k (vi L) (vj L)).m fun e w' ⟨hb,a,c,b,d,g,f,i,h⟩=>?_;rw [j] at i;exact⟨a,c,b,d,g,f,i,(h j).1,hb⟩
theorem D8 (L:Lp):ZM L=(List.replicate L.b.length 3).map fun n=>List.replicate n 0:=by unfold ZM;rw [List.map_replicate];exact List.map_const' ..
theorem D9 (L:Lp):ZQ L=(L.l.map fun g=>2 ^ g.toNat).map fun n=>List.replicate n 0:=by simp [ZQ]
end
section
variable {W1:wO}
def pN (n:Nat) (hn:n<=32) (W:wO):(Instr.makeSlice 56 (J (n:Int)) (J (n:Int))).run prog W=.ok (.slice (pA W.heap.size) n n) (W.alloc (.cells (madeCells #[J 0] n) 2)) :=
 run_make_row' (P:=prog) 56 2 (J 0) 8 underlying56 Tryz.i2 rfl .i64 .i64 n lI lI W
theorem Be (k:Nat):List.replicate k 3++[3]=List.replicate (k+1) 3:=List.replicate_succ'.s
def Bf {l:Li} {k:Nat} (h:k<l.length):(l.take k).map (fun g=>2 ^ g.toNat)++[2 ^ (ak l k).toNat]=(l.take (k+1)).map fun g=>2 ^ g.toNat:=by rw [Wm,QV,Qh h];unfold ak;rw [Qw,Qh h];rfl
def Bg {g:Int} (h0:0<=g) (a:g<=5):2 ^ g.toNat<=32:=WP (n:=2) (j:=5) tQ lI
def Vy {w y:wO} {a c d:vO} {T:TypeId} {b:Nat} (h:W1.heap[b]?=some (.cells #[a,c,d] T (0,0))) (hb:Bw W1 y):y.cell? (E b 0)=some a/\y.cell? (E b 1)=some c/\y.cell? (E b 2)=some d/\b<y.heap.size:=by have h1:=(hb.block _ (lo h)).t h;refine⟨?_,?_,?_,(lo h1)⟩ <;> (rw [Qa h1];rfl)
def ej.bel {X x:wO} {a:Nat} {c mv:vO} {b GM:Nat->Nat} {lb d:List Nat} (h:ej X a c mv b GM lb d x) (hX:Bw W1 X) (hs:W1.heap.size<=a):Bw W1 x :=
 hX.t (h.kp.gE hs (fun k e=>by cases e) hX.size)
def LR (L:Lp) (a0 V a2:Option Addr) (gA gB gC:Nat) (w:wO) (hL:zI w ((lv L a0 V a2 gA gB gC)) L) (hm:zQ L) :
  Cp 72 #[(lv L a0 V a2 gA gB gC)] w fun e w'=>∃bv mv,e=.returned (.agg #[bv,mv])/\yu w' bv (ZM L)/\yu w' mv (ZQ L)/\Bw w w':=by
 obtain⟨j0,ji,Q,R,S⟩:=info_parts Tryz.i56;have bg:∀W:wO,(Instr.makeSlice 56 (J 3) (J 3)).run prog W=.ok (vP W.heap.size 3 3) (W.alloc (.cells (madeCells #[J 0] 3) 2)):=fun W=>pN 3 oM W;obtain⟨aM,-,aJ,-,aP,-⟩:=zy hm;obtain⟨v0',v1',v2',hv,⟨a0',cap0',bj,aK,aL,-,aO⟩,-⟩:=hL;simp only [El,Ex,W9,and_true] at hv;obtain⟨rfl,-,-⟩:=hv;injection bj with p e2 e3;subst p;subst e3;have aU:=Z aO;have aV:=Z aP;have aT:=Z aM;have au:=Z aJ;have bz:=Z (And.intro aK aL);obtain⟨W1,ag⟩:=nm ((w.alloc (lC L a0 V a2 gA gB gC)).alloc (.cells #[.slice none 0 0,.slice none 0 0] 116));obtain⟨X,hX⟩:=nm (W1.alloc (.cells #[.slice none 0 0,.slice none 0 0] 116));have aD:W1.heap.size=w.heap.size+1+1:=by rw [<-ag];simp
 have al:Hid (Bw w W1):=by show Below _ _ _;rw [<-ag];exact QB _ _ _
 have aF:Hid (W1.heap[w.heap.size]?=some (lC L a0 V a2 gA gB gC)):=by show _=_;rw [<-ag,Qr _ _ _ sM];exact zm _ _ _
 have aH:Hid (W1.heap[w.heap.size+1]?=some (.cells #[sN,sN] 116 (0,0))):=by grind [zm]
 have aA:Hid (Bw W1 X):=by show Below _ _ _;rw [<-hX];exact Qd _ _
 have aI:Hid (ej X (w.heap.size+1+1) sN sN (fun _=>0) (fun _=>0) [] [] X):=ej.start (by grind [zm]);have az:Hid (W1.heap.size<=w.heap.size+1+1):=qQ aD;obtain⟨l0,l1,l2,lz⟩:=Vy (w:=w) aF (QA _ _);have HX:=Z hX;clear hX;clear aO aP aM aJ aK aL hm;go_enter func72,ntmps72;go_wp2;rw [HX];clear aD ag l0 l1 l2 lz HX;generalize w.heap.size+1+1=sb at *
 go_loopw [10] (fun s wr=>∃(k:Nat) (x:Option Addr) (z:Nat) (GB:Nat->Nat),k<=L.b.length/\s=J k/\ej X sb (.slice x k z) sN GB (fun _=>0) (List.replicate k 3) [] wr) (fun s _=>L.b.length - (intOf s).toNat)
 case atStart=>exact⟨0,_,_,_,Ql _,rfl,aI.o⟩
 clear aI;obtain⟨k,x,z,GB,hk,rfl,c⟩:=hrel;by_cases hkl:k<L.b.length
 ·have bf:(k:Int)<(L.b.length:Int):=oM
  have aC:(List.replicate k 3).length=k:=Ej;have aY:=au.o;obtain⟨⟨G,H⟩,xs,M,m,d⟩:=ej.appB (y:=wr.drew) (n:=3) (c.gE (Qm _ _ 1)) aC oM;have F:=(c.gE (Qm wr.heap.size wr 1)).cells.1;have C:=Z M;have A:=Z d;have aE:=c.cells.2.2.1;have B:=Z (xH (wr.drew.alloc (.cells (madeCells #[J 0] 3) 2)) (vP wr.heap.size 3 3) 56);clear c M d;go_wp2;refine rg 6 (fun w'=>w'.c sb 0=some (.slice x k z)) F fun h9=>?_;refine aq 0 ?_;refine uo 2 fun K a=>?_;go_simp;refine bq a.o (.inr G) ?_;clear a K;refine uo 3 fun K a=>?_;go_simp;refine bq a.o (.inr H) ?_;clear a K;refine uo 4 fun K a=>?_;refine step_append_lies _ rfl (.tmp 13) (.tmp 15) 114 rfl X.heap.size 56 j0 sN 1 24 underlying114 ji Q R S rfl tQ _ k xs rfl C.o (E (wr.heap.size+1) 0) 1 1 [vP wr.heap.size 3 3] rfl rfl (by have h:=B.o;have e:(wr.drew.alloc (.cells (madeCells #[J 0] 3) 2)).heap.size=wr.heap.size+1:=(by simp);rw [e] at h;exact h) (by intro u P;simp at P;subst P;rfl) tQ mL oM m _ rfl ?_;intro I p w1 O N f r;obtain⟨⟨G1,D⟩,o,f3,z3⟩:=A.o I p w1 O N f;have ay:=Z D;clear D O N f r C A B m;refine bq a.o (.inr o) ?_;clear a K;refine uk 5 ?_;refine uo 6 fun K a=>?_;go_simp;refine bq a.o (.inl rfl) ?_;clear a K;refine rd ?_;clear h9 F G H o f3 z3 aE;go_wp2;go_roundw
  case rel=>exact⟨k+1,some (E I 0),p,G1,oM,nQ,by rw [<-Be];exact ay⟩
  simp [intOf];omega
 have e:k=L.b.length:=oM
 subst e;have bf:¬(L.b.length:Int)<(L.b.length:Int):=oM
 obtain⟨l0,l1,l2,lz⟩:=Vy (w:=w) aF (c.bel aA.o az.o);have aG:=Z c;clear c;go_wp2;clear l0 l1 l2 lz;rename wO=>wo;go_loopw [22] (fun s wr=>∃(j:Nat) (T:Option Addr) (U:Nat) (GM:Nat->Nat),j<=L.l.length/\s=J j/\ej X sb (.slice x L.b.length z) (.slice T j U) GB GM (List.replicate L.b.length 3) ((L.l.take j).map fun g=>2 ^ g.toNat) wr) (fun s _=>L.l.length - (intOf s).toNat)
 case atStart=>exact⟨0,_,_,_,Ql _,rfl,aG.o⟩
 clear aG;obtain⟨j,T,U,GM,hj,rfl,c⟩:=hrel;by_cases q:j<L.l.length
 ·have aZ:(j:Int)<(L.l.length:Int):=oM
  have bC:=aT.o;obtain⟨gb,go,rfl,aX,aN⟩:=aU.o oM;have t:=al.o.tm (c.bel aA.o az.o);have c0:=(ze t gb (go+j) aX).t (aN j q);have aB:gb<wr.heap.size:=by have:=t.size;omega
  obtain⟨g0,g5⟩:=zH.1 (zq aV.o j q);have aW:=Z (Bf q);have bh:=qg (ak L.l j) g0 g5;have bF:IntKind.i64.wrap (2 ^ (ak L.l j).toNat)=((2 ^ (ak L.l j).toNat:Nat):Int):=by have h:=bh;unfold wrap64 at h;rw [Wq];omega
  have ao:2 ^ (ak L.l j).toNat<=32:=Bg g0 g5;have bD:=pN (2 ^ (ak L.l j).toNat) ao;have aC:((L.l.take j).map fun g=>2 ^ g.toNat).length=j:=by rw [Q9,Wh];omega
  have aQ:=Z ao;have aS:=Z aB;generalize ak L.l j=gg at *
  generalize 2 ^ gg.toNat=n at *
  clear aN aB ao;generalize (L.l.take j).map (fun g=>2 ^ g.toNat)=ll at *
  have ao:=aQ.o;have aB:=aS.o;obtain⟨⟨G,H⟩,xs,M,m,d⟩:=ej.appM (y:=wr.drew) (n:=n) (c.gE (Qm _ _ 1)) aC oM;have F:=(c.gE (Qm wr.heap.size wr 1)).cells.2.1;have C:=Z M;have A:=Z d;have aE:=c.cells.2.2.1;have B:=Z (xH (wr.drew.alloc (.cells (madeCells #[J 0] n) 2)) (vP wr.heap.size n n) 56);clear c M d;go_wp2;refine rg 8 (fun w'=>w'.c sb 1=some (.slice T j U)) F fun h9=>?_;refine aq 0 ?_;refine aq 2 ?_;refine uo 4 fun K a=>?_;go_simp;refine bq a.o (.inr G) ?_;clear a K;refine uo 5 fun K a=>?_;go_simp;refine bq a.o (.inr H) ?_;clear a K;refine uo 6 fun K a=>?_;refine step_append_lies _ rfl (.tmp 27) (.tmp 31) 114 rfl X.heap.size 56 j0 sN 1 24 underlying114 ji Q R S rfl tQ _ j xs rfl C.o (E (wr.heap.size+1) 0) 1 1 [vP wr.heap.size n n] rfl rfl (by have h:=B.o;have e:(wr.drew.alloc (.cells (madeCells #[J 0] n) 2)).heap.size=wr.heap.size+1:=(by simp);rw [e] at h;exact h) (by intro u P;simp at P;subst P;rfl) tQ mL oM m _ rfl ?_;intro I p w1 O N f r;obtain⟨⟨G1,D⟩,o,f3,z3⟩:=A.o I p w1 O N f;have ay:=Z D;clear D O N f r C A B m;refine bq a.o (.inr o) ?_;clear a K;refine uk 7 ?_;refine uo 8 fun K a=>?_;go_simp;refine bq a.o (.inl rfl) ?_;clear a K;refine rd ?_;clear h9 F G H o f3 z3 aE;go_wp2;go_roundw
  case rel=>exact⟨j+1,some (E I 0),p,G1,oM,nQ,by rw [<-aW];exact ay⟩
  simp [intOf];omega
 have e:j=L.l.length:=oM
 subst e;have aZ:¬(L.l.length:Int)<(L.l.length:Int):=oM
 have t:=c.bel aA az;have hr:=(t.block _ (lo aH)).t aH;have hd:=c.done hr;rw [Wd,<-D8,<-D9] at hd;have HD:=Z hd;have aR:Hid (Bw w ((wr.st (w.heap.size+1) 0 (.slice x L.b.length z)).st (w.heap.size+1) 1 (.slice T L.l.length U))):=((al.tm t).setCell (Ep _) _).setCell (Ep _) _;have bE:w.heap.size+1<wr.heap.size:=(lo hr);obtain⟨s0,s1,sz,-⟩:=c.cells;have r0:wr.c (w.heap.size+1) 0=some sN:=cb hr
 have r1:wr.c (w.heap.size+1) 1=some sN:=cb hr
 have fr:∀i,wr.frozen? (E (w.heap.size+1) i)=false:=fun i=>qZ hr
 have f0:=fr 0;have f1:=fr 1;clear c t hr hd fr;go_wp2;obtain⟨d1,d2,d3,d4⟩:=HD;exact bodyPost_ret (v:=.agg #[.slice x L.b.length z,.slice T L.l.length U]) (by simp [results,results72,go_sem,d3,d4]) rfl ⟨_,_,rfl,d1,d2,aR⟩
end
section
open Go.RowKit Go.Joins Go.Maps
variable {ra:Option Addr} {rl rc p:Nat} {left:Lit->Bool}
section
def O3 (w:wO) (e:TypeId):(w.alloc (.cells #[] e)).ownsRow w.heap.size e 1 (.slice (pA w.heap.size) 0 0) 0 []:=by refine⟨rfl,.inr ⟨w.z,0,#[],rfl,Qc _,?_,Qc _,Ql _,rfl,rfl⟩⟩;show (w.heap.push _)[w.z]?=_;simp
def mx (L:Lp) (t:Tg) (K:Kn) (O:Li) (B:List Li) (R:Li) (gD:Int) (w:wO) (e:Ending) (w':wO):Prop :=
 Bw w w'/\∃ra rl rc c,e=.returned (.tuple #[.slice ra rl rc,J c])/\((yg L t K O && ZE L B && decide ((R.length:Int)=t.r))=false->c=2/\rl=0/\rc=0)/\((yg L t K O && ZE L B && decide ((R.length:Int)=t.r))->br gD 0 200=false->c=3/\rl=0)/\((yg L t K O && ZE L B && decide ((R.length:Int)=t.r))->br gD 0 200->c=0/\zM w' (.slice ra rl rc) (Zm L t K O B R gD))
variable {L:Lp} {t:Tg} {K:Kn} {O:Li} {B:List Li} {R:Li} {gD:Int} {w w':wO}
def tU (h:(yg L t K O && ZE L B && decide ((R.length:Int)=t.r))=false) (hb:Bw w w'):mx L t K O B R gD w (.returned (.tuple #[.slice none 0 0,J 2])) w' :=by grind [yg,ZE,mx]
def O4 (h:(yg L t K O && ZE L B && decide ((R.length:Int)=t.r))) (a:br gD 0 200=false) (hb:Bw w w'):mx L t K O B R gD w (.returned (.tuple #[.slice none 0 0,J 3])) w' :=by grind [mx]
def O5 (h:(yg L t K O && ZE L B && decide ((R.length:Int)=t.r))) (a:br gD 0 200) (hb:Bw w w') (hi:zM w' (.slice ra rl rc) (Zm L t K O B R gD)):mx L t K O B R gD w (.returned (.tuple #[.slice ra rl rc,J 0])) w' :=by grind [mx]
def O6 (hM:jK) (hE:Zj) (t:Tg) (pc st:Int) (ops:List bt) (L:Lp) (O R:Li) (B:List Li) (gD:Int) (a0 y z ka oa ba ra:Option Addr) (F G H kc oc bc rc:Nat) (w:wO) (hL:zI w ((lv L a0 y z F G H)) L) (hK:Y5 w (.slice ka ops.length kc) ops) (hO:zM w (.slice oa O.length oc) O) (hB:yu w (.slice ba B.length bc) B) (hR:zM w (.slice ra R.length rc) R) :
  Cp 59 #[(lv L a0 y z F G H),(tV t),.agg #[J pc,J st,.slice ka ops.length kc],.slice oa O.length oc,.slice ba B.length bc,.slice ra R.length rc,J gD] w (mx L t ⟨pc,st,ops⟩ O B R gD w):=by
 have ay:=Z (QJ w (lC L a0 y z F G H) (tO t) (kB pc st ka ops.length kc));have aW:Hid ((((w.alloc (lC L a0 y z F G H)).alloc (tO t)).alloc (kB pc st ka ops.length kc)).heap.size=w.heap.size+1+1+1):=by show _=_;simp
 have D:=Z (CX hM hE t pc st ops L O a0 y z ka oa F G H kc oc (((w.alloc (lC L a0 y z F G H)).alloc (tO t)).alloc (kB pc st ka ops.length kc)) (hL.gE ay) (hK.gE ay) (hO.gE ay));have aS:=Z (fun W (hb:Bw w W)=>vt L (.slice a0 L.l.length F) (.slice z L.o.length H) y G (.slice ba B.length bc) B W (hB.gE hb));have ce:=Z (OT L t ⟨pc,st,ops⟩ O B R gD (C2 hB) (C1 hR));have cu:=Z (tS L t ⟨pc,st,ops⟩ O B R gD);have dQ:=Z (C0 L t ⟨pc,st,ops⟩ O B R gD);have aR:=Z hB;have cB:=Z hR;have eM:=Z (show R.length<=9223372036854775807 by obtain⟨_,_,e,h1,m,-⟩:=hR;unfold maxLen at m;omega);obtain⟨j0,ji,jz0,jz1,jz2⟩:=info_parts Tryz.i2;clear hL hK hO hM hE hB hR;go_enter func59,ntmps59;go_wp2_with fail;refine D.m ?_;rintro e x1 ⟨pv,rfl,hb,bJ⟩;rw [aW] at hb;have au:=Z hb;obtain⟨⟨l0,l1,l2⟩,⟨t0,t1,t2,t3,t4,t5,t6⟩,⟨k0,k1,k2⟩,hz,j⟩:=yL hb;have aA:=Z j;have bL:w.heap.size+1+1+1<=x1.heap.size:=by omega
 have ai:=Z bJ;clear hb j D ay bJ;cases d:yg L t ⟨pc,st,ops⟩ O with
 | false =>
  have x:Hid ((yg L t ⟨pc,st,ops⟩ O && ZE L B && decide ((R.length:Int)=t.r))=false):=by simp_all
  clear d;go_wp2;exact oB (tU x aA)
 | true =>
  obtain⟨c,M,rfl,bQ,bF,bP⟩:=ai d;have ag:xW L t ⟨pc,st,ops⟩ O:=by
   cases hl:xW L t ⟨pc,st,ops⟩ O with
   | true=>rfl
   | false=>rw [rL hl] at d;cases d
  have cE:=Z d;have ah:=Z bF;have v:=Z ag;clear d bQ bF bP ag ai;go_wp2_with fail;refine (aS x1 aA).mr fun T hb=>?_;have bS:=Z (au.t (hb.m bL));have af:=Z (ah.gE hb);clear hb l0 l1 l2 t0 t1 t2 t3 t4 t5 t6 k0 k1 k2 hz ah aS;obtain⟨⟨l0,l1,l2⟩,⟨t0,t1,t2,t3,t4,t5,t6⟩,⟨k0,k1,k2⟩,hz,j⟩:=yL bS;have gT:=Z j;clear j au aA bL;cases f:ZE L B with
  | false =>have x:Hid ((yg L t ⟨pc,st,ops⟩ O && ZE L B && decide ((R.length:Int)=t.r))=false):=(by simp_all);clear f;go_wp2;exact oB (tU x gT)
  | true =>
   have bT:Hid (B.length=L.b.length/\∀i,i<B.length->(zB B i).length=3):=(by have az:=f;unfold ZE at az;rw [Qg] at az;exact⟨QI az.1,fun i hi=>QI (zq az.2 i hi)⟩);by_cases q:(R.length:Int)=t.r
   ·have x:Hid ((yg L t ⟨pc,st,ops⟩ O && ZE L B && decide ((R.length:Int)=t.r))):=(by simp_all);have eF:((R.length:Int) != t.r)=false:=(by simp [q]);cases a:br gD 0 200 with
    | false =>have HI:=Z a;have X:=Z (fun W=>UK gD 0 200 W);rw [a] at X;clear f a;go_wp2_with (go_at_call 108;refine (X _).mr fun w' C=>?_;have C:=C.s;subst C);exact oB (O4 x HI gT)
    | true =>
     have HI:=Z a;have eI:=zH.1 a;obtain⟨eZ,ht1⟩:=eI;have X:=Z (fun W=>UK gD 0 200 W);rw [a] at X;obtain⟨hm,-⟩:=xA v;obtain⟨⟨-,-,bH⟩,-⟩:=xh v;obtain⟨-,eu,cW,dE,-⟩:=zy hm;have aO:t.r<=128:=(by obtain⟨-,-,-,-,-,-,-,-,aO,-⟩:=ZB v (s:=0) (by omega);exact aO);(try simp only at bH);have dS:=Z (fun i (hi:i<L.o.length)=>XH hm hi);have dU:=Z (fun (s:Nat) (hs:s<L.b.length)=>And.intro (ZB v hs).2.2.2.2.2.2.1 (ZB v hs).2.2.2.2.2.2.2.1);obtain⟨v0,v1,v2,bO,-,-,⟨o1,oc1,rfl,eR,eB,-,dD⟩⟩:=af.lv;unfold maxLen at eB;injection bO with bO;obtain⟨eJ,bK,aQ⟩:c.l0=v0/\c.l1=v1/\c.l2=.slice o1 L.o.length oc1:=(by have:=congrArg Array.toList bO;simpa using this);obtain⟨-,-,y2,-,-,-,-,y7,-⟩:=af.cells;rw [aQ] at y2;have dR:=Z dD;have dg:=af.lt;have dp:=Z (O3 T 2);clear f a bO eJ bK aQ dD hm;go_wp2_with (go_at_call 108;refine (X _).mr fun w' C=>?_;have C:=C.s;subst C);clear l0 l1 l2 t0 t1 t2 t3 t4 t5 t6 k0 k1 k2 hz y2;go_loopw [18,55] (fun ov iv wr=>∃k:Nat,k<=L.o.length/\iv=J k/\∃ua uc,ov=.slice ua k uc/\wr.ownsRow T.heap.size 2 1 (.slice ua k uc) k (((Zm L t ⟨pc,st,ops⟩ O B R gD).take k).map (Value.int .i64))/\Bw T wr) (fun _ iv _=>L.o.length - (intOf iv).toNat)
     case atStart=>exact⟨0,Ql _,rfl,some (E T.heap.size 0),0,rfl,dp,Qd _ _⟩
     clear dp;obtain⟨k,hk,rfl,ua,uc,rfl,gJ,I⟩:=hrel;have V:=Z gJ;have aJ:=Z I;have HW:=Z (gT.t (I.m gT.size));have U:=Z (af.gE I);have bR:=I.size;by_cases p:k<L.o.length
     ·have eq:(k:Int)<(L.o.length:Int):=(by omega);obtain⟨gb,go,rfl,em,dC⟩:=dR (by omega);have cK:=(ze I gb (go+k) em).t (dC k p);have eP:gb<wr.heap.size:=(by omega);obtain⟨ey,eA⟩:=dS k p;obtain⟨on,dF⟩:∃on:Nat,ak L.o k=(on:Int):=⟨(ak L.o k).toNat,by omega⟩;have aL:=Z (dQ k p);rw [dF] at cK ey eA aL;rw [QL] at aL;have bG:on<L.b.length:=(by omega);obtain⟨cI,aY⟩:=bT;obtain⟨xb1,xb2,cN,cM,aF,aj⟩:=aR.gE HW;injection cN with eb1 eb2 eb3;subst eb1;subst eb3;unfold maxLen at aF;obtain⟨bb,bo,rfl,bj,aa⟩:=aj (by omega);obtain⟨u,P,de⟩:=aa on (by omega);obtain⟨va,vc,rfl,bK,aQ,-,aG⟩:=de;rw [aY on (by omega)] at P bK aG;unfold maxLen at aQ;obtain⟨vb,vo,rfl,dH,ab⟩:=aG (by omega);have cV:=ab 0 (by omega);rw [WG] at cV;have ee:(on:Int)<(B.length:Int):=(by omega);have eQ:(on:Int)<(L.b.length:Int):=(by omega);obtain⟨-,-,-,-,-,-,-,y7,-⟩:=U.cells;have cP:=U.pl.cell bG;have eU:=U.pl.lt;have dg:=U.lt;obtain⟨cp1,cp2⟩:=U.cp;unfold maxLen at cp2;obtain⟨eS,eT⟩:=dU on bG;have aC:=Z (fun n h1 m=>oR c L t ⟨pc,st,ops⟩ O n wr U bH aO h1 m);generalize zC ⟨pc,st,ops⟩ O on=pl at *
      generalize ak (zB B on) 0=b0 at *
      have bE:k<(Zm L t ⟨pc,st,ops⟩ O B R gD).length:=(by rw [cu];exact p);have D:=Z (DG _ k bE);clear dC aj aa aG ab dF eb2 cI aY gJ I;by_cases htp:0<gD
      ·have A:Hid (ak (Zm L t ⟨pc,st,ops⟩ O B R gD) k=ak R ((pl+gD - 1) % t.r).toNat):=(by grind);obtain⟨rr,cY⟩:∃rr:Nat,(pl+gD - 1) % t.r=(rr:Int):=⟨((pl+gD - 1) % t.r).toNat,by have:=QS (pl+gD - 1) (show t.r≠0 by omega);omega⟩;have cZ:=QP (pl+gD - 1) (show 0<t.r by omega);rw [cY] at cZ A;rw [QL] at A;obtain⟨xr1,xr2,eh,eW,eE,-,bI⟩:=cB.gE HW;injection eh with er1 er2 er3;subst er1;subst er3;unfold maxLen at eE;obtain⟨rb,ro,rfl,eH,al⟩:=bI (by omega);have cR:=al rr (by omega);have eX:(rr:Int)<(R.length:Int):=(by omega);have df:wrap64 (pl+gD)=pl+gD:=(by unfold wrap64;omega);have fa:wrap64 (pl+gD - 1)=pl+gD - 1:=(by unfold wrap64;omega);have cg:=Z (aC (pl+gD - 1) (by omega) (by omega));(try simp only at cg);rw [cY] at cg;generalize ak R rr=rv at *
       rw [A] at D;clear bI al cY er2 aL A q aC cB aR;go_wp2_with fail;refine cg.m ?_;rintro e w1 ⟨rfl,n1,rfl⟩;go_wp2_with (at_builtin;refine QQ _ rfl (.tmp 82) (.tmp 84) 56 rfl T.heap.size 2 j0 (J 0) 1 8 underlying56 ji jz0 jz1 jz2 rfl (by decide) _ _ _ rfl (zp V (by first | exact (Qm _ _ _).alloc (Qc _) _ | exact (Qd _ _).t (Qm _ _ _))) (E wr.heap.size 0) 1 1 [J rv] rfl rfl (by exact xH _ _ _) (by intro u P;simp at P;subst P;rfl) (by unfold maxLen;omega) (by omega) (by simp;omega) ?_;intro v2' w2 K gN N;obtain⟨Q,S,rfl,cS,cU⟩:=Yf K;have cx:=Z K;have bZ:=Z gN;clear K gN);go_roundw
       case rel =>have m:=cx;rw [D] at m;exact⟨k+1,by omega,by go_num,Q,S,rfl,m,(aJ.tm ((Qm _ _ _).alloc (Qc _) _)).grown bZ (by simp;omega) (fun g hg=>zR V g hg)⟩
       simp [intOf];omega
      have A:Hid (ak (Zm L t ⟨pc,st,ops⟩ O B R gD) k=b0):=(by grind);rw [A] at D;clear aL A q aC cB aR;go_wp2_with (at_builtin;refine QQ _ rfl (.tmp 82) (.tmp 84) 56 rfl T.heap.size 2 j0 (J 0) 1 8 underlying56 ji jz0 jz1 jz2 rfl (by decide) _ _ _ rfl (zp V (Qd _ _)) (E wr.heap.size 0) 1 1 [J b0] rfl rfl (by exact xH _ _ _) (by intro u P;simp at P;subst P;rfl) (by unfold maxLen;omega) (by omega) (by simp;omega) ?_;intro v2' w2 K gN N;obtain⟨Q,S,rfl,cS,cU⟩:=Yf K;have cx:=Z K;have bZ:=Z gN;clear K gN);go_roundw
      case rel =>have m:=cx;rw [D] at m;exact⟨k+1,by omega,by go_num,Q,S,rfl,m,(aJ.alloc (by omega) _).grown bZ (by simp;omega) (fun g hg=>zR V g hg)⟩
      simp [intOf];omega
     have e:k=L.o.length:=(by omega);subst e;have eq:¬(L.o.length:Int)<(L.o.length:Int):=(by omega);have aB:Hid (zM wr (.slice ua L.o.length uc) (Zm L t ⟨pc,st,ops⟩ O B R gD)):=(by have h:=V;have e1:(Zm L t ⟨pc,st,ops⟩ O B R gD).take L.o.length=(Zm L t ⟨pc,st,ops⟩ O B R gD):=(by rw [<-cu];exact Wd);rw [e1] at h;refine DH (base:=T.heap.size) ?_ ce;rw [cu];exact h);clear gJ I;go_wp2;exact oB (O5 x HI HW aB)
   have x:Hid ((yg L t ⟨pc,st,ops⟩ O && ZE L B && decide ((R.length:Int)=t.r))=false):=(by simp_all);have eF:((R.length:Int) != t.r):=(by simp [q]);clear f;go_wp2;exact oB (tU x gT)
def O7 (o:jK) (m:Zj):li:=by intro v kv s r u t L K O B R gD w a n b hB hR;obtain⟨a0,c,d,ka,p,j,k,l,kc,q,rfl,rfl,rfl,h⟩:=CY a n b;have g:=hB;obtain⟨f,bc,rfl,-⟩:=g;have i:=hR;obtain⟨ra,rc,rfl,-⟩:=i;exact O6 o m t K.pc K.st K.ops L O R B gD a0 c d ka p f ra j k l kc q bc rc w a h b hB hR
end
section
def km (F V:Li) (p:Nat) (left:Lit->Bool) (g:Nat->Int):Prop :=
 (∀i,i<p->left (.int .i64 (ak F i))=false->g (ak F i).toNat=ak V i)/\∀z:Nat,(left (.int .i64 (z:Int))\/∀i,i<p->ak F i≠z)->g z=0
theorem km.start {F V:Li} {D:DataW Unit} (h:∀z,Maps.has D (.int .i64 z)=true↔∃i,i<p/\ak F i=z):km F V p (Maps.has D) (fun _=>0) :=by grind [km]
def O8 (z:Int):WideAt.IsKeyLit (.int .i64 z):=trivial
def km.step {F V:Li} {i:Nat} {g:Nat->Int} (h:km F V p left g) (hi:i<p) (r:left (.int .i64 (ak F i))) (q:∀i j,i<j->j<p->ak F i≠ak F j) (h0:∀i,i<p->0<=ak F i) :
  km F V p (fun z=>left z && !z.sameKey (.int .i64 (ak F i))) (fun z=>if z=(ak F i).toNat then ak V i else g z):=by
 have n:∀a b,a<p->b<p->ak F a=ak F b->a=b:=fun a b o hb e=>by
  grind
 refine⟨fun j l c=>?_,fun z c=>?_⟩
 ·by_cases e:ak F j=ak F i
  ·grind
  have k:(ak F j).toNat≠(ak F i).toNat:=rQ
  show (if (ak F j).toNat=(ak F i).toNat then ak V i else g (ak F j).toNat)=_;rw [Qe k];have d:(left (.int .i64 (ak F j)) && !(Lit.int .i64 (ak F j)).sameKey (.int .i64 (ak F i)))=false:=c;rw [sameKey_ne (fun h=>e (by injection h))] at d;exact h.1 j l (by simpa using d)
 have m:z≠(ak F i).toNat:=by
  intro e;have f:ak F i=z:=rQ
  rcases c with c | c
  ·have d:(left (.int .i64 (z:Int)) && !(Lit.int .i64 (z:Int)).sameKey (.int .i64 (ak F i))):=c;rw [f,WideAt.sameKey_self (O8 _)] at d;simp at d
  exact c i hi f
 show (if z=(ak F i).toNat then ak V i else g z)=0;rw [Qe m];apply h.2 z;grind
def km.fin {F V:Li} {g:Nat->Int} (h:km F V p left g) (a:∀b,left b=false) (c:∀i j,i<j->j<p->ak F i≠ak F j) (h0:∀i,i<p->0<=ak F i) (z:Nat):g z=kK F V p z:=by
 by_cases e:∃i,i<p/\ak F i=z
 ·obtain⟨i,hi,e⟩:=e;have h1:=h.1 i hi (a _);grind [PZ]
 have hn:∀i,i<p->ak F i≠z:=fun i hi h=>e ⟨i,hi,h⟩;rw [h.2 z (.inr hn),Gc p (fun i hi h=>hn i hi rQ)]
def oq (L:Lp) (t:Tg) (K:Kn) (O:Li) (B:List Li) (w:wO) (e:Ending) (w':wO):Prop :=
 Bw w w'/\∃ra rl rc c,e=.returned (.tuple #[.slice ra rl rc,J c])/\((yg L t K O && ZE L B)=false->c=2/\rl=0/\rc=0)/\((yg L t K O && ZE L B)->c=0/\zM w' (.slice ra rl rc) (U7 L t K O B))
variable {L:Lp} {t:Tg} {K:Kn} {O:Li} {B:List Li} {w w':wO}
def C6 (h:(yg L t K O && ZE L B)=false) (hb:Bw w w'):oq L t K O B w (.returned (.tuple #[.slice none 0 0,J 2])) w' :=by grind [ZE,oq]
def O9 (h:(yg L t K O && ZE L B)) (hb:Bw w w') (hi:zM w' (.slice ra rl rc) (U7 L t K O B)):oq L t K O B w (.returned (.tuple #[.slice ra rl rc,J 0])) w' :=by grind [oq]
def O' (key:vO) (a:Lit) (h:keyOf prog 3 key=some a):∃x:Int,key=.int .i64 x:=by obtain⟨x,e,-⟩:=Maps.keyOf_int_inv underlying3 h;exact⟨x,e⟩
def Pa (v:vO) (y:DataW Unit × List MemPlace) (h:Y3 v=some y):∃c:Int × Int,v=.agg #[J c.1,J c.2]:=by obtain⟨a,q,e,-⟩:=Ba h;exact⟨(a,q),e⟩
def Pb (w:wO) {ops:Array Oper} {rest:List Oper} {o:Oper} {a:Act} {Q:Exit->Act->wO->Prop} (H:o.guard=none) (t:Operand) (F:o.op=Op.next t false)
  (b r n:Nat) (D:DataW Unit) (left:Lit->Bool) (cnt:Nat) (hit:a.eval t=.pointer (pA r)) (h:w.ranges prog 3 Y3 b r n D left cnt)
  (A:cnt=0->(∀u,left u=false)->wpList prog ops Q rest (a.put o.dst (.tuple #[.bool false])) w)
  (B:∀(x g i:Int) (w':wO) (d:Nat),(Lit.int .i64 x).wf->left (.int .i64 x)->(∀L,D.atKey (.int .i64 x) L=Uj g i)->w'.ranges prog 3 Y3 b r n D (fun z=>left z && !z.sameKey (.int .i64 x)) d->d<cnt ->
   w.grownBy w' (some r)->w'.heap.size=w.heap.size->(Instr.entry (.pointer (pA r))).run prog w'=.ok (.tuple #[.int .i64 x,.agg #[.int .i64 g,.int .i64 i]]) w'->wpList prog ops Q rest (a.put o.dst (.tuple #[.bool true,.int .i64 x,.agg #[.int .i64 g,.int .i64 i]])) w') :
  wpList prog ops Q (o :: rest) a w :=
 wpList_next_ranges w H t F 3 UP Y3 (Value.int .i64) (fun p:Int × Int=>.agg #[.int .i64 p.1,.int .i64 p.2]) O' Pa b r n D left cnt hit h A (fun x c u y w' d f m I j v q l s k=>by
  obtain⟨M,G,rfl,C⟩:=Maps.keyOf_int_inv underlying3 f
  injection G with ex1 ex2
  subst ex2
  have K:y=(Uj c.1 c.2,[]):=QD (I.s.t (sY c.1 c.2))
  subst K
  exact B x c.1 c.2 w' d C m j v q l s k)
def Pd (hM:jK) (hE:Zj) (a p1 p2 d f n r pc st:Int) (ops:List bt) (L:Lp) (O:Li) (B:List Li) (a0 T U ka oa ba:Option Addr) (v gB gC kc oc bc:Nat) (w:wO) (hL:zI w ((lv L a0 T U v gB gC)) L) (hK:Y5 w (.slice ka ops.length kc) ops) (hO:zM w (.slice oa O.length oc) O) (hB:yu w (.slice ba B.length bc) B) :
  Cp 57 #[(lv L a0 T U v gB gC),.agg #[.int .i64 a,.int .i64 p1,.int .i64 p2,.int .i64 d,.int .i64 f,.int .i64 n,.int .i64 r],.agg #[.int .i64 pc,.int .i64 st,.slice ka ops.length kc],.slice oa O.length oc,.slice ba B.length bc] w (oq L ⟨a,p1,p2,d,f,n,r⟩ ⟨pc,st,ops⟩ O B w):=by
 have ay:=Z (QJ w (lC L a0 T U v gB gC) (.cells #[.int .i64 a,.int .i64 p1,.int .i64 p2,.int .i64 d,.int .i64 f,.int .i64 n,.int .i64 r] 27) (.cells #[.int .i64 pc,.int .i64 st,.slice ka ops.length kc] 75));have aW:Hid ((((w.alloc (lC L a0 T U v gB gC)).alloc (.cells #[.int .i64 a,.int .i64 p1,.int .i64 p2,.int .i64 d,.int .i64 f,.int .i64 n,.int .i64 r] 27)).alloc (.cells #[.int .i64 pc,.int .i64 st,.slice ka ops.length kc] 75)).heap.size=w.heap.size+1+1+1):=by show _=_;simp
 have ao:=Z (CX hM hE ⟨a,p1,p2,d,f,n,r⟩ pc st ops L O a0 T U ka oa v gB gC kc oc (((w.alloc (lC L a0 T U v gB gC)).alloc (.cells #[.int .i64 a,.int .i64 p1,.int .i64 p2,.int .i64 d,.int .i64 f,.int .i64 n,.int .i64 r] 27)).alloc (.cells #[.int .i64 pc,.int .i64 st,.slice ka ops.length kc] 75)) (hL.gE ay) (hK.gE ay) (hO.gE ay));have aS:=Z (fun W (hb:Bw w W)=>vt L (.slice a0 L.l.length v) (.slice U L.o.length gC) T gB (.slice ba B.length bc) B W (hB.gE hb));have aZ:=C2 hB;have ce:=Z (fun m c=>OV (F:=yF L ⟨a,p1,p2,d,f,n,r⟩ ⟨pc,st,ops⟩ O) (V:=V7 L B L.b.length) (OW _ _ (fun s q=>aZ s q) _) m c);have aR:=Z hB;clear hL hK hO hM hE hB aZ;go_enter func57,ntmps57;go_wp2_with fail;refine ao.m ?_;rintro e x1 ⟨pv,rfl,hb,bJ⟩;rw [aW] at hb;have au:=Z hb;obtain⟨⟨l0,l1,l2⟩,⟨t0,t1,t2,t3,t4,t5,t6⟩,⟨k0,k1,k2⟩,hz,H⟩:=yL (t:=⟨a,p1,p2,d,f,n,r⟩) hb;have aA:=Z H;have bL:w.heap.size+1+1+1<=x1.heap.size:=oM
 have ai:=Z bJ;clear hb H ao ay bJ;cases G:yg L ⟨a,p1,p2,d,f,n,r⟩ ⟨pc,st,ops⟩ O with
 | false =>
  have HN:Hid ((yg L ⟨a,p1,p2,d,f,n,r⟩ ⟨pc,st,ops⟩ O && ZE L B)=false):=sA
  clear G;go_wp2;exact oB (C6 HN aA)
 | true =>
  obtain⟨c,M,rfl,bQ,bF,bP⟩:=ai G;have ag:xW L ⟨a,p1,p2,d,f,n,r⟩ ⟨pc,st,ops⟩ O:=by
   cases hl:xW L ⟨a,p1,p2,d,f,n,r⟩ ⟨pc,st,ops⟩ O with
   | true=>rfl
   | false=>rw [rL hl] at G;cases G
  have bz:Yj L ⟨a,p1,p2,d,f,n,r⟩ ⟨pc,st,ops⟩ O:=by have h:=G;rw [vI ag] at h;simp only [Qg] at h;exact h.1.1.1.1
  have cE:=Z G;have ah:=Z bF;have ae:=Z ag;have dK:=Z bz;have aD:=Z bP;have dW:=Z bQ;clear G bQ bF bP ag ai bz;go_wp2_with fail;refine (aS x1 aA).mr fun p hb=>?_;have bS:=Z (au.t (hb.m bL));have af:=Z (ah.gE hb);have cw:=Z (aD.gG (hb.block _ aD.lt));clear hb l0 l1 l2 t0 t1 t2 t3 t4 t5 t6 k0 k1 k2 hz ah aS aD;obtain⟨⟨l0,l1,l2⟩,⟨t0,t1,t2,t3,t4,t5,t6⟩,⟨k0,k1,k2⟩,hz,H⟩:=yL (t:=⟨a,p1,p2,d,f,n,r⟩) bS;have gT:=Z H;clear H au aA bL;cases hbd:ZE L B with
  | false =>have HN:Hid ((yg L ⟨a,p1,p2,d,f,n,r⟩ ⟨pc,st,ops⟩ O && ZE L B)=false):=(by simp_all);clear hbd;go_wp2;exact oB (C6 HN gT)
  | true =>
   have bT:Hid (B.length=L.b.length/\∀i,i<B.length->(zB B i).length=3):=(by have az:=hbd;unfold ZE at az;rw [Qg] at az;exact⟨QI az.1,fun i hi=>QI (zq az.2 i hi)⟩);have HN:Hid ((yg L ⟨a,p1,p2,d,f,n,r⟩ ⟨pc,st,ops⟩ O && ZE L B)):=(by simp_all);obtain⟨hm,-⟩:=xA ae;obtain⟨⟨-,-,bH⟩,-⟩:=xh ae;obtain⟨-,eu,cW,-⟩:=zy hm;have aO:r<=128:=(by obtain⟨-,-,-,-,-,-,-,-,aO,-⟩:=ZB ae (s:=0) oM;exact aO);simp only at bH;have dh:Hid (∀i j,i<j->j<ZZ L L.b.length->ak (yF L ⟨a,p1,p2,d,f,n,r⟩ ⟨pc,st,ops⟩ O) i≠ak (yF L ⟨a,p1,p2,d,f,n,r⟩ ⟨pc,st,ops⟩ O) j):=fun i j hij Q=>by have h:=dK;have e:Yj L ⟨a,p1,p2,d,f,n,r⟩ ⟨pc,st,ops⟩ O=zF (XD (yF L ⟨a,p1,p2,d,f,n,r⟩ ⟨pc,st,ops⟩ O)) (ZZ L L.b.length):=(by show zF (XD (yF L ⟨a,p1,p2,d,f,n,r⟩ ⟨pc,st,ops⟩ O)) (yF L ⟨a,p1,p2,d,f,n,r⟩ ⟨pc,st,ops⟩ O).length=_;rw [CV]);rw [e] at h;have h6:=zq (zq h j Q) i hij;simpa using h6
   have bU:Hid (∀i,i<ZZ L L.b.length->0<=ak (yF L ⟨a,p1,p2,d,f,n,r⟩ ⟨pc,st,ops⟩ O) i/\ak (yF L ⟨a,p1,p2,d,f,n,r⟩ ⟨pc,st,ops⟩ O) i<r):=fun i hi=>vJ (t:=⟨a,p1,p2,d,f,n,r⟩) bH L ⟨pc,st,ops⟩ O (k:=L.b.length) hi;have dZ:Hid (∀i,i<ZZ L L.b.length->∃s q:Nat,s<L.b.length/\q<3/\ak (ki L) i=s/\ak (XV L) i=(q:Int)+1/\ak (V7 L B L.b.length) i=ak (zB B s) q):=fun i hi=>by
    obtain⟨s,q,h1,N,h3⟩:=DC (xE L) L.b.length i hi;have h4:=tP hm s;obtain⟨-,f2,f3⟩:=CU (t:=⟨a,p1,p2,d,f,n,r⟩) (K:=⟨pc,st,ops⟩) (O:=O) h1 N;refine⟨s,q,h1,oM,?_,?_,?_⟩
    ·rw [h3];exact f2
    ·rw [h3];exact f3
    rw [h3];exact oC (xE L) (fun s q=>ak (zB B s) q) L.b.length s q h1 N
   have dj:Hid (U7 L ⟨a,p1,p2,d,f,n,r⟩ ⟨pc,st,ops⟩ O B=(List.range r.toNat).map (kK (yF L ⟨a,p1,p2,d,f,n,r⟩ ⟨pc,st,ops⟩ O) (V7 L B L.b.length) (ZZ L L.b.length))):=rfl;obtain⟨A,eG⟩:∃A:Nat,r=(A:Int):=⟨r.toNat,oM⟩;subst eG;rw [QL] at dj;obtain⟨-,-,-,-,-,-,-,-,-,y9⟩:=af.cells;rw [dW] at y9;have dg:=af.lt;have er:=run_make_row' (P:=prog) 56 2 (.int .i64 0) 8 underlying56 Tryz.i2 rfl .i64 .i64 A oM oM;obtain⟨D,gJ,ep,bD,bh⟩:=cw;have cA:=Z gJ;have aT:=Z bD;have dJ:=Z bh;have cG:Hid (zr (p.alloc (.cells (madeCells #[.int .i64 0] A) 2)) p.heap.size 2 A (fun c=>.int .i64 ((fun _:Nat=>(0:Int)) c))):=zr.zeros p _ A _;have y9A:(p.alloc (.cells (madeCells #[.int .i64 0] A) 2)).c c.y 9=some (.map (some M)):=(ze (Qd p _) c.y 9 dg).t y9;obtain⟨X,hX⟩:=nm (p.alloc (.cells (madeCells #[.int .i64 0] A) 2));have dA:X.heap.size=p.heap.size+1:=(by rw [<-hX];simp);have dy:=Z dA;have eN:=cA.lt;have dT:Hid (X.ownsMap prog 3 Y3 M (ZZ L L.b.length) D):=(by rw [<-hX];exact gJ.alloc _);have ed:Hid (Bw p X):=(by rw [<-hX];exact Qd _ _);rw [hX] at cG;have dx:=Z hX;clear hbd hm gJ bD bh hX y9 dA
   go_wp2_with (first
    | (at_range;rw [dx];refine wpList_range_own _ rfl _ 172 rfl 3 142 UP underlying172 Y3 M (ZZ L L.b.length) D rfl dT ?_;intro w0 I hg0 hs0)
    | fail)
   go_frame;clear l0 l1 l2 t0 t1 t2 t3 t4 t5 t6 k0 k1 k2 hz y9A;obtain⟨r0,dG⟩:=nm X.heap.size;rw [dG] at I hs0 dy ⊢;have aV:=Z I;have bY:=Z hg0;have eY:p.heap.size<r0:=(by rw [dy];omega);have dn:Hid (∀{u u':wO} {row:Option Nat},Bw u u'->u.grownBy u' row):=fun hb=>⟨hb.os,hb.tape,hb.output,hb.size,fun i hi _=>hb.block i hi⟩;clear I hg0 hs0 dG er;go_loopw [15] (fun _ wr=>∃(left:Lit->Bool) (cnt:Nat) (g:Nat->Int),wr.ranges prog 3 Y3 M r0 (ZZ L L.b.length) D left cnt/\zr wr p.heap.size 2 A (fun z=>.int .i64 (g z))/\km (yF L ⟨a,p1,p2,d,f,n,(A:Int)⟩ ⟨pc,st,ops⟩ O) (V7 L B L.b.length) (ZZ L L.b.length) left g/\Bw p wr) (fun _ wr=>wr.rangeLeft M r0)
   case atStart=>exact⟨_,_,_,aV,cG.grown bY sM,km.start aT,ed.grown bY (by rw [<-dx];simp) (fun j Q=>by cases Q)⟩
   clear aV bY cG;obtain⟨left,cnt,g,aP,gI,bC,gH⟩:=hrel;have dt:=Z gI;have di:=Z bC;have aJ:=Z gH;have dr:=Z aP;have eH:r0<wr.heap.size:=aP.lt;clear gI bC gH
   go_wp2_with (first
    | (at_next;refine Pb _ rfl _ rfl M r0 (ZZ L L.b.length) D left cnt rfl dr ?_ ?_)
    | fail)
   ·intro hc0 hl0;have aB:Hid (zM wr (.slice (pA p.heap.size) A A) (U7 L ⟨a,p1,p2,d,f,n,(A:Int)⟩ ⟨pc,st,ops⟩ O B)):=(by rw [dj];refine OX (e:=2) ?_ mL (ce _);refine dt.congr fun z hz=>?_;rw [di.fin hl0 dh (fun i hi=>(bU i hi).1) z]);have dY:=Z (gT.tm aJ);clear hc0 hl0 aP;go_wp2;exact oB (O9 HN dY aB)
   intro x ca cq w1 cnt1 dI hlk hat S hlt hg1 hs1 hen;obtain⟨i,hi,bM⟩:=(aT x).1 (Maps.has_true_of_atKey hat);have aN:Uj ca cq=Uj (ak (ki L) i) (ak (XV L) i):=(by have h1:=dJ i hi (.lit (.int .i64 0));rw [bM] at h1;exact (hat _).s.t h1);obtain⟨s,q,hs,eV,f2,f3,f4⟩:=dZ i hi;rw [f2,f3] at aN;obtain⟨rfl,rfl⟩:ca=(s:Int)/\cq=(q:Int)+1:=(by unfold Uj at aN;injection aN with aN;injection aN with h1 N;injection N with N _;injection h1 with h1;injection N with N;injection h1 with _ h1;injection N with _ N;exact⟨h1,N⟩);obtain⟨g1,g2⟩:=bU i hi;rw [bM] at g1 g2;obtain⟨C,rfl⟩:∃C:Nat,x=C:=⟨x.toNat,oM⟩;have bR:C<A:=(by omega);have fe:(C:Int)<(A:Int):=(by omega);have cL:Bw p w1:=aJ.grown hg1 oM (fun j Q=>by injection Q with Q;omega);have df:=gT.tm cL;obtain⟨cI,aY⟩:=bT;obtain⟨xb1,xb2,cN,cM,aF,aj⟩:=aR.gE df;injection cN with eb1 eb2 eb3;subst eb1;subst eb3;unfold maxLen at aF;obtain⟨bb,bo,rfl,bj,aa⟩:=aj oM;obtain⟨u,hu,de⟩:=aa s oM;obtain⟨va,vc,rfl,bK,aQ,-,aG⟩:=de;rw [aY s oM] at hu bK aG;unfold maxLen at aQ;obtain⟨vb,vo,rfl,dH,ab⟩:=aG oM;have cV:=ab q oM;have ee:(s:Int)<(B.length:Int):=(by omega);have eD:(q:Int)<3:=(by omega);have fc:wrap64 ((q:Int)+1 - 1)=q:=(by unfold wrap64;omega);have eK:IntKind.i64.wrap ((q:Int)+1 - 1)=q:=(by rw [nT oM oM];omega);have eL:IntKind.i64.wrap (q:Int)=q:=nT oM oM;have dw:=Z f4;obtain⟨R,dB⟩:=nm (ak (zB B s) q);rw [dB] at cV dw;have bW:=Z bM;have HI:=Z hi;have dO:=Z hlk;have cC:=Z S;have dP:=Z hlt;have ac:zr w1 p.heap.size 2 A (fun z=>.int .i64 (g z)):=dt.grown hg1 (by intro e;injection e with e;omega);have cD:=Z ac;obtain⟨W,hW⟩:=nm (w1.alloc (.cells #[.int .i64 (s:Int),.int .i64 ((q:Int)+1)] 142));have aM:Bw w1 W:=(by rw [<-hW];exact Qd _ _);have bN:W.heap[w1.heap.size]?=some (.cells #[.int .i64 (s:Int),.int .i64 ((q:Int)+1)] 142 (0,0)):=(by rw [<-hW];exact Zd _ _ _);have aI:p.heap.size<w1.heap.size:=ac.lt;have dV:Hid (W.drew.c w1.heap.size 0=some (.int .i64 (s:Int))/\W.drew.c w1.z 1=some (.int .i64 ((q:Int)+1))/\W.drew.c bb (bo+s)=some (.slice (some (E vb vo)) 3 vc)/\W.drew.c vb (vo+q)=some (.int .i64 R)/\W.drew.c p.z C=some (.int .i64 (g C))):=⟨by show W.cell? _=_;rw [Qa bN];rfl,by show W.cell? _=_;rw [Qa bN];rfl,(ze aM bb (bo+s) bj).t hu,(ze aM vb (vo+q) dH).t cV,(ze aM p.z C aI).t (ac.cell bR)⟩;have dX:=Z hW;have cF:=Z aM;have au:=Z cL;have ek:W.frozen? (E p.z C)=false:=(by rw [<-hW];exact (ac.alloc _).frozen C);have cfW:W.c p.z C=some (.int .i64 (g C)):=(ze aM p.z C aI).t (ac.cell bR);have eO:w1.z<W.z:=(lo bN);clear aj aa aG ab hu cV dB f2 f3 f4 bM hi hlk S hlt ac hW aM bN cL df cI aY eb2 hat aN hg1 hs1 aP;go_wp2;rw [dX];refine rg 13 (fun w'=>w'.c w1.z 0=some (.int .i64 (s:Int))/\w'.c w1.z 1=some (.int .i64 ((q:Int)+1))/\w'.c bb (bo+s)=some (.slice (some (E vb vo)) 3 vc)/\w'.c vb (vo+q)=some (.int .i64 R)/\w'.c p.z C=some (.int .i64 (g C))) dV fun h9=>?_;refine aq 0 ?_;refine aq 2 ?_;refine aq 4 ?_;refine aq 6 ?_;refine aq 8 ?_;refine aq 10 ?_;refine uk 12 ?_;refine uo 13 fun K hK=>?_;go_simp;refine bq hK.o (.inl rfl) ?_;clear hK K;refine rd ?_;have dL:Hid (Bw p (W.st p.z C (.int .i64 R)).drew):=((au.t (cF.m oM)).setCell (Qc _) _).t (Qm _ _ 1);have bV:Hid (w1.grownBy (W.st p.z C (.int .i64 R)).drew (some p.z)):=((dn (row:=some p.z) cF).andThen (row':=some p.z) (c:=W.st p.z C (.int .i64 R)) ⟨rfl,rfl,rfl,sM,fun i _ cX=>Qj _ _ _ _ (fun e=>cX (by rw [e]))⟩ (fun j Q=>.inr Q)).andThen (row':=none) (dn (Qm _ _ 1)) (fun j Q=>by cases Q);have dN:Hid (zr (W.st p.z C (.int .i64 R)).drew p.z 2 A (fun z=>.int .i64 ((fun z=>if z=(ak (yF L ⟨a,p1,p2,d,f,n,(A:Int)⟩ ⟨pc,st,ops⟩ O) i).toNat then ak (V7 L B L.b.length) i else g z) z))):=(by refine (((cD.gE cF aI).set C (.int .i64 R) bR).congr fun z hz=>?_);rw [bW,dw];show (if z=C then Value.int .i64 R else .int .i64 (g z))=.int .i64 (if z=C then R else g z);split <;> rfl);have dM:Hid (km (yF L ⟨a,p1,p2,d,f,n,(A:Int)⟩ ⟨pc,st,ops⟩ O) (V7 L B L.b.length) (ZZ L L.b.length) (fun z=>left z && !z.sameKey (.int .i64 (C:Int))) (fun z=>if z=(ak (yF L ⟨a,p1,p2,d,f,n,(A:Int)⟩ ⟨pc,st,ops⟩ O) i).toNat then ak (V7 L B L.b.length) i else g z)):=(by have h:=di.step HI (by rw [bW];exact dO) dh (fun i hi=>(bU i hi).1);rw [bW] at h ⊢;exact h);have dm:=Z (cC.kept bV rQ rQ);clear cfW ek h9;go_wp2;go_roundw
   case rel=>exact⟨_,_,_,dm,dN,dM,dL⟩
   rw [dm.left_eq,dr.left_eq];exact dP
def Pe (n:jK) (l:Zj):lh:=by intro v kv s q t L K O B w a m b hB;obtain⟨a0,c,d,ka,o,i,j,k,kc,p,rfl,rfl,rfl,h⟩:=CY a m b;have g:=hB;obtain⟨f,bc,rfl,-⟩:=g;exact Pd n l t.u0 t.u1 t.u2 t.w0 t.w1 t.w2 t.r K.pc K.st K.ops L O B a0 c d ka o f i j k kc p bc w a h b hB
end
def C7:lh:=Pe wX VB
def C8:li:=O7 wX VB
end
end Go.Proofs.YtjlfcbccpcigeacGreatDoor
