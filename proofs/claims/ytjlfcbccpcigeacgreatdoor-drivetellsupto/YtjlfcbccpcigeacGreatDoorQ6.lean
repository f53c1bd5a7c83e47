import Derived.Test.YtjlfcbccpcigeacGreatDoorQ3
set_option maxHeartbeats 40000000
set_option linter.defProp false
namespace Go.Proofs.YtjlfcbccpcigeacGreatDoor
open Go.Proofs.Tryz Go.RowKit Go.Joins
set_option linter.unusedVariables false
set_option linter.unusedSimpArgs false
set_option maxRecDepth 8192
def nS (L:Lp) (t:Tg) (n:Int) (a:Li):Prop:=if br n 0 200=false then a=ZV else ∃z,yN L t 1 z/\a=match z with
 | none=>Uu
 | some K=>ku L t K n
def LF {L:Lp} {n:Int} (hm:zQ L) (l:cn L) (h0:0<=n) (v s:vO) (w:wO) (m:zI w v L) (hS:Vk w s (ZM L) (ZQ L)) :
  Cp 56 #[v,s,J n] w fun e w'=>∃a d b i k j c,e=.returned (.tuple #[.agg #[.slice a d b,.slice i k j],J c])/\Bw w w'/\(n<=200->c=0/\zM w' (.slice a d b) (XG L n))/\(200<n->c=3):=by
 have g:Vu L (ZM L) (ZQ L) n=if n<=200 then 0 else 3:=by
  unfold Vu;rw [rC hm,Qf rfl];by_cases h:n<=200
  ·rw [Qf ⟨h0,h⟩,Qf h]
  rw [Qe (fun e=>h e.2),Qe h]
 refine (B4 v s L _ _ n w m hS l (vi L) (vj L)).m fun e w' ⟨hb,a,d,b,i,k,j,o,h⟩=>?_;exact⟨a,d,b,i,k,j,_,o,hb,fun f=>⟨by rw [g,Qf f],(h (by rw [g,Qf f])).1⟩,fun f=>by rw [g,Qe oM]⟩
def LG (hX:VX) (hE:lh) (hV:li) (hR:lT) (T:Tg) (tx:Li) (L:Lp) (n:Int) (a0 a1 a2:Option Addr) (Q R S pb:Nat) (w:wO) (hL:zI w ((lv L a0 a1 a2 Q R S)) L) (aK:cn L) (hp:jS w pb T tx) (hm:zQ L) (ht:zS T) (dJ:0<=n) (dK:n<=999999) :
  Cp 25 #[.pointer (pA pb),(lv L a0 a1 a2 Q R S),J n] w fun e w'=>∃a,e=.returned (.string (strOfNums a))/\a.length<=10000/\Bw w w'/\nS L T n a:=by
 obtain⟨j0,ji,jz0,jz1,jz2⟩:=info_parts Tryz.i56;have er:∀W:wO,(Instr.makeSlice 56 (J 3) (J 3)).run prog W=.ok (.slice (pA W.heap.size) 3 3) (W.alloc (.cells (madeCells #[J 0] 3) 2)):=fun W=>pN 3 oM W;obtain⟨dE,-,dp,aY,dH,-⟩:=zy hm;have HL:=Z hL;obtain⟨v0',v1',v2',hv,⟨a0',cap0',eD,ee,ef,-,dG⟩,-⟩:=hL;simp only [El,Ex,W9,and_true] at hv;obtain⟨rfl,-,-⟩:=hv;injection eD with e1 e2 e3;subst e1;subst e3;have dV:=Z dG;have dW:=Z dH;have dU:=Z dE;have bS:=Z dp;have ce:=Z aY;have HP:=Z hp;have ey:=hp.cells.2.2;obtain⟨V1,bH⟩:=nm (w.alloc (lC L a0 a1 a2 Q R S));obtain⟨X0,bJ⟩:=nm (V1.alloc (.cells #[.slice none 0 0,.slice none 0 0] 116));have cJ:V1.heap.size=w.heap.size+1:=by rw [<-bH];simp
 have bD:Hid (Bw w V1):=by show Below _ _ _;rw [<-bH];exact Qd _ _
 have aL:Hid (V1.heap[w.heap.size]?=some (lC L a0 a1 a2 Q R S)):=by show _=_;rw [<-bH];exact zm _ _ _
 have bF:Hid (Bw V1 X0):=by show Below _ _ _;rw [<-bJ];exact Qd _ _
 have di:Hid (ej X0 (w.heap.size+1) (.slice none 0 0) (.slice none 0 0) (fun _=>0) (fun _=>0) [] [] X0):=ej.start (by rw [<-bJ,<-cJ];exact zm _ _ _);have bj:Hid (V1.heap.size<=w.heap.size+1):=qQ cJ;obtain⟨l0,l1,l2,lz⟩:=Vy (w:=w) aL.o (QA _ _);have cU:=Z aK;have HM:=Z hm;have HX:=Z bJ;have bZ:=Z (And.intro dJ dK);clear bJ dG dH dE dp aY ee ef hm hp aK dJ dK;go_enter func25,ntmps25;go_wp2_with fail;rw [HX.o];clear cJ bH l0 l1 l2 lz HX;generalize w.heap.size+1=D at *
 go_loopw [8] (fun iv wr=>∃(k:Nat) (U:Option Addr) (V:Nat) (GB:Nat->Nat),k<=L.b.length/\iv=J k/\ej X0 D (.slice U k V) (.slice none 0 0) GB (fun _=>0) (List.replicate k 3) [] wr) (fun iv _=>L.b.length - (intOf iv).toNat)
 case atStart=>exact⟨0,_,_,_,Ql _,rfl,di.o⟩
 clear di;obtain⟨k,U,V,GB,hk,rfl,q⟩:=hrel;obtain⟨l0,l1,l2,lz⟩:=Vy (w:=w) aL.o (q.bel bF.o bj.o);by_cases cF:k<L.b.length
 ·have ep:(k:Int)<(L.b.length:Int):=oM
  have cG:(List.replicate k 3).length=k:=Ej;have ek:=bS.o;obtain⟨⟨aW,aX⟩,xs,gJ,O,z⟩:=ej.appB (y:=wr.drew) (n:=3) (q.gE (Qm _ _ 1)) cG oM;have aV:=(q.gE (Qm wr.heap.size wr 1)).cells.1;have aO:=Z gJ;have aj:=Z z;have cL:=q.cells.2.2.1;have aN:=Z (xH (wr.drew.alloc (.cells (madeCells #[J 0] 3) 2)) (.slice (pA wr.heap.size) 3 3) 56);clear q gJ z;go_wp2_with fail;refine Qq ?_;refine zg 6 (fun w'=>w'.cell? (E D 0)=some (.slice U k V)) kR aV (fun p=>?_);refine aq 0 ?_;refine zb (i:=2) rfl kR (fun K m=>?_);go_simp;refine bq m.o (.inr aW) ?_;clear m K;refine zb (i:=3) rfl kR (fun K m=>?_);go_simp;refine bq m.o (.inr aX) ?_;clear m K;refine zb (i:=4) rfl kR (fun K m=>?_);refine step_append_lies _ rfl (.tmp 33) (.tmp 35) 114 rfl X0.heap.size 56 j0 (.slice none 0 0) 1 24 underlying114 ji jz0 jz1 jz2 rfl tQ _ k xs rfl aO.o (E (wr.heap.size+1) 0) 1 1 [.slice (pA wr.heap.size) 3 3] rfl rfl (by have h:=aN.o;have e:(wr.drew.alloc (.cells (madeCells #[J 0] 3) 2)).heap.size=wr.heap.size+1:=(by simp);rw [e] at h;exact h) (by intro u hu;simp at hu;subst hu;rfl) tQ mL oM O _ rfl ?_;intro g1 e1 w1 ho hg N hlt;obtain⟨⟨G1,aS⟩,P,f3,z3⟩:=aj.o g1 e1 w1 ho hg N;have bT:=Z aS;clear aS ho hg N hlt aO aj aN O;refine bq m.o (.inr P) ?_;clear m K;refine uk 5 ?_;refine zb (i:=6) rfl kR (fun K m=>?_);go_simp;refine bq m.o (.inl rfl) ?_;clear m K;refine zj kR ?_ _;refine Qs ?_;clear p aV aW aX P f3 z3 cL;go_wp2_with fail;go_roundw
  case rel=>exact⟨k+1,some (E g1 0),e1,G1,oM,nQ,by rw [<-Be];exact bT.o⟩
  simp [intOf];omega
 have e:k=L.b.length:=oM
 subst e;have ep:¬(L.b.length:Int)<(L.b.length:Int):=oM
 have cS:=Z q;clear q;go_wp2_with fail;clear l0 l1 l2 lz;rename wO=>wo;go_loopw [9] (fun iv wr=>∃(j:Nat) (ma:Option Addr) (mc:Nat) (GM:Nat->Nat),j<=L.l.length/\iv=J j/\ej X0 D (.slice U L.b.length V) (.slice ma j mc) GB GM (List.replicate L.b.length 3) ((L.l.take j).map fun g=>2 ^ g.toNat) wr) (fun iv _=>L.l.length - (intOf iv).toNat)
 case atStart=>exact⟨0,_,_,_,Ql _,rfl,cS.o⟩
 clear cS;obtain⟨j,ma,mc,GM,hj,rfl,q⟩:=hrel;obtain⟨l0,l1,l2,lz⟩:=Vy (w:=w) aL.o (q.bel bF.o bj.o);by_cases hjl:j<L.l.length
 ·have em:(j:Int)<(L.l.length:Int):=oM
  have eH:=dU.o;obtain⟨gb,go,rfl,eh,dF⟩:=dV.o oM;have aH:=bD.o.tm (q.bel bF.o bj.o);have c0:=(ze aH gb (go+j) eh).t (dF j hjl);have bM:gb<wr.heap.size:=by have:=aH.size;omega
  obtain⟨g0,g5⟩:=zH.1 (zq dW.o j hjl);have dY:=Z (Bf hjl);have dZ:Hid (∀W,Cp 55 #[J (ak L.l j)] W fun e w'=>e=.returned (J ((2 ^ (ak L.l j).toNat:Nat):Int))/\w'=W):=fun W=>by have h:=R8 (ak L.l j).toNat W oM;rw [WH g0] at h;exact h
  have bG:2 ^ (ak L.l j).toNat<=32:=Bg g0 g5;have eJ:=pN (2 ^ (ak L.l j).toNat) bG;have cG:((L.l.take j).map fun g=>2 ^ g.toNat).length=j:=by rw [Q9,Wh];omega
  have dT:=Z bG;have eG:=Z bM;generalize ak L.l j=gg at *
  generalize 2 ^ gg.toNat=nn at *
  clear dF bG aH;generalize (L.l.take j).map (fun g=>2 ^ g.toNat)=ll at *
  have HI:=Z q;clear q;go_wp2_with fail;refine (dZ.o _).m ?_;rintro e w9 ⟨rfl,h9⟩;have h9:=h9.s;subst h9;clear l0 l1 l2 lz c0 bM;have q:=HI.o;have bG:=dT.o;clear HI;go_wp2_with fail;obtain⟨⟨aW,aX⟩,xs,gJ,O,z⟩:=ej.appM (y:=wr.drew) (n:=nn) (q.gE (Qm _ _ 1)) cG oM;have aV:=(q.gE (Qm wr.heap.size wr 1)).cells.2.1;have aO:=Z gJ;have aj:=Z z;have cL:=q.cells.2.2.1;have aN:=Z (xH (wr.drew.alloc (.cells (madeCells #[J 0] nn) 2)) (.slice (pA wr.heap.size) nn nn) 56);clear q gJ z;go_wp2_with fail;refine Qq ?_;refine zg 7 (fun w'=>w'.cell? (E D 1)=some (.slice ma j mc)) kR aV (fun p=>?_);refine aq 0 ?_;refine uk 2 ?_;refine zb (i:=3) rfl kR (fun K m=>?_);go_simp;refine bq m.o (.inr aW) ?_;clear m K;refine zb (i:=4) rfl kR (fun K m=>?_);go_simp;refine bq m.o (.inr aX) ?_;clear m K;refine zb (i:=5) rfl kR (fun K m=>?_);refine step_append_lies _ rfl (.tmp 52) (.tmp 55) 114 rfl X0.heap.size 56 j0 (.slice none 0 0) 1 24 underlying114 ji jz0 jz1 jz2 rfl tQ _ j xs rfl aO.o (E (wr.heap.size+1) 0) 1 1 [.slice (pA wr.heap.size) nn nn] rfl rfl (by have h:=aN.o;have e:(wr.drew.alloc (.cells (madeCells #[J 0] nn) 2)).heap.size=wr.heap.size+1:=(by simp);rw [e] at h;exact h) (by intro u hu;simp at hu;subst hu;rfl) tQ mL oM O _ rfl ?_;intro g1 e1 w1 ho hg N hlt;obtain⟨⟨G1,aS⟩,P,f3,z3⟩:=aj.o g1 e1 w1 ho hg N;have bT:=Z aS;clear aS ho hg N hlt aO aj aN O;refine bq m.o (.inr P) ?_;clear m K;refine uk 6 ?_;refine zb (i:=7) rfl kR (fun K m=>?_);go_simp;refine bq m.o (.inl rfl) ?_;clear m K;refine zj kR ?_ _;refine Qs ?_;clear p aV aW aX P f3 z3 cL;go_wp2_with fail;go_roundw
  case rel=>exact⟨j+1,some (E g1 0),e1,G1,oM,nQ,by rw [<-dY.o];exact bT.o⟩
  simp [intOf];omega
 have e:j=L.l.length:=oM
 subst e;have em:¬(L.l.length:Int)<(L.l.length:Int):=oM
 have aH:=q.bel bF.o bj.o;have bf:=Z aH;have aJ:Hid (Bw w wr):=bD.o.tm aH;have bL:=q.hb.ints;have bN:=q.hm.ints;rw [Wd,<-D9] at bN;rw [<-D8] at bL;have cN:=Z bL;have cY:=Z bN;have dj:Hid (Vk wr (.agg #[.slice U L.b.length V,.slice ma L.l.length mc]) (ZM L) (ZQ L)):=⟨_,_,rfl,bL,bN⟩;have dh:=Z q.hs;have df:=Z (LF HM.o cU.o bZ.o.1 _ _ _ (HL.o.gE aJ.o) dj.o);obtain⟨s0,s1,sz,-⟩:=q.cells;clear q aH bL bN dj;go_wp2_with fail;refine df.o.m ?_;rintro e x3 ⟨va,vl,vc,ua,ul,uc,cc,rfl,cD,dA,dB⟩;obtain⟨f,cC⟩:=nm (x3.alloc (.cells #[.slice va vl vc,.slice ua ul uc] 119));have cw:Hid (f.heap[x3.heap.size]?=some (.cells #[.slice va vl vc,.slice ua ul uc] 119 (0,0))):=by show _=_;rw [<-cC];exact zm _ _ _
 have aG:Hid (Bw x3 f):=by show Below _ _ _;rw [<-cC];exact Qd _ _
 have aF:Hid (Bw wr f):=cD.tm aG.o;have aD:Hid (Bw w f):=aJ.o.tm aF.o;have bR:=Z (And.intro dA dB);clear cD dA dB l0 l1 l2 lz s0 s1 sz df;by_cases hn2:200<n
 ·have HE:Hid (br n 0 200=false):=by show _=_;unfold br;simp;omega
  have cE:=bR.o.2 hn2;subst cE;go_wp2_with fail;exact bodyPost_ret (v:=.string (strOfNums ZV)) (by simp [results,results25,go_sem];rfl) rfl ⟨_,rfl,tQ,aD.o,by unfold nS;rw [Qf HE.o]⟩
 have cH:n<=200:=oM
 obtain⟨cE,dL⟩:=bR.o.1 cH;subst cE;have cZ:=Z (dL.gE aG.o);have bU:Hid (¬br n 0 200=false):=by show ¬_;rw [yh ⟨bZ.o.1,cH⟩];decide
 have dX:=Z cH;clear dL bR;have H:Hid (∀y,Bw f y->(y.cell? (E w.heap.size 0)=some (.slice a0 L.l.length Q)/\y.cell? (E w.heap.size 1)=some (.slice a1 L.b.length R)/\y.cell? (E w.heap.size 2)=some (.slice a2 L.o.length S))/\(y.cell? (E pb 0)=Y T.u0/\y.cell? (E pb 1)=Y T.u1/\y.cell? (E pb 2)=Y T.u2/\y.cell? (E pb 3)=Y T.w0/\y.cell? (E pb 4)=Y T.w1/\y.cell? (E pb 5)=Y T.w2/\y.cell? (E pb 6)=Y T.r)):=fun y B=>by have bO:=aF.o.tm B;obtain⟨k0,k1,k2,-⟩:=Vy (w:=w) aL.o (bf.o.tm bO);exact⟨⟨k0,k1,k2⟩,(HP.o.gE (aJ.o.tm bO)).cells.1⟩
 have dM:pb<f.heap.size:=Qu ey aD.o.size;have dS:w.heap.size<f.heap.size:=by have:=(lo aL.o);have:=bf.o.size;have:=aF.o.size;omega
 have aP:Hid (D<wr.heap.size):=(lo dh.o);go_wp2_with fail;clear cC;have hm:=HM.o;refine Qq ?_;refine zg 99 (fun w'=>(w'.cell? (E w.heap.size 0)=some (.slice a0 L.l.length Q)/\w'.cell? (E w.heap.size 1)=some (.slice a1 L.b.length R)/\w'.cell? (E w.heap.size 2)=some (.slice a2 L.o.length S))/\(w'.cell? (E pb 0)=Y T.u0/\w'.cell? (E pb 1)=Y T.u1/\w'.cell? (E pb 2)=Y T.u2/\w'.cell? (E pb 3)=Y T.w0/\w'.cell? (E pb 4)=Y T.w1/\w'.cell? (E pb 5)=Y T.w2/\w'.cell? (E pb 6)=Y T.r)) kR (H.o _ (Qm _ _ 1)) (fun p=>?_);refine aq 0 ?_;refine aq 2 ?_;refine uk 4 ?_;refine Xp (i:=5) (j:=10) rfl rfl kR (fun x d=>?a1) (fun x d=>?a2)
 case' a1 =>
  go_simp;refine (hX _ T L _ (HL.o.gE (aD.o.t (Qm _ _ 1)))).m ?_;rintro e C ⟨B,k0,k1,kv,oa,ol,oc,c,rfl,-,ay⟩;obtain⟨K,ka,kc,⟨rfl,rfl,rfl⟩,m,A⟩:=lS (ay (by rw [hm,ht];rfl));have HK:=Z m;have aB:=Z A;clear ay m A;have aA:Hid (Bw f C):=(Qm _ _ 1).t (show Below f.heap.size f.drew C from B);have p:=H.o _ aA.o;clear B;refine bq d.o (.inr p) ?_;clear d x;refine aq 6 ?_;refine aq 8 ?_;refine zb (i:=10) rfl kR (fun x d=>?_);go_simp;refine bq d.o (.inr (H.o _ (aA.o.tm (Qd _ _)))) ?_;clear d x;refine zb (i:=11) rfl kR (fun x d=>?_);go_simp;obtain⟨X,M⟩:=nm (C.alloc (.cells #[J K.pc,J K.st,.slice ka K.ops.length kc] 75));rw [M];have F:Hid (Bw f X):=by show Below _ _ _;rw [<-M];exact aA.o.tm (Qd _ _)
  have bW:Hid (yQ X (.agg #[J K.pc,J K.st,.slice ka K.ops.length kc]) K):=by show yQ _ _ _;rw [<-M];exact HK.o.gE (Qd _ _)
  have cu:Hid (zM X (.slice oa ol oc) (X8 L.b.length)\/c=1):=by show _\/_;rw [<-M];exact aB.o.elim (fun h=>.inr h.1) (fun h=>.inl (h.2.1.1.gE (Qd _ _)))
  have ac:X.heap[C.heap.size]?=some (.cells #[J K.pc,J K.st,.slice ka K.ops.length kc] 75 (0,0)):=by rw [<-M];exact zm _ _ _
  refine d.o _ _ (.inr (H.o _ F.o)) ?_;clear d x;have p:=H.o _ F.o;try simp only [Act.put,Qn,Qy,Qz]
  refine aq 12 ?_;refine zj kR ?_ _;refine Qs ?_;obtain⟨kb,ai⟩:=nm C.heap.size;rw [ai] at ac ⊢;have bh:=Z ac;clear ac ai M aA HK p
 case' a2 =>
  go_simp;refine bq d.o (.inr (H.o _ ((Qd _ _).t (Qm _ _ 1)))) ?_;clear d x;refine zb (i:=5) rfl kR (fun x d=>?_);go_simp;obtain⟨W3,bI⟩:=nm ((f.alloc (kB 0 0 none 0 0)).drew);rw [bI];have aZ:Hid (Bw f W3):=by show Below _ _ _;rw [<-bI];exact (Qd _ _).t (Qm _ _ 1)
  have bg:Hid (W3.heap[f.heap.size]?=some (kB 0 0 none 0 0)):=by show _=_;rw [<-bI];exact zm _ _ _
  clear bI;refine (hX _ T L _ (HL.o.gE (aD.o.tm aZ.o))).m ?_;rintro e C ⟨B,k0,k1,kv,oa,ol,oc,c,rfl,-,ay⟩;obtain⟨K,ka,kc,⟨rfl,rfl,rfl⟩,m,A⟩:=lS (ay (by rw [hm,ht];rfl));have HK:=Z m;have aB:=Z A;clear ay m A;have aA:Hid (Bw f C):=aZ.o.tm B;have aC:Hid (C.heap[f.heap.size]?=some (kB 0 0 none 0 0)):=(B.block _ (lo bg.o)).t bg.o;have p:=H.o _ aA.o;clear B;refine bq d.o (.inr p) ?_;clear d x;refine aq 6 ?_;refine aq 8 ?_;have aI:=aC.o;have c0:C.cell? (E f.heap.size 0)=Y 0:=cb aI
  have c1:C.cell? (E f.heap.size 1)=Y 0:=cb aI
  have c2:C.cell? (E f.heap.size 2)=some (.slice none 0 0):=cb aI
  have z0:C.frozen? (E f.heap.size 0)=false:=qZ aI
  have z1:C.frozen? (E f.heap.size 1)=false:=qZ aI
  have z2:C.frozen? (E f.heap.size 2)=false:=qZ aI
  clear aI;have bV:=Z (qH HK.o aC.o);have bM:f.heap.size<W3.heap.size:=(lo bg.o);refine zb (i:=11) rfl kR (fun x d=>?_);go_simp;obtain⟨X,M⟩:=nm (((C.setCell (E f.heap.size 0) (J K.pc)).setCell (E f.heap.size 1) (J K.st)).setCell (E f.heap.size 2) (.slice ka K.ops.length kc));rw [M] at bV ⊢;have F:Hid (Bw f X):=by show Below _ _ _;rw [<-M];exact ((aA.o.setCell (Qc _) _).setCell (Qc _) _).setCell (Qc _) _
  have cu:Hid (zM X (.slice oa ol oc) (X8 L.b.length)\/c=1):=aB.o.elim (fun h=>.inr h.1) (fun h=>.inl (by rw [<-M];exact DE h.2.1 bM));refine d.o _ _ (.inr (H.o _ F.o)) ?_;clear d x;have p:=H.o _ F.o;try simp only [Act.put,Qn,Qy,Qz]
  refine aq 12 ?_;refine zj kR ?_ _;refine Qs ?_;obtain⟨dr,ac⟩:=bV.o;have bW:=Z dr;obtain⟨kb,ai⟩:=nm f.heap.size;rw [ai] at ac;rw [show Value.pointer (pA f.heap.size)=Value.pointer (pA kb) by rw [ai]];have bh:=Z ac;clear ac ai M aA HK p dr c0 c1 c2 z0 z1 z2 bV aZ bg aC
 all_goals
  have bE:=Z (aD.o.tm F.o)
  have eI:kb<X.heap.size:=(lo bh.o)
  rcases aB.o with ⟨rfl,hS⟩ | ⟨rfl,-,hS⟩
  ·have HS:=Z hS
   clear hS
   go_wp2_with fail
   exact bodyPost_ret (v:=.string (strOfNums Uu)) (by simp [results,results25,go_sem];rfl) rfl ⟨_,rfl,tQ,bE.o,by unfold nS;rw [Qe bU.o];exact⟨_,HS.o,rfl⟩⟩
  ·have HS:=Z hS
   have cg:=Z (cu.o.resolve_right tQ)
   have HC:=Z (D7 hE hV hR hm ht cU.o hS bZ.o.1 dX.o)
   have ag:Hid (Bw wr X):=aF.o.tm F.o
   have ab:Hid (∀y,Bw X y->((y.cell? (E w.heap.size 0)=some (.slice a0 L.l.length Q)/\y.cell? (E w.heap.size 1)=some (.slice a1 L.b.length R)/\y.cell? (E w.heap.size 2)=some (.slice a2 L.o.length S))/\(y.cell? (E pb 0)=Y T.u0/\y.cell? (E pb 1)=Y T.u1/\y.cell? (E pb 2)=Y T.u2/\y.cell? (E pb 3)=Y T.w0/\y.cell? (E pb 4)=Y T.w1/\y.cell? (E pb 5)=Y T.w2/\y.cell? (E pb 6)=Y T.r))/\(y.cell? (E kb 0)=Y K.pc/\y.cell? (E kb 1)=Y K.st/\y.cell? (E kb 2)=some (.slice ka K.ops.length kc))/\(y.cell? (E D 0)=some (.slice U L.b.length V)/\y.cell? (E D 1)=some (.slice ma L.l.length mc))):=fun y B=>by
    have bO:=ag.o.tm B
    obtain⟨k0,k1,k2,-⟩:=Vy (w:=w) bh.o B
    exact⟨H.o y (F.o.tm B),⟨k0,k1,k2⟩,q4 dh.o bO⟩
   have bY:=Z (HL.o.gE bE.o)
   have aC:Hid (Y5 X (.slice ka K.ops.length kc) K.ops):=by obtain⟨kl,cF,cI⟩:=bW.o;simp only [El,Ex,W9,and_true] at cF;obtain⟨-,-,rfl⟩:=cF;exact cI
   have bP:=Z (cN.o.gE ag.o)
   have cX:=Z (cY.o.gE ag.o)
   have cx:Hid (X.heap[x3.heap.size]?=some (.cells #[.slice va vl vc,.slice ua ul uc] 119 (0,0))):=(F.o.block _ (lo cw.o)).t cw.o
   have cB:=Z (cZ.o.gE F.o)
   have eu:pb<X.heap.size:=Qu dM F.o.size
   have eE:w.heap.size<X.heap.size:=Qu dS F.o.size
   have eC:D<X.heap.size:=Qu aP.o ag.o.size
   have eA:x3.heap.size<X.heap.size:=(lo cx.o)
   have ah:=Z (QA X.heap.size X)
   clear hS cu H F bW cN cY cw cZ dM dS aP ag aF bf aG aJ bh
   go_wp2_with fail
   generalize x3.heap.size=rb at *
   have dN:=ab.o _ (ah.o.tm (Qm _ _ 1))
   refine Qq ?_
   refine zg 99 (fun w'=>((w'.cell? (E w.heap.size 0)=some (.slice a0 L.l.length Q)/\w'.cell? (E w.heap.size 1)=some (.slice a1 L.b.length R)/\w'.cell? (E w.heap.size 2)=some (.slice a2 L.o.length S))/\(w'.cell? (E pb 0)=Y T.u0/\w'.cell? (E pb 1)=Y T.u1/\w'.cell? (E pb 2)=Y T.u2/\w'.cell? (E pb 3)=Y T.w0/\w'.cell? (E pb 4)=Y T.w1/\w'.cell? (E pb 5)=Y T.w2/\w'.cell? (E pb 6)=Y T.r))/\(w'.cell? (E kb 0)=Y K.pc/\w'.cell? (E kb 1)=Y K.st/\w'.cell? (E kb 2)=some (.slice ka K.ops.length kc))/\(w'.cell? (E D 0)=some (.slice U L.b.length V)/\w'.cell? (E D 1)=some (.slice ma L.l.length mc))) kR dN (fun p=>?_)
   refine aq 0 ?_
   refine aq 2 ?_
   refine aq 4 ?_
   refine aq 6 ?_
   refine uk 8 ?_
   refine zb (i:=9) rfl kR (fun x d=>?_)
   go_simp
   refine (HC.o.enter _ _ _ _ _ (bY.o.gE (ah.o.tm (Qm _ _ 1))) ⟨_,rfl,(aC.o.gE (ah.o.tm (Qm _ _ 1)))⟩ (cg.o.gE (ah.o.tm (Qm _ _ 1))) (bP.o.gE (ah.o.tm (Qm _ _ 1)))).m ?_
   rintro e x5 ⟨ra,rl,rc,ec,rfl,dD,dw⟩
   have cO:=Z dD
   clear dD
   have az:Hid (Bw X x5):=ah.o.tm ((Qm X.heap.size X 1).t (show Below X.heap.size X.drew x5 from dw))
   have p:=ab.o _ az.o
   clear dw
   refine bq d.o (.inr p) ?_
   clear d x
   refine aq 10 ?_
   refine aq 12 ?_
   refine uk 14 ?_
   refine zj kR ?_ _
   refine Qs ?_
   clear p dN
   go_wp2_with fail
   have dO:=ab.o _ (az.o.tm (Qm _ _ 1))
   refine Qq ?_
   refine zg 99 (fun w'=>((w'.cell? (E w.heap.size 0)=some (.slice a0 L.l.length Q)/\w'.cell? (E w.heap.size 1)=some (.slice a1 L.b.length R)/\w'.cell? (E w.heap.size 2)=some (.slice a2 L.o.length S))/\(w'.cell? (E pb 0)=Y T.u0/\w'.cell? (E pb 1)=Y T.u1/\w'.cell? (E pb 2)=Y T.u2/\w'.cell? (E pb 3)=Y T.w0/\w'.cell? (E pb 4)=Y T.w1/\w'.cell? (E pb 5)=Y T.w2/\w'.cell? (E pb 6)=Y T.r))/\(w'.cell? (E kb 0)=Y K.pc/\w'.cell? (E kb 1)=Y K.st/\w'.cell? (E kb 2)=some (.slice ka K.ops.length kc))/\(w'.cell? (E D 0)=some (.slice U L.b.length V)/\w'.cell? (E D 1)=some (.slice ma L.l.length mc))) kR dO (fun p=>?_)
   refine aq 0 ?_
   refine aq 2 ?_
   refine aq 4 ?_
   refine aq 6 ?_
   refine uk 8 ?_
   refine zb (i:=9) rfl kR (fun x d=>?_)
   go_simp
   refine (HC.o.run _ _ _ _ ⟨_,rfl,(aC.o.gE (az.o.tm (Qm _ _ 1)))⟩ (cO.o.gE (Qm _ _ 1)) (cX.o.gE (az.o.tm (Qm _ _ 1)))).m ?_
   rintro e x6 ⟨ra6,rl6,rc6,na,nl,nc,ec2,rfl,dQ,dx⟩
   have de:=Z dQ
   clear dQ
   have ae:Hid (Bw X x6):=az.o.tm ((Qm x5.heap.size x5 1).t (show Below x5.heap.size x5.drew x6 from dx))
   have p:=ab.o _ ae.o
   clear dx
   refine bq d.o (.inr p) ?_
   clear d x
   refine aq 10 ?_
   refine aq 12 ?_
   refine aq 14 ?_
   refine uk 16 ?_
   refine zj kR ?_ _
   refine Qs ?_
   clear p dO
   go_wp2_with fail
   have dP:=ab.o _ (ae.o.tm (Qm _ _ 1))
   refine Qq ?_
   refine zg 99 (fun w'=>((w'.cell? (E w.heap.size 0)=some (.slice a0 L.l.length Q)/\w'.cell? (E w.heap.size 1)=some (.slice a1 L.b.length R)/\w'.cell? (E w.heap.size 2)=some (.slice a2 L.o.length S))/\(w'.cell? (E pb 0)=Y T.u0/\w'.cell? (E pb 1)=Y T.u1/\w'.cell? (E pb 2)=Y T.u2/\w'.cell? (E pb 3)=Y T.w0/\w'.cell? (E pb 4)=Y T.w1/\w'.cell? (E pb 5)=Y T.w2/\w'.cell? (E pb 6)=Y T.r))/\(w'.cell? (E kb 0)=Y K.pc/\w'.cell? (E kb 1)=Y K.st/\w'.cell? (E kb 2)=some (.slice ka K.ops.length kc))/\(w'.cell? (E D 0)=some (.slice U L.b.length V)/\w'.cell? (E D 1)=some (.slice ma L.l.length mc))) kR dP (fun p=>?_)
   refine aq 0 ?_
   refine aq 2 ?_
   refine aq 4 ?_
   refine aq 6 ?_
   refine aq 8 ?_
   refine uk 10 ?_
   refine zb (i:=11) rfl kR (fun x d=>?_)
   go_simp
   refine (HC.o.leave _ _ _ _ _ _ (bY.o.gE (ae.o.tm (Qm _ _ 1))) ⟨_,rfl,(aC.o.gE (ae.o.tm (Qm _ _ 1)))⟩ (cg.o.gE (ae.o.tm (Qm _ _ 1))) (bP.o.gE (ae.o.tm (Qm _ _ 1))) (de.o.gE (Qm _ _ 1))).m ?_
   rintro e x7 ⟨ra7,rl7,rc7,ec3,rfl,dI,dy⟩
   have cW:=Z dI
   clear dI
   have aQ:Hid (Bw X x7):=ae.o.tm ((Qm x6.heap.size x6 1).t (show Below x6.heap.size x6.drew x7 from dy))
   have p:=ab.o _ aQ.o
   clear dy
   refine bq d.o (.inr p) ?_
   clear d x
   refine aq 12 ?_
   refine aq 14 ?_
   refine uk 16 ?_
   refine zj kR ?_ _
   refine Qs ?_
   clear p dP
   have dn:=Z (bE.o.tm aQ.o)
   obtain⟨e0,-⟩:=q4 cx.o aQ.o
   have eB:rb<x7.heap.size:=Qu eA aQ.o.size
   have bC:=Z (vm (t:=T) (K:=K) hm (by obtain⟨_,_,_,_,_,h,_⟩:=cB.o;exact h) (by obtain⟨_,_,_,_,_,h,_⟩:=cW.o;exact h))
   have eq:=ce.o
   have cA:=Z (qI [] _ (XG L n) x7 (cB.o.gE aQ.o) (by rw [oO];omega) tQ)
   have bz:=Z (fun s (hs:s.length<=1000) (y:wO) (B:Bw x7 y)=>qI s _ (jo L T K n) y (cW.o.gE B) (by have:=oP L T K n;omega) oM)
   have I:Hid (ku L T K n=yV ((if yV [] (XG L n)=[] then yV [] (XG L n) else yV [] (XG L n)++[32])++[58]) (jo L T K n)):=rfl
   generalize yV [] (XG L n)=G at bC cA I
   clear HC ab bY aC cg bP cX ah az ae cO de cB cx eC eE eu eq
   go_wp2_with fail
   refine cA.o.m ?_
   rintro e x8 ⟨rfl,bK⟩
   have cM:=Z bK
   have aM:Hid (∀y,Bw x8 y->Bw w y):=fun y B=>dn.o.tm (bK.t (B.m bK.size))
   have dC:=nZ G
   have dR:=bC.o.1
   clear bK e0 eB cA
   by_cases hp:G=[]
   ·subst hp
    rw [Qi rfl] at dC
    rw [Qf rfl] at I
    have eF:¬9223372036854775807<(strOfNums ([]:Li)).size+1:=by rw [strOfNums_size,List.length_nil];omega
    have dt:strOfNums ([]:Li)++{ data:=#[58] }=strOfNums ([]++[58]):=jM [] [58]
    have aE:=Z (bz.o ([]++[58]) tQ x8 cM.o)
    obtain⟨P9,aT⟩:∃P9:Li,[]++[58]=P9:=⟨_,rfl⟩
    rw [aT] at dt aE I
    obtain⟨A9,aR⟩:=nm (yV P9 (jo L T K n))
    rw [aR] at aE I
    clear bz aT aR
    go_wp2_with fail
    refine aE.o.m ?_
    rintro e x9 ⟨rfl,aU⟩
    have bQ:=Z (aM.o _ aU)
    clear aU
    go_wp2_with fail
    exact oB ⟨_,rfl,I.o ▸ bC.o.2,bQ.o,by unfold nS;rw [Qe bU.o];exact⟨_,HS.o,I.o.s⟩⟩
   ·rw [Qk hp] at dC
    rw [Qe hp] at I
    have eF:¬9223372036854775807<(strOfNums G).size+1:=by rw [strOfNums_size];omega
    have dt:strOfNums G++{ data:=#[32] }=strOfNums (G++[32]):=jM G [32]
    have eK:¬9223372036854775807<(strOfNums (G++[32])).size+1:=by rw [strOfNums_size,Qt,EF];omega
    have ed:strOfNums (G++[32])++{ data:=#[58] }=strOfNums (G++[32]++[58]):=jM _ [58]
    have aE:=Z (bz.o (G++[32]++[58]) (by rw [Qt,Qt,EF,EF];omega) x8 cM.o)
    obtain⟨P9,aT⟩:=nm (G++[32]++[58])
    rw [aT] at ed aE I
    generalize G++[32]=S2 at *
    obtain⟨A9,aR⟩:=nm (yV P9 (jo L T K n))
    rw [aR] at aE I
    clear bz aT aR
    go_wp2_with fail
    refine aE.o.m ?_
    rintro e x9 ⟨rfl,aU⟩
    have bQ:=Z (aM.o _ aU)
    clear aU
    go_wp2_with fail
    exact oB ⟨_,rfl,I.o ▸ bC.o.2,bQ.o,by unfold nS;rw [Qe bU.o];exact⟨_,HS.o,I.o.s⟩⟩
def LH (hX:VX) (d:lh) (f:li) (hR:lT):pH:=fun v L t tx pb n w a b g hm h h0 c=>by
 obtain⟨v0,r,v2,i,⟨a0,l,rfl,h1⟩,⟨j,m,rfl,p⟩,⟨k,o,rfl,q⟩⟩:=id a
 subst i
 exact LG hX d f hR _ _ L n _ _ _ _ _ _ pb w a b g hm h h0 c
end Go.Proofs.YtjlfcbccpcigeacGreatDoor
