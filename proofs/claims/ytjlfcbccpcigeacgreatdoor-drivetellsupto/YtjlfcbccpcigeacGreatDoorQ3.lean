import Derived.Test.YtjlfcbccpcigeacGreatDoorL
import Derived.Test.YtjlfcbccpcigeacGreatDoorQ
set_option maxHeartbeats 40000000
set_option linter.defProp false
namespace Go.Proofs.YtjlfcbccpcigeacGreatDoor
open Go.Proofs.Tryz Go.RowKit Go.Joins
set_option linter.unusedVariables false
set_option linter.unusedSimpArgs false
set_option maxRecDepth 8192
section
variable {x:wO}
def DE {B g:Nat} {d:Option Addr} {l f:Nat} {zs:Li} {u0 u1 u2:vO} (h:nD B x (.slice d l f) zs) (t:g<B):zM (((x.setCell (E g 0) u0).setCell (E g 1) u1).setCell (E g 2) u2) (.slice d l f) zs:=by obtain⟨⟨a,cap,e,h1,m,n,o⟩,p⟩:=h;injection e with e1 e2 e3;subst e1 e2 e3;refine⟨d,f,rfl,h1,m,n,fun s=>?_⟩;obtain⟨b,j,rfl,q,r⟩:=o s;have hb:B<=b:=p _ _ _ rfl;have c:∀y:wO,∀i u,(y.st g i u).heap[b]?=y.heap[b]?:=fun y i u=>Qj _ _ _ _ (by show b≠g;lia);have k:=((c ((x.st g 0 u0).st g 1 u1) 2 u2).t (c (x.st g 0 u0) 1 u1)).t (c x 0 u0);exact⟨b,j,rfl,(lo (k.t (WA q))),fun i hi=>(xX k _).t (r i hi)⟩
def DF (L:Lp) (t:Tg) (n:Int) (ws:List Li):Prop:=(yD 32 ws).length<=10000/\if br n 0 200=false then ws=[ZV] else ∃z,yN L t 1 z/\ws=match z with
 | none=>[Uu]
 | some K=>nz L t K n
def mB (L:Lp) (t:Tg) (n:Int) (w:wO) (e:Ending) (w':wO):Prop:=∃ws,Zb ws w e w'/\DF L t n ws
def q4 {y:wO} {b:Nat} {u v:vO} {T:TypeId} (h:x.heap[b]?=some (.cells #[u,v] T (0,0))) (hb:Bw x y):y.cell? (E b 0)=some u/\y.cell? (E b 1)=some v:=by have h1:=(hb.block _ (lo h)).t h;constructor <;> (rw [Qa h1];rfl)
def Ra (hX:VX) (hE:lh) (hV:li) (hR:lT) (t:Tg) (L:Lp) (n:Int) (a0 a1 a2:Option Addr) (P Q R pb:Nat) (w:wO) (hv:VarsP w) (hL:zI w ((lv L a0 a1 a2 P Q R)) L) (cE:cn L) (hp:PC w pb t) (hm:zQ L) (ht:zS t) (bP:0<=n) (dt:n<=999999) :
  Cp 41 #[.pointer (pA pb),(lv L a0 a1 a2 P Q R),J n] w (mB L t n w):=by
 obtain⟨d,bK⟩:=nm (w.alloc (lC L a0 a1 a2 P Q R));have aF:Hid (Bw w d):=by show Below _ _ _;rw [<-bK];exact Qd _ _
 have A:=Z (qu bK hp);have HL:=Z hL;have HV:=Z hv;have dC:pb<d.heap.size:=by obtain⟨_,_,h⟩:=hp;have:=(lo h);have:=aF.size;omega
 have dD:w.heap.size<d.heap.size:=by rw [<-bK];simp
 have ce:=Z cE;clear hL hv hp cE;by_cases hn2:200<n
 ·have HE:Hid (br n 0 200=false):=by show _=_;grind [br]
  go_enter func41,ntmps41;go_wp2_with fail;refine (xM d).m ?_;intro e x2 h;have U:Hid (mB L t n w e x2):=⟨_,h.on aF,tQ,by rw [Qf HE.o]⟩;obtain⟨u,rfl,-⟩:=h;go_wp2;go_ret;exact U
 have bQ:n<=200:=oM
 have bY:Hid (¬br n 0 200=false):=by show ¬_;grind [yh]
 have aP:=Z (And.intro bP bQ);clear dt bQ bP;go_enter func41,ntmps41;go_wp2;refine rh 99 A (Qm _ _ 1) fun g=>?_;refine aq 0 ?_;refine aq 2 ?_;refine uk 4 ?_;refine Xp (i:=5) (j:=10) rfl rfl kR (fun k a=>?a1) (fun k a=>?a2)
 case' a1 =>
  go_simp;refine (hX _ t L _ (HL.gE (aF.t (Qm _ _ 1)))).m ?_;rintro e f ⟨x,k0,k1,kv,oa,ol,oc,c,rfl,-,ao⟩;obtain⟨K,ka,kc,⟨rfl,rfl,rfl⟩,hK,m⟩:=lS (ao (by rw [hm,ht];rfl));have HK:=Z hK;have az:=Z m;clear ao hK m;have O:Hid (Bw d f):=(Qm _ _ 1).t (show Below d.heap.size d.drew f from x);have g:=A _ O;clear x;refine bq a.o (.inr g) ?_;clear a k;refine aq 6 ?_;refine aq 8 ?_;refine zb (i:=10) rfl kR (fun k a=>?_);go_simp;refine bq a.o (.inr (A _ (O.tm (Qd _ _)))) ?_;clear a k;refine zb (i:=11) rfl kR (fun k a=>?_);go_simp;obtain⟨X,D⟩:=nm (f.alloc (.cells #[J K.pc,J K.st,.slice ka K.ops.length kc] 75));rw [D];have C:Hid (Bw d X):=by show Below _ _ _;rw [<-D];exact O.tm (Qd _ _)
  have bf:Hid (yQ X (.agg #[J K.pc,J K.st,.slice ka K.ops.length kc]) K):=by show yQ _ _ _;rw [<-D];exact HK.gE (Qd _ _)
  have bE:Hid (zM X (.slice oa ol oc) (X8 L.b.length)\/c=1):=by show _\/_;rw [<-D];exact az.elim (fun h=>.inr h.1) (fun h=>.inl (h.2.1.1.gE (Qd _ _)))
  have T:X.heap[f.heap.size]?=some (.cells #[J K.pc,J K.st,.slice ka K.ops.length kc] 75 (0,0)):=by rw [<-D];exact zm _ _ _
  refine a _ _ (.inr (A _ C)) ?_;clear a k;have g:=A _ C;try simp only [Act.put,Qn,Qy,Qz]
  refine aq 12 ?_;refine rd ?_;obtain⟨kb,ag⟩:=nm f.heap.size;rw [ag] at T ⊢;have aO:=Z T;clear T ag D O HK g
 case' a2 =>
  go_simp;refine bq a.o (.inr (A _ ((Qd _ _).t (Qm _ _ 1)))) ?_;clear a k;refine zb (i:=5) rfl kR (fun k a=>?_);go_simp;obtain⟨W3,aS⟩:=nm ((d.alloc (kB 0 0 none 0 0)).drew);rw [aS];have aM:Hid (Bw d W3):=by show Below _ _ _;rw [<-aS];exact (Qd _ _).t (Qm _ _ 1)
  have aN:Hid (W3.heap[d.heap.size]?=some (kB 0 0 none 0 0)):=by show _=_;rw [<-aS];exact zm _ _ _
  clear aS;refine (hX _ t L _ (HL.gE (aF.tm aM))).m ?_;rintro e f ⟨x,k0,k1,kv,oa,ol,oc,c,rfl,-,ao⟩;obtain⟨K,ka,kc,⟨rfl,rfl,rfl⟩,hK,m⟩:=lS (ao (by rw [hm,ht];rfl));have HK:=Z hK;have az:=Z m;clear ao hK m;have O:Hid (Bw d f):=aM.tm x;have M:Hid (f.heap[d.heap.size]?=some (kB 0 0 none 0 0)):=(x.block _ (lo aN)).t aN;have g:=A _ O;clear x;refine bq a.o (.inr g) ?_;clear a k;refine aq 6 ?_;refine aq 8 ?_;have H:=M.o;have c0:f.c d.heap.size 0=Y 0:=cb H
  have c1:f.c d.heap.size 1=Y 0:=cb H
  have c2:f.c d.heap.size 2=some (.slice none 0 0):=cb H
  have z0:f.frozen? (E d.heap.size 0)=false:=qZ H
  have z1:f.frozen? (E d.heap.size 1)=false:=qZ H
  have z2:f.frozen? (E d.heap.size 2)=false:=qZ H
  clear H;have aZ:=Z (qH HK M);have dp:d.heap.size<W3.heap.size:=(lo aN);refine zb (i:=11) rfl kR (fun k a=>?_);go_simp;obtain⟨X,D⟩:=nm (((f.st d.heap.size 0 (J K.pc)).st d.heap.size 1 (J K.st)).setCell (E d.heap.size 2) (.slice ka K.ops.length kc));rw [D] at aZ ⊢;have C:Hid (Bw d X):=by show Below _ _ _;rw [<-D];exact ((O.setCell (Qc _) _).setCell (Qc _) _).setCell (Qc _) _
  have bE:Hid (zM X (.slice oa ol oc) (X8 L.b.length)\/c=1):=az.elim (fun h=>.inr h.1) (fun h=>.inl (by rw [<-D];exact DE h.2.1 dp));refine a _ _ (.inr (A _ C)) ?_;clear a k;have g:=A _ C.o;try simp only [Act.put,Qn,Qy,Qz]
  refine aq 12 ?_;refine rd ?_;obtain⟨cD,T⟩:=aZ.o;have bf:=Z cD;obtain⟨kb,ag⟩:=nm d.heap.size;rw [ag] at T;rw [show Value.pointer (pA d.heap.size)=Value.pointer (pA kb) by rw [ag]];have aO:=Z T;clear T ag D O HK g cD c0 c1 c2 z0 z1 z2 aZ aM aN M
 all_goals
  have V:=Z (aF.tm C)
  have dr:kb<X.heap.size:=(lo aO)
  rcases az with ⟨rfl,hS⟩ | ⟨rfl,-,hS⟩
  ·have HS:=Z hS
   clear hS
   go_wp2_with fail
   refine (DX X).m ?_
   intro e x2 h
   have U:Hid (mB L t n w e x2):=⟨_,h.on V,tQ,by rw [Qe bY];exact⟨_,HS,rfl⟩⟩
   obtain⟨u,rfl,-⟩:=h
   go_wp2
   go_ret
   exact U
  ·have HS:=Z hS
   have HO:=Z (bE.resolve_right tQ)
   have HC:=Z (D7 hE hV hR hm ht ce hS aP.1 aP.2)
   have cA:=Z (fun v s W=>Sc hm ce aP.1 aP.2 v s W)
   have HZ:=Z (LR L a0 a1 a2 P Q R X (HL.gE V) hm)
   obtain⟨⟨l0,l1,l2⟩,-⟩:=A X C
   have dB:w.heap.size<X.heap.size:=by have:=V.size;have:=C.size;omega
   clear hS bE
   go_wp2_with fail
   refine HZ.m ?_
   rintro e S ⟨bv,mv,rfl,bN,bO,cF⟩
   obtain⟨ba,bc,rfl,-⟩:=id bN
   obtain⟨ma,mc,rfl,-⟩:=id bO
   have aY:=Z bN
   have bC:=Z bO
   have bI:=Z cF
   rw [vf] at aY ⊢
   rw [rB] at bC ⊢
   clear bN bO cF l0 l1 l2
   obtain⟨B,bL⟩:=nm (S.alloc (.cells #[.slice ba L.b.length bc,.slice ma L.l.length mc] 116))
   have aA:Hid (Bw S B):=by show Below _ _ _;rw [<-bL];exact Qd _ _
   have bG:Hid (B.heap[S.heap.size]?=some (.cells #[.slice ba L.b.length bc,.slice ma L.l.length mc] 116 (0,0))):=by show _=_;rw [<-bL];exact zm _ _ _
   have I:=Z (bI.tm aA)
   have cZ:S.heap.size<B.heap.size:=(lo bG)
   have F:Hid (∀y,Bw B y->((y.c w.heap.size 0=some (.slice a0 L.l.length P)/\y.c w.heap.size 1=some (.slice a1 L.b.length Q)/\y.c w.heap.size 2=some (.slice a2 L.o.length R))/\(y.c pb 0=Y t.u0/\y.c pb 1=Y t.u1/\y.c pb 2=Y t.u2/\y.c pb 3=Y t.w0/\y.c pb 4=Y t.w1/\y.c pb 5=Y t.w2/\y.c pb 6=Y t.r))/\(y.c kb 0=Y K.pc/\y.c kb 1=Y K.st/\y.c kb 2=some (.slice ka K.ops.length kc))/\(y.c S.heap.size 0=some (.slice ba L.b.length bc)/\y.c S.heap.size 1=some (.slice ma L.l.length mc))):=fun y x=>by
    have df:=I.tm x
    obtain⟨k0,k1,k2,-⟩:=Vy (w:=w) aO df
    exact⟨A y (C.tm df),⟨k0,k1,k2⟩,q4 bG x⟩
   have bg:=Z (HL.gE (V.tm I))
   have bZ:=Z (bf.gE I)
   have aJ:Hid (Y5 B (.slice ka K.ops.length kc) K.ops):=by obtain⟨kl,cM,bS⟩:=bZ;simp only [El,Ex,W9,and_true] at cM;obtain⟨-,-,rfl⟩:=cM;exact bS
   have cw:=Z (HO.gE I)
   have aU:=Z (aY.gE aA)
   have bz:=Z (bC.gE aA)
   have aR:=Z (V.t (I.m V.size))
   have cS:pb<B.heap.size:=by have:=aR.size;have:=I.size;have:=C.size;omega
   have de:w.heap.size<B.heap.size:=by have:=I.size;omega
   have cL:kb<B.heap.size:=by have:=I.size;omega
   obtain⟨⟨⟨l0,l1,l2⟩,-⟩,-,s0,s1⟩:=F B (QA _ _)
   clear HZ bI aA aY bC A aO bf HO C dB dr
   go_wp2_with fail
   refine (cA _ _ B bg ⟨_,_,rfl,aU,bz⟩).m ?_
   rintro e x3 ⟨va,vl,vc,ua,ul,uc,rfl,cO,bM⟩
   have z:Hid (Bw B (x3.alloc (.cells #[.slice va vl vc,.slice ua ul uc] 119))):=bM.tm (Qd _ _)
   have aQ:=Z (cO.gE (Qd x3 (.cells #[.slice va vl vc,.slice ua ul uc] 119)))
   clear l0 l1 l2 s0 s1 cO bM
   obtain⟨p,bV⟩:=nm (x3.alloc (.cells #[.slice va vl vc,.slice ua ul uc] 119))
   have bF:Hid (p.heap[x3.heap.size]?=some (.cells #[.slice va vl vc,.slice ua ul uc] 119 (0,0))):=by show _=_;rw [<-bV];exact zm _ _ _
   rw [bV] at z aQ
   have F:=Z (fun y (x:Bw p y)=>F y (z.tm x))
   have bh:=Z (bg.gE z)
   have M:=Z (aJ.gE z)
   have bD:=Z (cw.gE z)
   have aV:=Z (aU.gE z)
   have cu:=Z (bz.gE z)
   have cB:=Z (aR.tm z)
   have dw:pb<p.heap.size:=Qu cS z.size
   have dA:w.heap.size<p.heap.size:=Qu de z.size
   have H:kb<p.heap.size:=Qu cL z.size
   have dy:S.heap.size<p.heap.size:=Qu cZ z.size
   have N:=Z (QA p.heap.size p)
   clear z bg bZ aJ cw aU bz aR cS de cL cZ
   go_wp2
   clear bV bL
   generalize x3.heap.size=rb at *
   generalize S.heap.size=sb at *
   have cU:=F _ (N.tm (Qm _ _ 1))
   refine rg 99 (fun w'=>((w'.c w.heap.size 0=some (.slice a0 L.l.length P)/\w'.c w.heap.size 1=some (.slice a1 L.b.length Q)/\w'.c w.heap.size 2=some (.slice a2 L.o.length R))/\(w'.c pb 0=Y t.u0/\w'.c pb 1=Y t.u1/\w'.c pb 2=Y t.u2/\w'.c pb 3=Y t.w0/\w'.c pb 4=Y t.w1/\w'.c pb 5=Y t.w2/\w'.c pb 6=Y t.r))/\(w'.c kb 0=Y K.pc/\w'.c kb 1=Y K.st/\w'.c kb 2=some (.slice ka K.ops.length kc))/\(w'.c sb 0=some (.slice ba L.b.length bc)/\w'.c sb 1=some (.slice ma L.l.length mc))) cU fun g=>?_
   refine aq 0 ?_
   refine aq 2 ?_
   refine aq 4 ?_
   refine aq 6 ?_
   refine uk 8 ?_
   refine zb (i:=9) rfl kR (fun k a=>?_)
   go_simp
   refine (HC.enter _ _ _ _ _ (bh.gE (N.tm (Qm _ _ 1))) ⟨_,rfl,(M.gE (N.tm (Qm _ _ 1)))⟩ (bD.gE (N.tm (Qm _ _ 1))) (aV.gE (N.tm (Qm _ _ 1)))).m ?_
   rintro e x5 ⟨ra,rl,rc,ec,rfl,cJ,cG⟩
   have bW:=Z cJ
   clear cJ
   have G:Hid (Bw p x5):=N.t (((Qm p.heap.size p 1).t (show Below p.heap.size p.drew x5 from cG)).m N.size)
   have g:=F _ G
   clear cG
   refine bq a.o (.inr g) ?_
   clear a k
   refine aq 10 ?_
   refine aq 12 ?_
   refine uk 14 ?_
   refine zj kR ?_ _
   refine Qs ?_
   clear g cU
   go_wp2_with fail
   have cW:=F _ (G.t ((Qm _ _ 1).m G.size))
   refine Qq ?_
   refine zg 99 (fun w'=>((w'.c w.heap.size 0=some (.slice a0 L.l.length P)/\w'.c w.heap.size 1=some (.slice a1 L.b.length Q)/\w'.c w.heap.size 2=some (.slice a2 L.o.length R))/\(w'.c pb 0=Y t.u0/\w'.c pb 1=Y t.u1/\w'.c pb 2=Y t.u2/\w'.c pb 3=Y t.w0/\w'.c pb 4=Y t.w1/\w'.c pb 5=Y t.w2/\w'.c pb 6=Y t.r))/\(w'.c kb 0=Y K.pc/\w'.c kb 1=Y K.st/\w'.c kb 2=some (.slice ka K.ops.length kc))/\(w'.c sb 0=some (.slice ba L.b.length bc)/\w'.c sb 1=some (.slice ma L.l.length mc))) kR cW (fun g=>?_)
   refine aq 0 ?_
   refine aq 2 ?_
   refine aq 4 ?_
   refine aq 6 ?_
   refine uk 8 ?_
   refine zb (i:=9) rfl kR (fun k a=>?_)
   go_simp
   refine (HC.run _ _ _ _ ⟨_,rfl,(M.gE (G.t ((Qm _ _ 1).m G.size)))⟩ (bW.gE (Qm _ _ 1)) (cu.gE (G.t ((Qm _ _ 1).m G.size)))).m ?_
   rintro e x6 ⟨ra6,rl6,rc6,na,nl,nc,ec2,rfl,cY,cH⟩
   have cx:=Z cY
   clear cY
   have q:Hid (Bw p x6):=G.t (((Qm x5.heap.size x5 1).t (show Below x5.heap.size x5.drew x6 from cH)).m G.size)
   have g:=F _ q
   clear cH
   refine bq a.o (.inr g) ?_
   clear a k
   refine aq 10 ?_
   refine aq 12 ?_
   refine uk 14 ?_
   refine zj kR ?_ _
   refine Qs ?_
   clear g cW
   go_wp2_with fail
   have cX:=F _ (q.t ((Qm _ _ 1).m q.size))
   refine Qq ?_
   refine zg 99 (fun w'=>((w'.c w.heap.size 0=some (.slice a0 L.l.length P)/\w'.c w.heap.size 1=some (.slice a1 L.b.length Q)/\w'.c w.heap.size 2=some (.slice a2 L.o.length R))/\(w'.c pb 0=Y t.u0/\w'.c pb 1=Y t.u1/\w'.c pb 2=Y t.u2/\w'.c pb 3=Y t.w0/\w'.c pb 4=Y t.w1/\w'.c pb 5=Y t.w2/\w'.c pb 6=Y t.r))/\(w'.c kb 0=Y K.pc/\w'.c kb 1=Y K.st/\w'.c kb 2=some (.slice ka K.ops.length kc))/\(w'.c sb 0=some (.slice ba L.b.length bc)/\w'.c sb 1=some (.slice ma L.l.length mc))) kR cX (fun g=>?_)
   refine aq 0 ?_
   refine aq 2 ?_
   refine aq 4 ?_
   refine aq 6 ?_
   refine aq 8 ?_
   refine uk 10 ?_
   refine zb (i:=11) rfl kR (fun k a=>?_)
   go_simp
   refine (HC.leave _ _ _ _ _ _ (bh.gE (q.t ((Qm _ _ 1).m q.size))) ⟨_,rfl,(M.gE (q.t ((Qm _ _ 1).m q.size)))⟩ (bD.gE (q.t ((Qm _ _ 1).m q.size))) (aV.gE (q.t ((Qm _ _ 1).m q.size))) (cx.gE (Qm _ _ 1))).m ?_
   rintro e x7 ⟨ra7,rl7,rc7,ec3,rfl,cN,cI⟩
   have cg:=Z cN
   clear cN
   have aK:Hid (Bw p x7):=q.t (((Qm x6.heap.size x6 1).t (show Below x6.heap.size x6.drew x7 from cI)).m q.size)
   have g:=F _ aK
   clear cI
   refine bq a.o (.inr g) ?_
   clear a k
   refine aq 12 ?_
   refine aq 14 ?_
   refine uk 16 ?_
   refine zj kR ?_ _
   refine Qs ?_
   clear g cX
   have aI:=Z (cB.t (aK.m cB.size))
   obtain⟨e0,-⟩:=q4 bF aK
   have dx:rb<x7.heap.size:=Qu (Qb.1 bF).1 aK.size
   have bR:=(zy hm).2.2.2.1
   have di:=Z (xm _ _ x7 (HV.on aI) (aQ.gE aK) (by rw [oO];omega))
   have dj:=Z (fun y (x:Bw x7 y)=>xm _ _ y (HV.on (aI.t (x.m aI.size))) (cg.gE x) (by have:=oP L t K n;omega))
   have bj:Hid (((XG L n).map zo++([[58]]++(jo L t K n).map zo)).length<=300):=by show _<=_;have:=oP L t K n;simp [oO];omega
   have U:Hid (∀e y,Zb (nz L t K n) w e y->mB L t n w e y):=fun e y h=>⟨_,h,by rw [wM];exact (vm hm (by obtain⟨_,_,_,_,_,h,_⟩:=aQ;exact h) (by obtain⟨_,_,_,_,_,h,_⟩:=cg;exact h)).2,by rw [Qe bY];exact⟨_,HS,rfl⟩⟩
   unfold nz at U
   generalize (XG L n).map zo=w1 at *
   generalize (jo L t K n).map zo=w2 at *
   clear HC cA F bh M bD aV cu N G q bW cx aQ bF bR dy H dA dw bG
   go_wp2_with fail
   refine di.m ?_
   rintro e x8 ⟨u1,rfl,bT,aT⟩
   have aW:=Z aT
   obtain⟨g1,c1,rfl⟩:=bT.2
   have dm:=Z bT
   have aX:=Z (Qd x8 (.cells #[.string (strOfNums [58])] 9))
   obtain⟨u2,bJ,cC,-⟩:=oI x8 [58]
   injection bJ with bJ
   subst bJ
   have dn:=Z cC
   have bH:=Z (dj _ (aT.t (aX.m aT.size)))
   clear aT bT cC e0 dx
   go_wp2_with fail
   refine (show Calls _ _ _ _ _ from bH).m ?_
   rintro e f ⟨u3,rfl,bU,aC⟩
   obtain⟨g3,c3,rfl⟩:=bU.2
   have aj:=Z (aX.t ((show Below _ _ f from aC).m aX.size))
   have aH:=Z (Qd f (.cells #[vP g1 w1.length c1,vP x8.heap.size 1 1,vP g3 w2.length c3] 22))
   have dh:=Z (uE (vs:=[vP g1 w1.length c1,vP x8.heap.size 1 1,vP g3 w2.length c3]) (Rs:=[w1,[[58]],w2]) ⟨yS (Uh dm (aj.t (aH.m aj.size))) (Ql _),yS (Uh dn ((show Below _ _ f from aC).t (aH.m aC.size))) (Ql _),yS (Uh bU aH) (Ql _),trivial⟩ (zm f _ _))
   have dg:=Z (UJ [w1,[[58]],w2] f.heap.size 3 3 _ rfl dh (by show 0<(w1++([[58]]++(w2++[]))).length;rw [Qt,Qt];show 0<_+(1+_);omega) (by rw [show [w1,[[58]],w2].flatten=w1++([[58]]++w2) by simp];exact bj) (Qc _) oM)
   clear bU aC
   go_wp2_with fail
   refine (show Calls _ _ _ _ _ from dg).m ?_
   rintro e x11 ⟨u,rfl,hu,aL⟩
   have HF:Hid (mB L t n w (.returned u) x11):=U _ _ (by
    have hb:Bw w x11:=aI.tm (aW.t ((aj.t ((aH.t (aL.m aH.size)).m aj.size)).m aW.size))
    have e:[w1,[[58]],w2].flatten=w1++([[58]]++w2):=sM
    rw [e] at hu
    exact⟨_,rfl,yS hu (by have:=aI.size;have:=aW.size;have:=aj.size;have:=aH.size;omega),hb⟩)
   clear hu aL
   go_wp2
   go_ret
   exact HF
end
end Go.Proofs.YtjlfcbccpcigeacGreatDoor
