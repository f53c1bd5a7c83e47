import Derived.Test.YtjlfcbccpcigeacGreatDoorC2
set_option maxHeartbeats 40000000
set_option linter.defProp false
namespace Go.Proofs.YtjlfcbccpcigeacGreatDoor
open Go.Proofs.Tryz Go.RowKit Go.Joins
set_option linter.unusedVariables false
set_option linter.unusedSimpArgs false
set_option maxRecDepth 8192
section
variable {a k b n i g:Nat} {x y w:wO} {tm P:Int} {es:List Ed} {T1 H:Nat->Int} {I1 I2:Nat->Bool} {v:vO}
section
structure f' (c:Pc) (I:Nat->Bool) (T N:Nat->Int) (a k:Nat) (x:wO):Prop where
 rows:yp c I T N x
 sok:jh c.L c.t c.P I T N a k
 map:∃q:Nat,xr (fun s r=>(ei c.L c.P I T s r:Int)) q c.mb x/\(q:Int)+cnt I c.L.b.length<=2*xz N c.L.b.length
variable {c:Pc} {I:Nat->Bool} {T N:Nat->Int}
def f'.gE (h:f' c I T N a k x) (hb:Bw x y):f' c I T N a k y:=by obtain⟨q,h1,b⟩:=h.map;exact⟨h.rows.gE hb,h.sok,q,h1.gE hb,b⟩
def f'.sum (h:f' c I T N a k x) (ok:U0 c):0<=xz N c.L.b.length/\xz N c.L.b.length<=16016:=by have h1:=An (N:=N) (lo:=0) (hi:=1001) c.L.b.length h.sok.nexts;have d:=ok.len.2;have f:(c.L.b.length:Int)*1001<=16*1001:=Wx lI lI;lia
theorem Jo (L:Lp) (P:Int) (I:Nat->Bool) (T:Nat->Int) (s r:Int):ei L P I T s r<=L.b.length:=U5 _ _
def Ag (ok:U0 c) (I:Nat->Bool) (T:Nat->Int) (s r:Int):-1000000<=(ei c.L c.P I T s r:Int)/\(ei c.L c.P I T s r:Int)<=1000000:=by grind [Jo,U0.len]
theorem f'.o (h:f' c I T N a k x) (hb:b<c.L.b.length) (d:I b) (g:k<(zf c.L c.t).length) (f:(zJ (zf c.L c.t) k).to.toNat=b) (hr:yp c (bX I b false) T N y) {q:Nat} (i:(q:Int)+cnt I c.L.b.length<=2*xz N c.L.b.length)
  (hm:xr (fun s r=>if s=ye (zc c.L.b b).o/\r=(T b).tmod c.P then (ei c.L c.P I T s r:Int) - 1 else (ei c.L c.P I T s r:Int)) (q+1) c.mb y):f' c (bX I b false) T N a (k+1) y:=by
 refine⟨hr,h.sok.o hb d g f,q+1,hm.congr fun s r=>?_,?_⟩
 ·have h1:=Am (P:=c.P) (T:=T) hb d s r;grind
 grind [JZ]
def f'.putin {a0:Nat} (h:f' c I T N a0 (zf c.L c.t).length x) (d:a<c.L.b.length) (g:I a=false) (f:mE c I T N a (zf c.L c.t).length tm) (h1:tm<=1000)
  (i:(ei c.L c.P I T (ye (zc c.L.b a).o) (tm.tmod c.P):Int)≠yf c.t (ye (zc c.L.b a).o)) (hr:yp c (bX I a true) (b9 T a tm) (b9 N a (tm+1)) y) {q:Nat} (n:(q:Int)+cnt I c.L.b.length<=2*xz N c.L.b.length)
  (hm:xr (fun s r=>if s=ye (zc c.L.b a).o/\r=tm.tmod c.P then (ei c.L c.P I T s r:Int)+1 else (ei c.L c.P I T s r:Int)) (q+1) c.mb y):f' c (bX I a true) (b9 T a tm) (b9 N a (tm+1)) a 0 y/\xz N c.L.b.length+1<=xz (b9 N a (tm+1)) c.L.b.length:=by
 have hs:xz (b9 N a (tm+1)) c.L.b.length=xz N c.L.b.length+(tm+1 - N a):=by rw [J2,Qf d]
 have h0:=f.1;refine⟨⟨hr,h.sok.put (k0:=0) d g h0 h1 i (fun j m k l=>f.2.2 j m k l),q+1,hm.congr fun s r=>?_,?_⟩,lI⟩
 ·rw [Al d g];grind
 grind [sG]
def f'.nextk (h:f' c I T N a k x) (hb:Bw x y) (d:k<(zf c.L c.t).length) (hn:(zJ (zf c.L c.t) k).fr.toNat=a->I (zJ (zf c.L c.t) k).to.toNat->T a+js c.P (zJ (zf c.L c.t) k)<=T (zJ (zf c.L c.t) k).to.toNat):f' c I T N a (k+1) y:=by have b:=h.gE hb;exact⟨b.rows,b.sok.next d hn,b.map⟩
def f'.anyk (h:f' c I T N a k x) (d:(zf c.L c.t).length<=k):f' c I T N b (zf c.L c.t).length x:=⟨h.rows,h.sok.any d,h.map⟩
def sD (c:Pc) (I:Nat->Bool) (T N:Nat->Int) (a:Nat) (e:Ending) (w':wO):Prop :=
 (e=.returned (.bool false)/\(∃tm,kX c.L c.t c.P I T N a tm/\1000<tm)/\Below c.w0.heap.size c.w0 w')\/(e=.returned (.bool true)/\∃tm I' T' N',kX c.L c.t c.P I T N a tm/\tm<=1000/\jE (zf c.L c.t) c.P T' tm a (bX I a true) (zf c.L c.t).length=I'/\b9 T a tm=T'/\b9 N a (tm+1)=N'/\f' c I' T' N' 0 (zf c.L c.t).length w'/\xz N c.L.b.length+1<=xz N' c.L.b.length)
def mi (c:Pc) (I:Nat->Bool) (T N:Nat->Int) (a:Nat) (tm:Int):Prop:=mE c I T N a (zf c.L c.t).length tm/\kG c.L c.t c.P I T N a tm
def mi.later {a:Nat} {tm:Int} (h:mi c I T N a tm) (h1:tm<=1000) (f:nI c.L c.t c.P I T a tm):mi c I T N a (tm+1):=⟨⟨by have:=h.1.1;lia,lI,fun j g b d=>by have:=h.1.2.2 j g b d;lia⟩,h.2.next h1 f⟩
theorem Xt.start (h:Xt c I T N a (zf c.L c.t).length tm):mi c I T N a tm:=by grind [Xt,mi,kG.start]
def Jp (h:jE es P T1 tm a I1 k=I2) (h1:(zJ es k).fr.toNat=a) (b:I2 (zJ es k).to.toNat) (c:T1 (zJ es k).to.toNat<tm+js P (zJ es k)):jE es P T1 tm a I1 (k+1)=bX I2 (zJ es k).to.toNat false:=by simp_all [jE]
def Jq (h:jE es P T1 tm a I1 k=I2) (h1:(zJ es k).fr.toNat=a->I2 (zJ es k).to.toNat->tm+js P (zJ es k)<=T1 (zJ es k).to.toNat):jE es P T1 tm a I1 (k+1)=I2:=by simp_all [jE,Qe]
def Jr (x:wO) (a:Nat) (ok:U0 c) (h:f' c I T N 0 (zf c.L c.t).length x) (H:a<c.L.b.length) (hI:I a=false) :
  Cp 194 #[.pointer (pA c.pb),J a] x fun e w'=>sD c I T N a e w':=by
 have dK:=h.sok.nexts a H;have dS:=Z (fun W (hW:Bw x W)=>RK W a ok (h.rows.gE hW) H h.sok.times dK);obtain⟨q,hM,X⟩:=h.map;have dQ:=Z (fun W (tm:Int) (hW:Bw x W) (h0:0<=tm) (h1:tm<=1000)=>RH W a q tm _ ok (h.rows.gE hW) (hM.gE hW) H h0 h1);have HM:=Z hM;have HQ:=Z X;have HP:=Z h;have ft:=h.rows.lt;have aU:=Z h.rows.bel;have fE:(a:Int)<(c.L.b.length:Int):=by omega
 have bz:=Z (fun tm=>@mi.later c I T N a tm);have aH:Hid (∀w',(∃tm,kX c.L c.t c.P I T N a tm/\1000<tm)->Bw x w'->sD c I T N a (.returned (.bool false)) w'):=fun w' he hw=>.inl ⟨rfl,he,aU.tm hw⟩;have eO:=Z dK;clear h dK hM X;go_enter func194,ntmps194;go_wp2_with fail;apply (dS _ (QA _ _)).m;rintro e x1 ⟨tm0,rfl,cg,dZ⟩;have bJ:=Z cg.start;have dP:=Z dZ;clear cg dZ;go_wp2;go_loopw [5] (fun tv wr=>∃tm:Int,tv=J tm/\mi c I T N a tm/\Bw x wr) (fun tv _=>(1100 - intOf tv).toNat)
 case atStart=>exact⟨tm0,rfl,bJ,dP⟩
 clear bJ dP;obtain⟨tm,rfl,aQ,gH⟩:=hrel;have bI:=Z aQ;have HB:=Z gH;have aS:0<=tm:=by have:=aQ.1.1;have:=eO.o;omega
 have fy:=aQ.1.2.1;clear aQ gH;by_cases p:tm<=1000
 ·have cx:=Z (dQ wr tm HB aS p);obtain⟨bd,bS⟩:∃bd,decide ((ei c.L c.P I T (ye (zc c.L.b a).o) (tm.tmod c.P):Int)=yf c.t (ye (zc c.L.b a).o))=bd:=⟨_,rfl⟩;rw [bS] at cx;have aT:=Z bS;clear bS;cases bd with
  | true =>
   go_wp2_with fail;refine cx.mr fun x2 aI=>?_;have ah:=Z (HB.tm aI);clear aI;go_wp2_with fail;go_roundw
   case rel=>exact⟨tm+1,by go_num,bz tm bI p (by unfold nI;exact QI aT),ah⟩
   simp [intOf];omega
  | false =>
   have df:Hid ((ei c.L c.P I T (ye (zc c.L.b a).o) (tm.tmod c.P):Int)≠yf c.t (ye (zc c.L.b a).o)):=of_decide_eq_false aT;clear bz;go_wp2_with fail;refine cx.mr fun x2 aI=>?_;have ah:=Z (HB.tm aI);clear aI cx dQ dS;have dH:¬1000<tm:=(by omega);go_wp2;have R:Hid (yp c I T N x2.drew):=(HP.rows.gE ah).gE (zL _ _);have cX:Hid (xr (fun s r=>(ei c.L c.P I T s r:Int)) q c.mb x2.drew):=(HM.gE ah).gE (zL _ _);have dO:IntKind.i64.wrap (tm+1)=tm+1:=xG _ (by omega) (by omega);have bh:Hid (∀I T N y,yp c I T N y->y.c c.pb 13=some (vP c.ib c.L.b.length c.L.b.length)/\y.c c.pb 14=some (vP c.tb c.L.b.length c.L.b.length)/\y.c c.pb 15=some (vP c.nb c.L.b.length c.L.b.length)):=fun I T N y j=>by obtain⟨f1,z,A,F,m,n,B,G⟩:=j.fields;exact⟨m,n,B⟩
   have fi:=R.ir.lt;have fB:=R.tr.lt;have fo:=R.nr.lt;refine rg 99 (fun w'=>w'.c c.pb 13=some (vP c.ib c.L.b.length c.L.b.length)/\w'.c c.pb 14=some (vP c.tb c.L.b.length c.L.b.length)/\w'.cell? (E c.pb 15)=some (vP c.nb c.L.b.length c.L.b.length)) (bh _ _ _ _ R) fun l=>?_;generalize x2.drew=y0 at *
   apply aq 0;apply aq 2;apply aq 4;apply aq 6;apply aq 8;apply aq 10;apply aq 12;apply aq 14;apply aq 16;apply uk 18;have s1:=R.ir.cell H;have s2:=R.ir.frozen a;have aX:Hid (yp c (bX I a true) T N (y0.setCell (E c.ib a) (.bool true))):=R.setIn a H true;have bC:Hid (xr (fun s r=>(ei c.L c.P I T s r:Int)) q c.mb (y0.setCell (E c.ib a) (.bool true))):=cX.gG (Qj _ _ _ _ (Z1 cX R.ir).s);have Q:=bh _ _ _ _ aX;refine uo 19 fun K d=>?_;go_simp;apply bq d.o (.inr Q);clear d K;clear s1 s2 l R cX;generalize y0.setCell (E c.ib a) (.bool true)=y1 at *
   have l:=Q;clear Q;apply uk 20;have s1:=aX.tr.cell H;have s2:=aX.tr.frozen a;have aY:Hid (yp c (bX I a true) (b9 T a tm) N (y1.setCell (E c.tb a) (J tm))):=aX.setT a H tm;have cY:Hid (xr (fun s r=>(ei c.L c.P I T s r:Int)) q c.mb (y1.setCell (E c.tb a) (J tm))):=bC.gG (Qj _ _ _ _ (Z1 bC aX.tr).s);have Q:=bh _ _ _ _ aY;refine uo 21 fun K d=>?_;go_simp;refine bq d.o (.inr Q) ?_;clear d K;clear s1 s2 l aX bC;generalize y1.setCell (E c.tb a) (J tm)=y2 at *
   have l:=Q;clear Q;refine uk 22 ?_;have s1:=aY.nr.cell H;have s2:=aY.nr.frozen a;have bG:Hid (yp c (bX I a true) (b9 T a tm) (b9 N a (tm+1)) (y2.setCell (E c.nb a) (J (tm+1)))):=aY.setN a H (tm+1);have cZ:Hid (xr (fun s r=>(ei c.L c.P I T s r:Int)) q c.mb (y2.setCell (E c.nb a) (J (tm+1)))):=cY.gG (Qj _ _ _ _ (Z1 cY aY.nr).s);have Q:=bh _ _ _ _ bG.o;refine uo 23 fun K d=>?_;go_simp;refine bq d.o (.inr Q) ?_;clear d K;refine rd ?_;clear s1 s2 l aY cY Q;generalize y2.setCell (E c.nb a) (J (tm+1))=y3 at *
   have cw:b9 T a tm a=tm:=(by simp [b9]);have bN:=Z (fun W (hW:yp c (bX I a true) (b9 T a tm) (b9 N a (tm+1)) W)=>DS W a ok hW H (by omega) (by omega));rw [cw] at bN;have X:=HQ.o;have ao:=HP.o.sum ok;have cB:=Z (fun y hr hm=>HP.o.putin (y:=y) H hI bI.o.1 p df.o hr HQ.o hm);have fp:=ok.p1;have ey:=ok.p2;obtain⟨u,ef,eZ⟩:=qm (zc c.L.b a).o;have fm:=ER c.P aS;have cF:=WL tm (show 0<c.P by omega);rw [ef] at bN cB;obtain⟨C,eC⟩:=nm (tm.tmod c.P);rw [eC] at bN cB fm cF;obtain⟨eh,ek⟩:=Ag ok I T u C;have cW:Hid (∀y,xr (fun s r=>(ei c.L c.P I T s r:Int)) q c.mb y->(Instr.lookup 262 (.map (some c.mb)) (.agg #[J u,J C]) false).run prog y=.ok (J (ei c.L c.P I T u C:Int)) y):=fun y j=>j.look u C (Uq _ (by omega) (by omega)) (Uq _ (by omega) (by omega));have ae:Hid (∀y,xr (fun s r=>(ei c.L c.P I T s r:Int)) q c.mb y->_):=fun y (j:xr (fun s r=>(ei c.L c.P I T s r:Int)) q c.mb y)=>j.step (by unfold maxLen;omega) u C (Uq _ (by omega) (by omega)) (Uq _ (by omega) (by omega)) ((ei c.L c.P I T u C:Int)+1) (Uq _ (by omega) (by omega));have cM:Hid (∀s r,(fun c' r'=>if c'=(u:Int)/\r'=C then (ei c.L c.P I T u C:Int)+1 else (ei c.L c.P I T c' r':Int)) s r=(fun s r=>if s=(u:Int)/\r=C then (ei c.L c.P I T s r:Int)+1 else (ei c.L c.P I T s r:Int)) s r):=fun s r=>by
    dsimp only;by_cases e:s=(u:Int)/\r=C
    ·rw [Qf e,Qf e,e.1,e.2]
    omega
   obtain⟨fv,em⟩:=nm (ei c.L c.P I T (u:Int) C:Int);rw [em] at cW ae cM eh ek;have eF:IntKind.i64.wrap (fv+1)=fv+1:=xG _ (by omega) (by omega);have af:Hid (∀y,Bw y3 y->(y.cell? (E c.pb 16)=some (.map (some c.mb)))/\(Instr.lookup 262 (.map (some c.mb)) (.agg #[J u,J C]) false).run prog y=.ok (J fv) y):=fun y j=>⟨(bG.gE j).fields.2.2.2.2.2.2.2,cW y (cZ.gE j)⟩;clear ef eC em X ao;go_wp2;refine rh 11 af (zL _ _) fun l=>?_;refine aq 0 ?_;refine aq 2 ?_;refine aq 4 ?_;refine uo 6 fun K d=>?_;go_simp;refine (bN _ (bG.gE (zL _ _))).m ?_;rintro e x3 ⟨rfl,ed⟩;have ay:Hid (Bw y3 x3):=(zL _ _).t ed;have l:=af _ ay;clear ed;have cA:=Z (cZ.gE ay);have cE:=Z (bG.gE ay);obtain⟨ve,stp,w1,e1,e2,e3,w3,M,O,S⟩:=ae _ cA;refine bq d.o (.inr l) ?_;clear d K;refine aq 7 ?_;have dp:Hid (yp c (bX I a true) (b9 T a tm) (b9 N a (tm+1)) w1):=cE.grown (cE.mne cA) e2;have cC:Hid (yp c (bX I a true) (b9 T a tm) (b9 N a (tm+1)) w3):=dp.grown (cE.mne cA) O;have az:=Z (cB w3 cC (S.congr cM));have H1:Hid ((w1.cell? (E c.pb 16)=some (.map (some c.mb)))/\(Instr.lookup 262 (.map (some c.mb)) (.agg #[J u,J C]) false).run prog w1=.ok (J fv) w1):=⟨dp.fields.2.2.2.2.2.2.2,e3⟩;clear O S e2;refine uo 9 fun K d=>?_;go_simp;have l:=H1;refine bq d.o (.inr l) ?_;clear d K;refine uk 10 ?_;refine uo 11 fun K d=>?_;go_simp;refine bq d.o (.inl rfl) ?_;clear d K;refine rd ?_;clear l e1 M e3 H1 cB ae cW cM af bN bG cZ cA cE dp ay;have dL:=cC.lt;obtain⟨f1,z,A,F,m,n,B,G⟩:=cC.fields;have dU:Hid (b9 T a tm a=tm):=cw;clear cw cC eh ek eF;have aO:Hid (kX c.L c.t c.P I T N a tm):=⟨bI.2,.inr df⟩;obtain⟨I1,dr⟩:=nm (bX I a true);obtain⟨T1,dw⟩:=nm (b9 T a tm);rw [dr] at az;rw [dw] at az dU;have eL:=Z dr;have eV:=Z dw;clear dr dw;obtain⟨U,dt⟩:=nm (b9 N a (tm+1));rw [dt] at az;have eP:=Z dt;clear dt;have ai:=Z az.2;have bF:=Z az.1;clear az;obtain⟨dE,fh⟩:=ok.ecap;obtain⟨es,aj⟩:=nm (zf c.L c.t);rw [aj] at z dE;have D:=Z aj;clear aj bI df aT HM HQ HP HB aH aU bh ah dO fi fB fo;have fD:Hid (c.w0=c.w0):=rfl;go_wp2;clear f1 z A F m n B G;go_loopw [60] (fun i wr=>∃(k:Nat) (I2:Nat->Bool),k<=es.length/\i=J k/\jE es c.P T1 tm a I1 k=I2/\f' c I2 T1 U a k wr) (fun i _=>es.length - (intOf i).toNat)
   case atStart=>exact⟨0,I1,Ql _,rfl,rfl,bF⟩
   clear bF dL;obtain⟨k,I2,hk,rfl,eu,f⟩:=hrel;have di:=Z eu;clear eu;have az:=Z f;by_cases dI:k<es.length
   ·have fj:(k:Int)<(es.length:Int):=(by omega);obtain⟨eb,eo,fe,fg,-,-,fr,to,bk,wt,V,fF,bf,eX,dO,c0,c1,c2,c3⟩:=f.rows.edge ok k (by rw [D];exact dI);have fI:=f.rows.lt;have h3:=f.rows.ir.cell bf;have h5:=f.rows.ir.lt;obtain⟨tf1,tf2⟩:=f.sok.times to bf;have fJ:=f.rows.tr.lt;have fA:(to:Int)<(c.L.b.length:Int):=(by omega);have bj:=Z (fun W=>pF fr to bk wt c.P W eX dO fp ey);have fq:0<=(bk:Int)*c.P:=Ws (by omega) (by omega);have fs:(bk:Int)*c.P<=32*200:=Wy (by omega) ey (by omega) (by omega);have aW:Hid (∀y,Bw wr y->(fr=a->I2 to->tm+((wt:Int) - (bk:Int)*c.P)<=T1 to)->jE es c.P T1 tm a I1 (k+1)=I2/\f' c I2 T1 U a (k+1) y):=fun y j g=>⟨Jq di (by rw [<-D,V];exact g),f.nextk j (by rw [D];exact dI) (by rw [V,dU];simpa [js] using g)⟩;have aB:Hid (∀(y:wO) (q:Nat),fr=a->T1 to<tm+((wt:Int) - (bk:Int)*c.P)->I2 to->yp c (bX I2 to false) T1 U y->(q:Int)+cnt I2 c.L.b.length<=2*xz U c.L.b.length->xr (fun s r=>if s=ye (zc c.L.b to).o/\r=(T1 to).tmod c.P then (ei c.L c.P I2 T1 s r:Int) - 1 else (ei c.L c.P I2 T1 s r:Int)) (q+1) c.mb y->jE es c.P T1 tm a I1 (k+1)=bX I2 to false/\f' c (bX I2 to false) T1 U a (k+1) y):=fun y q f1 f2 M O S g4=>⟨by have h:=Jp (k:=k) di (by rw [<-D.o,V];exact f1) (by rw [<-D.o,V];exact M) (by rw [<-D.o,V];exact f2);rw [<-D.o,V] at h;rw [<-D.o];exact h,f.o bf M (by rw [D.o];exact dI) (by rw [V];simp) O S g4⟩;have dV:Hid (∀(y:wO) (q:Nat),Bw wr y->xr (fun s r=>(ei c.L c.P I2 T1 s r:Int)) q c.mb y->(q:Int)+cnt I2 c.L.b.length<=2*xz U c.L.b.length->Cp 236 #[.pointer (pA c.pb),J to] y fun e w'=>e=.returned (.tuple #[])/\yp c (bX I2 to false) T1 U w'/\xr (fun s r=>if s=ye (zc c.L.b to).o/\r=(T1 to).tmod c.P then (ei c.L c.P I2 T1 s r:Int) - 1 else (ei c.L c.P I2 T1 s r:Int)) (q+1) c.mb w'):=fun y q M O S=>RI y to q _ ok (f.rows.gE M) O (by have:=f.sum ok;omega) bf tf1 tf2 (Ag ok I2 T1);have de:=Z f.map;have gS:Hid (∀y,Bw wr y->(y.cell? (E c.pb 11)=Y c.P/\y.cell? (E c.pb 13)=some (vP c.ib c.L.b.length c.L.b.length)/\y.cell? (E c.pb 14)=some (vP c.tb c.L.b.length c.L.b.length))/\y.cell? (E c.ib to)=some (.bool (I2 to))/\y.cell? (E c.tb to)=Y (T1 to)):=fun y j=>by have X:=f.rows.gE j;obtain⟨f1,z,A,F,m,n,B,G⟩:=X.fields;exact⟨⟨A,m,n⟩,X.ir.cell bf,X.tr.cell bf⟩
    obtain⟨gp,ep⟩:∃g,(wt:Int) - (bk:Int)*c.P=g:=⟨_,rfl⟩;rw [ep] at bj aW aB;have fG:-10000<=gp/\gp<=6:=(by omega);obtain⟨ik,eq⟩:=nm (I2 to);obtain⟨tf,eD⟩:=nm (T1 to);rw [eq] at h3 aW gS aB;rw [eD] at tf1 tf2 aW gS aB dV;have eF:IntKind.i64.wrap (tm+gp)=tm+gp:=xG _ (by omega) (by omega);have bg:Hid (∀y:wO,Below (wr.z+1) (wr.alloc (.cells #[J fr,J to,J bk,J wt] 98)) y->y.cell? (E wr.z 0)=Y fr/\y.cell? (E wr.z 1)=Y to/\y.cell? (E wr.z 2)=Y bk/\y.cell? (E wr.z 3)=Y wt):=fun y j=>by have hb:y.heap[wr.z]?=some (.cells #[J fr,J to,J bk,J wt] 98 (0,0)):=(j.block _ (by omega)).t (zm _ _ _);refine⟨?_,?_,?_,?_⟩ <;> (rw [Qa hb];rfl)
    have aA:Hid (Bw wr (wr.alloc (Id fr to bk wt 98))):=Qd _ _;have HS:Hid ((wr.alloc (Id fr to bk wt 98)).z=wr.heap.size+1):=(by show _=_;simp);obtain⟨f1,z,A,F,m,n,B,G⟩:=f.rows.fields;clear V ep eq eD f1 z A F n B G f;rw [fe];by_cases hta:fr=a
    ·cases ik with
     | false =>
      subst hta;go_wp2;go_big_quiet ((fail));go_wp2;go_roundw
      case rel=>exact⟨k+1,I2,by omega,by go_num,aW _ (aA.t (Qm _ _ _)) (fun _ h=>absurd h (by simp))⟩
      simp [intOf];omega
     | true =>
      subst hta;have af:Hid (∀y:wO,Below (wr.heap.size+1) (wr.alloc (Id fr to bk wt 98)) y->(y.c c.pb 11=Y c.P/\y.c c.pb 13=some (vP c.ib c.L.b.length c.L.b.length)/\y.c c.pb 14=some (vP c.tb c.L.b.length c.L.b.length))/\(y.c c.ib to=some (.bool true))/\(y.c c.tb to=Y tf)/\(y.c wr.heap.size 0=Y fr/\y.c wr.heap.size 1=Y to/\y.c wr.heap.size 2=Y bk/\y.c wr.heap.size 3=Y wt)):=fun y j=>by obtain⟨M,O,S⟩:=gS y (aA.t (j.m (by omega)));exact⟨M,O,S,bg y j⟩
      obtain⟨bd,bS⟩:=nm (decide (tf<tm+gp));have aT:=Z bS;clear h3 m;go_wp2;refine rh 99 af (zL _ _) fun l=>?_;apply aq 0;apply aq 2;apply aq 4;apply aq 6;apply aq 8;apply aq 10;apply aq 12;apply aq 14;apply aq 16;apply aq 18;apply aq 20;apply aq 22;apply aq 24;apply aq 26;apply uk 28;refine zb (i:=29) rfl (by kernel_rfl) (fun K d=>?_);go_simp;refine (bj _).mr fun x4 bR=>?_;have cH:Hid (Below (wr.heap.size+1) (wr.alloc (Id fr to bk wt 98)) x4):=(zL _ _).t (bR.m (by simp));have l:=af _ cH;clear bR;apply bq d.o (.inr l);clear d K;apply aq 30;apply uk 32;refine zj (by kernel_rfl) ?_ _;apply Qs;have cI:Hid (Bw wr x4):=aA.t (cH.m (by omega));obtain⟨M,O,S⟩:=l;clear M O l;obtain⟨x0,x1',x2',x3'⟩:=bg _ cH;clear x0 x2' x3' S;cases bd with
      | true =>
       go_wp2_with fail;obtain⟨q2,cF,dM⟩:=de;apply (dV x4 q2 cI (cF.gE cI) dM).m;rintro e x5 ⟨rfl,eB,er⟩;have v:=Z (aB x5 q2 (by first | rfl | trivial) (QI aT) (by first | rfl | trivial) eB dM er);clear eB er cF dM;go_wp2_with fail;go_roundw
       case rel=>exact⟨k+1,_,by omega,by go_num,v⟩
       simp [intOf];omega
      | false =>
       have v:=Z (aW x4 cI (fun _ _=>by have:=of_decide_eq_false aT;omega));go_wp2;go_roundw
       case rel=>exact⟨k+1,I2,by omega,by go_num,v⟩
       simp [intOf];omega
    have dN:¬(fr:Int)=(a:Int):=(by omega);have fx:((fr:Int) == (a:Int))=false:=Wf dN;go_wp2;go_big_quiet ((fail));go_wp2;go_roundw
    case rel=>exact⟨k+1,I2,by omega,by go_num,aW _ (aA.t (Qm _ _ _)) (fun h=>absurd h hta)⟩
    simp [intOf];omega
   have e:k=es.length:=(by omega);subst e;have fj:¬(es.length:Int)<(es.length:Int):=(by omega);have v:Hid (sD c I T N a (.returned (.bool true)) wr):=.inr ⟨rfl,tm,I2,T1,U,aO,p,by rw [D,eL];exact di,eV,eP,f.anyk (by rw [D];exact Qc _),ai⟩;clear f;go_wp2;go_ret;exact v
 have dH:1000<tm:=by omega
 have v:=Z (aH wr ⟨tm,⟨bI.2,.inl dH⟩,dH⟩ HB);go_wp2;go_ret;exact v
end
def Js:(prog.info? 4).map (fun i=>(i.zero,i.size,i.bytes))=some (some (.bool false),1,1):=kR
def kW (u v:vO):Prop:=∀g g' n n' m m',u=.slice (pA g) n m->v=.slice (pA g') n' m'->g≠g'
theorem kW.s (u v:vO) (h:kW u v):kW v u:=by grind [kW]
def lL (x:wO) (n:Nat) (H:Nat->Int) (i:Nat) (v:vO) (w:wO):Prop :=
 (i=7->∃g,v=.slice (pA g) n n/\x.heap.size<=g/\zr w g 3 n (fun i=>J (H i))) /\
 (i=9->∃g,v=.slice (pA g) n n/\x.heap.size<=g/\zr w g 4 n (fun _=>.bool false)) /\
 (i=14->∃g,v=.map (some g)/\x.heap.size<=g/\xr (fun _ _=>0) 0 g w) /\
 (i=11\/i=13->∃g,v=.slice (pA g) n n/\x.heap.size<=g/\zr w g 3 n (fun _=>J 0))
def lL.gE {w':wO} (h:lL x n H i v w) (hb:Bw w w'):lL x n H i v w':=by
 obtain⟨h1,c,d,f⟩:=h;refine⟨fun e=>?_,fun e=>?_,fun e=>?_,fun e=>?_⟩
 ·obtain⟨g,k1,b,a⟩:=h1 e;exact⟨g,k1,b,a.gE hb a.lt⟩
 ·obtain⟨g,k1,b,a⟩:=c e;exact⟨g,k1,b,a.gE hb a.lt⟩
 ·obtain⟨g,k1,b,a⟩:=d e;exact⟨g,k1,b,a.gE hb⟩
 obtain⟨g,k1,b,a⟩:=f e;exact⟨g,k1,b,a.gE hb a.lt⟩
def lL.lt (h:lL x n H i v w) (hi:i∈[7,9,11,13,14]):∀g a b,v=.slice (pA g) a b->g<w.heap.size:=by
 intro g a b e;obtain⟨h1,k,o,j⟩:=h;have key:∀c,v=vP c n n->c<w.z->g<w.z:=fun c m l=>sA
 simp only [WE,qK,or_false] at hi;rcases hi with hi | hi | hi | hi | hi
 ·obtain⟨c,k1,f,d⟩:=h1 hi;exact key c k1 d.lt
 ·obtain⟨c,k1,f,d⟩:=k hi;exact key c k1 d.lt
 ·obtain⟨c,k1,f,d⟩:=j (.inl hi);exact key c k1 d.lt
 ·obtain⟨c,k1,f,d⟩:=j (.inr hi);exact key c k1 d.lt
 simp_all
def py (m:w.heap.size<=g):∀j∈[7,9,11,13,14],∀u,lL x n H j u w->kW u (.slice (pA g) a b):=fun j f u h d l n1 n2 i o c k=>by
 have h1:=h.lt f d n1 i c
 grind
def Jt:∀j∈[7,9,11,13,14],∀u,lL x n H j u w->kW u (.map (some g)):=by simp [kW]
def Ju (t:Tg) (L:Lp) (v0 v2:vO) (bb bo bc:Nat) (P:Int) (ea:Option Addr) (ec:Nat) (x:wO) (hm:zQ L) (ht:zS t) (bP:1<=P) (bQ:P<=200) (hbb:bb<x.heap.size) (dx:L.b.length<=bc) (dy:bc<=9223372036854775807) (gQ:∀i,i<L.b.length->∀j,j<9->x.cell? (E bb (bo+i*9+j))=(zG (zc L.b i))[j]?) (hE:ZD x (.slice ea (zf L t).length ec) (zf L t)) :
  Cp 192 #[.agg #[v0,.slice (some (E bb bo)) L.b.length bc,v2],(tV t),.slice ea (zf L t).length ec,J P] x fun e w'=>∃c:Pc,e=.returned (.pointer (pA c.pb))/\U0 c/\c.w0=x/\c.L=L/\c.t=t/\c.P=P/\c.H=hF P (zf L t) L.b.length/\f' c (fun _=>false) (fun _=>0) (fun _=>0) 0 (zf c.L c.t).length w':=by
 obtain⟨-,fH,dJ,-⟩:=zy hm;have eQ:Hid (∀e∈zf L t,kt L.b.length e):=fun e he=>by obtain⟨fr,to,bk,wt,h0,h1,S,h3,h4,h5⟩:=ZW hm e he;exact⟨fr,to,bk,wt,h0,h1,S,h5,h4⟩
 have X:=Z (fun W (hW:ZD W (.slice ea (zf L t).length ec) (zf L t))=>RM L.b.length P ea ec _ W hW eQ dJ bP bQ);have Q:=run_make_row' (P:=prog) 34 3 (J 0) 8 underlying34 Tryz.j3 rfl .i64 .i64 L.b.length oM oM;have D:=run_make_row' (P:=prog) 261 4 (.bool false) 1 underlying261 Js rfl .i64 .i64 L.b.length oM oM;have F:=@run_makeMap prog;have B:=Z (QB x (.cells #[v0,.slice (some (E bb bo)) L.b.length bc,v2] 62) (tO t));have A:Hid (((x.alloc (.cells #[v0,.slice (some (E bb bo)) L.b.length bc,v2] 62)).alloc (tO t)).heap.size=x.heap.size+1+1):=by show _=_;simp
 have V:=Z hE;have u:Hid (∀y,Below (x.heap.size+1+1) ((x.alloc (.cells #[v0,.slice (some (E bb bo)) L.b.length bc,v2] 62)).alloc (tO t)) y->(y.c x.heap.size 0=some v0/\y.c x.heap.size 1=some (.slice (some (E bb bo)) L.b.length bc)/\y.c x.heap.size 2=some v2)/\(y.c (x.heap.size+1) 0=Y t.u0/\y.c (x.heap.size+1) 1=Y t.u1/\y.c (x.heap.size+1) 2=Y t.u2/\y.c (x.heap.size+1) 3=Y t.w0/\y.c (x.heap.size+1) 4=Y t.w1/\y.c (x.heap.size+1) 5=Y t.w2/\y.c (x.heap.size+1) 6=Y t.r)):=fun y hy=>by obtain⟨h1,S,-⟩:=ZG hy;exact⟨h1,S⟩
 have aO:Hid (∀(pb hb ib tb nb mb:Nat) (y:wO),Bw x y->x.heap.size<=hb->x.heap.size<=ib->x.heap.size<=tb->x.heap.size<=nb->x.heap.size<=mb->hb≠tb->hb≠nb->tb≠nb->zr y hb 3 L.b.length (fun i=>J (hF P (zf L t) L.b.length i))->zr y ib 4 L.b.length (fun _=>.bool false)->zr y tb 3 L.b.length (fun _=>J 0)->zr y nb 3 L.b.length (fun _=>J 0)->xr (fun _ _=>0) 0 mb y->x.heap.size<=pb ->
   y.heap[pb]?=some (.cells (rj ⟨x,L,t,P,pb,hb,ib,tb,nb,mb,v0,v2,bb,bo,bc,ea,ec,hF P (zf L t) L.b.length⟩) 264 (0,0))->∃c:Pc,(.returned (.pointer (pA pb)):Ending)=.returned (.pointer (pA c.pb))/\U0 c/\c.w0=x/\c.L=L/\c.t=t/\c.P=P/\c.H=hF P (zf L t) L.b.length/\f' c (fun _=>false) (fun _=>0) (fun _=>0) 0 (zf c.L c.t).length y):=by
  intro pb hb ib tb nb mb y k1 k2 k3 k4 k5 k6 k7 k8 k9 r1 r2 r3 r4 r5 k10 z
  refine⟨⟨x,L,t,P,pb,hb,ib,tb,nb,mb,v0,v2,bb,bo,bc,ea,ec,hF P (zf L t) L.b.length⟩,rfl,⟨hm,ht,bP,bQ,hbb,dx,dy,gQ,hE⟩,rfl,rfl,rfl,rfl,rfl,⟨⟨k1,z,r1,r2,r3,r4,⟨k10,k2,k3,k4,k5,k6⟩,⟨k7,k8,k9⟩⟩,jh.start ht _ _,0,r5.congr fun s q=>?_,?_⟩⟩
  ·have h1:ei L P (fun _=>false) (fun _=>0) s q=0:=by
    rcases Yd (fun i=>(fun _:Nat=>false) i && (decide (ye (zc L.b i).o=s) && decide (((fun _:Nat=>(0:Int)) i).tmod P=q))) L.b.length with h | ⟨i,_,h⟩
    ·exact h
    ·simp at h
   simp_all
  ·have h1:cnt (fun _=>false) L.b.length=0:=by
    rcases Yd (fun _=>false) L.b.length with h | ⟨i,_,h⟩
    ·exact h
    ·cases h
   have S:=(An (N:=fun _=>0) (lo:=0) (hi:=0) L.b.length (fun _ _=>⟨QR _,QR _⟩)).1
   grind
 have eJ:Hid ((zf L t).length=(zf L t).length):=rfl;clear hE gQ hm ht;obtain⟨es,U⟩:=nm (zf L t);rw [U] at X V ⊢;have T:=Z U;clear U;go_enter func192,ntmps192;go_wp2;refine rg 99 (fun w'=>(Below (x.heap.size+1+1) ((x.alloc (.cells #[v0,.slice (some (E bb bo)) L.b.length bc,v2] 62)).alloc (tO t)) w')/\((w'.c x.z 0=some v0/\w'.c x.z 1=some (.slice (some (E bb bo)) L.b.length bc)/\w'.c x.z 2=some v2)/\(w'.c (x.z+1) 0=Y t.u0/\w'.c (x.z+1) 1=Y t.u1/\w'.c (x.z+1) 2=Y t.u2/\w'.c (x.z+1) 3=Y t.w0/\w'.c (x.z+1) 4=Y t.w1/\w'.c (x.z+1) 5=Y t.w2/\w'.c (x.z+1) 6=Y t.r))) ⟨zL _ _,u _ (zL _ _)⟩ fun n=>?_;refine aq 0 ?_;refine aq 2 ?_;refine aq 4 ?_;refine uk 6 ?_;refine uk 8 ?_;refine uk 10 ?_;refine uk 12 ?_;refine RD (lL x L.b.length (hF P es L.b.length)) kW kW.s [7,9,11,13,14] #[true,true,true,true,true,true,true,true,true,true,true,true,true,true,true,false,false,false] (fun _ _ _ h=>h) tQ (fun _ _ _ _ _ h hb=>h.gE hb) ?mk ?fin 5 [7,9,11,13,14] [] (fun _=>undef) _ _ rfl (List.Perm.refl _) kR n (fun i hi=>absurd hi sM) (fun i hi=>absurd hi sM)
 case mk =>
  intro i hi;simp only [WE,qK,or_false] at hi;rcases hi with rfl | rfl | rfl | rfl | rfl
  ·refine oH rfl kR rfl kR (fun w hS K d=>?_);have v:=B.t (hS.1.m oM);have eK:=Z (V.gE v);have k:=Z v.size;have f:=Z hS.1;clear hS v Q D F V;go_simp;refine (X w eK).m ?_;rintro e y ⟨rfl,hb,hr⟩;have a:Below (x.z+1+1) ((x.alloc (.cells #[v0,.slice (some (E bb bo)) L.b.length bc,v2] 62)).alloc (tO t)) y:=f.t (hb.m (by have:=f.size;rw [A] at this;exact this));exact d _ _ ⟨a,u _ a⟩ hb ⟨fun _=>⟨_,rfl,k,hr⟩,fun h=>absurd h tQ,fun h=>absurd h tQ,fun h=>absurd h tQ⟩ (py (Qc _))
  ·refine oH rfl kR rfl kR (fun w hS K d=>?_);have k:=Z (B.t (hS.1.m oM)).size;have f:=Z hS.1;clear hS Q F;go_simp;have hb:Bw w (w.alloc (.cells (madeCells #[.bool false] L.b.length) 4)):=Qd _ _;have a:Below (x.z+1+1) ((x.alloc (.cells #[v0,.slice (some (E bb bo)) L.b.length bc,v2] 62)).alloc (tO t)) (w.alloc (.cells (madeCells #[.bool false] L.b.length) 4)):=f.t (hb.m (by have:=f.size;rw [A] at this;exact this));exact d _ _ ⟨a,u _ a⟩ hb ⟨fun h=>absurd h tQ,fun _=>⟨_,rfl,k,zr.zeros w _ _ _⟩,fun h=>absurd h tQ,fun h=>absurd h tQ⟩ (py (Qc _))
  ·refine oH rfl kR rfl kR (fun w hS K d=>?_);have k:=Z (B.t (hS.1.m oM)).size;have f:=Z hS.1;clear hS D F;go_simp;have hb:Bw w (w.alloc (.cells (madeCells #[J 0] L.b.length) 3)):=Qd _ _;have a:Below (x.z+1+1) ((x.alloc (.cells #[v0,.slice (some (E bb bo)) L.b.length bc,v2] 62)).alloc (tO t)) (w.alloc (.cells (madeCells #[J 0] L.b.length) 3)):=f.t (hb.m (by have:=f.size;rw [A] at this;exact this));exact d _ _ ⟨a,u _ a⟩ hb ⟨fun h=>absurd h tQ,fun h=>absurd h tQ,fun h=>absurd h tQ,fun _=>⟨_,rfl,k,zr.zeros w _ _ _⟩⟩ (py (Qc _))
  ·refine oH rfl kR rfl kR (fun w hS K d=>?_);have k:=Z (B.t (hS.1.m oM)).size;have f:=Z hS.1;clear hS D F;go_simp;have hb:Bw w (w.alloc (.cells (madeCells #[J 0] L.b.length) 3)):=Qd _ _;have a:Below (x.z+1+1) ((x.alloc (.cells #[v0,.slice (some (E bb bo)) L.b.length bc,v2] 62)).alloc (tO t)) (w.alloc (.cells (madeCells #[J 0] L.b.length) 3)):=f.t (hb.m (by have:=f.size;rw [A] at this;exact this));exact d _ _ ⟨a,u _ a⟩ hb ⟨fun h=>absurd h tQ,fun h=>absurd h tQ,fun h=>absurd h tQ,fun _=>⟨_,rfl,k,zr.zeros w _ _ _⟩⟩ (py (Qc _))
  refine oH rfl kR rfl kR (fun w hS K d=>?_);have k:=Z (B.t (hS.1.m oM)).size;have f:=Z hS.1;clear hS D Q;go_simp;have hb:Bw w (w.alloc (.map #[] 0)):=Qd _ _;have a:Below (x.z+1+1) ((x.alloc (.cells #[v0,.slice (some (E bb bo)) L.b.length bc,v2] 62)).alloc (tO t)) (w.alloc (.map #[] 0)):=f.t (hb.m (by have:=f.size;rw [A] at this;exact this));exact d _ _ ⟨a,u _ a⟩ hb ⟨fun h=>absurd h tQ,fun h=>absurd h tQ,fun _=>⟨_,rfl,k,xr.made w⟩,fun h=>absurd h tQ⟩ Jt
 case fin =>
  intro val w1 hS hR hA;obtain⟨hb,R,k7,r7⟩:=(hR 7 tQ).1 rfl;obtain⟨ib,e9,k9,r9⟩:=(hR 9 tQ).2.1 rfl;obtain⟨tb,l,z,I⟩:=(hR 11 tQ).2.2.2 (.inl rfl);obtain⟨nb,m,k13,M⟩:=(hR 13 tQ).2.2.2 (.inr rfl);obtain⟨mb,G,k14,O⟩:=(hR 14 tQ).2.2.1 rfl;have n1:=hA 7 tQ 11 tQ tQ _ _ _ _ _ _ R l;have n2:=hA 7 tQ 13 tQ tQ _ _ _ _ _ _ R m;have n3:=hA 11 tQ 13 tQ tQ _ _ _ _ _ _ l m;have cL:Hid (Bw x w1):=B.t (hS.1.m oM);have g:=Z (And.intro r7 (And.intro r9 (And.intro I (And.intro M O))));have C:=hS;clear hR hA hS n Q D F X;show YX _ _ _ _ _ _ _ _ ((((((_:Act).put (some 20) (val 7)).put (some 22) (val 9)).put (some 24) (val 11)).put (some 26) (val 13)).put (some 27) (val 14)) _;rw [R,e9,l,m,G];clear R e9 l m G r7 r9 I M O;have n:=C;clear C;try simp only [Act.put,Qn,Qy,Qz]
  refine uk 15 ?_;have eR:Hid ((w1.alloc (.cells #[v0,.slice (some (E bb bo)) L.b.length bc,v2,J t.u0,J t.u1,J t.u2,J t.w0,J t.w1,J t.w2,J t.r,.slice ea es.length ec,J P,.slice (pA hb) L.b.length L.b.length,.slice (pA ib) L.b.length L.b.length,.slice (pA tb) L.b.length L.b.length,.slice (pA nb) L.b.length L.b.length,.map (some mb)] 264)).heap[w1.z]?=some (.cells (rj ⟨x,L,t,P,w1.z,hb,ib,tb,nb,mb,v0,v2,bb,bo,bc,ea,ec,hF P (zf L t) L.b.length⟩) 264 (0,0))):=by show _=_;unfold rj;dsimp only;rw [T];exact zm _ _ _
  have p:Hid (Bw w1 (w1.alloc (.cells #[v0,.slice (some (E bb bo)) L.b.length bc,v2,J t.u0,J t.u1,J t.u2,J t.w0,J t.w1,J t.w2,J t.r,.slice ea es.length ec,J P,.slice (pA hb) L.b.length L.b.length,.slice (pA ib) L.b.length L.b.length,.slice (pA tb) L.b.length L.b.length,.slice (pA nb) L.b.length L.b.length,.map (some mb)] 264))):=Qd _ _;have a:Below (x.z+1+1) ((x.alloc (.cells #[v0,.slice (some (E bb bo)) L.b.length bc,v2] 62)).alloc (tO t)) (w1.alloc (.cells #[v0,.slice (some (E bb bo)) L.b.length bc,v2,J t.u0,J t.u1,J t.u2,J t.w0,J t.w1,J t.w2,J t.r,.slice ea es.length ec,J P,.slice (pA hb) L.b.length L.b.length,.slice (pA ib) L.b.length L.b.length,.slice (pA tb) L.b.length L.b.length,.slice (pA nb) L.b.length L.b.length,.map (some mb)] 264)):=n.1.t (p.m (by have:=n.1.size;rw [A] at this;exact this));have C:=And.intro a (u _ a);refine uo 16 fun K d=>?_;go_simp;refine bq d.o (.inr C) ?_;clear d K;have n:=C;refine uo 17 fun K d=>?_;go_simp;refine bq d.o (.inr n) ?_;clear d K;refine rd ?_;have HF:=Z (aO w1.z hb ib tb nb mb (w1.alloc (.cells #[v0,.slice (some (E bb bo)) L.b.length bc,v2,J t.u0,J t.u1,J t.u2,J t.w0,J t.w1,J t.w2,J t.r,.slice ea es.length ec,J P,.slice (pA hb) L.b.length L.b.length,.slice (pA ib) L.b.length L.b.length,.slice (pA tb) L.b.length L.b.length,.slice (pA nb) L.b.length L.b.length,.map (some mb)] 264)) (cL.tm p) k7 k9 z k13 k14 n1 n2 n3 (by rw [T];exact g.1.gE p g.1.lt) (g.2.1.gE p g.2.1.lt) (g.2.2.1.gE p g.2.2.1.lt) (g.2.2.2.1.gE p g.2.2.2.1.lt) (g.2.2.2.2.gE p) cL.size eR);clear n C a;go_wp2;exact oB (by have h:=HF;rw [T] at h;exact h)
def pB (w:wO) (g n:Nat):Int:=xz (fun i=>match w.cell? (E g i) with | some (.int _ z)=>z | _=>0) n
theorem Jv {f g:Nat->Int}:∀n,(∀i,i<n->f i=g i)->xz f n=xz g n:=by intro n;induction n <;> grind [xz]
def Jw {e:TypeId} {N:Nat->Int} (h:zr w g e n (fun i=>J (N i))):pB w g n=xz N n :=by grind [pB,Jv,zr.cell]
def sE (L:Lp) (t:Tg) (P:Int) (x:wO) (e:Ending) (w':wO):Prop:=Bw x w'/\∃(P':Int) (ta:Option Addr) (tl tc:Nat) (b:Bool),e=.returned (.tuple #[.agg #[J P',.slice ta tl tc],.bool b])/\(b->P'=P/\∃g T,ta=some (E g 0)/\x.heap.size<=g/\tl=T.length/\zM w' (.slice ta tl tc) T/\zZ L t P T/\Xr L t P (some T))/\(b=false->Xr L t P none)
def f'.ints {c:Pc} {I:Nat->Bool} {T N:Nat->Int} (h:f' c I T N a k x) (ok:U0 c):zM x (.slice (pA c.tb) c.L.b.length c.L.b.length) ((List.range c.L.b.length).map T):=by
 have d:=ok.len;have hlen:((List.range c.L.b.length).map T).length=c.L.b.length:=sM
 refine⟨some (E c.tb 0),c.L.b.length,by rw [hlen],lI,by unfold maxLen;lia,fun i hi=>?_,fun _=>⟨c.tb,0,rfl,h.rows.tr.lt,fun i hi=>?_⟩⟩
 ·rw [hlen] at hi;rw [Ze hi];have:=h.sok.times i hi;lia
 rw [hlen] at hi;rw [Ze hi,QO];exact h.rows.tr.cell hi
def Jy (t:Tg) (L:Lp) (v0 v2:vO) (bb bo bc:Nat) (P:Int) (ea:Option Addr) (ec:Nat) (x:wO) (hm:zQ L) (ht:zS t) (bP:1<=P) (bQ:P<=200) (hbb:bb<x.heap.size) (dx:L.b.length<=bc) (dy:bc<=9223372036854775807) (gQ:∀i,i<L.b.length->∀j,j<9->x.cell? (E bb (bo+i*9+j))=(zG (zc L.b i))[j]?) (hE:ZD x (.slice ea (zf L t).length ec) (zf L t)) :
  Cp 144 #[.agg #[v0,.slice (some (E bb bo)) L.b.length bc,v2],(tV t),.slice ea (zf L t).length ec,J P] x fun e w'=>sE L t P x e w':=by
 have D:=Z (QJ x (.cells #[v0,.slice (some (E bb bo)) L.b.length bc,v2] 62) (tO t) (.cells #[J 0,.slice none 0 0] 110));have dT:Hid ((((x.alloc (.cells #[v0,.slice (some (E bb bo)) L.b.length bc,v2] 62)).alloc (tO t)).alloc (.cells #[J 0,.slice none 0 0] 110)).heap.size=x.heap.size+1+1+1):=by show _=_;simp
 have eW:Hid ((((x.alloc (.cells #[v0,.slice (some (E bb bo)) L.b.length bc,v2] 62)).alloc (tO t)).alloc (.cells #[J 0,.slice none 0 0] 110)).heap[x.heap.size+1+1]?=some (.cells #[J 0,.slice none 0 0] 110 (0,0))):=by
  show _=_;have e:((x.alloc (.cells #[v0,.slice (some (E bb bo)) L.b.length bc,v2] 62)).alloc (tO t)).heap.size=x.heap.size+1+1:=sM
  grind [zm]
 have dh:=Z (Ju t L v0 v2 bb bo bc P ea ec (((x.alloc (.cells #[v0,.slice (some (E bb bo)) L.b.length bc,v2] 62)).alloc (tO t)).alloc (.cells #[J 0,.slice none 0 0] 110)) hm ht bP bQ (Qu hbb D.size) dx dy (fun i hi j hj=>(ze D _ _ hbb).t (gQ i hi j hj)) (hE.gE D));have cU:Hid (∀(c:Pc) I T N x,c.L=L->c.t=t->c.P=P->f' c I T N 0 (zf c.L c.t).length x->(∀i,i<c.L.b.length->I i)->zZ L t P ((List.range c.L.b.length).map T)):=fun c I T N x e1 e2 e3 h1 h2=>by obtain⟨_,hs,_⟩:=h1;grind [jh.legal]
 have eY:0<=1:=oM
 clear gQ hE hm ht;obtain⟨es,Q⟩:=nm (zf L t);rw [Q] at dh ⊢;have ac:=Z Q;clear Q;go_enter func144,ntmps144;go_wp2_with fail;apply dh.m;rintro e x1 ⟨c,rfl,ok,eE,U,X,V,ee,p⟩;have az:Hid (∀g,V6 c.L c.t c.P c.H (fun _=>false) (fun _=>0) (fun _=>0) g->Xr L t P g):=fun g h=>by rw [U,X,V,ee,<-ac] at h;exact h
 clear ee;have F:=Z eE;have eG:=Z U;have eI:=Z X;have eH:=Z V;have f:=Z p;clear dh eE U X V p eY;have dR:=Z (fun W I T N (h:f' c I T N 0 (zf c.L c.t).length W)=>RJ W ok h.rows);have dn:=Z (fun W a I T N (h:f' c I T N 0 (zf c.L c.t).length W) ha hI=>Jr W a ok h ha hI);have O:Hid (∀I T N W,f' c I T N 0 (zf c.L c.t).length W->pB W c.nb c.L.b.length=xz N c.L.b.length/\0<=xz N c.L.b.length/\xz N c.L.b.length<=16016):=fun I T N W h=>⟨Jw h.rows.nr,h.sum ok⟩;have bH:Hid (∀W,Below c.w0.heap.size c.w0 W->W.heap[x.heap.size+1+1]?=some (.cells #[J 0,sN] 110 (0,0))):=fun W G=>by rw [G.block _ (by rw [F,dT];omega),F];exact eW
 have aU:Hid (∀W,Below c.w0.heap.size c.w0 W->Bw x W):=fun W G=>by rw [F] at G;exact D.tm G
 go_wp2_with fail;apply (dR x1 _ _ _ f).m;rintro e x2 ⟨k,m,rfl,dF,u,q,s,aI⟩;have o:=Z s;clear s;have bK:=Z (f.gE aI);have r:=Z u;have C:=Z q;clear f u q aI;go_wp2_with fail;go_loopw [11,12] (fun av lv wr=>∃(k:Nat) (m:Bool) (I:Nat->Bool) (T N:Nat->Int),av=J k/\lv=.bool m/\k<c.L.b.length/\(m=false->∀j,j<c.L.b.length->I j)/\(m->I k=false)/\VF c.H I c.L.b.length=(k,m)/\(∀g,V6 c.L c.t c.P c.H I T N g->V6 c.L c.t c.P c.H (fun _=>false) (fun _=>0) (fun _=>0) g)/\f' c I T N 0 (zf c.L c.t).length wr) (fun _ _ wr=>(16020 - pB wr c.nb c.L.b.length).toNat)
 case atStart=>exact⟨k,m,_,_,_,rfl,rfl,dF,r,fun _=>rfl,o,fun _ h=>h,bK⟩
 clear r C bK o;obtain⟨k,m,I,T,N,rfl,rfl,dF,u,q,s,eA,p⟩:=hrel;have o:=Z s;have dj:=Z eA;clear s eA;have f:=Z p;have r:=Z u;have C:=Z q;have R:=O I T N wr p;clear p u q;cases m with
 | true =>
  have HI:Hid (I k=false):=C rfl;have eN:=Z R;clear R r C;go_wp2_with fail;apply (dn wr k I T N f dF HI).m;rintro e l y;rcases y with ⟨rfl,bT,n⟩ | ⟨rfl,tm3,z,B,A,aK,cu,dW,dY,dX,M,aL⟩
  ·have bE:Hid (Xr L t P none):=(by obtain⟨tm,fa,fc⟩:=bT;exact az _ (dj _ (.none I T N k tm o fa fc)));clear bT;have d:=bH l n;have S:=Z (aU l n);have n0:l.c (x.heap.size+1+1) 0=Y 0:=(cb d);have n1:l.cell? (E (x.heap.size+1+1) 1)=some sN:=(by rw [Qa d];rfl);have f0:l.frozen? (E (x.heap.size+1+1) 0)=false:=(qZ d);have f1:l.frozen? (E (x.heap.size+1+1) 1)=false:=(qZ d);obtain⟨s0,s1⟩:=Yr (a':=J 0) (b':=sN) d;have K:Hid (sE L t P x (.returned (.tuple #[.agg #[J 0,sN],.bool false])) ((l.st (x.heap.size+1+1) 0 (J 0)).st (x.heap.size+1+1) 1 sN)):=⟨(S.setCell (by show x.heap.size<=x.heap.size+1+1;omega) _).setCell (by show x.heap.size<=x.heap.size+1+1;omega) _,0,none,0,0,false,rfl,fun h=>absurd h sM,fun _=>bE⟩;clear d n;go_wp2_with fail;exact bodyPost_ret (v:=.tuple #[.agg #[J 0,sN],.bool false]) (by simp [results,results144,go_sem,s0,s1]) rfl K
  have dm:Hid (∀g,V6 c.L c.t c.P c.H z B A g->V6 c.L c.t c.P c.H (fun _=>false) (fun _=>0) (fun _=>0) g):=fun g h=>dj g (.step I T N k tm3 g o aK cu (by rw [dY,dX,dW];exact h));clear aK cu dW dY dX;have bL:=Z M;have eT:=Z (O z B A l M);have bC:=Z aL;clear M aL;go_wp2_with fail;apply (dR l _ _ _ bL).m;rintro e x4 ⟨fd4,lf4,rfl,dG,ce,aM,bW,bR⟩;have cS:=Z bW;clear bW;have bM:=Z (bL.gE bR);have dg:=Z ce;have bO:=Z aM;have eU:=Z (O z B A x4 bM);clear ce aM bR;go_wp2_with fail;go_roundw
  case rel=>exact⟨fd4,lf4,z,B,A,rfl,rfl,dG,dg,bO,cS,dm,bM.o⟩
  have h1:=eN.o;have h2:=eU.o;have h3:=bC.o;omega
 | false =>
  have cG:Hid (∀j,j<c.L.b.length->I j):=r rfl;have eM:=Z (cU c I T N wr eG eI eH f cG);have eS:Hid (Xr L t P (some ((List.range c.L.b.length).map T))):=az _ (dj _ (.done I T N (by rw [o])));have ft:=f.rows.lt;obtain⟨f1,f10,f11,f12,f13,f14,f15,f16⟩:=f.rows.fields;have n:=f.rows.bel;have d:=bH wr n;have S:=Z (aU wr n);have n0:wr.c (x.heap.size+1+1) 0=Y 0:=cb d
  have n1:wr.c (x.heap.size+1+1) 1=some sN:=cb d
  have g0:wr.frozen? (E (x.heap.size+1+1) 0)=false:=qZ d
  have g1:wr.frozen? (E (x.heap.size+1+1) 1)=false:=qZ d
  obtain⟨s0,s1⟩:=Yr (a':=J P) (b':=vP c.tb c.L.b.length c.L.b.length) d;have hI:=f.ints ok;have fu:x.heap.size+1+1<c.tb:=by have:=f.rows.ge.2.2.2.1;rw [F,dT] at this;omega
  have fC:x.heap.size+1+1<wr.heap.size:=(lo d);have K:Hid (sE L t P x (.returned (.tuple #[.agg #[J P,vP c.tb c.L.b.length c.L.b.length],.bool true])) ((wr.st (x.heap.size+1+1) 0 (J P)).st (x.heap.size+1+1) 1 (vP c.tb c.L.b.length c.L.b.length))):=by
   refine⟨(S.setCell rQ _).setCell rQ _,P,_,_,_,true,rfl,fun _=>⟨rfl,c.tb,(List.range c.L.b.length).map T,rfl,oM,sM,?_,eM,eS⟩,fun h=>absurd h sM⟩;have hl:=ok.len;have hlen:((List.range c.L.b.length).map T).length=c.L.b.length:=(by simp);have hr:=(f.rows.tr.gF (a:=(E (x.heap.size+1+1) 0)) (by show c.tb≠x.heap.size+1+1;omega) (J P)).gF (a:=(E (x.heap.size+1+1) 1)) (by show c.tb≠x.heap.size+1+1;omega) (vP c.tb c.L.b.length c.L.b.length);refine⟨some (E c.tb 0),c.L.b.length,by rw [hlen],oM,mL,fun i hi=>?_,fun _=>⟨c.tb,0,rfl,hr.lt,fun i hi=>?_⟩⟩
   ·rw [hlen] at hi;rw [Ze hi];have:=f.sok.times i hi;omega
   rw [hlen] at hi;rw [Ze hi,QO];exact hr.cell hi
  clear d n f1 f10 f11 f12 f13 f15 f16 hI fC fu R;go_wp2;exact bodyPost_ret (v:=.tuple #[.agg #[J P,vP c.tb c.L.b.length c.L.b.length],.bool true]) (by simp [results,results144,go_sem,s0,s1]) rfl K
end
end Go.Proofs.YtjlfcbccpcigeacGreatDoor
