import Derived.Test.YtjlfcbccpcigeacGreatDoorC
import Derived.Test.YtjlfcbccpcigeacGreatDoorE
import Derived.Test.YtjlfcbccpcigeacGreatDoorH
set_option maxHeartbeats 40000000
set_option linter.defProp false
namespace Go.Proofs.YtjlfcbccpcigeacGreatDoor
open Go.Proofs.Tryz Go.RowKit Go.Joins
set_option linter.unusedVariables false
set_option linter.unusedSimpArgs false
set_option maxRecDepth 8192
def VT (f:Nat->Int) (k:Nat):Li:=(List.range k).map f
def rG (f:Nat->Int) (k:Nat):VT f (k+1)=VT f k++[f k]:=by simp [VT,Wn]
def Tryz.iintC:(prog.info? 3).map (fun i=>(i.zero,i.size,i.bytes))=some (some (J 0),1,8):=kR
def Tryz.ireadC:(prog.info? 292).map (fun i=>(i.zero,i.size,i.bytes))=some (some (.agg #[J 0,J 0,J 0,J 0,J 0]),5,40):=kR
def FX {L:Lp} {K:Kn} {O:Li} {s:Nat} (h:XM L K O s):(dq K O s).o=(zc L.b s).o:=by grind [XM]
def rH (w:wO) (v:vO) (e:TypeId) {B:Nat} (hB:w.heap.size=B):∀(j:Nat) (u:vO),[v][j]?=some u->(w.alloc (.cells #[v] e)).cell? (((E B 0):Addr).add j)=some u:=by
 subst hB;intro j u b;have a:((E w.z 0):Addr).add j=(E w.z j):=by simp [Addr.add];lia
 simp_all
def oS (X:wO) (o:Obj):Bw X (X.drew.alloc o):=(Qm _ _ 1).t ((Qd X.drew o))
def oT (X:wO) (o a:Obj):Bw X ((X.drew.alloc o).alloc a):=(oS X o).t ((Qd (X.drew.alloc o) a).m (oS X o).size)
def Yv {x w1:wO} {base y o b:Nat} {e a:TypeId} {i n:Nat} {v u:vO} {j:List vO} {c:Array vO} (g:x.ownsRow base e i v n j) (f:x.grownBy w1 v.ownBlock) (hb:x.heap[b]?=some (.cells c a (0,0))) (d:a≠e) (h:b≠y):(w1.setCell (E y o) u).heap[b]?=some (.cells c a (0,0)):=by rw [Qj _ _ _ _ h];exact YR g f hb d
def FY (t:Tg) (pc st:Int) (ops:List bt) (L:Lp) (O:Li) (a0 a2:Option Addr) (bb bo kb f ob oo X M gC kc oc:Nat) (w:wO) (hl:xW L t ⟨pc,st,ops⟩ O)
  (hbb:bb<w.heap.size) (eB:L.b.length<=M) (eC:M<=9223372036854775807) (gQ:∀i,i<L.b.length->∀j,j<9->w.cell? (E bb (bo+i*9+j))=(zG (zc L.b i))[j]?)
  (dS:kb<w.heap.size) (eF:ops.length<=kc) (eG:kc<=9223372036854775807) (bz:∀i,i<ops.length->∀j,j<10->w.cell? (E kb (f+i*10+j))=(yZ (zv ops i))[j]?)
  (dX:ob<w.heap.size) (eK:O.length<=oc) (eL:oc<=9223372036854775807) (bC:∀i,i<O.length->w.cell? (E ob (oo+i))=Y (ak O i)) :
  Cp 156 #[(lv L a0 (some (E bb bo)) a2 X M gC),(tV t),.agg #[J pc,J st,.slice (some (E kb f)) ops.length kc],.slice (some (E ob oo)) O.length oc] w fun e w'=>e=.returned (.pointer (some (E ((w.heap.size+1+1+1)) 0)))/\Bw w w'/\∃ta tc ra rc pa pq da dc,ew (((w.alloc (lC L a0 (some (E bb bo)) a2 X M gC)).alloc (tO t)).alloc (kB pc st (some (E kb f)) ops.length kc)) (w.heap.size+1+1+1) (.slice a0 L.l.length X) (.slice (some (E bb bo)) L.b.length M) (.slice a2 L.o.length gC) pc t.r (.slice ta L.b.length tc) (.slice ra L.b.length rc) (.slice pa L.b.length pq) (.slice da (yl L ⟨pc,st,ops⟩ O).length dc) L.b.length L.b.length L.b.length (yl L ⟨pc,st,ops⟩ O).length (VT (xy ⟨pc,st,ops⟩ O) L.b.length) (VT (zP t ⟨pc,st,ops⟩ O) L.b.length) (VT (zC ⟨pc,st,ops⟩ O) L.b.length) (yl L ⟨pc,st,ops⟩ O) w':=by
 obtain⟨hm,dV,dU,h4,h5,h6⟩:=xA hl;obtain⟨⟨dY,dZ,ef⟩,hrg⟩:=xh hl;obtain⟨-,eH,dW,-,-,-,h7⟩:=zy hm;obtain⟨i0,hi,cJ,cL,cM⟩:=info_parts Tryz.iintC;obtain⟨j0,hj,em,ep,eq⟩:=info_parts Tryz.ireadC;(try simp only at dY dZ ef h4);have dK:=Z (fun (s:Nat) (hs:s<L.b.length)=>hrg s hs);have bZ:=Z (fun (s:Nat) (hs:s<L.b.length)=>ZB hl hs);have cu:=Z (fun (s:Nat) (hs:s<L.b.length)=>FX (h6 s hs).2);have bY:=Z (fun (s:Nat) (hs:s<L.b.length)=>Ud (zq h7 s hs));have dL:=Z (fun (k:Nat) (hk:k<=L.b.length)=>F' (K:=⟨pc,st,ops⟩) (O:=O) hm k hk);have dE:=Z gQ;have dG:=Z bz;have dH:=Z bC;have bW:=Z (And.intro h4 h5);obtain⟨x3,aS⟩:=nm (((w.alloc (lC L a0 (some (E bb bo)) a2 X M gC)).alloc (tO t)).alloc (kB pc st (some (E kb f)) ops.length kc));have cN:x3.heap.size=(w.heap.size+1+1+1):=by rw [<-aS];simp
 have ey:=Z (show Bw w x3 by rw [<-aS];exact QJ w _ _ _);have aT:Hid (∀wr,Below (w.heap.size+1+1+1) x3 wr->_):=fun wr hb=>yL (w:=w) (wr:=wr) (aS ▸ hb);have cw:=Z (ew.start x3 (.slice a0 L.l.length X) (vE bb bo L.b.length M) (.slice a2 L.o.length gC) pc t.r);rw [cN] at cw;have eA:=Z cN;rw [aS];have dN:=Z aS;clear gQ bz bC hl hm dV dU h4 h5 h6 h7 hrg aS cN;go_enter func156,ntmps156;go_wp2;go_loopw [27] (fun i wr=>∃k:Nat,k<=L.b.length/\i=J k/\∃ta tc ra rc pa pq da dc,ew x3 (w.heap.size+1+1+1) (.slice a0 L.l.length X) (vE bb bo L.b.length M) (.slice a2 L.o.length gC) pc t.r (.slice ta k tc) (.slice ra k rc) (.slice pa k pq) (.slice da (Zv L ⟨pc,st,ops⟩ O k).length dc) k k k (Zv L ⟨pc,st,ops⟩ O k).length (VT (xy ⟨pc,st,ops⟩ O) k) (VT (zP t ⟨pc,st,ops⟩ O) k) (VT (zC ⟨pc,st,ops⟩ O) k) (Zv L ⟨pc,st,ops⟩ O k) wr) (fun i _=>L.b.length - (intOf i).toNat)
 case atStart=>exact⟨0,Ql _,rfl,none,0,none,0,none,0,none,0,by rw [dN];exact cw⟩
 clear cw;obtain⟨k,hk,rfl,ta,tc,ra,rc,pa,pq,da,dc,W⟩:=hrel;have aF:=Z W;by_cases U:k<L.b.length
 ·have dT:(k:Int)<(L.b.length:Int):=by omega
  have eE:(k:Int)<(O.length:Int):=by have:=bW.2;omega
  obtain⟨⟨l0,l1,l2⟩,⟨t0,t1,t2,t3,t4,t5,t6⟩,⟨k0,k1,k2⟩,hz,aJ⟩:=aT _ W.bel;have cU:=Z aJ;obtain⟨c0,c1,c2,c3,c4,c5,c6,c7,c8⟩:=Ue (fun j hj=>(ze aJ bb (bo+k*9+j) hbb).t (dE k U j hj));have Q:=W.lt;have dO:bb<wr.heap.size:=by omega
  obtain⟨og0,og1,os0,os1,od0,od1,op0,op1,-,V,onz,onl⟩:=bZ k U;obtain⟨rg0,rg1,rg2,rg3⟩:=dK k U;obtain⟨lk1,lk2⟩:=bY k U;have aE:=cu k U;obtain⟨z,cO⟩:∃z:Nat,ak O k=z:=⟨(ak O k).toNat,by omega⟩;have co:=(ze aJ ob (oo+k) dX).t (dH k (by omega));rw [cO] at co onz onl;have eu:z<ops.length:=by have:=bW.1;omega
  have eO:(z:Int)<(ops.length:Int):=by omega
  obtain⟨d0,d1,d2,d3,d4,d5,d6,d7,d8,d9⟩:=jP (fun j hj=>(ze aJ kb (f+z*10+j) dS).t (dG z eu j hj));have S:kb<wr.heap.size:=by omega
  have dy:ob<wr.heap.size:=by omega
  have bQ:dq ⟨pc,st,ops⟩ O k=zv ops z:=by unfold dq Vp;rw [cO];rfl
  have cg:Hid (Zv L ⟨pc,st,ops⟩ O (k+1)=Zv L ⟨pc,st,ops⟩ O k++YH L ⟨pc,st,ops⟩ O k (zu (zc L.b k)).length):=rfl;have bN:Hid (∀i,i<(zu (zc L.b k)).length->Z5 L ⟨pc,st,ops⟩ O k i=⟨(if i=1 then (zc L.b k).ya else (zc L.b k).xa),(if i=1 then (zc L.b k).yb else (zc L.b k).xb),xy ⟨pc,st,ops⟩ O k,(zv ops z).sg,if i=1 then (zv ops z).b else (zv ops z).a⟩):=fun i hi=>by
   unfold Z5;rw [bQ];have G:zO (zu (zc L.b k)) i=if i=1 then ((zc L.b k).ya,(zc L.b k).yb) else ((zc L.b k).xa,(zc L.b k).xb):=by
    have dP:i<2:=(by omega);unfold zu at hi ⊢;by_cases e4:(zc L.b k).o=4
    ·rw [Qf e4] at hi ⊢;have:i=0:=by simp at hi;omega
     subst this;rfl
    rw [Qe e4] at hi ⊢;by_cases e10:10<(zc L.b k).o
    ·rw [Qf e10];rcases (show i=0\/i=1 by omega) with rfl | rfl <;> rfl
    rw [Qe e10] at hi;exact absurd hi (Qv _)
   rw [G];by_cases e:i=1
   ·simp [e]
   simp [e]
  have aX:Hid (zP t ⟨pc,st,ops⟩ O k=xy ⟨pc,st,ops⟩ O k+yj t (zc L.b k).o):=by show xy ⟨pc,st,ops⟩ O k+yj t (dq ⟨pc,st,ops⟩ O k).o=_;rw [aE]
  have bM:Hid (zC ⟨pc,st,ops⟩ O k=(zv ops z).d+(zv ops z).sg):=by show (dq ⟨pc,st,ops⟩ O k).d+(dq ⟨pc,st,ops⟩ O k).sg=_;rw [bQ]
  have cA:=Z lk1;have di:=Z lk2;have dM:Hid ((zu (zc L.b k)).length=(zu (zc L.b k)).length):=rfl;rw [bQ] at og0 og1 os0 os1 od0 od1 V aE;have dh:=Z (rG (xy ⟨pc,st,ops⟩ O) k);have df:=Z (rG (zP t ⟨pc,st,ops⟩ O) k);have cY:=Z (rG (zC ⟨pc,st,ops⟩ O) k);obtain⟨un,dD⟩:=nm ((zu (zc L.b k)).length);rw [dD] at cg bN cA di;obtain⟨tm,dC⟩:=nm (xy ⟨pc,st,ops⟩ O k);obtain⟨ry,dB⟩:=nm (zP t ⟨pc,st,ops⟩ O k);obtain⟨pt,dA⟩:=nm (zC ⟨pc,st,ops⟩ O k);rw [dC] at rg0 rg1 rg2 rg3 V bN aX dh;rw [dB] at rg2 rg3 aX df;rw [dA] at op0 op1 bM cY;generalize zc L.b k=xk at *
  obtain⟨F,xa,xb,ya,yb,ar,sp,pl,nn⟩:=xk;generalize zv ops z=ox at *
  obtain⟨o0,o1,o2,N,x,y,o6,o7,o8,o9⟩:=ox;(try simp only at c0 c1 c2 c3 c4 c5 c6 c7 c8 d0 d1 d2 d3 d4 d5 d6 d7 d8 d9 og0 og1 os0 os1 od0 od1 V aE bN aX bM cA);clear W aJ dD dC dB dA bQ cO lk1 lk2 dM aE;have dg:Hid (∀w',Bw wr w'->w'.c (w.heap.size+1+1) 2=some (vE kb f ops.length kc)/\w'.c ob (oo+k)=Y (z:Int)/\w'.c kb (f+z*10)=Y o0/\w'.c kb (f+z*10+1)=Y o1/\w'.c kb (f+z*10+2)=Y o2/\w'.c kb (f+z*10+3)=Y N/\w'.c kb (f+z*10+4)=Y x/\w'.c kb (f+z*10+5)=Y y/\w'.c kb (f+z*10+6)=Y o6/\w'.c kb (f+z*10+7)=Y o7/\w'.c kb (f+z*10+8)=Y o8/\w'.c kb (f+z*10+9)=Y o9):=fun w' hb=>⟨(ze hb (w.heap.size+1+1) 2 hz).t k2,(ze hb ob (oo+k) dy).t co,(ze hb kb (f+z*10) S).t d0,(ze hb kb (f+z*10+1) S).t d1,(ze hb kb (f+z*10+2) S).t d2,(ze hb kb (f+z*10+3) S).t d3,(ze hb kb (f+z*10+4) S).t d4,(ze hb kb (f+z*10+5) S).t d5,(ze hb kb (f+z*10+6) S).t d6,(ze hb kb (f+z*10+7) S).t d7,(ze hb kb (f+z*10+8) S).t d8,(ze hb kb (f+z*10+9) S).t d9⟩;go_wp2;refine rg 9 (fun w'=>w'.c (w.heap.size+1+1) 2=some (vE kb f ops.length kc)/\w'.c ob (oo+k)=Y (z:Int)/\w'.c kb (f+z*10)=Y o0/\w'.c kb (f+z*10+1)=Y o1/\w'.c kb (f+z*10+2)=Y o2/\w'.c kb (f+z*10+3)=Y N/\w'.c kb (f+z*10+4)=Y x/\w'.c kb (f+z*10+5)=Y y/\w'.c kb (f+z*10+6)=Y o6/\w'.c kb (f+z*10+7)=Y o7/\w'.c kb (f+z*10+8)=Y o8/\w'.c kb (f+z*10+9)=Y o9) ⟨by go_simp,by go_simp,by go_simp,by go_simp,by go_simp,by go_simp,by go_simp,by go_simp,by go_simp,by go_simp,by go_simp,by go_simp⟩ fun h9=>?_;refine aq 0 ?_;refine aq 2 ?_;refine aq 4 ?_;refine aq 6 ?_;obtain⟨W0,bP,dn,dr⟩:∃W0,(wr.alloc (nB F xa xb ya yb ar sp pl nn)).drew=W0/\Bw wr W0/\W0.heap.size=wr.heap.size+1:=⟨_,rfl,(Qd wr (nB F xa xb ya yb ar sp pl nn)).t (Qm _ _ 1),by simp⟩;have dp:W0.heap[wr.heap.size]?=some (nB F xa xb ya yb ar sp pl nn):=by rw [<-bP];exact Zd _ _ _
  have dj:=Z dp;have bg:=Z dn;have cB:=Z dr;rw [bP];rw [bP] at h9;have cS:=Z (dg _ (bg.alloc bg.size (Ij 0 0 0 0 0 0 0 0 0 0 79)));clear bP dr dp dn;refine uo 8 fun K c=>?_;go_simp;refine bq c.o (.inr cS) ?_;clear c K;refine uo 9 fun K c=>?_;go_simp;refine bq c.o (.inl rfl) ?_;clear c K;refine rd ?_;obtain⟨b2,aP⟩:=nm W0.heap.size;obtain⟨b1,bj⟩:=nm wr.heap.size;obtain⟨X1,bh⟩:=nm (W0.alloc (Ij o0 o1 o2 N x y o6 o7 o8 o9 79));have I:Bw wr X1:=by rw [<-bh];exact bg.alloc bg.size _
  have ah:=Z (aF.gE I);have bU:Hid (X1.heap[b1]?=some (nB F xa xb ya yb ar sp pl nn)):=by show _=_;rw [<-bh,<-bj,Qr _ _ _ (by rw [cB];omega)];exact dj
  have az:Hid (X1.heap[b2]?=some (Ij o0 o1 o2 N x y o6 o7 o8 o9 79)):=by show _=_;rw [<-bh,<-aP];exact Zd _ _ _
  have cC:b2=b1+1:=by rw [<-aP,cB,bj]
  have eN:(w.heap.size+1+1+1)<b1:=by omega
  have er:(w.heap.size+1+1+1)<b2:=by omega
  have aO:b1<X1.heap.size:=(lo bU);have aj:b2<X1.heap.size:=(lo az);rw [bh,bj,aP];clear cC bh bj aP I dj bg cB cS dg h9 hz c0 c1 c2 c3 c4 c5 c6 c7 c8 d0 d1 d2 d3 d4 d5 d6 d7 d8 d9 l0 l1 l2 t0 t1 t2 t3 t4 t5 t6 k0 k1 k2 co Q dO S dy;obtain⟨⟨l0,l1,l2⟩,⟨t0,t1,t2,t3,t4,t5,t6⟩,⟨k0,k1,k2⟩,hz,-⟩:=aT _ ah.bel;obtain⟨-,-,-,-,-,y5,-⟩:=ah.cells;have Q:=ah.lt;have m0:X1.c b2 0=Y o0:=cb az
  have m1:X1.c b2 1=Y o1:=cb az
  obtain⟨mu,cE⟩:=nm (o1*pc);rw [cE] at V;have eh:wrap64 (o1*pc)=mu:=by rw [cE];unfold wrap64;omega
  have ek:wrap64 (o0+mu)=tm:=by unfold wrap64;omega
  clear cE V;have aK:=Z (ah.gE (Qd X1 (Ia tm 3)));clear l0 l1 l2 t0 t1 t2 t3 t4 t5 t6 k1 k2;go_wp2_with (at_builtin;refine wpList_append_lies _ rfl (.tmp 52) (.tmp 54) 34 (by rfl) ((w.heap.size+1+1+1)+1) 3 i0 (J 0) 1 8 underlying34 hi cJ cL cM rfl (by decide) _ k (Yk (VT (xy ⟨pc,st,ops⟩ O) k)) (by rfl) aK.ot (E X1.heap.size 0) 1 1 [J tm] (by rfl) rfl (rH _ _ _ rfl) (by intro u G;simp at G;subst G;rfl) (by decide) (by unfold maxLen;omega) (by omega) aK.lt _ rfl ?_);intro g1 e1 w1 T m p B;obtain⟨v,aD⟩:=aK.grow_t m;have HP:=Z (aK.push_t T m p (by simp));have aU:=Z (Yv (u:=vP g1 (k+1) e1) (o:=5) aK.ot m ((Qr _ _ _ (by omega)).t bU) (by decide) (show b1≠(w.heap.size+1+1+1) by omega));have aV:=Z (Yv (u:=vP g1 (k+1) e1) (o:=5) aK.ot m ((Qr _ _ _ (by omega)).t az) (by decide) (show b2≠(w.heap.size+1+1+1) by omega));clear y5 m0 m1 k0 hz Q aj aO;have y5:w1.c ((w.heap.size+1+1+1)) 5=some (.slice ta k tc):=cb v
  have fz:w1.frozen? (E ((w.heap.size+1+1+1)) 5)=false:=by simp [World.frozen?,v]
  have Q:(w.heap.size+1+1+1)<w1.heap.size:=(lo v);clear v aD T m p B eh ek aK bU az;go_wp2;obtain⟨X2,dt⟩:=nm (w1.setCell (E ((w.heap.size+1+1+1)) 5) (vP g1 (k+1) e1));rw [dt] at HP aU aV ⊢;clear dt;have aY:Hid (∀w',Below (w.heap.size+1+1+1) x3 w'->w'.heap[(w.heap.size+1+1+1)]?=some (.cells #[.slice a0 L.l.length X,vE bb bo L.b.length M,.slice a2 L.o.length gC,J pc,J t.r,vP g1 (k+1) e1,.slice ra k rc,.slice pa k pq,.slice da (Zv L ⟨pc,st,ops⟩ O k).length dc,.map none] 174 (0,0))->w'.heap[b1]?=some (nB F xa xb ya yb ar sp pl nn)->w'.heap[b2]?=some (Ij o0 o1 o2 N x y o6 o7 o8 o9 79)->w'.c ((w.heap.size+1+1+1)) 6=some (.slice ra k rc)/\w'.c (w.heap.size+1) 0=Y t.u0/\w'.c (w.heap.size+1) 1=Y t.u1/\w'.c (w.heap.size+1) 2=Y t.u2/\w'.c (w.heap.size+1) 3=Y t.w0/\w'.c (w.heap.size+1) 4=Y t.w1/\w'.c (w.heap.size+1) 5=Y t.w2/\w'.c (w.heap.size+1) 6=Y t.r/\w'.c b1 0=Y F):=fun w' hb hy h1 A=>by obtain⟨-,⟨t0,t1,t2,t3,t4,t5,t6⟩,-,-,-⟩:=aT _ hb;exact⟨(cb hy),t0,t1,t2,t3,t4,t5,t6,(cb h1)⟩
  have aZ:=Z (aY _ HP.bel HP.blk aU aV);clear y5 fz Q;have Q:=HP.lt;refine rg 15 (fun w'=>w'.c ((w.heap.size+1+1+1)) 6=some (.slice ra k rc)/\w'.c (w.heap.size+1) 0=Y t.u0/\w'.c (w.heap.size+1) 1=Y t.u1/\w'.c (w.heap.size+1) 2=Y t.u2/\w'.c (w.heap.size+1) 3=Y t.w0/\w'.c (w.heap.size+1) 4=Y t.w1/\w'.c (w.heap.size+1) 5=Y t.w2/\w'.c (w.heap.size+1) 6=Y t.r/\w'.c b1 0=Y F) aZ fun h9=>?_;refine aq 0 ?_;refine aq 2 ?_;refine aq 4 ?_;refine aq 6 ?_;refine uk 8 ?_;refine uo 9 fun K c=>?_;go_simp;refine (Vc t F _).mr fun x5 aR=>?_;have aR:Bw X2 x5:=(Qm _ _ 1).t aR;have bL:=Z (HP.gE aR);have bH:=Z ((aR.block _ (lo aU)).t aU);have bI:=Z ((aR.block _ (lo aV)).t aV);have dm:=aY _ bL.bel bL.blk bH bI;clear aR;refine bq c.o (.inr dm) ?_;clear c K;have cI:IntKind.i64.wrap (tm+yj t F)=ry:=by rw [<-aX];exact nT (by omega) (by omega)
  have aQ:wrap64 (tm+yj t F)=ry:=by rw [<-aX];unfold wrap64;omega
  refine uk 10 ?_;have g:=Z (bL.gE (Qd x5 (Ia ry 3)));have ay:=Z ((Qr x5 (Ia ry 3) _ (lo bH)).t bH);have D:=Z ((Qr x5 (Ia ry 3) _ (lo bI)).t bI);have aH:=aY _ g.bel g.blk ay D;refine uo 11 fun K c=>?_;go_simp;refine bq c.o (.inr aH) ?_;clear c K;refine uo 12 fun K c=>?_;refine step_append_lies _ (by rfl) (.tmp 62) (.tmp 69) 34 (by rfl) ((w.heap.size+1+1+1)+1) 3 i0 (J 0) 1 8 underlying34 hi cJ cL cM rfl (by decide) _ k (Yk (VT (zP t ⟨pc,st,ops⟩ O) k)) (by rfl) g.or (E x5.heap.size 0) 1 1 [J ry] (by rfl) rfl (rH _ _ _ rfl) (by intro u G;simp at G;subst G;rfl) (by decide) (by unfold maxLen;omega) (by omega) g.lt _ rfl ?_;intro g2 e2 w2 T m p B;obtain⟨v,aD⟩:=g.grow_r m;have HQ:=Z (g.push_r T m p (by simp));have aW:=Z (Yv (u:=(vP g2 (k+1) e2)) (o:=6) g.or m ay (by decide) (show b1≠(w.heap.size+1+1+1) by omega));have aL:=Z (Yv (u:=(vP g2 (k+1) e2)) (o:=6) g.or m D (by decide) (show b2≠(w.heap.size+1+1+1) by omega));have aI:=aY _ aD v (YR g.or m ay (by decide)) (YR g.or m D (by decide));have y6:w2.c ((w.heap.size+1+1+1)) 6=some (.slice ra k rc):=cb v
  have fz:w2.frozen? (E ((w.heap.size+1+1+1)) 6)=false:=by simp [World.frozen?,v]
  have ao:(w.heap.size+1+1+1)<w2.heap.size:=(lo v);clear v aD T m p B;refine bq c.o (.inr aI) ?_;clear c K;refine aq 13 ?_;refine uo 15 fun K c=>?_;go_simp;refine bq c.o (.inl rfl) ?_;clear c K;refine rd ?_;clear dm aH aI y6 fz ao Q cI aQ h9 aZ aY bL g bH bI ay D HP aU aV;obtain⟨X3,dw⟩:=nm (w2.setCell (E ((w.heap.size+1+1+1)) 6) (vP g2 (k+1) e2));rw [dw] at HQ aW aL ⊢;clear dw;go_wp2;have bO:Hid (∀w',Below (w.heap.size+1+1+1) x3 w'->w'.heap[(w.heap.size+1+1+1)]?=some (.cells #[.slice a0 L.l.length X,vE bb bo L.b.length M,.slice a2 L.o.length gC,J pc,J t.r,vP g1 (k+1) e1,vP g2 (k+1) e2,.slice pa k pq,.slice da (Zv L ⟨pc,st,ops⟩ O k).length dc,.map none] 174 (0,0))->w'.heap[b1]?=some (nB F xa xb ya yb ar sp pl nn)->w'.heap[b2]?=some (Ij o0 o1 o2 N x y o6 o7 o8 o9 79)->w'.c ((w.heap.size+1+1+1)) 7=some (.slice pa k pq)/\w'.c b2 3=Y N/\w'.c b2 1=Y o1):=fun w' hb hy h1 A=>by obtain⟨-,⟨t0,t1,t2,t3,t4,t5,t6⟩,-,-,-⟩:=aT _ hb;exact⟨(cb hy),(cb A),(cb A)⟩
  have bf:=Z (bO _ HQ.bel HQ.blk aW aL);have Q:=HQ.lt;have cI:IntKind.i64.wrap (N+o1)=pt:=by rw [bM];exact nT (by omega) (by omega)
  have aQ:wrap64 (N+o1)=pt:=by rw [bM];unfold wrap64;omega
  refine rg 14 (fun w'=>w'.c ((w.heap.size+1+1+1)) 7=some (.slice pa k pq)/\w'.c b2 3=Y N/\w'.c b2 1=Y o1) bf fun h9=>?_;refine aq 0 ?_;refine aq 2 ?_;refine aq 4 ?_;refine aq 6 ?_;refine aq 8 ?_;have cZ:=Z (HQ.gE (Qm _ _ 1));have g:=Z (cZ.gE (Qd X3.drew (Ia pt 3)));have ay:=Z ((Qr X3.drew (Ia pt 3) _ (show b1<X3.drew.heap.size from (lo aW))).t aW);have D:=Z ((Qr X3.drew (Ia pt 3) _ (show b2<X3.drew.heap.size from (lo aL))).t aL);have aH:=bO _ g.bel g.blk ay D;refine uo 10 fun K c=>?_;go_simp;refine bq c.o (.inr aH) ?_;clear c K;refine uo 11 fun K c=>?_;refine step_append_lies _ (by rfl) (.tmp 77) (.tmp 83) 34 (by rfl) ((w.heap.size+1+1+1)+1) 3 i0 (J 0) 1 8 underlying34 hi cJ cL cM rfl (by decide) _ k (Yk (VT (zC ⟨pc,st,ops⟩ O) k)) (by rfl) g.op (E X3.drew.heap.size 0) 1 1 [J pt] (by rfl) rfl (rH _ _ _ rfl) (by intro u G;simp at G;subst G;rfl) (by decide) (by unfold maxLen;omega) (by omega) g.lt _ rfl ?_;intro g3 e3 w3 T m p B;obtain⟨v,aD⟩:=g.grow_p m;have HR:=Z (g.push_p T m p (by simp));have aA:=Z (Yv (u:=(vP g3 (k+1) e3)) (o:=7) g.op m ay (by decide) (show b1≠(w.heap.size+1+1+1) by omega));have aB:=Z (Yv (u:=(vP g3 (k+1) e3)) (o:=7) g.op m D (by decide) (show b2≠(w.heap.size+1+1+1) by omega));have aI:=bO _ aD v (YR g.op m ay (by decide)) (YR g.op m D (by decide));have y7:w3.cell? (E ((w.heap.size+1+1+1)) 7)=some (.slice pa k pq):=cb v
  have fz:w3.frozen? (E ((w.heap.size+1+1+1)) 7)=false:=by simp [World.frozen?,v]
  have ao:(w.heap.size+1+1+1)<w3.heap.size:=(lo v);clear v aD T m p B;refine bq c.o (.inr aI) ?_;clear c K;refine aq 12 ?_;refine uo 14 fun K c=>?_;go_simp;refine bq c.o (.inl rfl) ?_;clear c K;refine rd ?_;clear aH aI y7 fz ao Q cI aQ h9 bf bO g ay D HQ aW aL cZ;obtain⟨n,dx⟩:=nm (w3.setCell (E ((w.heap.size+1+1+1)) 7) (vP g3 (k+1) e3));rw [dx] at HR aA aB ⊢;clear dx;go_wp2;have ac:Hid (∀w',Bw n w'->w'.c b1 1=Y xa/\w'.c b1 2=Y xb/\w'.c b1 3=Y ya/\w'.c b1 4=Y yb/\w'.c b2 4=Y x/\w'.c b2 5=Y y):=fun w' hb=>by have h1:=(hb.block _ (lo aA)).t aA;have A:=(hb.block _ (lo aB)).t aB;exact⟨(cb h1),(cb h1),(cb h1),(cb h1),(cb A),(cb A)⟩
  have aO:b1<n.heap.size:=(lo aA);have aj:b2<n.heap.size:=(lo aB);refine rh 13 ac (Qm _ _ 1) fun h9=>?_;refine aq 0 ?_;refine aq 2 ?_;refine aq 4 ?_;refine aq 6 ?_;refine aq 8 ?_;refine Xp (i:=10) (j:=11) rfl rfl (by kernel_rfl) (fun K c=>?a1) (fun K c=>?a2)
  case' a1 =>go_simp;refine bq c.o (.inr (ac _ (oS n (Id 0 0 0 0 279)))) ?_;clear c K;refine uo 11 fun K c=>?_;go_simp;refine bq c.o (.inr (ac _ (oT n (Id 0 0 0 0 279) (Ib 0 0 290)))) ?_;clear c K;refine uo 12 fun K c=>?_;go_simp;refine bq c.o (.inr (ac _ (oT n _ _))) ?_;clear c K;refine uo 13 fun K c=>?_;go_simp;refine bq c.o (.inl rfl) ?_;clear c K;refine rd ?_;obtain⟨X5,R⟩:=nm (((n.alloc (Id xa xb ya yb 279)).alloc (Ib x y 290)).drew);have I:Bw n X5:=(by rw [<-R];exact (QB n _ _).t (Qm _ _ 1));have h1:X5.heap[n.heap.size]?=some (Id xa xb ya yb 279):=(by rw [<-R];exact (Qr _ _ _ (by simp)).t (Zd _ _ _));have A:X5.heap[n.heap.size+1]?=some (Ib x y 290):=(by rw [<-R];have e:(n.alloc (Id xa xb ya yb 279)).heap.size=n.heap.size+1:=(by simp);have h:=Zd (n.alloc (Id xa xb ya yb 279)) #[J x,J y] 290;rw [e] at h;exact h);rw [R];obtain⟨P,bE⟩:∃q,n.heap.size+1=q:=⟨_,rfl⟩;rw [bE] at A ⊢;obtain⟨C,bD⟩:∃q,n.heap.size=q:=⟨_,rfl⟩;rw [bD] at h1 ⊢;have aM:=Z h1;have aN:=Z A;have HT:=Z (HR.gE I);have cx:=Z ((I.block _ (lo aB)).t aB);have ed:(w.heap.size+1+1+1)<C:=(by omega);have ee:(w.heap.size+1+1+1)<P:=(by omega);have s0:X5.c b1 0=Y F:=(cb ((I.block _ (Qb.1 aA).1).t aA));clear R I h1 A bD bE
  case' a2 =>go_simp;refine bq c.o (.inr (ac _ (oS n (Ib 0 0 290)))) ?_;clear c K;refine uo 10 fun K c=>?_;go_simp;refine bq c.o (.inr (ac _ (oT n (Ib 0 0 290) (Id 0 0 0 0 279)))) ?_;clear c K;refine uo 12 fun K c=>?_;go_simp;refine bq c.o (.inr (ac _ (oT n _ _))) ?_;clear c K;refine uo 13 fun K c=>?_;go_simp;refine bq c.o (.inl rfl) ?_;clear c K;refine rd ?_;obtain⟨X5,R⟩:=nm (((n.alloc (Ib x y 290)).alloc (Id xa xb ya yb 279)).drew);have I:Bw n X5:=(by rw [<-R];exact (QB n _ _).t (Qm _ _ 1));have h1:X5.heap[n.heap.size]?=some (Ib x y 290):=(by rw [<-R];exact (Qr _ _ _ (by simp)).t (Zd _ _ _));have A:X5.heap[n.heap.size+1]?=some (Id xa xb ya yb 279):=(by rw [<-R];have e:(n.alloc (Ib x y 290)).heap.size=n.heap.size+1:=(by simp);have h:=Zd (n.alloc (Ib x y 290)) #[J xa,J xb,J ya,J yb] 279;rw [e] at h;exact h);rw [R];obtain⟨C,bE⟩:∃q,n.heap.size+1=q:=⟨_,rfl⟩;rw [bE] at A ⊢;obtain⟨P,bD⟩:∃q,n.heap.size=q:=⟨_,rfl⟩;rw [bD] at h1 ⊢;have aM:=Z A;have aN:=Z h1;have HT:=Z (HR.gE I);have cx:=Z ((I.block _ (lo aB)).t aB);have ed:(w.heap.size+1+1+1)<C:=(by omega);have ee:(w.heap.size+1+1+1)<P:=(by omega);have s0:X5.c b1 0=Y F:=(cb ((I.block _ (Qb.1 aA).1).t aA));clear R I h1 A bD bE
  all_goals
   clear HR aA aB ac aO aj h9
   go_wp2_with fail
   refine (Zu F _).mr fun w' cH=>?_
   have cH:=cH.s;subst cH
   rw [cA]
   clear s0
   go_wp2
   have dF:Hid ((Zv L ⟨pc,st,ops⟩ O k).length<=2*k):=dL k hk
   rename wO=>wo
   go_loopw [100] (fun iv wr2=>∃i:Nat,i<=un/\iv=J i/\∃da dc H dl,ew x3 (w.heap.size+1+1+1) (.slice a0 L.l.length X) (vE bb bo L.b.length M) (.slice a2 L.o.length gC) pc t.r (vP g1 (k+1) e1) (vP g2 (k+1) e2) (vP g3 (k+1) e3) (.slice da H dc) (k+1) (k+1) (k+1) H ((VT (xy ⟨pc,st,ops⟩ O) k)++[tm]) ((VT (zP t ⟨pc,st,ops⟩ O) k)++[ry]) ((VT (zC ⟨pc,st,ops⟩ O) k)++[pt]) dl wr2/\dl=(Zv L ⟨pc,st,ops⟩ O k)++YH L ⟨pc,st,ops⟩ O k i/\wr2.heap[b2]?=some (Ij o0 o1 o2 N x y o6 o7 o8 o9 79)/\wr2.heap[C]?=some (Id xa xb ya yb 279)/\wr2.heap[P]?=some (.cells #[J x,J y] 290 (0,0))) (fun iv _=>un - (intOf iv).toNat)
   case atStart=>exact⟨0,Ql _,rfl,da,dc,_,_,HT,by simp [YH],cx,aM,aN⟩
   case round =>
    clear HT cx aM aN aF ah
    obtain⟨i,eD,rfl,da,dc,H,dl,W,cD,aP,bF,bG⟩:=hrel
    have aF:=Z W
    have bV:=Z cD
    have az:=Z aP
    have aM:=Z bF
    have aN:=Z bG
    have eI:H*5=dl.length*5:=by rw [<-LO];exact W.od.1.s
    have eJ:dl.length<=2*k+i:=by
     rw [cD,Qt,vD]
     have:=dF.o
     omega
    clear W cD aP bF bG
    by_cases hiu:i<un
    ·have dR:(i:Int)<(un:Int):=by omega
     have eM:=di.o
     have dP:i<2:=by omega
     have dQ:(i:Int)<2:=by omega
     have de:=Z (bN i hiu)
     obtain⟨va,bR⟩:=nm (if i=1 then ya else xa)
     obtain⟨vb,bS⟩:=nm (if i=1 then yb else xb)
     obtain⟨vn,bT⟩:=nm (if i=1 then y else x)
     rw [bR,bS,bT] at de
     have ce:Hid (∀w':wO,w'.heap[C]?=some (.cells #[J xa,J xb,J ya,J yb] 279 (0,0))->w'.cell? (E C (i*2))=Y va/\w'.cell? (E C (i*2+1))=Y vb):=fun w' h=>by
      have key:=Qa h
      rcases (show i=0\/i=1 by omega) with e | e
      ·subst e;subst bR;subst bS;exact⟨by rw [key];rfl,by rw [key];rfl⟩
      ·subst e;subst bR;subst bS;exact⟨by rw [key];rfl,by rw [key];rfl⟩
     have cX:Hid (∀w':wO,w'.heap[P]?=some (.cells #[J x,J y] 290 (0,0))->w'.cell? (E P i)=Y vn):=fun w' h=>by
      have key:=Qa h
      rcases (show i=0\/i=1 by omega) with e | e
      ·subst e;subst bT;rw [key];rfl
      ·subst e;subst bT;rw [key];rfl
     have aC:Hid (∀w':wO,w'.heap[(w.heap.size+1+1+1)]?=some (.cells #[.slice a0 L.l.length X,vE bb bo L.b.length M,.slice a2 L.o.length gC,J pc,J t.r,vP g1 (k+1) e1,vP g2 (k+1) e2,vP g3 (k+1) e3,.slice da H dc,.map none] 174 (0,0))->w'.heap[b2]?=some (Ij o0 o1 o2 N x y o6 o7 o8 o9 79)->w'.heap[C]?=some (Id xa xb ya yb 279)->w'.heap[P]?=some (Ib x y 290)->w'.c ((w.heap.size+1+1+1)) 8=some (.slice da H dc)/\w'.c C (i*2)=Y va/\w'.c C (i*2+1)=Y vb/\w'.c b2 1=Y o1/\w'.c P i=Y vn):=fun w' h1 A h3 h4=>⟨cb h1,(ce w' h3).1,(ce w' h3).2,cb A,cX w' h4⟩
     have aG:=Z (aC _ aF.blk az aM aN)
     have Q:=aF.lt
     have cF:C<wr.heap.size:=(lo aM)
     have cG:P<wr.heap.size:=(lo aN)
     have aj:b2<wr.heap.size:=(lo az)
     have cW:=Z (aF.gE (Qm _ _ 1))
     have g:=Z (cW.gE (Qd wr.drew (Ie va vb tm o1 vn 292)))
     have D:=Z ((Qr wr.drew (Ie va vb tm o1 vn 292) _ (show b2<wr.drew.heap.size from aj)).t az)
     have bJ:=Z ((Qr wr.drew (Ie va vb tm o1 vn 292) _ (show C<wr.drew.heap.size from cF)).t aM)
     have bK:=Z ((Qr wr.drew (Ie va vb tm o1 vn 292) _ (show P<wr.drew.heap.size from cG)).t aN)
     have aH:=aC _ g.blk D bJ bK
     clear bR bS bT ce cX
     go_wp2
     refine rg 19 (fun w'=>w'.c ((w.heap.size+1+1+1)) 8=some (.slice da H dc)/\w'.c C (i*2)=Y va/\w'.c C (i*2+1)=Y vb/\w'.c b2 1=Y o1/\w'.c P i=Y vn) aG fun h9=>?_
     refine aq 0 ?_
     refine aq 2 ?_
     refine aq 4 ?_
     refine aq 6 ?_
     refine aq 8 ?_
     refine aq 10 ?_
     refine aq 12 ?_
     refine uk 14 ?_
     refine uo 15 fun K c=>?_
     go_simp
     refine bq c.o (.inr aH) ?_
     clear c K
     refine uo 16 fun K c=>?_
     refine step_append_lies _ (by rfl) (.tmp 107) (.tmp 118) 171 (by rfl) ((w.heap.size+1+1+1)+1) 292 j0 (.agg #[J 0,J 0,J 0,J 0,J 0]) 5 40 underlying171 hj em ep eq rfl (by decide) _ H (XC dl) (by rfl) g.od (E wr.drew.heap.size 0) 1 1 (Y2 ⟨va,vb,tm,o1,vn⟩).toList (by rfl) rfl (World.news_of_block (Zd wr.drew #[J va,J vb,J tm,J o1,J vn] 292)) (by intro u G;simp [Y2] at G;rcases G with rfl | rfl | rfl | rfl | rfl <;> rfl) (by decide) (by unfold maxLen;omega) (by omega) g.lt _ rfl ?_
     intro g4 e4 w4 T m p B
     obtain⟨v,aD⟩:=g.grow_d m
     have HQ:=Z (g.push_d T m p (by simp))
     have aL:=Z (Yv (u:=vP g4 (H+1) e4) (o:=8) g.od m D (by decide) (show b2≠(w.heap.size+1+1+1) by omega))
     have dI:=Z (Yv (u:=vP g4 (H+1) e4) (o:=8) g.od m bJ (by decide) (show C≠(w.heap.size+1+1+1) by omega))
     have dJ:=Z (Yv (u:=vP g4 (H+1) e4) (o:=8) g.od m bK (by decide) (show P≠(w.heap.size+1+1+1) by omega))
     have aI:=aC _ v (YR g.od m D (by decide)) (YR g.od m bJ (by decide)) (YR g.od m bK (by decide))
     have y8:w4.c ((w.heap.size+1+1+1)) 8=some (.slice da H dc):=cb v
     have fz:w4.frozen? (E ((w.heap.size+1+1+1)) 8)=false:=by simp [World.frozen?,v]
     have ao:(w.heap.size+1+1+1)<w4.heap.size:=(lo v)
     clear v aD T m p B
     refine bq c.o (.inr aI) ?_
     clear c K
     refine aq 17 ?_
     refine uo 19 fun K c=>?_
     go_simp
     refine bq c.o (.inl rfl) ?_
     clear c K
     refine rd ?_
     clear aH aI y8 fz ao Q h9 aG aC g D bJ bK cW
     go_wp2
     go_roundw
     case rel=>exact⟨i+1,by omega,by go_num,_,_,_,_,HQ,by rw [bV,vF,de,Wr],aL,dI,dJ⟩
     case measure=>simp [intOf];omega
    ·have e:i=un:=by omega
     subst e
     have dR:¬(i:Int)<(i:Int):=by omega
     go_wp2
     go_roundw
     case rel =>
      refine⟨k+1,by omega,by go_num,some (E g1 0),e1,some (E g2 0),e2,some (E g3 0),e3,da,dc,?_⟩
      have e9:H=(Zv L ⟨pc,st,ops⟩ O (k+1)).length:=by rw [cg,<-bV];omega
      rw [dh,df,cY,<-e9,cg,<-bV]
      exact aF
     case measure=>simp [intOf];omega
 have e:k=L.b.length:=by omega
 subst e;have dT:¬(L.b.length:Int)<(L.b.length:Int):=by omega
 obtain⟨-,-,-,-,aJ⟩:=aT _ W.bel;have cU:=Z aJ;clear W aJ;go_wp2;go_ret;exact⟨rfl,cU,ta,tc,ra,rc,pa,pq,da,dc,aF⟩
section
variable {w w':wO} {base n y o b p g M cl s q:Nat} {e:TypeId} {v:vO} {L:Lp} {t:Tg} {K:Kn} {O l:Li} {m m':Option Nat} {cs:Array vO} {f:Nat->vO} {c:Lc} {es:Array MapEntry}
def OI (l:List Rd):∀i j,i<l.length->j<5->(XC l)[i*5+j]?=(Y2 (xw l i))[j]?:=by
 induction l with
 | nil=>intro i j hi;exact absurd hi (Qv _)
 | cons x l ih =>
  intro i j hi b;show ((Y2 x).toList++XC l)[i*5+j]?=_;have a:(Y2 x).toList.length=5:=rfl;cases i with
  | zero =>rw [Wj lI,EY,QO];simp [xw]
  | succ i =>rw [Ww (by lia),a,show (i+1)*5+j - 5=i*5+j by lia,ih i j (by simpa using hi) b];rfl
def l6.of_own {l:List Rd} (h:w.ownsRow base e 5 v l.length (XC l)):l6 w v l:=by
 obtain⟨k,h⟩:=h;rcases h with ⟨rfl,hn⟩ | ⟨g,cap,a,rfl,f,hb,hn,hm,d,c⟩
 ·exact⟨none,0,by rw [hn],lI,Ql _,fun m=>lI⟩
 refine⟨some ⟨g,0,none⟩,cap,rfl,hn,hm,fun _=>⟨g,0,rfl,(lo hb),fun i hi j b=>?_⟩⟩;rw [QO,Qa hb,<-OI l i j hi b,<-c,We,Qf lI];simp
def tM {a:Option Addr} {c:Nat} {f:Nat->Int} (h:w.ownsRow base e 1 (.slice a n c) n (Yk (VT f n))) (hn:1<=n):∃g,a=some ⟨g,0,none⟩/\base<=g/\n<=c/\c<=maxLen/\zr w g e n (fun i=>J (f i)):=by grind [Yk,VT,zr,yC]
def ZU.of {m:wO} {l0 l1 l2:vO} {l ra f da:Option Addr} {tc rc a dc:Nat}
  (h:ew m y l0 l1 l2 K.pc t.r (.slice l L.b.length tc) (.slice ra L.b.length rc) (.slice f L.b.length a) (.slice da (yl L K O).length dc) L.b.length L.b.length L.b.length (yl L K O).length (VT (xy K O) L.b.length) (VT (zP t K O) L.b.length) (VT (zC K O) L.b.length) (yl L K O) w)
  (hn:1<=L.b.length) (c:zI w (.agg #[l0,l1,l2]) L):∃tb rb pb,ZU ⟨y,tb,rb,pb,tc,rc,a,dc,da,l0,l1,l2,.map none⟩ L t K O w:=by obtain⟨tb,rfl,-,i,j,k⟩:=tM h.ot hn;obtain⟨rb,rfl,-,r1,r2,g⟩:=tM h.or hn;obtain⟨pb,rfl,-,p1,p2,d⟩:=tM h.op hn;exact⟨tb,rb,pb,h.blk,k,g,d,⟨i,j⟩,⟨r1,r2⟩,⟨p1,p2⟩,l6.of_own h.od,c⟩
theorem CL {a:Addr} {z:Int} (hm:w.cell? ⟨y,o,none⟩=some (.map m)) (b:w.cell? a=some (J z)):(w.setCell ⟨y,o,none⟩ (.map m')).cell? a=some (J z):=by
 by_cases e:a=⟨y,o,none⟩
 ·simp_all
 rw [World.cell?_setCell_other (h:=Ne.s e)];exact b
def CN (hm:w.cell? ⟨y,o,none⟩=some (.map m)) (h:zM w v l):zM (w.setCell ⟨y,o,none⟩ (.map m')) v l:=by obtain⟨a,cap,e,h1,f,g,j⟩:=h;refine⟨a,cap,e,h1,f,g,fun p=>?_⟩;obtain⟨b,c,d,k,n⟩:=j p;exact⟨b,c,d,by simpa using k,fun i hi=>CL hm (n i hi)⟩
def CO (hm:w.cell? ⟨y,o,none⟩=some (.map m)) (a:∀j,j<n->w.cell? ⟨b,p+j,none⟩=cs[j]?) (hi:∀j,j<n->∃z,cs[j]?=some (J z)):∀j,j<n->(w.setCell ⟨y,o,none⟩ (.map m')).cell? ⟨b,p+j,none⟩=cs[j]?:=by grind [CL]
def CP (s:St):∀j,j<9->∃z,(zG s)[j]?=some (J z):=by intro j a;rcases (show j=0\/j=1\/j=2\/j=3\/j=4\/j=5\/j=6\/j=7\/j=8 by lia) with e | e | e | e | e | e | e | e | e <;> subst e <;> exact⟨_,rfl⟩
def CQ (s:Rd):∀j,j<5->∃z,(Y2 s)[j]?=some (J z):=by intro j a;rcases (show j=0\/j=1\/j=2\/j=3\/j=4 by lia) with e | e | e | e | e <;> subst e <;> exact⟨_,rfl⟩
def tN {a:TypeId} (h:zr w g e n f) (c:w.heap[y]?=some (.cells cs a (0,0))) (b:e≠a):g≠y:=by grind [zr]
def ZU.setS (h:ZU c L t K O w) (hs:c.sv=.map m) (m':Option Nat):ZU { c with sv:=.map m' } L t K O (w.setCell ⟨c.y,9,none⟩ (.map m')):=by
 have hm:w.cell? ⟨c.y,9,none⟩=some (.map m):=by obtain⟨-,-,-,-,-,-,-,-,-,d⟩:=h.cells;rw [d,hs]
 refine⟨?_,h.tm.gF (tN h.tm h.blk tQ) _,h.rd.gF (tN h.rd h.blk tQ) _,h.pl.gF (tN h.pl h.blk tQ) _,h.ct,h.cr,h.cp,?_,?_⟩
 ·have hb:=h.blk;simp [World.setCell,QC,hb]
 ·obtain⟨a,cap,e,h1,j,k⟩:=h.rs;refine⟨a,cap,e,h1,j,fun o=>?_⟩;obtain⟨b,f,g,l,n⟩:=k o;exact⟨b,f,g,by simpa using l,fun i hi=>CO hm (n i hi) (CQ _)⟩
 obtain⟨v0,r,v2,e,q,⟨a,cap,g,h1,j,k⟩,i2⟩:=h.lv;refine⟨v0,r,v2,e,CN hm q,⟨a,cap,g,h1,j,fun o=>?_⟩,CN hm i2⟩;obtain⟨b,f,p,l,n⟩:=k o;exact⟨b,f,p,by simpa using l,fun i hi=>CO hm (n i hi) (CP _)⟩
theorem CR (d:w.heap[M]?=some (.map es cl)) (f:w.grownBy w' (some M)) (h:w.cell? ⟨b,o,none⟩=some v):w'.cell? ⟨b,o,none⟩=some v:=by
 by_cases e:b=M
 ·subst e;simp [World.cell?,d] at h
 have c:b<w.z:=by
  rcases Nat.lt_or_ge b w.z with h1 | h1
  ·exact h1
  simp [World.cell?,E3 h1] at h
 rw [<-h];exact World.cell?_of_block (f.block b c (fun a=>e (by injection a)))
def CS (o:w.heap[M]?=some (.map es cl)) (d:w.grownBy w' (some M)) (h:zM w v l):zM w' v l:=by obtain⟨a,cap,e,h1,g,j,k⟩:=h;refine⟨a,cap,e,h1,g,j,fun p=>?_⟩;obtain⟨b,c,f,m,n⟩:=k p;exact⟨b,c,f,Qu m d.size,fun i hi=>CR o d (n i hi)⟩
def CT (a:w.heap[M]?=some (.map es cl)) (d:w.grownBy w' (some M)) (c:∀j,j<n->w.cell? ⟨b,p+j,none⟩=cs[j]?) (hi:∀j,j<n->∃z,cs[j]?=some (J z)):∀j,j<n->w'.cell? ⟨b,p+j,none⟩=cs[j]?:=by grind [CR]
def oi (b:w.heap[M]?=some (.map es cl)) (d:w.grownBy w' (some M)) (h:zr w g e n f):zr w' g e n f:=by refine h.grown d fun a=>?_;injection a with a;subst a;obtain⟨c,hb,_⟩:=h;rw [b] at hb;cases hb
def ZU.grown (h:ZU c L t K O w) (f:w.heap[M]?=some (.map es cl)) (d:w.grownBy w' (some M)):ZU c L t K O w':=by
 have q:c.y≠M:=by intro e;have:=h.blk;simp_all
 refine⟨(d.block _ h.lt (fun e=>q (by injection e))).t h.blk,oi f d h.tm,oi f d h.rd,oi f d h.pl,h.ct,h.cr,h.cp,?_,?_⟩
 ·obtain⟨a,cap,e,h1,k,l⟩:=h.rs;refine⟨a,cap,e,h1,k,fun o=>?_⟩;obtain⟨b,g,j,m,n⟩:=l o;exact⟨b,g,j,Qu m d.size,fun i hi=>CT f d (n i hi) (CQ _)⟩
 obtain⟨v0,s,v2,e,r,⟨a,cap,j,h1,k,l⟩,i2⟩:=h.lv;refine⟨v0,s,v2,e,CS f d r,⟨a,cap,j,h1,k,fun o=>?_⟩,CS f d i2⟩;obtain⟨b,g,p,m,n⟩:=l o;exact⟨b,g,p,Qu m d.size,fun i hi=>CT f d (n i hi) (CP _)⟩
def yF (L:Lp) (t:Tg) (K:Kn) (O:Li):Li:=Y1 L t K O L.b.length
def ki (L:Lp):Li:=Ga L L.b.length
def XV (L:Lp):Li:=Gb L L.b.length
def ZZ (L:Lp) (s:Nat):Nat:=UA (xE L) s
def CU (hs:s<L.b.length) (a:q<xE L s):ak (yF L t K O) (ZZ L s+q)=(zC K O s - ((q:Int)+1)) % t.r/\ak (ki L) (ZZ L s+q)=s/\ak (XV L) (ZZ L s+q)=(q:Int)+1 :=
 ⟨oC (xE L) (Dx t K O) L.b.length s q hs a,oC (xE L) _ L.b.length s q hs a,oC (xE L) _ L.b.length s q hs a⟩
theorem CV (L:Lp) (t:Tg) (K:Kn) (O:Li):(yF L t K O).length=ZZ L L.b.length:=Ds _ _ _
def OJ (hs:s<L.b.length) (a:q<xE L s):ZZ L s+q<ZZ L L.b.length:=by have:=Dt (xE L) L.b.length s hs;unfold ZZ;lia
def tP (hm:zQ L) (s:Nat):xE L s<=3:=by simp_all [xE,uh,lw]
def OK (hm:zQ L):∀s,ZZ L s<=3*s:=by
 intro s;induction s with
 | zero=>exact Qc _
 | succ s ih =>have:=tP hm s;show UA (xE L) s+xE L s<=_;unfold ZZ at ih;lia
def OL (c:Lc) (L:Lp) (t:Tg) (K:Kn) (O:Li) (m:Option Nat) (w:wO) (h:ZU c L t K O w) (aQ:c.sv=.map m) (F:xW L t K O) :
  Calls Tryz.prog 157 #[.pointer (some ⟨c.y,0,none⟩)] w fun e w'=>e=.returned (.bool (Yj L t K O))/\Below c.y w w'/\∃M,ZU { c with sv:=.map (some M) } L t K O w'/\(Yj L t K O->Vw (yF L t K O) (ki L) (XV L) (ZZ L L.b.length) M w'):=by
 have HD:Hid (Yj L t K O=zF (XD (yF L t K O)) (ZZ L L.b.length)):=by show zF (XD (yF L t K O)) (yF L t K O).length=_;rw [CV]
 obtain⟨hm,-⟩:=xA F;obtain⟨⟨eV,eW,dh⟩,hrg⟩:=xh F;obtain⟨-,de,cw,-⟩:=zy hm;have cB:t.r<=128:=by obtain⟨-,-,-,-,-,-,-,-,cB,-⟩:=ZB F (s:=0) (by omega);exact cB
 have bY:=Z (fun (i:Nat) (hi:i<(yl L K O).length)=>Vd F (UY hi));have aT:=Z (fun (a:Int) (k:Nat) (hk:k<=(yl L K O).length)=>F9 F a k hk);have bP:=Z (fun (s:Nat)=>F8 L K O (s:Int));have dF:=Z (fun (s:Nat) (hs:s<L.b.length)=>And.intro (ZB F hs).2.2.2.2.2.2.1 (ZB F hs).2.2.2.2.2.2.2.1);have dH:=Z (fun s=>tP hm s);have dG:=Z (fun s=>OK hm s);have dr:=Z (fun i (hi:i<ZZ L L.b.length)=>vJ (t:=t) dh L K O (k:=L.b.length) hi);have dp:=Z (fun s q (hs:s<L.b.length) (V:q<xE L s)=>CU (t:=t) (K:=K) (O:=O) hs V);have HH:=Z h;have HC:=Z h.cells;have hy:=h.lt;obtain⟨v0,v1,v2,bg,-,⟨b1,bc1,rfl,eN,dM,-⟩,-⟩:=h.lv;unfold maxLen at dM;injection bg with bg;obtain⟨eF,bh,eG⟩:c.l0=v0/\c.l1=.slice b1 L.b.length bc1/\c.l2=v2:=by simp_all
 obtain⟨da,dc,dR,dO,dP,cU⟩:=h.rs;injection dR with e1 e2 e3;unfold maxLen at dP;have bL:=Z cU;obtain⟨-,l1,-,-,-,-,-,-,l8,-⟩:=h.cells;rw [bh] at l1;rw [e1,e3] at l8;have aY:=Z aQ;clear h F hrg cU bg eF bh eG aQ e1 e2 e3 hm;obtain⟨rs,cC⟩:=nm (yl L K O);rw [cC] at l8 bY aT bP bL dO;have eK:=Z cC;clear cC;have cZ:=run_make_row' (P:=Tryz.prog) 34 3 (J 0) 8 Tryz.underlying34 Tryz.iintC rfl .i64 .i64 L.b.length (by omega) (by omega);go_enter Tryz.func157,Tryz.ntmps157;have cO:Hid (zr (w.alloc (.cells (madeCells #[J 0] L.b.length) 3)) w.heap.size 3 L.b.length (fun j=>J (Xj rs (j:Int) 0))):=zr.zeros w (J 0) L.b.length 3;have eh:(w.alloc (.cells (madeCells #[J 0] L.b.length) 3)).cell? ⟨c.y,8,none⟩=some (.slice da rs.length dc):=(ze (Qd w _) c.y 8 hy).t l8;go_wp2;clear cZ eh l1;go_loopw [24] (fun i wr=>∃k:Nat,k<=rs.length/\i=J k/\Below w.heap.size w wr/\zr wr w.heap.size 3 L.b.length (fun j=>J (Xj rs (j:Int) k))) (fun i _=>rs.length - (intOf i).toNat)
 case atStart=>exact⟨0,Ql _,rfl,Qd _ _,cO⟩
 clear cO;obtain⟨k,hk,rfl,gH,D⟩:=hrel;have HB:=Z gH;have cL:=Z D;have aZ:w.heap.size<wr.heap.size:=D.lt;by_cases hkl:k<rs.length
 ·have dZ:(k:Int)<(rs.length:Int):=by omega
  obtain⟨db,dof,rfl,dQ,gR⟩:=bL (by omega);obtain⟨c0,c1,c2,c3,c4⟩:=rF (fun j A=>(ze gH db (dof+k*5+j) dQ).t (gR k hkl j A));have eP:db<wr.heap.size:=by omega
  obtain⟨r1,r2,r3,r4,-,-,-,-⟩:=bY k hkl;have aU:Hid (∀a:Int,Xj rs a (k+1)=if (xw rs k).ra=a then (if Xj rs a k<(xw rs k).rb then (xw rs k).rb else Xj rs a k) else Xj rs a k):=fun a=>rfl;obtain⟨x,hx⟩:=nm (xw rs k);rw [hx] at c0 c1 c2 c3 c4 r1 r2 r3 r4 aU;obtain⟨xa,xb,xt,xs,xn⟩:=x;simp only at c0 c1 c2 c3 c4 r1 r2 r3 r4 aU;obtain⟨a,rfl⟩:∃a:Nat,xa=a:=⟨xa.toNat,by omega⟩;have ha:a<L.b.length:=by omega
  have eM:(a:Int)<(L.b.length:Int):=by omega
  have cf:=D.cell ha;have dS:=D.frozen a;obtain⟨fv,cg⟩:=nm (Xj rs (a:Int) k);rw [cg] at cf;obtain⟨W,hW⟩:=nm (wr.alloc (Ie (a:Int) xb xt xs xn 292));have aL:Below wr.heap.size wr W:=by rw [<-hW];exact Qd _ _
  have bf:W.heap[wr.heap.size]?=some (Ie (a:Int) xb xt xs xn 292):=by rw [<-hW];exact Zd _ _ _
  have cM:Hid (W.drew.cell? ⟨wr.heap.size,0,none⟩=some (J (a:Int))/\W.drew.cell? ⟨wr.heap.size,1,none⟩=some (J xb)/\W.drew.cell? ⟨w.heap.size,a,none⟩=some (J fv)):=⟨by show W.cell? _=_;rw [Qa bf];rfl,by show W.cell? _=_;rw [Qa bf];rfl,(ze aL w.heap.size a aZ).t cf⟩;have ai:Hid (∀nv,nv=(if fv<xb then xb else fv)->∀W':wO,W'.heap[w.heap.size]?=(W.setCell ⟨w.heap.size,a,none⟩ (J nv)).heap[w.heap.size]?->zr W' w.heap.size 3 L.b.length (fun j=>J (Xj rs (j:Int) (k+1)))):=fun nv N W' hW'=>by
   refine (((cL.gE aL aZ).set a (J nv) ha).congr fun j A=>?_).gG hW';rw [aU];by_cases e:j=a
   ·subst e;rw [Qf rfl,Qf rfl,cg,N]
   rw [Qe e,Qe (by omega)]
  have dJ:=Z aL;have eL:wr.heap.size<W.heap.size:=(lo bf);have cN:=Z hW;have eR:W.frozen? ⟨w.heap.size,a,none⟩=false:=by rw [<-hW];exact (D.alloc _).frozen a
  have cfW:W.cell? ⟨w.heap.size,a,none⟩=some (J fv):=(ze aL w.heap.size a aZ).t cf;clear hW aL bf gR hx cg aU D cf dS gH;have aR:=Z (fun v=>((HB.tm dJ).setCell (p:=⟨w.heap.size,a,none⟩) (Qc _) v).t (Qm _ _ 1));by_cases hmx:fv<xb
  ·have N:xb=(if fv<xb then xb else fv):=(by rw [Qf hmx]);have C:=Z (ai xb N);have bG:=Z (aR (J xb));clear N ai aR;go_wp2;rw [cN];clear c0 c1 c2 c3 c4;refine rg 15 (fun w'=>w'.cell? ⟨wr.heap.size,0,none⟩=some (J (a:Int))/\w'.cell? ⟨wr.heap.size,1,none⟩=some (J xb)/\w'.cell? ⟨w.heap.size,a,none⟩=some (J fv)) cM fun d=>?_;refine gl (i:=0) rfl d ?_;refine gl (i:=1) rfl d ?_;refine gl (i:=2) rfl d ?_;refine gl (i:=3) rfl d ?_;refine gl (i:=4) rfl d ?_;refine gl (i:=5) rfl d ?_;refine gl (i:=6) rfl d ?_;refine gl (i:=7) rfl d ?_;refine gl (i:=8) rfl d ?_;refine gl (i:=9) rfl d ?_;refine gl (i:=10) rfl d ?_;refine gl (i:=11) rfl d ?_;refine gl (i:=12) rfl d ?_;refine gl (i:=13) rfl d ?_;refine gl (i:=14) rfl d ?_;refine uo 15 fun K hK=>?_;go_simp;refine bq hK.o (.inl rfl) ?_;clear hK K;refine rd ?_;go_wp2;go_roundw
   case rel=>exact⟨k+1,by omega,by go_num,bG,C _ rfl⟩
   simp [intOf];omega
  have N:fv=(if fv<xb then xb else fv):=by rw [Qe hmx]
  have C:=Z (ai fv N);have bG:=Z (aR (J fv));clear N ai aR;go_wp2;rw [cN];clear c0 c1 c2 c3 c4;refine rg 15 (fun w'=>w'.cell? ⟨wr.heap.size,0,none⟩=some (J (a:Int))/\w'.cell? ⟨wr.heap.size,1,none⟩=some (J xb)/\w'.cell? ⟨w.heap.size,a,none⟩=some (J fv)) cM fun d=>?_;refine gl (i:=0) rfl d ?_;refine gl (i:=1) rfl d ?_;refine gl (i:=2) rfl d ?_;refine gl (i:=3) rfl d ?_;refine gl (i:=4) rfl d ?_;refine gl (i:=5) rfl d ?_;refine gl (i:=6) rfl d ?_;refine gl (i:=7) rfl d ?_;refine gl (i:=8) rfl d ?_;refine gl (i:=9) rfl d ?_;refine gl (i:=10) rfl d ?_;refine gl (i:=11) rfl d ?_;refine gl (i:=12) rfl d ?_;refine gl (i:=13) rfl d ?_;refine gl (i:=14) rfl d ?_;refine uo 15 fun K hK=>?_;go_simp;refine bq hK.o (.inl rfl) ?_;clear hK K;refine rd ?_;go_wp2;go_roundw
  case rel=>exact⟨k+1,by omega,by go_num,bG,C _ rfl⟩
  simp [intOf];omega
 have e:k=rs.length:=by omega
 subst e;have dZ:¬(rs.length:Int)<(rs.length:Int):=by omega
 have o:=Z (HH.gE gH);have ao:=Z (o.gE (Qd wr (.map #[] 0)));have T:=Z (ao.setS aY (some wr.heap.size));obtain⟨-,-,-,-,-,-,-,-,-,d9⟩:=ao.cells;have dT:(wr.alloc (.map #[] 0)).frozen? ⟨c.y,9,none⟩=false:=by simp [World.frozen?,ao.blk]
 have cD:c.y<wr.heap.size:=by omega
 have aX:Hid (zr ((wr.alloc (.map #[] 0)).setCell ⟨c.y,9,none⟩ (.map (some wr.heap.size))) w.heap.size 3 L.b.length (fun j=>J (lw L (j:Int)))):=((D.alloc _).gF (show w.heap.size≠c.y by omega) _).congr fun j A=>by rw [bP j]
 have I:Hid (((wr.alloc (.map #[] 0)).setCell ⟨c.y,9,none⟩ (.map (some wr.heap.size))).heap[wr.heap.size]?=some (.map #[] 0)):=by show _=_;rw [Qj _ _ _ _ (show wr.heap.size≠c.y by omega)];show (wr.heap.push _)[wr.heap.size]?=_;simp
 have aj:Hid (Below c.y w ((wr.alloc (.map #[] 0)).setCell ⟨c.y,9,none⟩ (.map (some wr.heap.size)))):=((HB.m (Q7 hy)).t ((Qd wr (.map #[] 0)).m (Q7 cD))).setCell (Qc _) _;have aJ:Hid (Vw (yF L t K O) (ki L) (XV L) (ZZ L 0) wr.heap.size ((wr.alloc (.map #[] 0)).setCell ⟨c.y,9,none⟩ (.map (some wr.heap.size)))):=(Vw.made _ _ _ wr).gG (Qj _ _ _ _ (show wr.heap.size≠c.y by omega));have ep:=@run_makeMap Tryz.prog;clear gH D cL o ao HB;go_wp2;clear ep;have hE:(wr.alloc (.map #[] 0)).setCell ⟨c.y,9,none⟩ (.map (some wr.heap.size))=(wr.setCell ⟨c.y,9,none⟩ (.map (some wr.heap.size))).alloc (.map #[] 0):=World.setCell_alloc_past _ _ _ _ (by omega);rw [hE] at T aX I aj aJ;obtain⟨X,hX⟩:=nm ((wr.setCell ⟨c.y,9,none⟩ (.map (some wr.heap.size))).alloc (.map #[] 0));rw [hX] at T aX I aj aJ ⊢;obtain⟨M,hM⟩:=nm wr.heap.size;rw [hM] at T I aJ cD aZ ⊢;clear hE hX hM d9 dT bY aT bL HC HH bP;have bQ:Hid (∀{u u':wO},X.grownBy u (some M)->Below u.heap.size u u'->X.grownBy u' (some M)):=fun hg hb=>hg.andThen (row':=none) ⟨hb.os,hb.tape,hb.output,hb.size,fun i hi _=>hb.block i hi⟩ (fun j A=>by cases A);have aD:Hid (∀u,X.grownBy u (some M)->Below c.y w u/\ZU { c with sv:=.map (some M) } L t K O u):=fun u hg=>⟨aj.grown hg (by have:=T.lt;exact Q7 this) (fun j A=>by injection A with A;omega),T.grown I hg⟩;go_loopw [50] (fun i wr2=>∃s:Nat,s<=L.b.length/\i=J s/\X.grownBy wr2 (some M)/\Vw (yF L t K O) (ki L) (XV L) (ZZ L s) M wr2/\zF (XD (yF L t K O)) (ZZ L s)) (fun i _=>L.b.length - (intOf i).toNat)
 case atStart=>exact⟨0,Ql _,rfl,⟨rfl,rfl,rfl,Qc _,fun _ _ _=>rfl⟩,aJ,rfl⟩
 clear aJ;obtain⟨s,hs,rfl,l,H,hall⟩:=hrel;have S:=Z l;have B:=Z H;have G:=Z hall;clear H hall;by_cases n:s<L.b.length
 ·have eD:(s:Int)<(L.b.length:Int):=by omega
  have cfs:=(oi I l aX).cell n;have dK:=(oi I l aX).lt;obtain⟨g,ce⟩:∃g:Nat,lw L (s:Int)=g:=⟨xE L s,by unfold xE;have:=ui L (s:Int) L.b.length;unfold lw;omega⟩;have aS:Hid (xE L s=g):=by show _=_;unfold xE;rw [ce];rfl
  have eQ:g<=3:=by have:=dH s;rw [aS] at this;exact this
  rw [ce] at cfs;obtain⟨f,aP⟩:=nm (ZZ L s);have aK:Hid (ZZ L (s+1)=f+g):=by show ZZ L s+xE L s=_;rw [aP,aS]
  have eB:f<=48:=by have:=dG s;omega
  have bO:Hid (∀q,q<g->ak (yF L t K O) (f+q)=(zC K O s - ((q:Int)+1)) % t.r/\ak (ki L) (f+q)=s/\ak (XV L) (f+q)=(q:Int)+1):=fun q V=>by rw [<-aP];exact dp s q n (by rw [aS];exact V)
  have cI:Hid (∀q,q<g->f+q<ZZ L L.b.length):=fun q V=>by rw [<-aP];exact OJ n (by rw [aS];exact V)
  rw [aP] at B G;obtain⟨pl0,pl1⟩:=dF s n;clear l ce aP;go_wp2;rename wO=>wo;go_loopw [8] (fun bv wr3=>∃q:Nat,q<=g/\bv=J ((q:Int)+1)/\X.grownBy wr3 (some M)/\Vw (yF L t K O) (ki L) (XV L) (f+q) M wr3/\zF (XD (yF L t K O)) (f+q)) (fun bv _=>g+1 - (intOf bv).toNat)
  case atStart=>exact⟨0,Ql _,rfl,S,B,G⟩
  clear S B G;obtain⟨q,V,rfl,l,H,hall⟩:=hrel;have S:=Z l;have G:=Z hall;by_cases R:q<g
  ·have eC:(q:Int)+1<=(g:Int):=(by omega);have o:=Z (T.grown I l);obtain⟨-,-,-,-,-,-,-,y7,-,y9⟩:=o.cells;have pc:=o.pl.cell n;have dg:=o.pl.lt;have az:=o.lt;obtain⟨cp1,Q⟩:=o.cp;unfold maxLen at Q;simp only at y7 y9 pc dg az cp1 Q;obtain⟨f1,f2,f3⟩:=bO q R;have aV:=Z (oR { c with sv:=.map (some M) } L t K O (zC K O s - ((q:Int)+1)) wr o dh cB (by omega) (by omega));rw [<-f1] at aV;have dj:=dr (f+q) (cI q R);have cE:0<=ak (yF L t K O) (f+q)/\ak (yF L t K O) (f+q)<t.r:=dj;have eH:wrap64 (zC K O s - ((q:Int)+1))=zC K O s - ((q:Int)+1):=(by unfold wrap64;omega);have B:=Z H;have HF:=Z (And.intro f1 (And.intro f2 f3));obtain⟨z,cF⟩:=nm (ak (yF L t K O) (f+q));rw [cF] at aV cE;have HZ:=Z cF;have di:=mw (z:=z) (by omega) (by omega);clear l H hall dj f1 f2 f3 cF;generalize zC K O s=pp at *
   go_wp2_with fail;refine aV.m ?_;rintro e w1 ⟨rfl,n1,rfl⟩;obtain⟨U,hU⟩:=nm (wr.drewN n1);have cX:X.grownBy U (some M):=(by rw [<-hU];exact bQ S (Qm _ _ _));have cu:Vw (yF L t K O) (ki L) (XV L) (f+q) M U:=(by rw [<-hU];exact B.gG rfl);have y9U:U.cell? ⟨c.y,9,none⟩=some (.map (some M)):=(by rw [<-hU];exact y9);have eJ:c.y<U.heap.size:=(by rw [<-hU];exact az);rw [hU];obtain⟨ga,gq,ok,eS,df⟩:=cu.look z di;have cH:=Z cX;have bS:=Z cu;have aW:=Z df;clear hU cX cu y7 y9 pc dg az cp1 Q o aV eH df S B;cases ok with
   | true =>have C:Hid (Yj L t K O=false):=(by show _=_;rw [HD];refine yd (cI q R) ?_;obtain⟨i,hi,e⟩:=aW.1 rfl;show XD (yF L t K O) (f+q)=false;unfold XD;refine yd hi ?_;rw [e,HZ,Qi rfl];rfl);obtain⟨aM,aN⟩:=aD _ (bQ cH (Qd U (Ib ga gq 142)));have bM:=Z aM;have bN:=Z aN;clear aM aN aW;go_wp2;go_ret;exact⟨zi C.s,bM,M,bN,fun h=>by rw [C] at h;cases h⟩
   | false =>
    have ah:=Z (bS.gG (Qr U (Ib ga gq 142) M bS.lt));have ac:∀i,i<f+q->ak (yF L t K O) i≠ak (yF L t K O) (f+q):=fun i hi e=>by have:=aW.2 ⟨i,hi,by rw [e,HZ]⟩;cases this
    obtain⟨x',eE,cW,cY⟩:=ah.put (by unfold maxLen;omega) (by rw [HZ];exact di) ac;rw [HZ,HF.2.1,HF.2.2] at eE;have dt:Hid (X.grownBy x' (some M)):=(bQ cH (Qd U (Ib ga gq 142))).andThen cW (fun j A=>.inr A);have bT:=Z cY;have y9A:(U.alloc (Ib ga gq 142)).cell? ⟨c.y,9,none⟩=some (.map (some M)):=(ze (Qd U _) c.y 9 eJ).t y9U;have aT:Hid (zF (XD (yF L t K O)) (f+(q+1))):=yr (k:=f+q) G (yk fun i hi=>by show (!decide (ak (yF L t K O) i=ak (yF L t K O) (f+q)));rw [Qk (ac i hi)];rfl);clear ac cW cY aW bS ah;go_wp2;go_roundw
    case rel=>exact⟨q+1,by omega,by go_num,dt,bT,aT⟩
    simp [intOf];omega
  have e:q=g:=by omega
  subst e;have eC:¬(q:Int)+1<=(q:Int):=by omega
  have B:=Z H;clear l H hall;go_wp2;go_roundw
  case rel=>exact⟨s+1,by omega,by go_num,S,by rw [aK];exact B,by rw [aK];exact G⟩
  simp [intOf];omega
 have e:s=L.b.length:=by omega
 subst e;have eD:¬(L.b.length:Int)<(L.b.length:Int):=by omega
 have C:Hid (Yj L t K O):=by show _=_;rw [HD,G]
 obtain⟨aM,aN⟩:=aD _ l;have bM:=Z aM;have bN:=Z aN;clear l aM aN;go_wp2;go_ret;exact⟨zi C.s,bM,M,bN,fun _=>B⟩
def CW (m:jK) (t:Tg) (pc st:Int) (ops:List bt) (L:Lp) (O:Li) (a0 a c ka h:Option Addr) (d f g kc i:Nat) (w:wO) (k:zI w (.agg #[.slice a0 L.l.length d,.slice a L.b.length f,.slice c L.o.length g]) L) (j:Y5 w (.slice ka ops.length kc) ops) (n:zM w (.slice h O.length i) O) :
  Calls Tryz.prog 155 #[.agg #[.slice a0 L.l.length d,.slice a L.b.length f,.slice c L.o.length g],.agg #[J t.u0,J t.u1,J t.u2,J t.w0,J t.w1,J t.w2,J t.r],.agg #[J pc,J st,.slice ka ops.length kc],.slice h O.length i] w fun e w'=>e=.returned (.bool (xW L t ⟨pc,st,ops⟩ O))/\Below w.heap.size w w':=by
 by_cases h1:ops.length=L.b.length
 ·by_cases p:O.length=L.b.length
  ·cases hm:zQ L with
   | false=>exact Bd m t pc st ops L O a0 a c ka h d f g kc i w k j n h1 p (.inl hm)
   | true =>
    cases q:X7 t ⟨pc,st,ops⟩ L.l with
    | false=>exact Bd m t pc st ops L O a0 a c ka h d f g kc i w k j n h1 p (.inr ⟨hm,q⟩)
    | true=>exact LM m t pc st ops L O a0 a c ka h d f g kc i w k j n h1 p hm q
  exact Bb m t pc st ops L O a0 a c ka h d f g kc i w k j n (.inr p)
 exact Bb m t pc st ops L O a0 a c ka h d f g kc i w k j n (.inl h1)
def OM (T:Tg) (pc st:Int) (ops:List bt) (L:Lp) (O:Li) (a0 j d ka p:Option Addr) (f g i kc k:Nat) (w:wO) (m:zI w (.agg #[.slice a0 L.l.length f,.slice j L.b.length g,.slice d L.o.length i]) L) (X:Y5 w (.slice ka ops.length kc) ops) (hO:zM w (.slice p O.length k) O) (n:xW L T ⟨pc,st,ops⟩ O) :
  Calls Tryz.prog 156 #[.agg #[.slice a0 L.l.length f,.slice j L.b.length g,.slice d L.o.length i],.agg #[J T.u0,J T.u1,J T.u2,J T.w0,J T.w1,J T.w2,J T.r],.agg #[J pc,J st,.slice ka ops.length kc],.slice p O.length k] w fun e w'=>∃c:Lc,e=.returned (.pointer (some ⟨c.y,0,none⟩))/\Below w.heap.size w w'/\w.heap.size<=c.y/\c.sv=.map none/\ZU c L T ⟨pc,st,ops⟩ O w':=by
 obtain⟨hm,eT,cZ,W,h5,h6⟩:=xA n;(try simp only at W);obtain⟨-,G,cw,-⟩:=zy hm;have z:=m;obtain⟨v0,v1,v2,hv,-,⟨q,u,s,I,M,N⟩,-⟩:=z;obtain⟨e0,a,e2⟩:(.slice a0 L.l.length f:vO)=v0/\(.slice j L.b.length g:vO)=v1/\(.slice d L.o.length i:vO)=v2:=sA
 rw [s] at a;injection a with a ex1 e1';subst a;subst e1';unfold maxLen at M;obtain⟨bb,bo,rfl,hbb,V⟩:=N lI;obtain⟨ka',kc',F,A,B,C⟩:=X;injection F with a ex2 e1';subst a;subst e1';unfold maxLen at B;obtain⟨kb,ko,rfl,D,x⟩:=C lI;obtain⟨oa',oc',H,Q,R,eU,S⟩:=hO;injection H with a ex3 e1';subst a;subst e1';unfold maxLen at R;obtain⟨ob,oo,rfl,U,v⟩:=S lI;apply (FY T pc st ops L O a0 d bb bo kb ko ob oo f g i kc k w n hbb I lI V D A lI x U Q lI v).m;rintro e w' ⟨rfl,hb,ta,tc,ra,rc,pa,pq,da,dc,P⟩;obtain⟨tb,rb,pb,h⟩:=ZU.of (t:=T) (K:=⟨pc,st,ops⟩) P G (m.gE hb);exact⟨_,rfl,hb,rQ,rfl,h⟩
def om (L:Lp) (t:Tg) (K:Kn) (O:Li) (w:wO) (e:Ending) (w':wO):Prop :=
 ∃pv,e=.returned (.tuple #[pv,.bool (yg L t K O)])/\Below w.heap.size w w'/\(yg L t K O->∃c M,pv=.pointer (some ⟨c.y,0,none⟩)/\c.sv=.map (some M)/\ZU c L t K O w'/\Vw (yF L t K O) (ki L) (XV L) (ZZ L L.b.length) M w')
def mZ {a:vO} (h:yg L t K O=false) (hb:Below w.heap.size w w'):om L t K O w (.returned (.tuple #[a,.bool false])) w' :=by grind [om]
def ON (q:jK) (t:Tg) (pc st:Int) (ops:List bt) (L:Lp) (O:Li) (a0 a c ka j:Option Addr) (d f g kc k:Nat) (w:wO) (p:zI w (.agg #[.slice a0 L.l.length d,.slice a L.b.length f,.slice c L.o.length g]) L) (n:Y5 w (.slice ka ops.length kc) ops) (s:zM w (.slice j O.length k) O) (i:xW L t ⟨pc,st,ops⟩ O=false) :
  Calls Tryz.prog 101 #[.agg #[.slice a0 L.l.length d,.slice a L.b.length f,.slice c L.o.length g],.agg #[J t.u0,J t.u1,J t.u2,J t.w0,J t.w1,J t.w2,J t.r],.agg #[J pc,J st,.slice ka ops.length kc],.slice j O.length k] w (om L t ⟨pc,st,ops⟩ O w):=by
 have h:=Z (QJ w (.cells #[.slice a0 L.l.length d,.slice a L.b.length f,.slice c L.o.length g] 62) (.cells #[J t.u0,J t.u1,J t.u2,J t.w0,J t.w1,J t.w2,J t.r] 27) (.cells #[J pc,J st,.slice ka ops.length kc] 75));have m:=Z (CW q t pc st ops L O a0 a c ka j d f g kc k (((w.alloc (.cells #[.slice a0 L.l.length d,.slice a L.b.length f,.slice c L.o.length g] 62)).alloc (.cells #[J t.u0,J t.u1,J t.u2,J t.w0,J t.w1,J t.w2,J t.r] 27)).alloc (.cells #[J pc,J st,.slice ka ops.length kc] 75)) (p.gE h) (n.gE h) (s.gE h));have u:=Z (rL i);have y:Hid ((((w.alloc (.cells #[.slice a0 L.l.length d,.slice a L.b.length f,.slice c L.o.length g] 62)).alloc (.cells #[J t.u0,J t.u1,J t.u2,J t.w0,J t.w1,J t.w2,J t.r] 27)).alloc (.cells #[J pc,J st,.slice ka ops.length kc] 75)).heap.size=w.heap.size+1+1+1):=by show _=_;simp
 rw [i] at m;clear p n s q i;go_enter Tryz.func101,Tryz.ntmps101;go_wp2_with fail;refine m.mr fun z hb=>?_;have x:=Z (h.t (hb.m (by rw [y];omega)));clear hb;go_wp2;exact bodyPost_ret (v:=.tuple #[.pointer none,.bool false]) (by simp [results,Tryz.results101,go_sem]) rfl (mZ u x)
def OO (hM:jK) (hE:Zj) (t:Tg) (pc st:Int) (ops:List bt) (L:Lp) (O:Li) (a0 x z ka P:Option Addr) (A B C kc Q:Nat) (w:wO) (U:zI w (.agg #[.slice a0 L.l.length A,.slice x L.b.length B,.slice z L.o.length C]) L) (T:Y5 w (.slice ka ops.length kc) ops) (V:zM w (.slice P O.length Q) O) (u:xW L t ⟨pc,st,ops⟩ O) :
  Calls Tryz.prog 101 #[.agg #[.slice a0 L.l.length A,.slice x L.b.length B,.slice z L.o.length C],.agg #[J t.u0,J t.u1,J t.u2,J t.w0,J t.w1,J t.w2,J t.r],.agg #[J pc,J st,.slice ka ops.length kc],.slice P O.length Q] w (om L t ⟨pc,st,ops⟩ O w):=by
 have G:=Z (QJ w (.cells #[.slice a0 L.l.length A,.slice x L.b.length B,.slice z L.o.length C] 62) (.cells #[J t.u0,J t.u1,J t.u2,J t.w0,J t.w1,J t.w2,J t.r] 27) (.cells #[J pc,J st,.slice ka ops.length kc] 75));have R:=Z (CW hM t pc st ops L O a0 x z ka P A B C kc Q (((w.alloc (.cells #[.slice a0 L.l.length A,.slice x L.b.length B,.slice z L.o.length C] 62)).alloc (.cells #[J t.u0,J t.u1,J t.u2,J t.w0,J t.w1,J t.w2,J t.r] 27)).alloc (.cells #[J pc,J st,.slice ka ops.length kc] 75)) (U.gE G) (T.gE G) (V.gE G));have ao:=Z (fun W (hb:Below w.heap.size w W)=>OM t pc st ops L O a0 x z ka P A B C kc Q W (U.gE hb) (T.gE hb) (V.gE hb) u);have D:=Z (vI u);have al:Hid ((((w.alloc (.cells #[.slice a0 L.l.length A,.slice x L.b.length B,.slice z L.o.length C] 62)).alloc (.cells #[J t.u0,J t.u1,J t.u2,J t.w0,J t.w1,J t.w2,J t.r] 27)).alloc (.cells #[J pc,J st,.slice ka ops.length kc] 75)).heap.size=w.heap.size+1+1+1):=by show _=_;simp
 have cG:=Z (fun c m W h hs=>OL c L t ⟨pc,st,ops⟩ O m W h hs u);have dI:=Z (fun c W h=>FW hE c L t ⟨pc,st,ops⟩ O W h u);have dE:=Z (fun c W h=>FS c L t ⟨pc,st,ops⟩ O W h u);have dw:=Z (fun c W h=>FT c L t ⟨pc,st,ops⟩ O W h u);have dn:=Z (fun c W h=>FU c L t ⟨pc,st,ops⟩ O W h u);rw [u] at R;clear U T V hM hE u;go_enter Tryz.func101,Tryz.ntmps101;go_wp2_with fail;refine R.mr fun x1 hb=>?_;rw [al] at hb;have bj:=Z hb;obtain⟨⟨l0,l1,l2⟩,⟨g,i,j,k,n,p,q⟩,⟨k0,k1,f⟩,d,a⟩:=yL hb;have aj:=Z a;clear hb a R G;go_wp2_with fail;refine (ao x1 aj).m ?_;rintro e x2 ⟨c,rfl,hb,eO,aQ,F⟩;have eI:w.heap.size+1+1+1<=x1.heap.size:=oM
 have S:=Z (bj.t (hb.m eI));have aE:=Z F;have aY:=Z aQ;have dN:w.heap.size+1+1+1<=c.y:=oM
 clear hb F aQ ao l0 l1 l2 g i j k n p q k0 k1 f d;obtain⟨⟨l0,l1,l2⟩,⟨g,i,j,k,n,p,q⟩,⟨k0,k1,f⟩,d,a⟩:=yL S;have gT:=Z a;clear a bj aj;go_wp2_with fail;refine (cG c none x2 aE aY).m ?_;rintro e x3 ⟨rfl,hb,M,F,af⟩;have bC:=Z (S.t (hb.m dN));have aF:=Z F;have aa:=Z af;clear hb F af l0 l1 l2 g i j k n p q k0 k1 f d aE aY cG;obtain⟨⟨l0,l1,l2⟩,⟨g,i,j,k,n,p,q⟩,⟨k0,k1,f⟩,d,a⟩:=yL bC;have bH:=Z a;clear a S gT;cases h1:Yj L t ⟨pc,st,ops⟩ O with
 | false =>
  have s:Hid (yg L t ⟨pc,st,ops⟩ O=false):=sA
  clear h1;go_wp2_with fail;exact bodyPost_ret (v:=.tuple #[.pointer (some ⟨c.y,0,none⟩),.bool false]) (by simp [results,Tryz.results101,go_sem]) rfl (mZ s bH)
 | true =>
  have X:=Z h1;clear h1;go_wp2_with fail;refine (dI { c with sv:=.map (some M) } x3 aF).mr fun x4 hb=>?_;have bD:=Z (bC.t (hb.m oM));have aG:=Z (aF.gE hb);have dx:=Z (hb.block M);have bU:=Z hb.size;clear hb l0 l1 l2 g i j k n p q k0 k1 f d;obtain⟨⟨l0,l1,l2⟩,⟨g,i,j,k,n,p,q⟩,⟨k0,k1,f⟩,d,a⟩:=yL bD;have bI:=Z a;clear a;cases H:Up L t ⟨pc,st,ops⟩ O with
  | false =>have s:Hid (yg L t ⟨pc,st,ops⟩ O=false):=(by show _=_;rw [D,H];simp);clear H;go_wp2_with fail;exact bodyPost_ret (v:=.tuple #[.pointer (some ⟨c.y,0,none⟩),.bool false]) (by simp [results,Tryz.results101,go_sem]) rfl (mZ s bI)
  | true =>
   have H2:=Z H;clear H;go_wp2_with fail;refine (dE { c with sv:=.map (some M) } x4 aG).mr fun x5 hb=>?_;have bE:=Z (bD.t (hb.m oM));have aH:=Z (aG.gE hb);have dy:=Z (hb.block M);have bV:=Z hb.size;clear hb l0 l1 l2 g i j k n p q k0 k1 f d;obtain⟨⟨l0,l1,l2⟩,⟨g,i,j,k,n,p,q⟩,⟨k0,k1,f⟩,d,a⟩:=yL bE;have bJ:=Z a;clear a;cases I:Vo L t ⟨pc,st,ops⟩ O with
   | false =>have s:Hid (yg L t ⟨pc,st,ops⟩ O=false):=(by show _=_;rw [D,I];simp);clear I;go_wp2_with fail;exact bodyPost_ret (v:=.tuple #[.pointer (some ⟨c.y,0,none⟩),.bool false]) (by simp [results,Tryz.results101,go_sem]) rfl (mZ s bJ)
   | true =>
    have H3:=Z I;clear I;go_wp2_with fail;refine (dw { c with sv:=.map (some M) } x5 aH).mr fun x6 hb=>?_;have bF:=Z (bE.t (hb.m oM));have aI:=Z (aH.gE hb);have dA:=Z (hb.block M);have bW:=Z hb.size;clear hb l0 l1 l2 g i j k n p q k0 k1 f d;obtain⟨⟨l0,l1,l2⟩,⟨g,i,j,k,n,p,q⟩,⟨k0,k1,f⟩,d,a⟩:=yL bF;have bK:=Z a;clear a;cases K:XE L t ⟨pc,st,ops⟩ O with
    | false =>have s:Hid (yg L t ⟨pc,st,ops⟩ O=false):=(by show _=_;rw [D,K];simp);clear K;go_wp2_with fail;exact bodyPost_ret (v:=.tuple #[.pointer (some ⟨c.y,0,none⟩),.bool false]) (by simp [results,Tryz.results101,go_sem]) rfl (mZ s bK)
    | true =>
     have H4:=Z K;clear K;go_wp2_with fail;refine (dn { c with sv:=.map (some M) } x6 aI).mr fun x7 hb=>?_;have dm:=Z (bF.t (hb.m oM));have bR:=Z (aI.gE hb);have dB:=Z (hb.block M);have dD:=Z hb.size;clear hb l0 l1 l2 g i j k n p q k0 k1 f d;obtain⟨⟨l0,l1,l2⟩,⟨g,i,j,k,n,p,q⟩,⟨k0,k1,f⟩,d,a⟩:=yL dm;have aC:=Z a;clear a;cases N:UN L t ⟨pc,st,ops⟩ O with
     | false =>have s:Hid (yg L t ⟨pc,st,ops⟩ O=false):=(by show _=_;rw [D,N];simp);clear N;go_wp2;exact bodyPost_ret (v:=.tuple #[.pointer (some ⟨c.y,0,none⟩),.bool false]) (by simp [results,Tryz.results101,go_sem]) rfl (mZ s aC)
     | true =>have s:Hid (yg L t ⟨pc,st,ops⟩ O):=(by show _=_;rw [D,X,H2,H3,H4,N];rfl);have cJ:=Z (aa X);have dC:Hid (Vw (yF L t ⟨pc,st,ops⟩ O) (ki L) (XV L) (ZZ L L.b.length) M x7):=(by have h0:=cJ.o.lt;have e4:=dx.o h0;have z4:=bU.o;have e5:=dy.o oM;have z5:=bV.o;have e6:=dA.o oM;have z6:=bW.o;have e7:=dB.o oM;exact cJ.o.gG (e7.t (e6.t (e5.t e4))));clear N;go_wp2;exact bodyPost_ret (v:=.tuple #[.pointer (some ⟨c.y,0,none⟩),.bool true]) (by simp [results,Tryz.results101,go_sem]) rfl ⟨_,by rw [s],aC,fun _=>⟨{ c with sv:=.map (some M) },M,rfl,rfl,bR,dC⟩⟩
def CX (m:jK) (q:Zj) (t:Tg) (pc st:Int) (ops:List bt) (L:Lp) (O:Li) (a0 a c ka h:Option Addr) (d f g kc i:Nat) (w:wO) (k:zI w (.agg #[.slice a0 L.l.length d,.slice a L.b.length f,.slice c L.o.length g]) L) (j:Y5 w (.slice ka ops.length kc) ops) (n:zM w (.slice h O.length i) O) :
  Calls Tryz.prog 101 #[.agg #[.slice a0 L.l.length d,.slice a L.b.length f,.slice c L.o.length g],.agg #[J t.u0,J t.u1,J t.u2,J t.w0,J t.w1,J t.w2,J t.r],.agg #[J pc,J st,.slice ka ops.length kc],.slice h O.length i] w (om L t ⟨pc,st,ops⟩ O w):=by
 cases p:xW L t ⟨pc,st,ops⟩ O with
 | false=>exact ON m t pc st ops L O a0 a c ka h d f g kc i w k j n p
 | true=>exact OO m q t pc st ops L O a0 a c ka h d f g kc i w k j n p
def CY {kv k:vO} (p:zI w v L) (n:yQ w kv K) (q:zM w k O):∃a0 a c ka h d f g kc i,v=.agg #[.slice a0 L.l.length d,.slice a L.b.length f,.slice c L.o.length g]/\kv=.agg #[J K.pc,J K.st,.slice ka K.ops.length kc]/\k=.slice h O.length i/\Y5 w (.slice ka K.ops.length kc) K.ops:=by obtain⟨v0,s,v2,rfl,⟨a0,d,rfl,-⟩,⟨a,f,rfl,-⟩,⟨c,g,rfl,-⟩⟩:=p;obtain⟨r,rfl,j⟩:=n;have m:=j;obtain⟨ka,kc,rfl,-⟩:=m;obtain⟨h,i,rfl,-⟩:=q;exact⟨a0,a,c,ka,h,d,f,g,kc,i,rfl,rfl,rfl,j⟩
end
end Go.Proofs.YtjlfcbccpcigeacGreatDoor
