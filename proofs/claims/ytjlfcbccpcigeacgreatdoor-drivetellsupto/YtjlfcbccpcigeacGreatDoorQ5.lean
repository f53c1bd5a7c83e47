import Derived.Test.YtjlfcbccpcigeacGreatDoorQ4
set_option maxHeartbeats 40000000
set_option linter.defProp false
namespace Go.Proofs.YtjlfcbccpcigeacGreatDoor
open Go.Proofs.Tryz Go.RowKit Go.Joins
set_option linter.unusedVariables false
set_option linter.unusedSimpArgs false
set_option maxRecDepth 8192
def ni (pb:Nat) (t:Tg) (tx l:Li) (w:wO) (e:Ending) (w':wO):Prop:=∃a t' tx',e=.returned (.string (strOfNums a))/\a.length<=10000/\Z7 t tx l a t' tx'/\jS w' pb t' tx'/\Kp pb (.slice none 0 0) (.slice none 0 0) w w'
def l4 (ns:Li):Nat->Array vO
 | 0=>#[.int .i64 0,.int .i64 0,.int .i64 0,.int .i64 0,.int .i64 0,.int .i64 0,.int .i64 (ak ns 6)]
 | i+1=>((l4 ns i).setIfInBounds i (.int .i64 (ak ns i))).setIfInBounds (3+i) (.int .i64 (ak ns (3+i)))
theorem rA (a:Li):∀i,(l4 a i).size=7
 | 0=>rfl
 | i+1=>by unfold l4;rw [EQ,EQ];exact rA a i
theorem FI (a:Li):l4 a 3=#[J (ak a 0),J (ak a 1),J (ak a 2),J (ak a 3),J (ak a 4),J (ak a 5),J (ak a 6)]:=rfl
def FK (hP:mC) (hG:Zj) (hO:lB) (hX:VX) (hT:pH) (T:Tg) (pb:Nat) (tx l:Li) (w:wO) (hp:jS w pb T tx) (cD:xq w) (bU:By tx) (H:By l) (cL:tx.length+l.length<=1100000) (ht:zS T) :
  Cp 6 #[.pointer (pA pb),.string (strOfNums l)] w (ni pb T tx l w):=by
 obtain⟨⟨c0,c1,c2,c3,c4,c5,c6⟩,c7,hpz⟩:=hp.cells;have ao:Hid (Pk pb 29 w w #[J T.u0,J T.u1,J T.u2,J T.w0,J T.w1,J T.w2,J T.r,.string (strOfNums tx)]):=⟨hp,Kp.refl _ _ _⟩;have S:Hid (∀(a:Li) (u0 u1 u2 u3 u4 u5 u6:Int) (j:Li) (y y1:wO),Pk pb 29 w y #[J u0,J u1,J u2,J u3,J u4,J u5,J u6,.string (strOfNums j)]->Bw y y1->a.length<=10000->Z7 T tx l a ⟨u0,u1,u2,u3,u4,u5,u6⟩ j->ni pb T tx l w (.returned (.string (strOfNums a))) y1):=fun a u0 u1 u2 u3 u4 u5 u6 j y y1 hk hb V L=>⟨a,_,j,rfl,V,L,(hk.on hb).hb,(hk.on hb).kp⟩;have cU:(strOfNums l).size=l.length:=strOfNums_size l;have f7:=ao.o.lt.2 7;by_cases z:l.take 2=[61,32]
 ·have cw:2<=l.length:=by have h:=congrArg List.length z;rw [Wh] at h;have h3:min 2 l.length=2:=h;omega
  have hg:(2:Int)<=(l.length:Int):=by omega
  have HL:=Z (wN (t:=T) (tx:=tx) z);have hx:(strOfNums l).extract 0 2=strOfNums [61,32]:=by rw [<-z];exact mM l 0 2
  have hb:((strOfNums [61,32]).toList == [61,32]):=(yn (l:=[61,32]) (m:=[61,32]) (by decide) (by decide) (b:=[61,32]) rfl).t rfl;have bh:(l.drop 2).length=l.length - 2:=qL;have C:(strOfNums l).extract 2 l.length=strOfNums (l.drop 2):=by rw [mM,WB (by omega)]
  obtain⟨D,hD⟩:=nm (l.drop 2);rw [hD] at C bh HL;have bI:¬9223372036854775807<(strOfNums tx).size+(strOfNums D).size:=by rw [strOfNums_size,strOfNums_size];omega
  have bT:strOfNums tx++strOfNums D=strOfNums (tx++D):=jM _ _;have aT:¬9223372036854775807<(strOfNums (tx++D)).size+1:=by rw [strOfNums_size,Qt];omega
  have bf:strOfNums (tx++D)++{ data:=#[10] }=strOfNums (tx++D++[10]):=jM _ [10];have aD:Hid ((tx++D++[10]).length<=3000000):=by show _<=_;simp only [Qt,EF];omega
  obtain⟨P,au⟩:=nm (tx++D);rw [au] at bT aT bf aD HL;obtain⟨Q,aZ⟩:=nm (P++[10]);rw [aZ] at bf aD HL;have cS:(strOfNums Q).size=Q.length:=strOfNums_size Q;clear z hD au aZ bh;go_enter func6,ntmps6;go_upto_region 2 with fail;go_region;go_upto_region 3 with fail;obtain⟨X,hX⟩:=nm ((w.setCell (E pb 7) (.string (strOfNums Q))).drew);have HK:Hid (Pk pb 29 w X #[J T.u0,J T.u1,J T.u2,J T.w0,J T.w1,J T.w2,J T.r,.string (strOfNums Q)]):=by show Pk _ _ _ _ _;rw [<-hX];exact (ao.o.set _).on (Qm _ _ 1)
  rw [hX];clear hX f7 c7;have c7:X.cell? (E pb 7)=some (.string (strOfNums Q)):=cb HK.o.hb
  have cN:=HK.o.lt.1;have aN:=Z (qI ex _ [(Q.length:Int)] _ (AC X [(Q.length:Int)] (by simp) (lR (by omega) (by have:=aD.o;omega))) (by simp) (by decide));have bJ:Hid ((yV ex [(Q.length:Int)]).length<=10000):=by have h:=oy (n:=(Q.length:Int)) (by omega) (by have:=aD.o;omega);show (111 :: 107 :: 32 :: zo (Q.length:Int)).length<=10000;simp only [Q5];omega
  have aJ:Hid (∀y,Below (X.alloc (.cells [J (Q.length:Int)].toArray 2)).heap.size (X.alloc (.cells [J (Q.length:Int)].toArray 2)) y->ni pb T tx l w (.returned (.string (strOfNums (yV ex [(Q.length:Int)])))) y):=fun y C=>S.o _ _ _ _ _ _ _ _ _ _ _ HK.o ((Qd _ _).t (C.m (by simp))) bJ.o HL.o;generalize yV ex [(Q.length:Int)]=S9 at *
  go_wp2_with fail;refine aN.o.m ?_;rintro e y ⟨rfl,C⟩;have o:=Z (aJ.o y C);clear C;go_wp2_with fail;exact oB o.o
 by_cases hf:l=yK
 ·have HL:Hid (Z7 T tx l ex T []):=by show Z7 _ _ _ _ _ _;unfold Z7;rw [Qe z,Qf hf];exact⟨rfl,rfl,rfl⟩
  have e0:=(yn H (m:=yK) (by decide) (b:=[102,114,101,115,104]) rfl).t (Qi hf);have hg:(2:Int)<=(l.length:Int):=by rw [hf];decide
  have hx:(strOfNums l).extract 0 2=strOfNums (l.take 2):=mM l 0 2;have hb:=(yn (mX H 2) (m:=[61,32]) (by decide) (b:=[61,32]) rfl).t (Qk z);clear hf z;go_enter func6,ntmps6;go_upto_region 6 with fail;have o:=Z (S.o ex _ _ _ _ _ _ _ [] _ _ (ao.o.set (i:=7) (.string (strOfNums []))) (QA _ _) (by decide) HL.o);go_wp2_with fail;exact oB o.o
 have H2:=Z z;have bK:=Z hf;have e0:=(yn H (m:=yK) (by decide) (b:=[102,114,101,115,104]) rfl).t (Qk hf);have hx:(strOfNums l).extract 0 2=strOfNums (l.take 2):=mM l 0 2;have hb:=(yn (mX H 2) (m:=[61,32]) (by decide) (b:=[61,32]) rfl).t (Qk z);have aX:=Z (Db l 32 w (oh H) (by omega));obtain⟨i0,hi,cF,bI,aT⟩:=info_parts Tryz.iintP;obtain⟨W,hW⟩:=nm (zx 32 l);obtain⟨p,qs,bE⟩:∃p qs,W=p :: qs:=by
  cases W with
  | nil=>exact absurd hW (xQ 32 l)
  | cons p qs=>exact⟨p,qs,rfl⟩
 have HW:Hid (zx 32 l=p :: qs):=hW.t bE;have aU:Hid (∀q,q∈p :: qs->(∀c∈q,0<=c/\c<=255)/\q.length<=l.length):=by show ∀q,_;rw [<-HW.o];exact Kt H
 have aM:Hid (∀k Y,k<qs.length->Cp 9 #[.string (strOfNums (qs.getD k []))] Y (ow (qs.getD k []) Y)):=fun k Y hk=>by
  have hm:qs.getD k []∈p :: qs:=by rw [Qw,Qh hk];exact Wg _ (QW hk)
  obtain⟨h1,z⟩:=aU.o _ hm;exact Ph _ Y (oh h1) (by omega)
 have bC:(zx 32 l).length=qs.length+1:=by rw [HW.o];rfl
 have cO:qs.length<=1100000:=by have:=tX 32 l;omega
 rw [bC,HW.o] at aX;clear bE hW bC hf z;by_cases hg:(2:Int)<=(l.length:Int)
 all_goals
  go_enter func6,ntmps6
  go_wp2_with fail
  refine aX.o.m ?_
  rintro e x ⟨b,c,rfl,bY,bZ,-,bg,gR,K⟩
  unfold maxLen at bZ
  have HX:=Z K
  have HC:=Z gR
  clear gR K hg e0 hx hb c0 c1 c2 c3 c4 c5 c6 c7 f7
  go_wp2_with fail
  go_loopw [6,7] (fun lv iv wr=>∃(k:Nat) (d:Li) (la:Option Addr) (lc:Nat),k<=qs.length/\lv=.slice la k lc/\iv=J (((k+1:Nat)):Int)/\d.length=k/\xB (qs.take k)=some d/\wr.ownsRow x.heap.size 3 1 (.slice la k lc) k (d.map (.int .i64))/\Bw x wr) (fun _ iv _=>qs.length+1 - (intOf iv).toNat)
  case atStart=>exact⟨0,[],_,_,Ql _,rfl,rfl,rfl,rfl,⟨rfl,.inl ⟨rfl,rfl⟩⟩,QA _ _⟩
  case round =>
   obtain⟨k,d,la,lc,cJ,rfl,rfl,bD,af,gJ,K⟩:=hrel
   have HO:=Z gJ
   have HB:=Z K
   have bN:=Z bD
   have aK:=Z af
   have bL:=Z (zR gJ)
   have cW:x.heap.size<=wr.heap.size:=K.size
   have cG:b<wr.heap.size:=by omega
   by_cases hlt:k<qs.length
   ·have bz:((k:Int)+1)<(qs.length:Int)+1:=by omega
    have cH:wr.cell? (E b (k+1))=some (.string (strOfNums (qs.getD k []))):=(ze K b (k+1) bg).t (HC.o (k+1) (by omega))
    have bM:=Z (aM.o k wr hlt)
    have aI:=Z (DZ (ws:=qs) (i:=k) hlt)
    have bS:=Z (D0 (ws:=qs) (i:=k) hlt)
    have al:Hid (jb (qs.getD k [])=none->∀y,Bw wr y->ni pb T tx l w (.returned (.string (strOfNums ZV))) y):=fun h y C=>S.o _ _ _ _ _ _ _ _ _ _ _ (ao.o.on (HX.o.tm HB.o)) C (by decide) (sn H2.o (by rw [HW.o];show xB qs=none;rw [aI.o];exact wJ aK.o h))
    generalize qs.getD k []=s at *
    clear gJ K bD af
    go_wp2_with fail
    refine bM.o.m ?_
    rintro e y ⟨v,bb,rfl,aG,bG,bH,C⟩
    have C:=C.s
    subst C
    cases bb with
    | false =>
      have o:=Z (al.o aG wr (QA _ _))
      clear aG bG bH
      go_wp2_with fail
      go_ret
      exact o.o
    | true =>
      have bO:=Z aG
      have bQ:=Z (xH wr (J v) 3)
      clear aG bG bH
      go_wp2_with (at_builtin;refine QQ _ rfl (.tmp 61) (.tmp 63) 34 rfl x.heap.size 3 i0 (J 0) 1 8 underlying34 hi cF bI aT rfl (by decide) _ _ _ rfl (zp HO.o (Qd _ _)) (E wr.heap.size 0) 1 1 [J v] rfl rfl (by exact bQ.o) (by intro u N;simp at N;subst N;rfl) (by unfold maxLen;omega) (by omega) (by simp;omega) ?_;intro v1 w1 gM gL hnil1;obtain⟨la1,lc1,rfl,-,-⟩:=zD gM;have bP:=Z gM;have aj:=Z ((HB.o.alloc HB.o.size (.cells #[J v] 3)).grown gL (by simp;omega) bL.o);clear gM gL hnil1)
      go_roundw
      case rel=>exact⟨k+1,d++[v],la1,lc1,by omega,rfl,by go_num,by simp [bN.o],by rw [bS.o];exact wI aK.o bO.o,by rw [QV];exact bP.o,aj.o⟩
      case measure=>simp [intOf];omega
   ·have e:k=qs.length:=by omega
    subst e
    rw [Wd] at af
    have bz:¬((qs.length:Int)+1)<(qs.length:Int)+1:=by omega
    have aL:=Z af
    have aV:Hid (Bw w wr):=HX.o.tm HB.o
    have aC:Hid (Pk pb 29 w wr #[J T.u0,J T.u1,J T.u2,J T.w0,J T.w1,J T.w2,J T.r,.string (strOfNums tx)]):=ao.o.on aV.o
    have c0:wr.cell? (E b 0)=some (.string (strOfNums p)):=(ze K b 0 bg).t (HC.o 0 (by omega))
    have aS:=(aU.o p (QY ..)).1
    have O:Hid (∀a t' j,(if p=zW/\d.length=7 then (if zS (hC d)=true then a=ex/\t'=hC d/\j=tx else a=ZV/\t'=T/\j=tx)
     else if l=yz\/l=yx\/l=yy then UC T tx l 0 a/\t'=T/\j=tx
     else if p=yM/\d.length=1 then UC T tx yM (ak d 0) a/\t'=T/\j=tx
     else a=ZV/\t'=T/\j=tx)->Z7 T tx l a t' j):=fun a t' j h=>by
     unfold Z7
     rw [Qe H2.o,Qe bK.o,HW.o]
     show (match xB qs with | none=>_ | some ns=>if p=zW/\ns.length=7 then _ else if l=yz\/l=yx\/l=yy then _ else if p=yM/\ns.length=1 then _ else _)
     rw [aL.o];exact h
    have B:=yn aS (m:=zW) (by decide) (b:=[109,97,99,104,105,110,101]) rfl
    have I:=yn aS (m:=yM) (by decide) (b:=[116,117,114,110,115]) rfl
    have e2:=yn H (m:=yz) (by decide) (b:=[101,100,103,101,115]) rfl
    have e3:=yn H (m:=yx) (by decide) (b:=[98,111,117,110,100]) rfl
    have e4:=yn H (m:=yy) (by decide) (b:=[98,117,105,108,100]) rfl
    obtain⟨P,au⟩:=nm (strOfNums p)
    rw [au] at c0 B I
    clear gJ K af au aS
    by_cases hm:p=zW/\d.length=7
    ·have HY:=O.o
     simp only [Qf hm] at HY
     replace HY:=Z HY
     rw [Qi hm.1] at B
     have cM:=hm.2
     have az:((qs.length:Int) == 7):=by rw [show (qs.length:Int)=7 by omega];rfl
     obtain⟨g,cc,aQ,-,bV,bW,U⟩:=yC HO.o (.inr (by omega))
     injection aQ with hla1 _ hla3
     subst hla1
     have hz:=U.lt
     have HN:Hid (∀i,i<7->wr.cell? (E g i)=Y (ak d i)):=fun i hi=>by rw [U.cell (by omega)];congr 1;unfold ak;simp [Qw,Qh (show i<d.length by omega)]
     have bF:(6:Int)<(qs.length:Int):=by omega
     have n6:=HN.o 6 (by omega)
     clear O e2 e3 e4 I U hm aL aK
     go_upto_region 18 with fail
     obtain⟨X,hX⟩:=nm (wr.alloc (.cells #[J 0,J 0,J 0,J 0,J 0,J 0,J (ak d 6)] 27))
     have aO:Hid (X.heap[wr.heap.size]?=some (.cells (l4 d 0) 27 (0,0))):=by show _=_;rw [<-hX];exact zm _ _ _
     have aY:Hid (Bw wr X):=by show Below _ _ _;rw [<-hX];exact Qd _ _
     rw [hX]
     clear hX n6 B c0 bF az
     obtain⟨wo,cE⟩:∃wo,wo=wr:=⟨_,rfl⟩
     subst cE
     obtain⟨tb,aH⟩:=nm wo.heap.size
     have aE:=Z aH
     rw [aH] at aO
     rw [aH]
     clear aH
     go_wp2_with fail
     go_loopw [11] (fun iv wr=>∃i:Nat,i<=3/\iv=J i/\wr.heap[tb]?=some (.cells (l4 d i) 27 (0,0))/\Bw wo wr) (fun iv _=>3 - (intOf iv).toNat)
     case atStart=>exact⟨0,Ql _,rfl,aO.o,aY.o⟩
     case round =>
      clear aO aY
      obtain⟨i,cI,rfl,ac,ay⟩:=hrel
      have G:=Z ac
      have aW:=Z ay
      have aB:tb<wr.heap.size:=(lo ac)
      have ce:¬g=tb:=by have:=aE.o;omega
      have cg:¬tb=g:=fun h=>ce h.s
      have aP:g<wr.heap.size:=by have:=ay.size;omega
      have aA:=rA d i
      by_cases hi2:i<3
      ·have bz:(i:Int)<3:=by omega
       have ci:=(ze ay g i hz).t (HN.o i (by omega))
       obtain⟨u0,ct⟩:∃u,wr.cell? (E tb i)=some u:=by rw [Qa ac];exact⟨_,WA (by omega)⟩
       have bj:wr.frozen? (E tb i)=false:=by simp [World.frozen?,ac]
       have cu:(i:Int)<(qs.length:Int):=by omega
       have cw:(3:Int)+(i:Int)<(qs.length:Int):=by omega
       clear ac ay aA
       go_upto_region 22 with fail
       obtain⟨Y1,hY⟩:=nm (wr.setCell (E tb i) (J (ak d i)))
       have aF:Hid (Y1.heap[tb]?=some (.cells ((l4 d i).setIfInBounds i (J (ak d i))) 27 (0,0))):=by show _=_;rw [<-hY];exact Yc G.o
       have aj:Hid (Bw wo Y1):=by show Below _ _ _;rw [<-hY];exact aW.o.setCell (qQ aE.o) _
       rw [hY]
       clear hY ci ct bj aB aP
       have ci:=(ze aj.o g (3+i) hz).t (HN.o (3+i) (by omega))
       have aB:tb<Y1.heap.size:=(lo aF.o)
       obtain⟨u1,ct⟩:∃u,Y1.cell? (E tb (3+i))=some u:=by rw [Qa aF.o];exact⟨_,WA (by rw [EQ,rA];omega)⟩
       have bj:Y1.frozen? (E tb (3+i))=false:=by simp [World.frozen?,aF.o]
       have aP:g<Y1.heap.size:=by have:=aj.o.size;omega
       go_wp2_with fail
       go_roundw
       case rel=>exact⟨i+1,by omega,by go_num,Yc aF.o,aj.o.setCell (qQ aE.o) _⟩
       case measure=>simp [intOf];omega
      ·have e:i=3:=by omega
       subst e
       clear ac aA
       rw [FI] at G
       have d0:wr.cell? (E tb 0)=Y (ak d 0):=cb G.o
       have d1:wr.cell? (E tb 1)=Y (ak d 1):=cb G.o
       have d2:wr.cell? (E tb 2)=Y (ak d 2):=cb G.o
       have d3:wr.cell? (E tb 3)=Y (ak d 3):=cb G.o
       have d4:wr.cell? (E tb 4)=Y (ak d 4):=cb G.o
       have d5:wr.cell? (E tb 5)=Y (ak d 5):=cb G.o
       have d6:wr.cell? (E tb 6)=Y (ak d 6):=cb G.o
       have bR:Hid (Pk pb 29 w wr #[J T.u0,J T.u1,J T.u2,J T.w0,J T.w1,J T.w2,J T.r,.string (strOfNums tx)]):=aC.o.on aW.o
       have cB:¬tb=pb:=by have:=HB.o.size;have:=HX.o.size;have:=aE.o;omega
       have cC:¬pb=tb:=fun h=>cB h.s
       clear ay
       go_wp2_with fail
       refine (Y8 ⟨ak d 0,ak d 1,ak d 2,ak d 3,ak d 4,ak d 5,ak d 6⟩ wr).m ?_
       rintro e y ⟨rfl,hb⟩
       have R:Hid (y.heap[tb]?=_):=(hb.block tb aB).t G.o
       have A:=Z (bR.o.on hb)
       clear hb d0 d1 d2 d3 d4 d5 d6 aB aP
       cases M:zS ⟨ak d 0,ak d 1,ak d 2,ak d 3,ak d 4,ak d 5,ak d 6⟩ with
       | true =>
         have L:=HY.o ex (hC d) tx (by rw [Qf (show zS (hC d)=true from M)];exact⟨rfl,rfl,rfl⟩)
         have aB:tb<y.heap.size:=(lo R.o)
         have cx:pb<y.heap.size:=A.o.lt.1
         have d0:y.cell? (E tb 0)=Y (ak d 0):=cb R.o
         have b0:y.cell? (E pb 0)=Y T.u0:=cb A.o.hb
         have f0:=A.o.lt.2 0
         have d1:y.cell? (E tb 1)=Y (ak d 1):=cb R.o
         have b1:y.cell? (E pb 1)=Y T.u1:=cb A.o.hb
         have f1:=A.o.lt.2 1
         have d2:y.cell? (E tb 2)=Y (ak d 2):=cb R.o
         have b2:y.cell? (E pb 2)=Y T.u2:=cb A.o.hb
         have f2:=A.o.lt.2 2
         have d3:y.cell? (E tb 3)=Y (ak d 3):=cb R.o
         have b3:y.cell? (E pb 3)=Y T.w0:=cb A.o.hb
         have f3:=A.o.lt.2 3
         have d4:y.cell? (E tb 4)=Y (ak d 4):=cb R.o
         have b4:y.cell? (E pb 4)=Y T.w1:=cb A.o.hb
         have f4:=A.o.lt.2 4
         have d5:y.cell? (E tb 5)=Y (ak d 5):=cb R.o
         have b5:y.cell? (E pb 5)=Y T.w2:=cb A.o.hb
         have f5:=A.o.lt.2 5
         have d6:y.cell? (E tb 6)=Y (ak d 6):=cb R.o
         have b6:y.cell? (E pb 6)=Y T.r:=cb A.o.hb
         have f6:=A.o.lt.2 6
         have o:=Z (S.o ex _ _ _ _ _ _ _ tx _ _ (((((((A.o.set (i:=0) (J (ak d 0))).set (i:=1) (J (ak d 1))).set (i:=2) (J (ak d 2))).set (i:=3) (J (ak d 3))).set (i:=4) (J (ak d 4))).set (i:=5) (J (ak d 5))).set (i:=6) (J (ak d 6))) (QA _ _) (by decide) L)
         clear M L
         go_wp2_with fail
         exact oB o.o
       | false =>
         have L:=HY.o ZV T tx (by rw [Qe (by rw [show zS (hC d)=false from M];decide)];exact⟨rfl,rfl,rfl⟩)
         have o:=Z (S.o ZV _ _ _ _ _ _ _ _ _ _ A.o (QA _ _) (by decide) L)
         clear M L
         go_wp2_with fail
         exact oB o.o
    have ae:Hid (∀f n,0<=n->n<=999999->(f=yz\/f=yx\/f=yy\/f=yM)->(∀a,UC T tx f n a->Z7 T tx l a T tx)->Cp 11 #[.pointer (pA pb),.string (strOfNums f),J n] wr fun e y=>ni pb T tx l w e y/\∃a,e=.returned (.string (strOfNums a))):=fun f n h0 h9 hw hr=>(Kv hP hG hO hX hT T tx f pb n wr (cD.on aV.o) aC.o.hb (oh bU) (by omega) ht h0 h9 hw).m fun e y ⟨a,he,L,hb,V⟩=>⟨he ▸ S.o _ _ _ _ _ _ _ _ _ _ _ aC.o hb L (hr a V),a,he⟩
    have az:((P.toList == [109,97,99,104,105,110,101])=false)\/((P.toList == [109,97,99,104,105,110,101])/\((qs.length:Int) == 7)=false):=by
     by_cases h:p=zW
     ·exact .inr ⟨B.t (Qi h),Wf fun h7=>hm ⟨h,by omega⟩⟩
     ·exact .inl (B.t (Qk h))
    by_cases F:l=yz\/l=yx\/l=yy
    ·have HA:=Z (ae.o l 0 (by decide) (by decide) (by rcases F with h | h | h <;> simp [h]) fun a V=>O.o a _ _ (by rw [Qe hm,Qf F];exact⟨V,rfl,rfl⟩))
     have z:decide (l=yz)\/(decide (l=yz)=false/\decide (l=yx))\/(decide (l=yz)=false/\decide (l=yx)=false/\decide (l=yy)):=by rcases F with h | h | h <;> (subst h;decide)
     clear hm I F ae O B
     rcases az with B | ⟨B,e7⟩ <;> rcases z with z | ⟨z,h3⟩ | ⟨z,h3,h4⟩
     all_goals
      rw [z] at e2
      try rw [h3] at e3
      try rw [h4] at e4
      clear z
      go_wp2_with fail
      refine HA.o.m ?_
      rintro e y ⟨o,a,rfl⟩
      replace o:=Z o
      go_wp2_with fail
      exact oB o.o
    ·rw [Qk fun h=>F (.inl h)] at e2
     rw [Qk fun h=>F (.inr (.inl h))] at e3
     rw [Qk fun h=>F (.inr (.inr h))] at e4
     by_cases N:p=yM/\d.length=1
     ·obtain⟨g,cc,aQ,-,bV,bW,U⟩:=yC HO.o (.inr (by omega))
      injection aQ with hla1 _ hla3
      subst hla1
      have hz:=U.lt
      have n0:wr.cell? (E g 0)=Y (ak d 0):=by rw [U.cell (by omega)];congr 1;unfold ak;simp [Qw,Qh (show 0<d.length by omega)]
      have aR:=sh aL.o 0 (by omega)
      have HA:=Z (ae.o yM (ak d 0) aR.1 aR.2 (.inr (.inr (.inr rfl))) fun a V=>O.o a _ _ (by rw [Qe hm,Qe F,Qf N];exact⟨V,rfl,rfl⟩))
      rw [Qi N.1] at I
      have bF:((qs.length:Int) == 1):=by rw [show (qs.length:Int)=1 by omega];rfl
      have cu:(0:Int)<(qs.length:Int):=by omega
      generalize ak d 0=n at *
      clear hm F ae O B aR N U
      rcases az with B | ⟨B,e7⟩
      all_goals
       go_wp2_with fail
       refine HA.o.m ?_
       rintro e y ⟨o,a,rfl⟩
       replace o:=Z o
       go_wp2_with fail
       exact oB o.o
     ·have o:=Z (S.o ZV _ _ _ _ _ _ _ _ _ _ aC.o (QA _ _) (by decide) (O.o _ _ _ (by rw [Qe hm,Qe F,Qe N];exact⟨rfl,rfl,rfl⟩)))
      have cA:((P.toList == [116,117,114,110,115])=false)\/((P.toList == [116,117,114,110,115])/\((qs.length:Int) == 1)=false):=by
       by_cases h:p=yM
       ·exact .inr ⟨I.t (Qi h),Wf fun h7=>N ⟨h,by omega⟩⟩
       ·exact .inl (I.t (Qk h))
      clear hm F ae O B I N
      rcases az with B | ⟨B,e7⟩ <;> rcases cA with I | ⟨I,e8⟩
      all_goals
       go_wp2_with fail
       exact oB o.o
def OQ {W:List Li} {m:Nat} (hm:W.length=m+1):(W.getD m []=[]->(Vh W).length=m/\∀i,i<m->W.getD i []=(Vh W).getD i [])/\(W.getD m []≠[]->Vh W=W):=by
 have e:W.getLast?=some (W.getD m []):=by rw [List.getLast?_eq_getElem?,hm,Nat.add_sub_cancel,Qw,Qh oM];rfl
 unfold Vh;rw [e];refine⟨fun h=>?_,fun h=>Qe fun k=>h (QD k)⟩;rw [Qf (congrArg some h),List.length_dropLast];refine⟨oM,fun i hi=>?_⟩;simp only [Qw];rw [Qh oM,Qh (by rw [List.length_dropLast];omega),List.getElem_dropLast]
def OR {A R:List Li} {l:Li} {k:Nat} (h:A.drop k=l :: R):k<A.length/\A.getD k []=l/\A.drop (k+1)=R:=by
 have b:k<A.length:=by refine Nat.lt_of_not_le fun a=>?_;rw [List.drop_eq_nil_of_le a] at h;cases h
 rw [EP b] at h;injection h with h1 a;exact⟨b,by rw [Qw,Qh b];exact h1,a⟩
def OS (bD:uH) (hP:mC) (hG:Zj) (hO:lB) (hX:VX) (hT:pH) (s:Li) (w:wO) (hv:xq w) (hs:By s) (hl:s.length<=1048576) :
  Calls Tryz.prog 3 #[.string (strOfNums s)] w (Rt w (.bool true)):=by
 have HV:=Z hv;have bf:=Z hs;have bj:=Z (fun W p=>bD s W p hs oM);have aP:=Z (Db s 10 w (oh hs) oM);have bN:Hid (nf s=(Vh (zx 10 s)).take 60):=rfl;have bC:=Z hl;obtain⟨W,p⟩:=nm (zx 10 s);obtain⟨m,hm⟩:∃m,W.length=m+1:=⟨W.length - 1,by have:=List.length_pos_iff.2 (show W≠[] by rw [<-p];exact xQ 10 s);omega⟩;have HW:Hid (Vh (zx 10 s)=Vh W):=by show _=_;rw [p]
 obtain⟨hy,hn⟩:=OQ hm;rw [p] at aP;clear hs hv hl p;go_enter Tryz.func3,Tryz.ntmps3;go_wp2_with fail;refine aP.m ?_;rintro e w1 ⟨b,c,rfl,ai,bH,hb,bF,A,M⟩;unfold maxLen at bH;have aL:=Z M;have HC:=Z A;have c9:=A m oM;have aQ:=Z (HV.on M);obtain⟨n,bJ,bO,aV⟩:∃n,((W.getD m []=[]/\n=m)\/(W.getD m []≠[]/\n=m+1))/\(Vh W).length=n/\∀i,i<n->w1.cell? (E b i)=some (.string (strOfNums ((Vh W).getD i []))):=by
  by_cases h:W.getD m []=[]
  ·exact⟨m,.inl ⟨h,rfl⟩,(hy h).1,fun i hi=>by rw [<-(hy h).2 i hi];exact A i oM⟩
  exact⟨m+1,.inr ⟨h,rfl⟩,by rw [hn h];exact hm,fun i hi=>by rw [hn h];exact A i oM⟩
 have bg:=Z aV;have V:=nZ (W.getD m []);generalize W.getD m []=q at *
 rw [hm] at ai ⊢;generalize Vh W=T at *
 clear A M hy hn HC hm aV;rcases bJ with ⟨G,Q⟩ | ⟨G,Q⟩
 all_goals
  first | rw [Qi G] at V | rw [Qk G] at V
  clear G
  go_wp2
  rw [<-Q]
  have bS:n<=c:=oM
  clear V c9 Q ai
  obtain⟨X,hX⟩:=nm (w1.alloc (.cells #[J 2,J 1,J 1,J 1,J 3,J 2,J 32,.string { data:=#[] }] 29))
  have aO:Hid (jS X w1.heap.size lE []):=hX ▸ zm _ _ _
  have aK:Hid (Bw w1 X):=hX ▸ Qd _ _
  rw [hX]
  clear hX
  go_loopw [5,6] (fun sv iv wr=>∃(k:Nat) (d tx out:Li) (t:Tg),k<=60/\sv=.string (strOfNums out)/\iv=J k/\jS wr w1.heap.size t tx/\Bw w1 wr/\zS t/\By tx/\By d/\tx.length+d.length<=1100000/\out.length<=10001*k/\T.drop k=Vh (zx 10 d)/\∀g,Ya t tx ((Vh (zx 10 d)).take (60 - k)) g->Ya lE [] (nf s) (out++g)) (fun _ iv _=>60 - (intOf iv).toNat)
  case atStart=>exact⟨0,s,[],[],lE,Ql _,rfl,rfl,aO,aK,tQ,fun c hc=>(by cases hc),bf,by have:=bC.o;simp;omega,Ql _,HW.s,fun g h=>h⟩
  case round =>
   clear aO aK
   obtain⟨k,d,tx,out,t,hk,rfl,rfl,hp,hb,F,D,O,hlen,bK,z,C⟩:=hrel
   have ac:Hid ((d=[]\/k=60)->Vx s out):=fun B=>by
    have:=C [] (by
     rcases B with B | B
     ·rw [B,so];show Ya t tx (([]:List Li).take _) [];rw [List.take_nil];rfl
     ·rw [B];show Ya t tx ((Vh (zx 10 d)).take 0) [];rfl)
    rw [WJ] at this
    exact this
   have R:=Z (bj wr (aQ.on hb))
   have U:=Z (aL.tm hb)
   have v:∀a:Li,((strOfNums a).toList == (strOfNums a).toList):=fun a=>beq_self_eq_true _
   by_cases j:d≠[]/\k<60
   ·obtain⟨bL,ao⟩:=j
    obtain⟨l,rest,h1,N,aU,bQ,bR,-⟩:=uK O bL
    obtain⟨aX,aW,al⟩:=OR (z.t h1)
    have ck:wr.cell? (E b k)=some (.string (strOfNums l)):=(ze hb b k bF).t ((bg k oM).t (by rw [aW]))
    have bG:b<wr.heap.size:=by have:=hb.size;omega
    have bI:(k:Int)<(n:Int):=oM
    have aI:(k:Int)<60:=oM
    obtain⟨p0,p1,p2,q0,q1,q2,r⟩:=t
    have aN:=Z (FK hP hG hO hX hT ⟨p0,p1,p2,q0,q1,q2,r⟩ _ tx l wr hp (aQ.on hb) D N oM F)
    have HK:=Z (fun a H f (hr:Z7 ⟨p0,p1,p2,q0,q1,q2,r⟩ tx l a H f)=>And.intro (CA hr F D N) (uJ ao (h1 ▸ C) hr))
    have bh:=Z al
    have K:=Z (And.intro hb aU)
    clear hp hb F D O z C h1 aW al ac R U v N aU
    go_wp2_with fail
    refine aN.m ?_
    rintro e y ⟨a,H,f,rfl,u,hr,aZ,aY⟩
    have o:=Z (HK a H f hr)
    have bz:=Z aZ
    have aC:=Z (K.1.t (aY.gE (Qc _) (fun k h=>by cases h) K.1.size))
    have bT:¬9223372036854775807<(strOfNums out).size+(strOfNums a).size:=by rw [strOfNums_size,strOfNums_size];omega
    have bE:strOfNums out++strOfNums a=strOfNums (out++a):=jM _ _
    have bM:¬9223372036854775807<(strOfNums (out++a)).size+1:=by rw [strOfNums_size,Qt];omega
    have aT:strOfNums (out++a)++{ data:=#[10] }=strOfNums (out++a++[10]):=jM _ [10]
    have L:Hid ((out++a++[10]).length<=10001*(k+1)):=by show _<=_;simp only [Qt,EF];omega
    clear hr aZ aY aN ck bG bI aI HK
    obtain⟨P9,aS⟩:=nm (out++a)
    rw [aS] at bE bM aT L o
    obtain⟨A9,aR⟩:=nm (P9++[10])
    rw [aR] at aT L o
    clear aS aR
    go_wp2
    go_roundw
    case rel=>exact⟨k+1,rest,f,A9,H,ao,rfl,nQ,bz,aC,o.1.1,o.1.2.1,K.2,by have:=o.1.2.2;omega,L,bh,o.2⟩
    case measure=>simp [intOf];omega
   ·have S:d=[]\/k=60:=by
     by_cases h:d=[]
     ·exact .inl h
     ·exact .inr (by have:¬k<60:=fun h2=>j ⟨h,h2⟩;omega)
    have aM:=Z (ac S)
    have P:¬((k:Int)<(n:Int))\/¬((k:Int)<60):=by
     rcases S with h | h
     ·rw [h,so] at z
      have:=List.drop_eq_nil_iff.1 z
      exact .inl oM
     ·exact .inr oM
    clear hp hb F D O z C ac S j hlen bK
    by_cases aX:(k:Int)<(n:Int)
    ·have bP:=P.resolve_left (fun h=>h aX)
     clear P
     go_wp2_with fail
     refine R.m ?_
     rintro e y ⟨a,rfl,u,-,x⟩
     obtain rfl:=u.unique aM
     have I:=Z (U.tm x)
     have au:=v a
     clear u x v
     go_wp2_with fail
     go_ret
     exact⟨rfl,I⟩
    ·clear P
     go_wp2_with fail
     refine R.m ?_
     rintro e y ⟨a,rfl,u,-,x⟩
     obtain rfl:=u.unique aM
     have I:=Z (U.tm x)
     have au:=v a
     clear u x v
     go_wp2
     go_ret
     exact⟨rfl,I⟩
end Go.Proofs.YtjlfcbccpcigeacGreatDoor
