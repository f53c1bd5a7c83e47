import Derived.Test.YtjoapiafpahihabGreatDepS
import Derived.Test.YtjoapiafpahihabGreatRef67
import Derived.Test.YtjoapiafpahihabGreatKernS
import Derived.Test.YtjoapiafpahihabGreatTarget
set_option maxHeartbeats 20000000
namespace Go.Proofs.YtjoapiafpahihabGreat
open Go.Proofs.Tryz
open Go.RowKit Go.Joins
set_option linter.unusedVariables false
variable {L:Lp} {t k i f:Nat} {w:World} {s:St}
def Vk (L:Lp) (t:Tg) (k i:Nat):List Ed:=(zbz L t k).take i
theorem zfz (L:Lp) (t:Tg) (k:Nat):Vk L t k 0=[]:=rfl
theorem zvz {t:Tg} (h:(zj (zc L.b k)).length<=i):Vk L t k i=zbz L t k:=by
 unfold Vk
 exact List.take_of_length_le (by unfold zbz;rw [List.length_map];exact h)
theorem zrx {t:Tg} (h:i<(zj (zc L.b k)).length):Vk L t k (i+1)=Vk L t k i++[⟨(zy (zj (zc L.b k)) i).1,k,(zy (zj (zc L.b k)) i).2,zO t (zc L.b (zy (zj (zc L.b k)) i).1.toNat).o⟩]:=by
 unfold Vk zbz
 rw [List.take_add_one,List.getElem?_map,List.getElem?_eq_getElem h]
 unfold zy
 rw [List.getD_eq_getElem?_getD,List.getElem?_eq_getElem h]
 rfl
theorem zw0 (L:Lp) (t:Tg) (k i:Nat):(Vk L t k i).length<=2:=by
 unfold Vk zbz zj
 rw [List.length_take,List.length_map]
 split
 ·exact Nat.le_trans (Nat.min_le_right _ _) (by simp)
 ·split
  ·exact Nat.le_trans (Nat.min_le_right _ _) (by simp)
  ·exact Nat.le_trans (Nat.min_le_right _ _) (by simp)
def Uq (s:St):Nat->Value:=fun j=>[iV s.xa,iV s.xb,iV s.ya,iV s.yb].getD j (.bool false)
theorem zho {g:Nat} {e:TypeId} (h:zu w g e 4 (Uq s)) (hi:i<(zj s).length) :
  w.cell? (ad g (i*2))=some (iV (zy (zj s) i).1)/\w.cell? (ad g (i*2+1))=some (iV (zy (zj s) i).2):=by
 unfold zj at hi ⊢
 split at hi
 ·rename_i h4
  rw [if_pos h4]
  have e0:i=0:=by have:i<1:=hi;omega
  subst e0
  exact⟨h.cell (i:=0) (by omega),h.cell (i:=1) (by omega)⟩
 ·rename_i h4
  rw [if_neg h4]
  split at hi
  ·rename_i h10
   rw [if_pos h10]
   have e0:i=0\/i=1:=by have:i<2:=hi;omega
   rcases e0 with rfl | rfl
   ·exact⟨h.cell (i:=0) (by omega),h.cell (i:=1) (by omega)⟩
   ·exact⟨h.cell (i:=2) (by omega),h.cell (i:=3) (by omega)⟩
  ·exact absurd hi (Nat.not_lt_zero _)
theorem V0 {m n k:Int} (h:yH m n k s=true):yM s.o=((zj s).length:Int)/\(zj s).length<=2:=by
 unfold yM zj
 by_cases h4:s.o=4
 ·rw [if_pos h4,if_pos h4];exact⟨rfl,by simp⟩
 ·rw [if_neg h4,if_neg h4]
  by_cases h10:10<s.o
  ·have h5:11<=s.o/\s.o<=18:=by
    unfold yH at h
    rw [if_neg (by omega),if_neg (by omega),if_neg (by omega),if_neg h4] at h
    split at h
    ·assumption
    ·exact Bool.noConfusion h
   rw [if_pos h10,if_pos (yf h5)];exact⟨rfl,by simp⟩
  ·rw [if_neg h10,if_neg (by rw [Yt (by omega)];exact Bool.false_ne_true)];exact⟨rfl,by simp⟩
theorem zde (w:World) (e:TypeId) (B:Nat) (hB:B<=w.heap.size):(w.alloc (.cells #[] e)).ownsRow B e 4 (.slice (pA w.heap.size) 0 0) 0 []:=by
 refine⟨rfl,.inr ⟨w.heap.size,0,#[],rfl,hB,?_,Nat.le_refl _,Nat.zero_le _,rfl,rfl⟩⟩
 show (w.heap.push _)[w.heap.size]?=_
 simp
theorem ziz (w:World) (a b c d:Value) (e:TypeId) (f:Nat->Value) (h0:f 0=a) (h1:f 1=b) (h2:f 2=c) (h3:f 3=d):zu (w.alloc (.cells #[a,b,c,d] e)) w.heap.size e 4 f :=
 zu.made w _ e 4 f (by simp) (fun i hi=>by
  have:i=0\/i=1\/i=2\/i=3:=by omega
  rcases this with rfl | rfl | rfl | rfl
  ·rw [h0];rfl
  ·rw [h1];rfl
  ·rw [h2];rfl
  ·rw [h3];rfl)
set_option maxRecDepth 100000 in
theorem zeo (p0 p1 p2 q0 q1 q2 r:Int) (L:Lp) (b off cap:Nat) (v0 v2:Value) (w:World) (hl1:L.b.length<=cap) (hm1:cap<=9223372036854775807) (hb:b<w.heap.size)
  (gQ:∀i,i<L.b.length->∀j,j<9->w.cell? (ad b (off+i*9+j))=(zP (zc L.b i))[j]?) (hm:zY L=true) (hn16:L.b.length<=16) :
  Calls prog 127 #[.agg #[v0,.slice (some (ad b off)) L.b.length cap,v2],(tv p0 p1 p2 q0 q1 q2 r)] w fun e w'=>∃ev,e=.returned ev/\w'.ownsRow (w.heap.size+1+1) 100 4 ev (ZS L ⟨p0,p1,p2,q0,q1,q2,r⟩ L.b.length).length (yw (ZS L ⟨p0,p1,p2,q0,q1,q2,r⟩ L.b.length))/\Bw w w':=by
 have HBODY:=z9 gQ
 have HM:=z9 hm
 have HWT:=z9 (fun op W=>Xn p0 p1 p2 q0 q1 q2 r op W)
 have HX0:Hid (((w.alloc (.cells #[v0,.slice (some (ad b off)) L.b.length cap,v2] 25)).alloc (.cells #[iV p0,iV p1,iV p2,iV q0,iV q1,iV q2,iV r] 28)).heap.size=w.heap.size+1+1):=by show _=_;simp
 have HST:=z9 (zde ((w.alloc (.cells #[v0,.slice (some (ad b off)) L.b.length cap,v2] 25)).alloc (.cells #[iV p0,iV p1,iV p2,iV q0,iV q1,iV q2,iV r] 28)) 100 (w.heap.size+1+1) (by rw [HX0.out];omega))
 rw [HX0.out] at HST
 clear gQ hm
 obtain⟨j0,ji,jz0,jz1,jz2⟩:=info_parts Tryz.i100
 go_enter func127,ntmps127
 go_wp2_with fail
 go_loopw [5,16] (fun ov iv wr=>∃k:Nat,k<=L.b.length/\iv=iV k/\∃oa oc,ov=.slice oa (ZS L ⟨p0,p1,p2,q0,q1,q2,r⟩ k).length oc/\wr.ownsRow (w.heap.size+1+1) 100 4 (.slice oa (ZS L ⟨p0,p1,p2,q0,q1,q2,r⟩ k).length oc) (ZS L ⟨p0,p1,p2,q0,q1,q2,r⟩ k).length (yw (ZS L ⟨p0,p1,p2,q0,q1,q2,r⟩ k))/\Below (w.heap.size+1+1) ((w.alloc (.cells #[v0,.slice (some (ad b off)) L.b.length cap,v2] 25)).alloc (.cells #[iV p0,iV p1,iV p2,iV q0,iV q1,iV q2,iV r] 28)) wr) (fun _ iv _=>L.b.length - (intOf iv).toNat)
 case atStart=>exact⟨0,Nat.zero_le _,rfl,_,_,rfl,HST.out,(Below.refl _ _).alloc (by rw [HX0.out];omega) _⟩
 case round =>
  obtain⟨k,hk,rfl,oa,oc,rfl,gJ,gH⟩:=hrel
  have HO:=z9 gJ
  have HB:=z9 gH
  obtain⟨⟨l0,l1,l2⟩,⟨t0,t1,t2,t3,t4,t5,t6⟩,z0,z1,hbw⟩:=Zb gH
  have HW:=z9 hbw
  clear gJ gH hbw
  by_cases hkl:k<L.b.length
  ·have hki:(k:Int)<(L.b.length:Int):=by omega
   have hbz:b<wr.heap.size:=by have:=HW.out.size;omega
   have hz2:w.heap.size+1+1<=wr.heap.size:=by have:=HB.out.size;rw [HX0.out] at this;exact this
   obtain⟨c0,c1,c2,c3,c4,c5,c6,c7,c8⟩:=V5 (fun j hj=>(zf HW.out b (off+k*9+j) hb).trans (HBODY.out k hkl j hj))
   obtain⟨hlk,hnl2⟩:=V0 (zo (zw HM.out).2.2.2.2.2.2 k hkl)
   have HUS:=z9 (fun (rf:Int × Int) (h:rf∈zj (zc L.b k))=>zhz HM.out hkl h)
   have HSK:Hid (∃sk,zc L.b k=sk):=⟨_,rfl⟩
   have HP:=z9 (fun i (h:i<(zj (zc L.b k)).length)=>zrx (L:=L) (t:=⟨p0,p1,p2,q0,q1,q2,r⟩) h)
   have HPA:=z9 (zvz (L:=L) (t:=⟨p0,p1,p2,q0,q1,q2,r⟩) (k:=k) (i:=(zj (zc L.b k)).length) (Nat.le_refl _))
   have HRW:=z9 (ziz (wr.alloc (.cells #[iV (zc L.b k).o,iV (zc L.b k).xa,iV (zc L.b k).xb,iV (zc L.b k).ya,iV (zc L.b k).yb,iV (zc L.b k).ar,iV (zc L.b k).sp,iV (zc L.b k).pl,iV (zc L.b k).nn] 41)) (iV (zc L.b k).xa) (iV (zc L.b k).xb) (iV (zc L.b k).ya) (iV (zc L.b k).yb) 39 (Uq (zc L.b k)) rfl rfl rfl rfl)
   have ez:(wr.alloc (.cells #[iV (zc L.b k).o,iV (zc L.b k).xa,iV (zc L.b k).xb,iV (zc L.b k).ya,iV (zc L.b k).yb,iV (zc L.b k).ar,iV (zc L.b k).sp,iV (zc L.b k).pl,iV (zc L.b k).nn] 41)).heap.size=wr.heap.size+1:=by simp
   rw [ez] at HRW
   generalize hxk:zc L.b k=xk at *
   have HXK:=z9 hxk
   clear hxk HSK ez
   obtain⟨o,xa,xb,ya,yb,ar,sp,pl,nn⟩:=xk
   generalize hus:zj ⟨o,xa,xb,ya,yb,ar,sp,pl,nn⟩=us at *
   have HUSQ:=z9 hus
   clear hus
   simp only at c0 c1 c2 c3 c4 c5 c6 c7 c8 HRW hlk
   go_wp2_with (go_at_call 99;refine (Z3 _ _).mono ?_;rintro e w' ⟨rfl,rfl⟩)
   clear l0 l1 l2 t0 t1 t2 t3 t4 t5 t6 z0 z1 c0 c1 c2 c3 c4 c5 c6 c7 c8
   rename World=>wo
   go_loopw [5,32] (fun ov iv wr=>∃i:Nat,i<=us.length/\iv=iV i/\(zu wr (wo.heap.size+1) 39 4 (Uq ⟨o,xa,xb,ya,yb,ar,sp,pl,nn⟩))/\∃oa oc,ov=.slice oa (ZJ (ZS L ⟨p0,p1,p2,q0,q1,q2,r⟩ k) (Vk L ⟨p0,p1,p2,q0,q1,q2,r⟩ k i)).length oc/\wr.ownsRow (w.heap.size+1+1) 100 4 (.slice oa (ZJ (ZS L ⟨p0,p1,p2,q0,q1,q2,r⟩ k) (Vk L ⟨p0,p1,p2,q0,q1,q2,r⟩ k i)).length oc) (ZJ (ZS L ⟨p0,p1,p2,q0,q1,q2,r⟩ k) (Vk L ⟨p0,p1,p2,q0,q1,q2,r⟩ k i)).length (yw (ZJ (ZS L ⟨p0,p1,p2,q0,q1,q2,r⟩ k) (Vk L ⟨p0,p1,p2,q0,q1,q2,r⟩ k i)))/\Below (w.heap.size+1+1) ((w.alloc (.cells #[v0,.slice (some (ad b off)) L.b.length cap,v2] 25)).alloc (.cells #[iV p0,iV p1,iV p2,iV q0,iV q1,iV q2,iV r] 28)) wr) (fun _ iv _=>us.length - (intOf iv).toNat)
   case atStart=>exact⟨0,Nat.zero_le _,rfl,HRW.out,oa,oc,by rw [zfz,UR],by rw [zfz,UR];exact zA HO.out (below_alloc2 _ _ _),HB.out.trans ((below_alloc2 wo _ _).mono hz2)⟩
   case round =>
    clear HO HB HW HRW
    obtain⟨i,hi,rfl,gI,oa,oc,rfl,gJ,gH⟩:=hrel
    have HO:=z9 gJ
    have HB:=z9 gH
    have HR:=z9 gI
    obtain⟨⟨l0,l1,l2⟩,⟨t0,t1,t2,t3,t4,t5,t6⟩,z0,z1,hbw⟩:=Zb gH
    have HW:=z9 hbw
    have hzq:w.heap.size+1+1<=wr.heap.size:=by have:=gH.size;rw [HX0.out] at this;exact this
    have hGz:wo.heap.size+1<wr.heap.size:=gI.lt
    by_cases hil:i<us.length
    ·have hii:(i:Int)<(us.length:Int):=by omega
     have hi1:i<=1:=by omega
     have hrf:=HUS.out (zy us i) (by
      unfold zy
      rw [List.getD_eq_getElem?_getD,List.getElem?_eq_getElem hil]
      exact List.getElem_mem hil)
     have hcc:=zho gI (i:=i) (by rw [HUSQ.out];exact hil)
     rw [HUSQ.out] at hcc
     obtain⟨f0,f1⟩:=hcc
     have HPS:=z9 (HP.out i hil)
     clear gJ gH hbw gI
     generalize zy us i=rf at *
     obtain⟨ra,rb⟩:=rf
     obtain⟨u1,u2,u3,u4⟩:=hrf
     simp only at f0 f1 u1 u2 u3 u4
     obtain⟨rn,rfl⟩:=Int.eq_ofNat_of_zero_le u1
     have hrl:rn<L.b.length:=by omega
     have hrli:(rn:Int)<(L.b.length:Int):=by omega
     have hro:=((zf HW.out b (off+rn*9) hb).trans ((V5 (fun j hj=>HBODY.out rn hrl j hj)).1))
     have hbq:b<wr.heap.size:=by have:=HW.out.size;omega
     rw [show (((rn:Nat):Int),rb).1.toNat=rn from Int.toNat_natCast _] at HPS
     simp only at HPS
     generalize (zc L.b rn).o=ro at *
     have HSS:Hid (∀w':World,Below (wr.heap.size+1) (wr.alloc (.cells #[iV (rn:Int),iV rb] 39)) w'->w'.cell? (ad (w.heap.size+1) 0)=sI p0/\w'.cell? (ad (w.heap.size+1) 1)=sI p1/\w'.cell? (ad (w.heap.size+1) 2)=sI p2/\w'.cell? (ad (w.heap.size+1) 3)=sI q0/\w'.cell? (ad (w.heap.size+1) 4)=sI q1/\w'.cell? (ad (w.heap.size+1) 5)=sI q2/\w'.cell? (ad (w.heap.size+1) 6)=sI r/\w'.cell? (ad w.heap.size 1)=some (.slice (some (ad b off)) L.b.length cap)/\w'.cell? (ad wr.heap.size 0)=sI (rn:Int)/\w'.cell? (ad wr.heap.size 1)=sI rb/\w'.cell? (ad b (off+rn*9))=sI ro):=by
      intro w' h
      have e1:(wr.alloc (.cells #[iV (rn:Int),iV rb] 39)).heap.size=wr.heap.size+1:=by simp
      have h':Below (wr.alloc (.cells #[iV (rn:Int),iV rb] 39)).heap.size (wr.alloc (.cells #[iV (rn:Int),iV rb] 39)) w':=by rw [e1];exact h
      have hz:∀g o,g<wr.heap.size->w'.cell? (ad g o)=wr.cell? (ad g o):=fun g o hg=>by rw [zf h' _ _ (by omega),zf (below_alloc1 wr _) _ _ hg]
      rw [hz _ _ z1,hz _ _ z1,hz _ _ z1,hz _ _ z1,hz _ _ z1,hz _ _ z1,hz _ _ z1,hz _ _ z0,hz _ _ hbq]
      refine⟨t0,t1,t2,t3,t4,t5,t6,l1,?_,?_,hro⟩
      ·rw [zf h' _ _ (by omega)];go_simp
      ·rw [zf h' _ _ (by omega)];go_simp
     go_wp2_with fail
     clear l0 l1 l2 t0 t1 t2 t3 t4 t5 t6 f0 f1
     refine wp_region_noPanic ?_
     refine zm 99 (fun w'=>w'.cell? (ad (w.heap.size+1) 0)=sI p0/\w'.cell? (ad (w.heap.size+1) 1)=sI p1/\w'.cell? (ad (w.heap.size+1) 2)=sI p2/\w'.cell? (ad (w.heap.size+1) 3)=sI q0/\w'.cell? (ad (w.heap.size+1) 4)=sI q1/\w'.cell? (ad (w.heap.size+1) 5)=sI q2/\w'.cell? (ad (w.heap.size+1) 6)=sI r/\w'.cell? (ad w.heap.size 1)=some (.slice (some (ad b off)) L.b.length cap)/\w'.cell? (ad wr.heap.size 0)=sI (rn:Int)/\w'.cell? (ad wr.heap.size 1)=sI rb/\w'.cell? (ad b (off+rn*9))=sI ro) (by kernel_rfl) (HSS.out _ (zU _ _)) (fun h9=>?_)
     refine uk 0 h9 ?_
     refine uk 1 h9 ?_
     refine uk 2 h9 ?_
     refine uk 3 h9 ?_
     refine uk 4 h9 ?_
     refine uk 5 h9 ?_
     refine uk 6 h9 ?_
     refine uk 7 h9 ?_
     refine ze (i:=8) rfl (by kernel_rfl) (fun K hK9=>?_)
     go_simp
     refine (HWT.out _ _).mono ?_
     rintro e x2 ⟨rfl,hb9⟩
     have HB9:Hid (Below (wr.heap.size+1) (wr.alloc (.cells #[iV (rn:Int),iV rb] 39)) x2):=by
      have e1:(wr.alloc (.cells #[iV (rn:Int),iV rb] 39)).heap.size=wr.heap.size+1:=by simp
      exact (zU _ _).trans (hb9.mono (by show _<=(wr.alloc (.cells #[iV (rn:Int),iV rb] 39)).heap.size;omega))
     have h9:=HSS.out _ HB9.out
     refine nxt hK9.out (.inr h9) ?_
     clear hK9 K hb9
     refine uk 9 h9 ?_
     refine zq (by kernel_rfl) ?_ _
     refine NoPanic.normal ?_
     obtain⟨-,-,-,-,-,-,-,-,g0,g1,-⟩:=h9
     have HXB:Hid (Bw wr x2):=(below_alloc1 wr _).trans (HB9.out.mono (by omega))
     have hx2z:wr.heap.size<x2.heap.size:=by have:=HB9.out.size;simp at this;omega
     have HOX:=z9 (zA HO.out HXB.out)
     have HBX:=z9 (HB.out.trans (HXB.out.mono hzq))
     have HRX:=z9 ((HR.out.gE HXB.out hGz).alloc (.cells #[iV (rn:Int),iV (k:Int),iV rb,iV (zO ⟨p0,p1,p2,q0,q1,q2,r⟩ ro)] 100))
     have HLEN:Hid ((ZJ (ZS L ⟨p0,p1,p2,q0,q1,q2,r⟩ k) (Vk L ⟨p0,p1,p2,q0,q1,q2,r⟩ k i)).length<=34):=by
      show (ZJ _ _).length<=34
      have e1:=zjy L ⟨p0,p1,p2,q0,q1,q2,r⟩ k
      have e2:=zw0 L ⟨p0,p1,p2,q0,q1,q2,r⟩ k i
      rw [zib];omega
     generalize hwt:zO ⟨p0,p1,p2,q0,q1,q2,r⟩ ro=wt at *
     clear hwt HSS
     go_wp2_with (at_builtin;refine wpList_append_own _ rfl (.tmp 45) (.tmp 53) 97 rfl (w.heap.size+1+1) 100 j0 (.agg #[iV 0,iV 0,iV 0,iV 0]) 4 32 underlying97 ji jz0 jz1 jz2 rfl (by decide) _ _ _ rfl (zA HOX.out (below_alloc1 _ _)) (ad x2.heap.size 0) 1 1 (zX ⟨rn,k,rb,wt⟩) rfl rfl (by exact zd3 _ _ _ _ _ _) (by intro u hu;unfold zX at hu;simp at hu;rcases hu with rfl | rfl | rfl | rfl <;> rfl) (by unfold maxLen;have:=HLEN.out;omega) (by have:=HLEN.out;omega) (by simp;omega) ?_;intro v2' w2 gP gN hnil2;obtain⟨oa2,oc2,rfl,hl1',hl2'⟩:=zS gP;have HO2:=z9 gP;have HG2:=z9 gN;clear gP gN)
     go_roundw
     case rel =>
      have e1:ZJ (ZS L ⟨p0,p1,p2,q0,q1,q2,r⟩ k) (Vk L ⟨p0,p1,p2,q0,q1,q2,r⟩ k i)++[⟨rn,k,rb,wt⟩]=ZJ (ZS L ⟨p0,p1,p2,q0,q1,q2,r⟩ k) (Vk L ⟨p0,p1,p2,q0,q1,q2,r⟩ k (i+1)):=by rw [HPS.out];unfold ZJ;rw [List.append_assoc]
      have e2:(ZJ (ZS L ⟨p0,p1,p2,q0,q1,q2,r⟩ k) (Vk L ⟨p0,p1,p2,q0,q1,q2,r⟩ k i)).length+1=(ZJ (ZS L ⟨p0,p1,p2,q0,q1,q2,r⟩ k) (Vk L ⟨p0,p1,p2,q0,q1,q2,r⟩ k (i+1))).length:=by rw [<-e1,List.length_append];rfl
      have h2:=HO2.out
      rw [zd0,e1,e2] at h2
      exact⟨i+1,by omega,by go_num,HRX.out.grown HG2.out (V7 (zA HOX.out (below_alloc1 _ _)) HRX.out (by decide)),oa2,oc2,by rw [e2],h2,(HBX.out.alloc (by omega) _).grown HG2.out (by simp;omega) (zG HO.out)⟩
     case measure=>simp [intOf];omega
    ·have e:i=us.length:=by omega
     have hii:¬(i:Int)<(us.length:Int):=by omega
     have e1:ZJ (ZS L ⟨p0,p1,p2,q0,q1,q2,r⟩ k) (Vk L ⟨p0,p1,p2,q0,q1,q2,r⟩ k i)=ZS L ⟨p0,p1,p2,q0,q1,q2,r⟩ (k+1):=by rw [e,HPA.out];rfl
     have HE:=z9 e1
     clear e1 e gJ gH hbw gI l0 l1 l2 t0 t1 t2 t3 t4 t5 t6 z0 z1
     go_wp2_with fail
     go_roundw
     case rel=>exact⟨k+1,by omega,by go_num,oa,oc,by rw [HE.out],by have h:=HO.out;rw [HE.out] at h;exact h,HB.out⟩
     case measure=>simp [intOf];omega
  ·have e:k=L.b.length:=by omega
   have hki:¬(k:Int)<(L.b.length:Int):=by omega
   have HE:=z9 e
   clear e
   go_wp2_with fail
   go_ret
   exact⟨_,rfl,by have h:=HO.out;rw [HE.out] at h ⊢;exact h,HW.out⟩
theorem za6 {wr:World} {v0 v1 v2:Value} {ta:TypeId} (h:Below (w.heap.size+1) (w.alloc (.cells #[v0,v1,v2] ta)) wr) :
  (wr.cell? (ad w.heap.size 0)=some v0/\wr.cell? (ad w.heap.size 1)=some v1/\wr.cell? (ad w.heap.size 2)=some v2)/\w.heap.size<wr.heap.size/\Bw w wr:=by
 have hs:(w.alloc (.cells #[v0,v1,v2] ta)).heap.size=w.heap.size+1:=by simp
 have hz:=h.size
 have h':Below (w.alloc (.cells #[v0,v1,v2] ta)).heap.size (w.alloc (.cells #[v0,v1,v2] ta)) wr:=by rw [hs];exact h
 refine⟨⟨?_,?_,?_⟩,by omega,(below_alloc1 w _).trans (h.mono (by omega))⟩
 all_goals rw [zf h' _ _ (by omega)]
 all_goals go_simp
theorem zqm (L:Lp) (a0:Option Addr) (gA b off cap:Nat) (v2:Value) (fr to:Nat) (w:World) (hl0:L.l.length<=gA) (hm0:gA<=9223372036854775807) (hl1:L.b.length<=cap) (hm1:cap<=9223372036854775807) (hb:b<w.heap.size)
  (gQ:∀i,i<L.b.length->∀j,j<9->w.cell? (ad b (off+i*9+j))=(zP (zc L.b i))[j]?) (hlogs:zK w (.slice a0 L.l.length gA) L.l) (hm:zY L=true) (hfr:fr<L.b.length) (hto:to<L.b.length) (hmem:Xd (zc L.b fr) (zc L.b to)=true) :
  Calls prog 161 #[.agg #[.slice a0 L.l.length gA,.slice (some (ad b off)) L.b.length cap,v2],iV fr,iV to] w (Rt w (.tuple #[iV (lbV (lbD (zc L.b fr) (zc L.b to) (Z4 fr to) (xY L (zc L.b fr)))),.bool (lbB (lbD (zc L.b fr) (zc L.b to) (Z4 fr to) (xY L (zc L.b fr))))])):=by
 obtain⟨m1,m2,m3,m4,m5,m6,m7⟩:=zw hm
 obtain⟨hw1,hw2⟩:=zmh hmem
 obtain⟨⟨r1,r2⟩,⟨s1,s2⟩,⟨t1,t2⟩⟩:=zef (zo m7 fr hfr) hw1
 obtain⟨-,⟨u1,u2⟩,⟨v1,v3⟩⟩:=zef (zo m7 to hto) hw2
 obtain⟨i,lg,e1,e2,e3,e4,e5,e6,e7⟩:=zwa m5 r1 r2
 obtain⟨a,c,hv,h1,h2,h3,h4⟩:=hlogs
 injection hv with q1 q2 q3
 subst q1;subst q3
 obtain⟨lb,loff,rfl,hlb,hlc⟩:=h4 (by omega)
 have hA:=gQ fr hfr
 have hB:=gQ to hto
 have hcl:=hlc i e2
 rw [e3] at hcl
 have e8:2 ^ lg=xY L (zc L.b fr):=by unfold p2 at e5;exact Int.ofNat.inj e5
 clear gQ hlc h3 h4 m5 m6 m7 hmem hw1 hw2 e5 hm
 generalize hZ:xY L (zc L.b fr)=SZ at *
 generalize zc L.b to=B at *
 generalize zc L.b fr=A at *
 obtain⟨o1,xa1,xb1,ya1,yb1,ar1,sp1,pl1,nn1⟩:=A
 obtain⟨o2,xa2,xb2,ya2,yb2,ar2,sp2,pl2,nn2⟩:=B
 simp only at e1 s1 s2 t1 t2 u1 u2 v1 v3
 subst e1
 exact zm5 v2 v2 fr to i lg L.b.length o1 xa1 xb1 ya1 yb1 sp1 pl1 nn1 o2 xa2 xb2 ya2 yb2 ar2 sp2 pl2 nn2 lb loff gA b off cap SZ (Z4 fr to) L.l.length w hfr hto m3 hl1 hm1 e2 hl0 hm0 hb hlb hA hB hcl e4 e8 e7 rfl s1 s2 t1 t2 u1 u2 v1 v3
theorem zsz (h:Xd (zc L.b f) (zc L.b t)=false):yV L f (t+1)=yV L f t:=by
 show yV L f t++Xa L f t=_
 unfold Xa
 rw [if_neg (by rw [h];exact Bool.false_ne_true),List.append_nil]
theorem zl0 (h:lbD (zc L.b f) (zc L.b t) (Z4 f t) (xY L (zc L.b f))=none):yV L f (t+1)=yV L f t:=by
 show yV L f t++Xa L f t=_
 unfold Xa
 rw [h]
 split <;> rw [List.append_nil]
theorem zl1 (hm:Xd (zc L.b f) (zc L.b t)=true) (h:lbD (zc L.b f) (zc L.b t) (Z4 f t) (xY L (zc L.b f))=some k):yV L f (t+1)=yV L f t++[⟨f,t,k,Zn (zc L.b f)⟩]:=by
 show yV L f t++Xa L f t=_
 unfold Xa
 rw [if_pos hm,h]
set_option maxRecDepth 100000 in
theorem zec (L:Lp) (a0:Option Addr) (gA b off cap:Nat) (v2:Value) (w:World) (hl0:L.l.length<=gA) (hm0:gA<=9223372036854775807) (hl1:L.b.length<=cap) (hm1:cap<=9223372036854775807) (hb:b<w.heap.size)
  (gQ:∀i,i<L.b.length->∀j,j<9->w.cell? (ad b (off+i*9+j))=(zP (zc L.b i))[j]?) (hlogs:zK w (.slice a0 L.l.length gA) L.l) (hm:zY L=true) (hn16:L.b.length<=16) :
  Calls prog 128 #[.agg #[.slice a0 L.l.length gA,.slice (some (ad b off)) L.b.length cap,v2]] w fun e w'=>∃ev,e=.returned ev/\w'.ownsRow (w.heap.size+1) 100 4 ev (xy L L.b.length).length (yw (xy L L.b.length))/\Bw w w':=by
 have HBODY:=z9 gQ
 have HLOGS:=z9 hlogs
 have HM:=z9 hm
 have HX0:Hid ((w.alloc (.cells #[.slice a0 L.l.length gA,.slice (some (ad b off)) L.b.length cap,v2] 25)).heap.size=w.heap.size+1):=by show _=_;simp
 have HST:=z9 (zde (w.alloc (.cells #[.slice a0 L.l.length gA,.slice (some (ad b off)) L.b.length cap,v2] 25)) 100 (w.heap.size+1) (by rw [HX0.out];omega))
 rw [HX0.out] at HST
 have HLEAST:=z9 (fun f t W (hW:Bw w W) (h1:f<L.b.length) (h2:t<L.b.length) (h3:Xd (zc L.b f) (zc L.b t)=true)=>zqm L a0 gA b off cap v2 f t W hl0 hm0 hl1 hm1 (by have:=hW.size;omega) (fun i hi j hj=>by rw [zf hW _ _ hb];exact HBODY.out i hi j hj) (HLOGS.out.gE hW) HM.out h1 h2 h3)
 clear gQ hlogs hm
 obtain⟨j0,ji,jz0,jz1,jz2⟩:=info_parts Tryz.i100
 go_enter func128,ntmps128
 go_wp2_with fail
 go_loopw [3,12] (fun ov iv wr=>∃f:Nat,f<=L.b.length/\iv=iV f/\∃oa oc,ov=.slice oa (xy L f).length oc/\wr.ownsRow (w.heap.size+1) 100 4 (.slice oa (xy L f).length oc) (xy L f).length (yw (xy L f))/\Below (w.heap.size+1) (w.alloc (.cells #[.slice a0 L.l.length gA,.slice (some (ad b off)) L.b.length cap,v2] 25)) wr) (fun _ iv _=>L.b.length - (intOf iv).toNat)
 case atStart=>exact⟨0,Nat.zero_le _,rfl,_,_,rfl,HST.out,(Below.refl _ _).alloc (by rw [HX0.out];omega) _⟩
 case round =>
  obtain⟨f,hf,rfl,oa,oc,rfl,gJ,gH⟩:=hrel
  have HO:=z9 gJ
  have HB:=z9 gH
  obtain⟨⟨l0,l1,l2⟩,z0,hbw⟩:=za6 gH
  have HW:=z9 hbw
  clear gJ gH hbw
  by_cases hfl:f<L.b.length
  ·have hfi:(f:Int)<(L.b.length:Int):=by omega
   go_wp2_with fail
   clear l0 l1 l2 z0
   rename World=>wo
   go_loopw [3,18] (fun ov iv wr=>∃t:Nat,t<=L.b.length/\iv=iV t/\∃oa oc,ov=.slice oa (ZJ (xy L f) (yV L f t)).length oc/\wr.ownsRow (w.heap.size+1) 100 4 (.slice oa (ZJ (xy L f) (yV L f t)).length oc) (ZJ (xy L f) (yV L f t)).length (yw (ZJ (xy L f) (yV L f t)))/\Below (w.heap.size+1) (w.alloc (.cells #[.slice a0 L.l.length gA,.slice (some (ad b off)) L.b.length cap,v2] 25)) wr) (fun _ iv _=>L.b.length - (intOf iv).toNat)
   case atStart=>exact⟨0,Nat.zero_le _,rfl,oa,oc,by show _=Value.slice oa (ZJ (xy L f) []).length oc;rw [UR],by show wo.ownsRow _ _ _ (.slice oa (ZJ (xy L f) []).length oc) (ZJ (xy L f) []).length (yw (ZJ (xy L f) []));rw [UR];exact HO.out,HB.out⟩
   case round =>
    clear HO HB HW
    obtain⟨t,ht,rfl,oa,oc,rfl,gJ,gH⟩:=hrel
    have HO:=z9 gJ
    have HB:=z9 gH
    obtain⟨⟨l0,l1,l2⟩,z0,hbw⟩:=za6 gH
    have HW:=z9 hbw
    have hzq:w.heap.size+1<=wr.heap.size:=by have:=gH.size;rw [HX0.out] at this;exact this
    clear gJ gH hbw
    by_cases htl:t<L.b.length
    ·have hti:(t:Int)<(L.b.length:Int):=by omega
     have hbz:b<wr.heap.size:=by have:=HW.out.size;omega
     have HS2:=z9 (And.intro (V5 (fun j hj=>(zf HW.out b (off+f*9+j) hb).trans (HBODY.out f hfl j hj))) (V5 (fun j hj=>(zf HW.out b (off+t*9+j) hb).trans (HBODY.out t htl j hj))))
     have HLS:=z9 (fun W hW h3=>HLEAST.out f t W hW hfl htl h3)
     have HNO:=z9 (fun h=>zsz (L:=L) (f:=f) (t:=t) h)
     have HNN:=z9 (fun h=>zl0 (L:=L) (f:=f) (t:=t) h)
     have HSM:=z9 (fun k hm h=>zl1 (L:=L) (f:=f) (t:=t) (k:=k) hm h)
     have HLE:=z9 (fun k (h:lbD (zc L.b f) (zc L.b t) (Z4 f t) (xY L (zc L.b f))=some k)=>Nat.le_trans (yb8 h) (zow HM.out hfl))
     generalize lbD (zc L.b f) (zc L.b t) (Z4 f t) (xY L (zc L.b f))=lbo at *
     generalize zc L.b t=tt at *
     generalize zc L.b f=ff at *
     obtain⟨o1,xa1,xb1,ya1,yb1,ar1,sp1,pl1,nn1⟩:=ff
     obtain⟨o2,xa2,xb2,ya2,yb2,ar2,sp2,pl2,nn2⟩:=tt
     have HSH:=z9 (fun W=>zn4 o1 xa1 xb1 ya1 yb1 ar1 sp1 pl1 nn1 o2 xa2 xb2 ya2 yb2 ar2 sp2 pl2 nn2 W)
     have HWW:=z9 (fun W=>zet o1 xa1 xb1 ya1 yb1 ar1 sp1 pl1 nn1 W)
     generalize Xd ⟨o1,xa1,xb1,ya1,yb1,ar1,sp1,pl1,nn1⟩ ⟨o2,xa2,xb2,ya2,yb2,ar2,sp2,pl2,nn2⟩=mb at *
     generalize Zn ⟨o1,xa1,xb1,ya1,yb1,ar1,sp1,pl1,nn1⟩=wt at *
     have HSS:Hid (∀w':World,Bw wr w'->w'.cell? (ad w.heap.size 1)=some (.slice (some (ad b off)) L.b.length cap)/\(w'.cell? (ad b (off+f*9))=sI o1/\w'.cell? (ad b (off+f*9+1))=sI xa1/\w'.cell? (ad b (off+f*9+2))=sI xb1/\w'.cell? (ad b (off+f*9+3))=sI ya1/\w'.cell? (ad b (off+f*9+4))=sI yb1/\w'.cell? (ad b (off+f*9+5))=sI ar1/\w'.cell? (ad b (off+f*9+6))=sI sp1/\w'.cell? (ad b (off+f*9+7))=sI pl1/\w'.cell? (ad b (off+f*9+8))=sI nn1)/\(w'.cell? (ad b (off+t*9))=sI o2/\w'.cell? (ad b (off+t*9+1))=sI xa2/\w'.cell? (ad b (off+t*9+2))=sI xb2/\w'.cell? (ad b (off+t*9+3))=sI ya2/\w'.cell? (ad b (off+t*9+4))=sI yb2/\w'.cell? (ad b (off+t*9+5))=sI ar2/\w'.cell? (ad b (off+t*9+6))=sI sp2/\w'.cell? (ad b (off+t*9+7))=sI pl2/\w'.cell? (ad b (off+t*9+8))=sI nn2)):=by
      intro w' h
      have hz:∀g o,g<wr.heap.size->w'.cell? (ad g o)=wr.cell? (ad g o):=fun g o hg=>zf h g o hg
      simp only [hz _ _ hbz,hz _ _ z0]
      exact⟨l1,HS2.out.1,HS2.out.2⟩
     go_wp2_with fail
     clear l0 l1 l2
     refine wp_region_noPanic ?_
     refine zm 99 (fun w'=>w'.cell? (ad w.heap.size 1)=some (.slice (some (ad b off)) L.b.length cap)/\(w'.cell? (ad b (off+f*9))=sI o1/\w'.cell? (ad b (off+f*9+1))=sI xa1/\w'.cell? (ad b (off+f*9+2))=sI xb1/\w'.cell? (ad b (off+f*9+3))=sI ya1/\w'.cell? (ad b (off+f*9+4))=sI yb1/\w'.cell? (ad b (off+f*9+5))=sI ar1/\w'.cell? (ad b (off+f*9+6))=sI sp1/\w'.cell? (ad b (off+f*9+7))=sI pl1/\w'.cell? (ad b (off+f*9+8))=sI nn1)/\(w'.cell? (ad b (off+t*9))=sI o2/\w'.cell? (ad b (off+t*9+1))=sI xa2/\w'.cell? (ad b (off+t*9+2))=sI xb2/\w'.cell? (ad b (off+t*9+3))=sI ya2/\w'.cell? (ad b (off+t*9+4))=sI yb2/\w'.cell? (ad b (off+t*9+5))=sI ar2/\w'.cell? (ad b (off+t*9+6))=sI sp2/\w'.cell? (ad b (off+t*9+7))=sI pl2/\w'.cell? (ad b (off+t*9+8))=sI nn2)) (by kernel_rfl) (HSS.out _ (zU _ _)) (fun h9=>?_)
     refine uk 0 h9 ?_
     refine uk 1 h9 ?_
     refine uk 2 h9 ?_
     refine uk 3 h9 ?_
     refine uk 4 h9 ?_
     refine uk 5 h9 ?_
     refine uk 6 h9 ?_
     refine uk 7 h9 ?_
     refine uk 8 h9 ?_
     refine uk 9 h9 ?_
     refine ze (i:=10) rfl (by kernel_rfl) (fun K hK9=>?_)
     go_simp
     refine (HSH.out _).mono ?_
     rintro e x2 ⟨rfl,hb9⟩
     have HB9:Hid (Bw wr x2):=(zU _ _).trans hb9
     have h9:=HSS.out _ HB9.out
     refine nxt hK9.out (.inr h9) ?_
     clear hK9 K hb9
     refine uk 11 h9 ?_
     refine zq (by kernel_rfl) ?_ _
     refine NoPanic.normal ?_
     clear h9
     have HOX:=z9 (zA HO.out HB9.out)
     have HBX:=z9 (HB.out.trans (HB9.out.mono hzq))
     cases mb with
     | false =>
       have e1:=HNO.out rfl
       have HE:=z9 e1
       clear e1
       go_wp2_with fail
       go_roundw
       case rel=>exact⟨t+1,by omega,by go_num,oa,oc,by rw [HE.out],by rw [HE.out];exact HOX.out,HBX.out⟩
       case measure=>simp [intOf];omega
     | true =>
       clear z0
       obtain⟨⟨l0,l1,l2⟩,z0,hbw⟩:=za6 HBX.out
       have HWX:=z9 hbw
       have HLC:=z9 (HLS.out x2 hbw rfl)
       clear hbw
       cases lbo with
       | none =>
         have e1:=HNN.out rfl
         have HE:=z9 e1
         clear e1
         go_wp2_with fail
         refine HLC.out.mono ?_
         rintro e x3 ⟨he3,hb3⟩
         have he4:e=.returned (.tuple #[iV 0,.bool false]):=he3
         subst he4
         clear he3
         have HOY:=z9 (zA HOX.out hb3)
         have HBY:=z9 (HBX.out.trans (hb3.mono (by have:=HB9.out.size;omega)))
         clear hb3 l0 l1 l2 z0
         go_wp2_with fail
         go_roundw
         case rel=>exact⟨t+1,by omega,by go_num,oa,oc,by rw [HE.out],by rw [HE.out];exact HOY.out,HBY.out⟩
         case measure=>simp [intOf];omega
       | some k =>
         have HE:=z9 (HSM.out k rfl rfl)
         have hk32:=HLE.out k rfl
         go_wp2_with fail
         refine HLC.out.mono ?_
         rintro e x3 ⟨he3,hb3⟩
         have he4:e=.returned (.tuple #[iV k,.bool true]):=he3
         subst he4
         clear he3
         have HOY:=z9 (zA HOX.out hb3)
         have HBY:=z9 (HBX.out.trans (hb3.mono (by have:=HB9.out.size;omega)))
         have HB3:Hid (Bw wr x3):=HB9.out.trans (hb3.mono HB9.out.size)
         clear hb3 l0 l1 l2 z0
         obtain⟨⟨l0,l1,l2⟩,z0,hbw⟩:=za6 HBY.out
         obtain⟨-,⟨c0,c1,c2,c3,c4,c5,c6,c7,c8⟩,-⟩:=HSS.out _ HB3.out
         have hbz3:b<x3.heap.size:=by have:=HB3.out.size;omega
         have hzy:w.heap.size+1<=x3.heap.size:=by have:=HB3.out.size;omega
         have HOA:=z9 (zA HOY.out (below_alloc1 x3 (.cells #[iV o1,iV xa1,iV xb1,iV ya1,iV yb1,iV ar1,iV sp1,iV pl1,iV nn1] 41)))
         have HBA:=z9 (HBY.out.alloc hzy (.cells #[iV o1,iV xa1,iV xb1,iV ya1,iV yb1,iV ar1,iV sp1,iV pl1,iV nn1] 41))
         have HLEN:Hid ((ZJ (xy L f) (yV L f t)).length<=300):=by
          show (ZJ _ _).length<=300
          have e1:=zgn L f hn16
          have e2:=zee L f t
          rw [zib];omega
         clear hbw
         go_wp2_with fail
         refine (HWW.out _).mono ?_
         rintro e x4 ⟨rfl,rfl⟩
         have hx4:(x3.alloc (.cells #[iV o1,iV xa1,iV xb1,iV ya1,iV yb1,iV ar1,iV sp1,iV pl1,iV nn1] 41)).heap.size=x3.heap.size+1:=by simp
         have HX4:=z9 hx4
         have HF4:=z9 (zd3 (x3.alloc (.cells #[iV o1,iV xa1,iV xb1,iV ya1,iV yb1,iV ar1,iV sp1,iV pl1,iV nn1] 41)) (iV (f:Int)) (iV (t:Int)) (iV (k:Int)) (iV wt) 100)
         rw [hx4] at HF4
         clear hx4
         go_wp2_with (at_builtin;refine wpList_append_own _ rfl (.tmp 41) (.tmp 52) 97 rfl (w.heap.size+1) 100 j0 (.agg #[iV 0,iV 0,iV 0,iV 0]) 4 32 underlying97 ji jz0 jz1 jz2 rfl (by decide) _ _ _ rfl (zA HOA.out (below_alloc1 _ _)) (ad (x3.heap.size+1) 0) 1 1 (zX ⟨f,t,k,wt⟩) rfl rfl (by exact HF4.out) (by intro u hu;unfold zX at hu;simp at hu;rcases hu with rfl | rfl | rfl | rfl <;> rfl) (by unfold maxLen;have:=HLEN.out;omega) (by have:=HLEN.out;omega) (by simp;omega) ?_;intro v2' w2 gP gN hnil2;obtain⟨oa2,oc2,rfl,hl1',hl2'⟩:=zS gP;have HO2:=z9 gP;have HG2:=z9 gN;clear gP gN)
         go_roundw
         case rel =>
          have e1:ZJ (xy L f) (yV L f t)++[⟨f,t,k,wt⟩]=ZJ (xy L f) (yV L f (t+1)):=by rw [HE.out];unfold ZJ;rw [List.append_assoc]
          have e2:(ZJ (xy L f) (yV L f t)).length+1=(ZJ (xy L f) (yV L f (t+1))).length:=by rw [<-e1,List.length_append];rfl
          have h2:=HO2.out
          rw [zd0,e1,e2] at h2
          exact⟨t+1,by omega,by go_num,oa2,oc2,by rw [e2],h2,(HBA.out.alloc (by rw [HX4.out];omega) _).grown HG2.out (by simp;omega) (zG HO.out)⟩
         case measure=>simp [intOf];omega
    ·have e:t=L.b.length:=by omega
     have hti:¬(t:Int)<(L.b.length:Int):=by omega
     have e1:ZJ (xy L f) (yV L f t)=xy L (f+1):=by rw [e];rfl
     have HE:=z9 e1
     clear e1 e l0 l1 l2 z0
     go_wp2_with fail
     go_roundw
     case rel=>exact⟨f+1,by omega,by go_num,oa,oc,by rw [HE.out],by have h:=HO.out;rw [HE.out] at h;exact h,HB.out⟩
     case measure=>simp [intOf];omega
  ·have e:f=L.b.length:=by omega
   have hfi:¬(f:Int)<(L.b.length:Int):=by omega
   have HE:=z9 e
   clear e
   go_wp2_with fail
   go_ret
   exact⟨_,rfl,by have h:=HO.out;rw [HE.out] at h ⊢;exact h,HW.out⟩
end Go.Proofs.YtjoapiafpahihabGreat
