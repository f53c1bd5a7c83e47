import Derived.Test.YtjoapiafpahihabGreatSounds
import Derived.Test.YtjoapiafpahihabGreatRef6A
import Derived.Test.YtjoapiafpahihabGreatLoopP
import Derived.Test.YtjoapiafpahihabGreatKernS
namespace Go.Proofs.YtjoapiafpahihabGreat
open Go.RowKit Go.Joins
set_option linter.unusedVariables false
set_option linter.unusedSimpArgs false
set_option maxRecDepth 8192
theorem zda {w wr:World} {v0 v1 v2:Value} {ta:TypeId} (h:Below (w.heap.size+1) (w.alloc (.cells #[v0,v1,v2] ta)) wr) :
  (wr.cell? ⟨w.heap.size,0,none⟩=some v0/\wr.cell? ⟨w.heap.size,1,none⟩=some v1/\wr.cell? ⟨w.heap.size,2,none⟩=some v2)/\w.heap.size<wr.heap.size/\Below w.heap.size w wr:=by
 have hs:(w.alloc (.cells #[v0,v1,v2] ta)).heap.size=w.heap.size+1:=by simp
 have hz:=h.size
 have h':Below (w.alloc (.cells #[v0,v1,v2] ta)).heap.size (w.alloc (.cells #[v0,v1,v2] ta)) wr:=by rw [hs];exact h
 refine⟨⟨?_,?_,?_⟩,by omega,(below_alloc1 w _).trans (h.mono (by omega))⟩
 all_goals rw [zc h' _ _ (by omega)]
 all_goals go_simp
set_option maxHeartbeats 4000000 in
theorem zlo (L:Lp) (v0 v2:Value) (b off cap:Nat) (a:Int) (w:World) (hl:L.body.length<=cap) (hm:cap<=9223372036854775807) (hb:b<w.heap.size) (hcell:∀i,i<L.body.length->∀j,j<9->w.cell? ⟨b,off+i*9+j,none⟩=(zJ (z6 L.body i))[j]?) :
  Calls Tryz.prog 50 #[.agg #[v0,.slice (some ⟨b,off,none⟩) L.body.length cap,v2],iV a] w fun e w'=>e=.returned (iV (Xl L a))/\Below w.heap.size w w':=by
 have HCE:=z5 hcell
 clear hcell
 go_enter Tryz.func50,Tryz.ntmps50
 go_wp2_with fail
 go_loopw [5,6] (fun fv i wr=>∃k:Nat,k<=L.body.length/\i=iV k/\fv=iV (XF L a k)/\Below (w.heap.size+1) (w.alloc (.cells #[v0,.slice (some ⟨b,off,none⟩) L.body.length cap,v2] 25)) wr) (fun _ i _=>L.body.length - (intOf i).toNat)
 case atStart=>exact⟨0,Nat.zero_le _,rfl,rfl,Below.refl _ _⟩
 case round =>
  obtain⟨k,hk,rfl,rfl,hbel⟩:=hrel
  have HB:=z5 hbel
  obtain⟨⟨l0,l1,l2⟩,z0,hbw⟩:=zda hbel
  have HBW:=z5 hbw
  by_cases hkl:k<L.body.length
  ·have hki:(k:Int)<(L.body.length:Int):=by omega
   obtain⟨c0,c1,c2,c3,c4,c5,c6,c7,c8⟩:=Zj (fun j hj=>(zc hbw b (off+k*9+j) hb).trans (HCE.out k hkl j hj))
   have hbz:b<wr.heap.size:=by have:=hbw.size;omega
   have hz1:w.heap.size+1<=wr.heap.size:=by omega
   have HNX:Hid (XF L a (k+1)=Z1 (yr (z6 L.body k)) a (XF L a k) (yr (z6 L.body k)).length):=rfl
   have HUS:Hid (∀W,Calls Tryz.prog 47 #[.agg #[iV (z6 L.body k).o,iV (z6 L.body k).xa,iV (z6 L.body k).xb,iV (z6 L.body k).ya,iV (z6 L.body k).yb,iV (z6 L.body k).ar,iV (z6 L.body k).sp,iV (z6 L.body k).pl,iV (z6 L.body k).nn]] W fun e w'=>∃v,e=.returned v/\za0 w' v (yr (z6 L.body k))/\Below W.heap.size W w'):=fun W=>UI (z6 L.body k) W
   obtain⟨us,hus⟩:∃us,yr (z6 L.body k)=us:=⟨_,rfl⟩
   rw [hus] at HNX HUS
   obtain⟨f,hf⟩:∃f,XF L a k=f:=⟨_,rfl⟩
   rw [hf] at HNX ⊢
   generalize z6 L.body k=xk at *
   obtain⟨o,xa,xb,ya,yb,ar,sp,pl,nn⟩:=xk
   clear hbel hbw hus hf l0 l2
   go_wp2_with fail
   refine (HUS.out _).mono ?_
   rintro e x1 ⟨uv,rfl,hU,hb1⟩
   obtain⟨ua,uc,rfl,hu1,hu2,hu3⟩:=hU
   unfold maxLen at hu2
   have HU3:=z5 hu3
   have HB1:=z5 (HB.out.trans (hb1.mono hz1))
   clear hb1 hu3 c0 c1 c2 c3 c4 c5 c6 c7 c8 l1
   go_wp2_with fail
   go_loopw [5,8] (fun fv i wr2=>∃q:Nat,q<=us.length/\i=iV q/\fv=iV (Z1 us a f q)/\wr2=x1) (fun _ i _=>us.length - (intOf i).toNat)
   case atStart=>exact⟨0,Nat.zero_le _,rfl,rfl,rfl⟩
   case round =>
    obtain⟨q,hq,rfl,rfl,rfl⟩:=hrel
    by_cases hql:q<us.length
    ·have hqi:(q:Int)<(us.length:Int):=by omega
     obtain⟨ub,uo,rfl,hub,hucell⟩:=HU3.out (by omega)
     obtain⟨d0,d1⟩:=hucell q hql
     have HFU:Hid (Z1 us a f (q+1)=if (zi us q).1=a/\Z1 us a f q<(zi us q).2 then (zi us q).2 else Z1 us a f q):=rfl
     generalize zi us q=rf at *
     generalize Z1 us a f q=fq at *
     obtain⟨r1,r2⟩:=rf
     simp only at d0 d1
     clear hucell
     by_cases h1:r1=a
     ·have h1b:(r1 == a)=true:=by simpa using h1
      by_cases h2:fq<r2
      ·have HN:Hid (Z1 us a f (q+1)=r2):=by show _=_;rw [HFU.out,if_pos ⟨h1,h2⟩]
       clear HFU h1
       go_wp2_with fail
       go_roundw
       case rel=>exact⟨q+1,by omega,by go_num,by rw [HN.out],trivial⟩
       case measure=>simp [intOf];omega
      ·have HN:Hid (Z1 us a f (q+1)=fq):=by show _=_;rw [HFU.out,if_neg (fun h=>h2 h.2)]
       clear HFU h1
       go_wp2_with fail
       go_roundw
       case rel=>exact⟨q+1,by omega,by go_num,by rw [HN.out],trivial⟩
       case measure=>simp [intOf];omega
     ·have h1b:(r1 == a)=false:=by simpa using h1
      have HN:Hid (Z1 us a f (q+1)=fq):=by show _=_;rw [HFU.out,if_neg (fun h=>h1 h.1)]
      clear HFU h1
      go_wp2_with fail
      go_roundw
      case rel=>exact⟨q+1,by omega,by go_num,by rw [HN.out],trivial⟩
      case measure=>simp [intOf];omega
    ·have e:q=us.length:=by omega
     subst e
     have hqi:¬(us.length:Int)<(us.length:Int):=by omega
     go_wp2_with fail
     go_roundw
     case rel=>exact⟨k+1,by omega,by go_num,by rw [HNX.out],HB1.out⟩
     case measure=>simp [intOf];omega
  ·have e:k=L.body.length:=by omega
   subst e
   have hki:¬(L.body.length:Int)<(L.body.length:Int):=by omega
   clear hbel hbw
   go_wp2_with fail
   go_ret
   exact⟨rfl,HBW.out⟩
def zv5 (L:Lp) (B:List (List Int)):Bool:=decide (B.length=L.body.length) && zh (fun i=>decide ((VC B i).length=3)) B.length
end Go.Proofs.YtjoapiafpahihabGreat
