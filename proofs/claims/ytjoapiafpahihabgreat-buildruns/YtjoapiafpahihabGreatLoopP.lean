import Derived.Test.YtjoapiafpahihabGreatLoopStmt
set_option maxHeartbeats 20000000
namespace Go.Proofs.YtjoapiafpahihabGreat
open Go.Proofs.Tryz
open Go.RowKit Go.Joins
set_option linter.unusedVariables false
variable {w w':World} {v:Value}
theorem zjq (v:Value) (L:Lp) (w:World) (h:zE w v L) :
  Calls prog 103 #[v] w (Rt w (.bool (Xz L.b.length L.o))):=by
 obtain⟨v0,v1,v2,rfl,-,⟨a1,gB,rfl,hl1,hm1,-⟩,⟨a,cap,rfl,hl,hm,hr,hc⟩⟩:=h
 unfold maxLen at hm hm1
 go_enter func103,ntmps103
 go_wp2
 go_loop [3,9] (fun t i=>∃k:Nat,k<=L.o.length/\i=iV k/\t=iV (zhn L.o k)/\zC (zoj L.b.length L.o) k=true) (fun _ i=>L.o.length - (intOf i).toNat)
 case atStart=>exact⟨0,Nat.zero_le _,rfl,rfl,rfl⟩
 case round =>
  obtain⟨k,hk,rfl,rfl,hall⟩:=hrel
  have hp:=Ya L.b.length L.o k (by omega) hall
  obtain⟨hp1,hp2⟩:=hp
  have HA:=z9 hall
  clear hall
  by_cases hlt:k<L.o.length
  ·obtain⟨b,off,rfl,hb,gR⟩:=hc (by omega)
   have hck:=gR k hlt
   clear gR hc
   cases hx:zoj L.b.length L.o k with
   | true =>
     have HX:=z9 hx
     have hin:inR (nth L.o k) (zhn L.o k+1) (L.b.length - 1)=true:=hx
     clear hx
     go_wp2_with (go_at_call 140;refine (yt _ _ _ _).mono ?_;rintro e w' ⟨rfl,rfl⟩)
     go_round
     case rel=>exact⟨k+1,by omega,by go_num,rfl,yl HA.out HX.out⟩
     case measure=>simp [intOf];omega
   | false =>
     have HX:=z9 hx
     have hin:inR (nth L.o k) (zhn L.o k+1) (L.b.length - 1)=false:=hx
     clear hx
     go_wp2_with (go_at_call 140;refine (yt _ _ _ _).mono ?_;rintro e w' ⟨rfl,rfl⟩)
     go_ret
     exact⟨zg (zZ hlt HX.out).symm,below_alloc1 _ _⟩
  ·have e:k=L.o.length:=by omega
   have HL:Hid (Xz L.b.length L.o=true):=by show Xz L.b.length L.o=true;unfold Xz;rw [<-e];exact HA.out
   clear HA e
   go_wp2
   go_ret
   exact⟨zg HL.out.symm,below_alloc1 _ _⟩
theorem zbi (v:Value) (L:Lp) (w:World) (h:zE w v L) :
  Calls prog 102 #[v] w (Rt w (.bool (Y2 L))):=by
 have hL:=h
 obtain⟨v0,v1,v2,rfl,-,⟨a,cap,rfl,hl,hm,-⟩,-⟩:=h
 unfold maxLen at hm
 go_enter func102,ntmps102
 go_wp2
 go_loopw [7] (fun i wr=>∃k:Nat,k<=L.b.length/\i=iV k/\zC (fun k=>yH L.l.length L.b.length k (zc L.b k)) k=true/\Below (w.heap.size+1) (w.alloc (.cells #[v0,.slice a L.b.length cap,v2] 25)) wr) (fun i _=>L.b.length - (intOf i).toNat)
 case atStart=>exact⟨0,Nat.zero_le _,rfl,rfl,Below.refl _ _⟩
 case round =>
  obtain⟨k,hk,rfl,hall,gH⟩:=hrel
  have gR:∀o,wr.cell? (ad w.heap.size o)=(w.alloc (.cells #[v0,.slice a L.b.length cap,v2] 25)).cell? (ad w.heap.size o):=fun o=>gH.cell (p:=(ad w.heap.size o)) (by simp)
  have hbw:Bw w wr:=(below_alloc1 _ _).trans (gH.mono (by omega))
  have HA:=z9 hall
  clear hall
  by_cases hlt:k<L.b.length
  ·have hks:(k:Int)<(L.b.length:Int):=by omega
   cases hx:yH L.l.length L.b.length k (zc L.b k) with
   | true =>
     have HX:=z9 hx
     go_wp2_with (go_at_call 143;refine (zbs _ L k _ (zE.gE hL hbw) hlt).mono ?_;rintro e w1 ⟨rfl,hb1⟩)
     go_roundw
     case rel=>exact⟨k+1,by omega,by go_num,yl HA.out HX.out,gH.trans (hb1.mono (by have:=gH.size;simp at this;omega))⟩
     case measure=>simp [intOf];omega
   | false =>
     have HX:=z9 hx
     go_wp2_with (go_at_call 143;refine (zbs _ L k _ (zE.gE hL hbw) hlt).mono ?_;rintro e w1 ⟨rfl,hb1⟩)
     go_ret
     exact⟨zg (zZ hlt HX.out).symm,hbw.trans (hb1.mono hbw.size)⟩
  ·have e:k=L.b.length:=by omega
   have HL:Hid (Y2 L=true):=by show Y2 L=true;unfold Y2;rw [<-e];rw [<-e] at HA;exact HA.out
   clear HA e
   go_wp2
   go_ret
   exact⟨zg HL.out.symm,hbw⟩
theorem Yh (v:Value) (L:Lp) (w:World) (h:zE w v L) :
  Calls prog 52 #[v] w (Rt w (.bool (zY L))):=by
 have hL:=h
 obtain⟨v0,v1,v2,rfl,hI,⟨a1,gB,rfl,hl1,hm1,-⟩,⟨a2,gC,rfl,hl2,hm2,hr2,hc2⟩⟩:=h
 have hI2:=hI
 obtain⟨a0,gA,rfl,hl0,hm0,hr0,hc0⟩:=hI
 clear hr0 hc0 hr2 hc2
 unfold maxLen at hm0 hm1 hm2
 by_cases h1:(3:Int)<L.l.length
 ·have HX:=z9 (zd9 L (.inl (by omega)))
  go_enter func52,ntmps52
  go_wp2_with fail
  go_ret
  exact⟨zg HX.out.symm,below_alloc1 _ _⟩
 by_cases h2:(16:Int)<L.o.length
 ·have HX:=z9 (zd9 L (.inr (.inr (.inr (by omega)))))
  go_enter func52,ntmps52
  go_wp2_with fail
  go_ret
  exact⟨zg HX.out.symm,below_alloc1 _ _⟩
 by_cases h0:L.b.length=0
 ·have HX:=z9 (zd9 L (.inr (.inl (by omega))))
  have h3:((L.b.length:Int) == 0)=true:=beq_iff_eq.2 (by omega)
  clear h0
  go_enter func52,ntmps52
  go_wp2_with fail
  go_ret
  exact⟨zg HX.out.symm,below_alloc1 _ _⟩
 have h3':((L.b.length:Int) == 0)=false:=beq_eq_false_iff_ne.2 (by omega)
 have h5:1<=L.b.length:=by omega
 clear h0
 by_cases h4:(16:Int)<L.b.length
 ·have HX:=z9 (zd9 L (.inr (.inr (.inl (by omega)))))
  go_enter func52,ntmps52
  go_wp2_with fail
  go_ret
  exact⟨zg HX.out.symm,below_alloc1 _ _⟩
 have HX:=z9 (yac L (by omega) (by omega) (by omega))
 cases e1:ZN L.l with
 | false =>
   go_enter func52,ntmps52
   go_wp2_with (go_at_call 101;refine (Vz _ L.l _ (zK.gE hI2 (below_alloc1 _ _))).mono ?_;rintro e w' ⟨rfl,rfl⟩)
   go_ret
   exact⟨zg (by rw [HX.out,e1];rfl),below_alloc1 _ _⟩
 | true =>
   cases e2:Y2 L with
   | false =>
     go_enter func52,ntmps52
     go_wp2_with (first
      | (go_at_call 101;refine (Vz _ L.l _ (zK.gE hI2 (below_alloc1 _ _))).mono ?_;rintro e w' ⟨rfl,rfl⟩)
      | (go_at_call 102;refine (zbi _ L _ (zE.gE hL (below_alloc1 _ _))).mono ?_;rintro e w1 ⟨rfl,hb1⟩;have hc1:=zf hb1))
     go_ret
     exact⟨zg (by rw [HX.out,e1,e2,Bool.and_false]),(below_alloc1 _ _).trans (hb1.mono (by simp))⟩
   | true =>
     go_enter func52,ntmps52
     go_wp2_with (first
      | (go_at_call 101;refine (Vz _ L.l _ (zK.gE hI2 (below_alloc1 _ _))).mono ?_;rintro e w' ⟨rfl,rfl⟩)
      | (go_at_call 102;refine (zbi _ L _ (zE.gE hL (below_alloc1 _ _))).mono ?_;rintro e w1 ⟨rfl,hb1⟩;have hc1:=zf hb1)
      | (go_at_call 103;refine (zjq _ L _ (zE.gE hL ((below_alloc1 _ _).trans (hb1.mono (by simp))))).mono ?_;rintro e w2 ⟨rfl,hb2⟩))
     go_ret
     exact⟨zg (by rw [HX.out,e1,e2,Bool.and_true];rfl),((below_alloc1 _ _).trans (hb1.mono (by simp))).trans (hb2.mono (by have:=hb1.size;simp at this;omega))⟩
def yo (w:World) (v:Value) (rs:List (List Int)):Prop :=
 ∃ a cap,v=.slice a rs.length cap/\rs.length<=cap/\cap<=maxLen /\
   (0<rs.length->∃b off,a=some (ad b off)/\b<w.heap.size/\∀i,i<rs.length->∃u,w.cell? (ad b (off+i))=some u/\zK w u (zv rs i))
theorem yo.gE {rs:List (List Int)} (h:yo w v rs) (hb:Bw w w'):yo w' v rs:=by
 obtain⟨a,cap,e,h1,h2,h4⟩:=h
 refine⟨a,cap,e,h1,h2,fun hp=>?_⟩
 obtain⟨b,off,e2,h5,h6⟩:=h4 hp
 refine⟨b,off,e2,Nat.lt_of_lt_of_le h5 hb.size,fun i hi=>?_⟩
 obtain⟨u,h7,h8⟩:=h6 i hi
 exact⟨u,by rw [zf hb _ _ h5];exact h7,h8.gE hb⟩
def Ys (w:World) (v:Value) (B M:List (List Int)):Prop:=∃v0 v1,v=.agg #[v0,v1]/\yo w v0 B/\yo w v1 M
theorem Ys.gE {B M:List (List Int)} (h:Ys w v B M) (hb:Bw w w'):Ys w' v B M:=by
 obtain⟨v0,v1,e,h1,h2⟩:=h
 exact⟨v0,v1,e,h1.gE hb,h2.gE hb⟩
theorem zhs (x:Int) (h0:0<=x) (h5:x<=5):wrap64 (2 ^ x.toNat)=((2 ^ x.toNat:Nat):Int):=by
 have h:x=0\/x=1\/x=2\/x=3\/x=4\/x=5:=by omega
 rcases h with rfl | rfl | rfl | rfl | rfl | rfl <;> simp [wrap64]
theorem yap (n:Nat) (x:Int) (h0:0<=x) (h5:x<=5):((n:Int) != wrap64 (2 ^ x.toNat))=!decide (n=2 ^ x.toNat):=by
 rw [zhs x h0 h5]
 by_cases h:n=2 ^ x.toNat
 ·rw [decide_eq_true h,h];simp
 ·rw [decide_eq_false h]
  have h2:((n:Nat):Int)≠((2 ^ x.toNat:Nat):Int):=fun e=>h (Int.ofNat.inj e)
  simpa using h2
theorem zcz (v s:Value) (L:Lp) (B M:List (List Int)) (w:World) (h:zE w v L) (hs:Ys w s B M) :
  Calls prog 59 #[v,s] w (Rt w (.bool (xG L B M))):=by
 have hL:=h
 have hS:=hs
 obtain⟨v0,v1,v2,rfl,hI,⟨a1,gB,rfl,hl1,hm1,-⟩,-⟩:=h
 obtain⟨a0,gA,rfl,hl0,hm0,hr0,hc0⟩:=hI
 obtain⟨s0,s1,rfl,⟨ba,bcap,rfl,bl,bm,bc⟩,⟨ma,mcap,rfl,ml,mm,mc⟩⟩:=hs
 unfold maxLen at hm0 hm1 bm mm
 cases e1:zY L with
 | false =>
   have HX:Hid (xG L B M=false):=by show xG L B M=false;unfold xG;rw [e1];rfl
   clear bc mc hc0 hr0
   go_enter func59,ntmps59
   go_wp2_with (go_at_call 52;refine (Yh _ L _ (zE.gE hL (below_alloc2 _ _ _))).mono ?_;rintro e w1 ⟨rfl,hb1⟩;have hc1:=zf hb1)
   go_ret
   exact⟨zg HX.out.symm,(below_alloc2 _ _ _).trans (hb1.mono (by simp;omega))⟩
 | true =>
   obtain⟨p1,p2,p3,p4,p5,p6,p7⟩:=zw e1
   clear p2 p3 p4 p6 p7
   by_cases h1:B.length=L.b.length
   ·by_cases h2:M.length=L.l.length
    ·have b1:((B.length:Int) != (L.b.length:Int))=false:=by simp;omega
     have b2:((M.length:Int) != (L.l.length:Int))=false:=by simp;omega
     have H1:=z9 h1
     have H2:=z9 h2
     clear h1 h2
     go_enter func59,ntmps59
     go_wp2_with (go_at_call 52;refine (Yh _ L _ (zE.gE hL (below_alloc2 _ _ _))).mono ?_;rintro e w1 ⟨rfl,hb1⟩;have hc1:=zf hb1)
     have hbw:Bw w w1:=(below_alloc2 _ _ _).trans (hb1.mono (by simp;omega))
     have hw2:w.heap.size+1<w1.heap.size:=by have:=hb1.size;simp at this;omega
     go_loop [33] (fun i=>∃k:Nat,k<=B.length/\i=iV k/\zC (fun i=>decide ((zv B i).length=3)) k=true) (fun i=>B.length - (intOf i).toNat)
     case atStart=>exact⟨0,Nat.zero_le _,rfl,rfl⟩
     case round =>
      obtain⟨k,hk,rfl,hall⟩:=hrel
      have HA:=z9 hall
      clear hall
      by_cases hlt:k<B.length
      ·obtain⟨b,off,rfl,hb,gR⟩:=bc (by omega)
       obtain⟨u,hck,⟨ra,rcap,rfl,rl,rm,-,-⟩⟩:=gR k hlt
       unfold maxLen at rm
       rw [<-zf hbw _ _ hb] at hck
       clear gR bc mc hc0 hr0
       by_cases hx:(zv B k).length=3
       ·have HX:=z9 hx
        have hne:(((zv B k).length:Int) != 3)=false:=by simp;omega
        clear hx
        go_wp2_with fail
        go_round
        case rel=>exact⟨k+1,by omega,by go_num,yl HA.out (decide_eq_true HX.out)⟩
        case measure=>simp [intOf];omega
       ·have HX:Hid (xG L B M=false):=by
         show xG L B M=false
         unfold xG
         rw [zZ (p:=fun i=>decide ((zv B i).length=3)) hlt (decide_eq_false hx),Bool.and_false,Bool.false_and]
        have hne:(((zv B k).length:Int) != 3)=true:=by simp;omega
        clear hx
        go_wp2_with fail
        go_ret
        exact⟨zg HX.out.symm,hbw⟩
      ·have e:k=B.length:=by omega
       subst e
       clear bc hlt
       go_wp2_with fail
       go_loop [44] (fun i=>∃k:Nat,k<=M.length/\i=iV k/\zC (fun i=>decide ((zv M i).length=2 ^ (nth L.l i).toNat)) k=true) (fun i=>M.length - (intOf i).toNat)
       case atStart=>exact⟨0,Nat.zero_le _,rfl,rfl⟩
       case round =>
        obtain⟨j,hj,rfl,hallM⟩:=hrel
        have HM:=z9 hallM
        clear hallM
        by_cases hlt:j<M.length
        ·obtain⟨b,off,rfl,hb,gR⟩:=mc (by omega)
         obtain⟨u,hck,⟨ra,rcap,rfl,rl,rm,-,-⟩⟩:=gR j hlt
         unfold maxLen at rm
         rw [<-zf hbw _ _ hb] at hck
         have hjl:j<L.l.length:=by have:=H2.out;omega
         obtain⟨lb,loff,rfl,hlb,hlc⟩:=hc0 (by omega)
         have hlk:=hlc j hjl
         rw [<-zf hbw _ _ hlb] at hlk
         have hlog:=zx.1 (zo p5 j hjl)
         obtain⟨hg0,hg5⟩:=hlog
         have hji:(j:Int)<(L.l.length:Int):=by omega
         clear gR mc hc0 hr0 hlc p5
         have hne:=yap (zv M j).length (nth L.l j) hg0 hg5
         by_cases hx:(zv M j).length=2 ^ (nth L.l j).toNat
         ·rw [decide_eq_true hx] at hne
          have HX:=z9 hx
          clear hx
          go_wp2_with fail
          go_round
          case rel=>exact⟨j+1,by omega,by go_num,yl HM.out (decide_eq_true HX.out)⟩
          case measure=>simp [intOf];omega
         ·rw [decide_eq_false hx] at hne
          have HX:Hid (xG L B M=false):=by
           show xG L B M=false
           unfold xG
           rw [zZ (p:=fun i=>decide ((zv M i).length=2 ^ (nth L.l i).toNat)) hlt (decide_eq_false hx),Bool.and_false]
          clear hx
          go_wp2_with fail
          go_ret
          exact⟨zg HX.out.symm,hbw⟩
        ·have e:j=M.length:=by omega
         subst e
         have HX:Hid (xG L B M=true):=by
          show xG L B M=true
          unfold xG
          rw [HM.out,HA.out,e1,decide_eq_true H1.out,decide_eq_true H2.out];rfl
         clear hlt mc hc0 hr0
         go_wp2_with fail
         go_ret
         exact⟨zg HX.out.symm,hbw⟩
    ·have HX:Hid (xG L B M=false):=by
      show xG L B M=false
      unfold xG
      rw [decide_eq_false h2,Bool.and_false,Bool.false_and,Bool.false_and]
     have b1:((B.length:Int) != (L.b.length:Int))=false:=by simp;omega
     have b2:((M.length:Int) != (L.l.length:Int))=true:=by simp;omega
     clear h1 h2 bc mc hc0 hr0 p5
     go_enter func59,ntmps59
     go_wp2_with (go_at_call 52;refine (Yh _ L _ (zE.gE hL (below_alloc2 _ _ _))).mono ?_;rintro e w1 ⟨rfl,hb1⟩;have hc1:=zf hb1)
     go_ret
     exact⟨zg HX.out.symm,(below_alloc2 _ _ _).trans (hb1.mono (by simp;omega))⟩
   ·have HX:Hid (xG L B M=false):=by
     show xG L B M=false
     unfold xG
     rw [decide_eq_false h1,Bool.and_false,Bool.false_and,Bool.false_and,Bool.false_and]
    have b1:((B.length:Int) != (L.b.length:Int))=true:=by simp;omega
    clear h1 bc mc hc0 hr0 p5
    go_enter func59,ntmps59
    go_wp2_with (go_at_call 52;refine (Yh _ L _ (zE.gE hL (below_alloc2 _ _ _))).mono ?_;rintro e w1 ⟨rfl,hb1⟩;have hc1:=zf hb1)
    go_ret
    exact⟨zg HX.out.symm,(below_alloc2 _ _ _).trans (hb1.mono (by simp;omega))⟩
end Go.Proofs.YtjoapiafpahihabGreat
