import Derived.Test.YtjoapiafpahihabGreatRef3A
import Derived.BigRegion
import Derived.Test.YtjoapiafpahihabGreatRounds
import Derived.Test.YtjoapiafpahihabGreatKernS
namespace Go.Proofs.YtjoapiafpahihabGreat
open Go.RowKit Go.Joins
set_option linter.unusedVariables false
variable {w:World} {base n gm cm:Nat} {e:TypeId} {v mv:Value} {len G C:Nat->Nat} {m:Nat->Nat->Int} {t:Tg} {K:Kn} {logs:List Int} {M:List (List Int)} {gD now:Int} {s:Kst}
theorem Tryz.i3:(Tryz.prog.info? 3).map (fun i=>(i.zero,i.size,i.bytes))=some (some (iV 0),1,8):=by kernel_rfl
theorem zqq (M:List (List Int)) (k:Nat) (h:k<M.length):((zN M).take k).map (Value.int .i64)++[iV (xQ (zv M k).length:Int)]=((zN M).take (k+1)).map (Value.int .i64):=by
 have hl:k<(zN M).length:=by rw [xZ];exact h
 rw [List.take_succ_eq_append_getElem hl,List.map_append]
 congr 1
 have:=Y6 M k h
 simp [nth,List.getD,hl] at this
 simp [this]
theorem zmp {xs:List Value} (h:w.ownsRow base e 1 v n xs):∃a cap,v=.slice a n cap/\n<=cap/\cap<=maxLen:=by
 obtain⟨hl,h⟩:=h
 rcases h with ⟨rfl,rfl⟩ | ⟨g,cap,cur,rfl,hg,hb,hn,hm,r⟩
 ·exact⟨none,0,rfl,Nat.le_refl _,Nat.zero_le _⟩
 ·exact⟨_,cap,rfl,hn,hm⟩
theorem za3 {zs:List Int} (h:w.ownsRow base e 1 v zs.length (zs.map (Value.int .i64))) (hz:∀i,i<zs.length->-9223372036854775808<=nth zs i/\nth zs i<=9223372036854775807):zK w v zs:=by
 obtain⟨a,cap,hv,h1,h2⟩:=zmp h
 refine⟨a,cap,hv,h1,h2,hz,fun hp=>?_⟩
 obtain⟨g,c,hv2,hg,h3,h4,hr⟩:=yx h (.inr hp)
 rw [hv] at hv2
 injection hv2 with e1 e2 e3
 refine⟨g,0,e1,hr.lt,fun i hi=>?_⟩
 rw [Nat.zero_add,hr.cell hi,XI zs i hi]
structure MR (w:World) (base:Nat) (mv:Value) (n:Nat) (len:Nat->Nat) (m:Nat->Nat->Int) (gm cm:Nat) (G C:Nat->Nat):Prop where
 shape:∃am,mv=.slice am n cm/\n<=cm/\cm<=maxLen
 out:n=0\/(mv=.slice (pA gm) n cm/\zu w gm 63 n (ZT G C len)/\base<=gm)
 inn:ZY w base G C n len m
theorem MR.mono {base':Nat} (h:MR w base mv n len m gm cm G C) (hb:base'<=base):MR w base' mv n len m gm cm G C where
 shape:=h.shape
 out:=by
  rcases h.out with e | ⟨e1,e2,e3⟩
  ·exact .inl e
  ·exact .inr ⟨e1,e2,by omega⟩
 inn:=⟨fun i hi=>⟨by have:=(h.inn.1 i hi).1;omega,(h.inn.1 i hi).2.1,(h.inn.1 i hi).2.2.1,(h.inn.1 i hi).2.2.2⟩,h.inn.2⟩
theorem MR.of_copy {w':World} (ho:w'.ownsRow base 63 1 mv n ((List.range n).map (ZT G C len))) (hi:ZY w' base G C n len m):∃gm cm,MR w' base mv n len m gm cm G C:=by
 obtain⟨am,cm,hv,h1,h2⟩:=zS ho
 by_cases e:n=0
 ·exact⟨0,cm,⟨am,hv,h1,h2⟩,.inl e,hi⟩
 ·obtain⟨g,cap,hv2,hg,h3,h4,hr⟩:=yx ho (.inr (by omega))
  have hcc:cap=cm:=by
   rw [hv] at hv2
   injection hv2 with _ _ e3
   exact e3.symm
  subst hcc
  exact⟨g,cap,⟨am,hv,h1,h2⟩,.inr ⟨hv2,hr.congr fun i hi=>by simp [List.getD,hi],hg⟩,hi⟩
theorem MR.rows (h:MR w base mv n len m gm cm G C) (hs:∀i j,I64 (m i j)) :
  yo w mv ((List.range n).map fun i=>(List.range (len i)).map fun j=>m i j):=by
 have hl:((List.range n).map fun i=>(List.range (len i)).map fun j=>m i j).length=n:=by simp
 obtain⟨am,hv,hc1,hc2⟩:=h.shape
 refine⟨am,cm,by rw [hl];exact hv,by rw [hl];exact hc1,hc2,fun hp=>?_⟩
 rw [hl] at hp ⊢
 rcases h.out with e | ⟨e1,e4,e5⟩
 ·omega
 rw [hv] at e1
 injection e1 with f1 f2 f3
 refine⟨gm,0,f1,e4.lt,fun i hi=>⟨ZT G C len i,by rw [Nat.zero_add];exact e4.cell hi,?_⟩⟩
 obtain⟨g1,g2,g3,g4⟩:=h.inn.1 i hi
 have hr:zv ((List.range n).map fun i=>(List.range (len i)).map fun j=>m i j) i=(List.range (len i)).map fun j=>m i j:=by unfold zv;simp [List.getD,hi]
 have hnth:∀j,j<len i->nth ((List.range (len i)).map fun j=>m i j) j=m i j:=fun j hj=>by unfold nth;simp [List.getD,hj]
 have hl2:((List.range (len i)).map fun j=>m i j).length=len i:=by simp
 rw [hr]
 refine⟨some (ad (G i) 0),C i,by rw [hl2];rfl,by rw [hl2];exact g2,g3,fun j hj=>?_,fun _=>⟨G i,0,rfl,g4.lt,fun j hj=>?_⟩⟩
 ·rw [hl2] at hj;rw [hnth j hj];exact hs i j
 ·rw [hl2] at hj;rw [Nat.zero_add,hnth j hj];exact g4.cell hj
theorem ZC (h:Yv t K logs=true):yj t=true/\1<=K.pc/\K.pc<=200/\1<=K.st/\K.st<=1001/\1<=K.ops.length/\K.ops.length<=16/\∀k,k<K.ops.length->VF t.r K.pc K.st logs (zp K.ops k)=true:=by
 unfold Yv at h
 simp only [Bool.and_eq_true] at h
 obtain⟨⟨⟨⟨h1,h2⟩,h3⟩,h4⟩,h5⟩:=h
 have h2:=zx.1 h2
 have h3:=zx.1 h3
 have h4:=zx.1 h4
 refine⟨h1,h2.1,h2.2,h3.1,h3.2,by omega,by omega,fun k hk=>?_⟩
 have h6:=zo h5 k hk
 simp only [Bool.and_eq_true] at h6
 exact h6.1
theorem zft {r pc st:Int} {x:Kop} (h:VF r pc st logs x=true):(0<=x.sl/\x.sl<pc)/\(0<=x.sg/\x.sg<st)/\(0<=x.d/\x.d<r)/\(0<=x.a/\x.a<r)/\(0<=x.b/\x.b<r)/\logs.length<=3 /\
  (x.o=1\/x.o=2\/(x.o=3/\0<=x.ar/\x.ar<logs.length)\/(x.o=4/\0<=x.ar/\x.ar<logs.length)\/(11<=x.o/\x.o<=18)):=by
 unfold VF xv VJ at h
 simp only [Bool.and_eq_true] at h
 obtain⟨⟨⟨⟨a1,a2⟩,a3⟩,⟨⟨⟨b1,b2⟩,b3⟩,b4⟩,b5⟩,c⟩:=h
 have a1:=zx.1 a1
 have a2:=zx.1 a2
 have b1:=zx.1 b1
 have b2:=zx.1 b2
 have b3:=zx.1 b3
 obtain⟨m1,m2,m3,m4,m5,m6,m7⟩:=zw c
 refine⟨by omega,by omega,by omega,by omega,by omega,m1,?_⟩
 have hs:yH logs.length 2 1 ⟨x.o,0,0,0,0,x.ar,x.sp,x.pl,x.nn⟩=true:=zo m7 1 (by show 1<2;omega)
 have hp:=zaj hs
 rcases hp with h | h | h | ⟨h,h2,h3,-⟩ | ⟨h,h2,-,-⟩
 ·exact .inl h
 ·exact .inr (.inl h)
 ·exact .inr (.inr (.inl h))
 ·exact .inr (.inr (.inr (.inl ⟨h,h2,h3⟩)))
 ·exact .inr (.inr (.inr (.inr ⟨h,h2⟩)))
theorem zk5 (h:Zx M=true):∀i,i<M.length->0<(zv M i).length/\(zv M i).length<=32/\(zv M i).length=2 ^ (nth (zN M) i).toNat:=by
 intro i hi
 have h1:decide (xQ (zv M i).length<6)=true:=zo h i hi
 have h2:xQ (zv M i).length<6:=of_decide_eq_true h1
 have h3:=zqo h2
 rw [Y6 M i hi]
 have h4:((xQ (zv M i).length:Int)).toNat=xQ (zv M i).length:=Int.toNat_natCast _
 rw [h4,h3]
 refine⟨?_,?_,rfl⟩
 ·rw [<-h3];exact Nat.pow_pos (by decide)
 ·rw [<-h3]
  exact Nat.le_trans (Nat.pow_le_pow_right (by decide) (show xQ (zv M i).length<=5 by omega)) (by decide)
theorem zed (logs:List Int) (pc now:Int) (x:Kop):idx x.sp x.pl (now / pc - x.sg) (nth logs x.ar.toNat)=(Y0 logs pc now x:Int):=by
 have h:=zhe x.sp x.pl (now / pc - x.sg) (nth logs x.ar.toNat)
 unfold Y0
 omega
theorem zkz (logs:List Int) (pc now:Int) (x:Kop):Y0 logs pc now x<2 ^ (nth logs x.ar.toNat).toNat:=by
 have h:=zhe x.sp x.pl (now / pc - x.sg) (nth logs x.ar.toNat)
 unfold p2 at h
 unfold Y0
 omega
theorem zad {l:List Kop} {i:Nat} (h:i<l.length):zp l i∈l:=by
 unfold zp
 rw [List.getD,List.getElem?_eq_getElem h]
 exact List.getElem_mem _
theorem zhk {l:List Int} (h:∀i,i<l.length->-9223372036854775808<=nth l i/\nth l i<=9223372036854775807) (i:Nat):I64 (nth l i):=by
 by_cases hi:i<l.length
 ·exact h i hi
 ·have e:nth l i=0:=by unfold nth;simp [List.getD,hi]
  rw [e];exact⟨by decide,by decide⟩
theorem zbm {R:List Int} {X:Int} (hR:∀i,I64 (nth R i)) (hM:∀i j,I64 (nth (zv M i) j)):(ZE R M).fine X :=
 ⟨hR,hM,fun d hd=>absurd hd (by show ¬d∈[];simp)⟩
theorem zt1 (h:yo w v M):∀i j,I64 (nth (zv M i) j):=by
 intro i j
 by_cases hi:i<M.length
 ·obtain⟨a,cap,e,h1,h2,h3⟩:=h
  obtain⟨b,off,e2,h4,h5⟩:=h3 (by omega)
  obtain⟨u,hu,⟨ra,rc,hv,rl,rm,rr,rcell⟩⟩:=h5 i hi
  exact zhk rr j
 ·have e:zv M i=[]:=by unfold zv;simp [List.getD,hi]
  rw [e]
  exact zhk (l:=[]) (fun i hi=>absurd hi (Nat.not_lt_zero _)) j
theorem zu1 {f:Nat->Int} {q:Nx} (hr:1<=t.r) (hf:∀i,I64 (f i)) (hm:∀i j,I64 (m i j)) (hq:∀i j,I64 (q.nx i j)) (hd:∀d∈q.du,0<=d.rg/\d.rg<t.r/\I64 d.v)
  (hx:∀k,k<K.ops.length->I64 (zp K.ops k).nn/\I64 (now / K.pc - (zp K.ops k).sg)):∀k,k<=K.ops.length->(∀i j,I64 ((YF t K logs gD now f m q k).nx i j))/\∀d∈(YF t K logs gD now f m q k).du,0<=d.rg/\d.rg<t.r/\I64 d.v:=by
 intro k
 induction k with
 | zero=>exact fun _=>⟨hq,hd⟩
 | succ k ih =>
   intro hk
   obtain⟨h1,h2⟩:=ih (by omega)
   have hv:I64 (UK logs t.r K.pc now f m (zp K.ops k)):=zws hf hm (hx k (by omega)).1 (hx k (by omega)).2
   show (∀i j,I64 ((opK t logs K.pc gD now f m (YF t K logs gD now f m q k) (zp K.ops k)).nx i j))/\∀d∈(opK t logs K.pc gD now f m (YF t K logs gD now f m q k) (zp K.ops k)).du,_
   unfold opK
   split
   ·refine⟨fun i j=>?_,fun d hd=>?_⟩
    ·dsimp only
     split
     ·exact yL hv (h1 i j)
     ·exact h1 i j
    ·rcases List.mem_append.1 hd with h3 | h3
     ·exact h2 d h3
     ·rw [List.mem_singleton.1 h3]
      exact⟨Int.emod_nonneg _ (by omega),Int.emod_lt_of_pos _ (by omega),hv⟩
   ·exact⟨h1,h2⟩
theorem zu0 (hr:1<=t.r) (hs:s.fine t.r) (hx:∀k,k<K.ops.length->I64 (zp K.ops k).nn/\I64 (now / K.pc - (zp K.ops k).sg)):(Vj t K logs gD now s).fine t.r:=by
 have h1:=zqi (now:=now) hs.f hs.due s.due.length (Nat.le_refl _)
 have h2:=zg2 (now:=now) hs.due s.due.length (Nat.le_refl _)
 unfold Vj
 split
 ·exact⟨h1,hs.m,h2⟩
 ·obtain⟨a,b⟩:=zu1 (t:=t) (logs:=logs) (gD:=gD) (now:=now) hr h1 hs.m (q:=⟨s.m,yR now s.due s.due.length⟩) hs.m h2 hx K.ops.length (Nat.le_refl _)
  exact⟨h1,a,b⟩
theorem zq7 {N:Nat} (hr:1<=t.r) (hs:s.fine t.r) (hx:∀T:Nat,T<N->∀k,k<K.ops.length->I64 (zp K.ops k).nn/\I64 ((T:Int) / K.pc - (zp K.ops k).sg)):∀T,T<=N->(zJ t K logs gD s T).fine t.r:=by
 intro T
 induction T with
 | zero=>exact fun _=>hs
 | succ T ih=>exact fun h=>zu0 hr (ih (by omega)) (hx T (by omega))
end Go.Proofs.YtjoapiafpahihabGreat
