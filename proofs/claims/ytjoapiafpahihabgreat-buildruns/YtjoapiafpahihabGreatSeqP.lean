import Derived.Test.YtjoapiafpahihabGreatRef3B
import Derived.BigRegion
import Derived.Deep.AppendLies
import Derived.Test.YtjoapiafpahihabGreatSeqLib
set_option maxHeartbeats 20000000
namespace Go.Proofs.YtjoapiafpahihabGreat
open Go.Proofs.Tryz
open Go.RowKit Go.Joins
set_option linter.unusedVariables false
set_option linter.unusedSimpArgs false
variable {w0 wr w' w w2 wb w1:World} {R gp cp gm cm N n T k g cap X pc base mc:Nat} {l0 l1 l2 mv pv v s0 s1:Value} {lenM GM CM G C:Nat->Nat} {B:List (List Int)} {s:Sq} {c:Array Value} {e:TypeId} {am pa ma:Option Addr} {o xa xb ya yb ar sp pl nn:Int} {xs:List Value} {f:Nat->Nat->Int}
def Zs (B:List (List Int)) (val:Nat->Nat->Int) (i j:Nat):Int:=if j<3 then nth (zv B i) (2 - j) else val (j - 3) i
def YG (T k i:Nat):Nat:=if i<k then T+4 else T+3
theorem zrk (B:List (List Int)) (val:Nat->Nat->Int) (T x y:Nat) (h:y<=3):Zs B val x (3+T - y)=UE B val T x y:=by
 unfold Zs UE
 by_cases hy:y<=T
 ·rw [if_neg (by omega),if_pos (by omega),Int.toNat_natCast,show ((T:Int) - (y:Int)).toNat=3+T - y - 3 from by omega]
 ·rw [if_pos (by omega),if_neg (by omega),Int.toNat_natCast,show ((y:Int) - (T:Int) - 1).toNat=2 - (3+T - y) from by omega]
theorem zms (B:List (List Int)) (val:Nat->Nat->Int) (T i:Nat):Zs B val i (T+2)=if T=0 then nth (zv B i) 0 else val (T - 1) i:=by
 unfold Zs
 by_cases h:T=0
 ·subst h;rfl
 ·rw [if_neg (by omega),if_neg h,show T+2 - 3=T - 1 from by omega]
theorem zhd (xs:List Value) (u:Value) (j:Nat) (h:j<xs.length):(xs++[u]).getD j (.bool false)=xs.getD j (.bool false):=by simp [List.getD,List.getElem?_append,h]
theorem zhc (xs:List Value) (u:Value) (j:Nat) (h:j=xs.length):(xs++[u]).getD j (.bool false)=u:=by subst h;simp [List.getD]
structure xz (w0:World) (R:Nat) (l0 l1 l2:Value) (gp cp:Nat) (mv:Value) (gm cm N n:Nat) (lenM GM CM:Nat->Nat) (B:List (List Int)) (G C:Nat->Nat) (T k:Nat) (s:Sq) (wr:World):Prop where
 bel:Bw w0 wr
 hR:wr.heap[R]?=some (.cells #[l0,l1,l2,.slice (pA gp) N cp,mv] 169 (0,0))
 hRb:w0.heap.size<=R
 pout:zu wr gp 63 N (ZT G C (YG T k))
 pb:w0.heap.size<=gp/\N<=cp/\cp<=maxLen
 pin:∀i,i<N->w0.heap.size<=G i/\C i<=maxLen/\xX wr (G i) 2 (C i) (YG T k i) (fun j=>iV (Zs B s.val i j))
 pinj:∀i j,i<N->j<N->i≠j->G i≠G j
 mout:n=0\/(mv=.slice (pA gm) n cm/\n<=cm/\cm<=maxLen/\zu wr gm 63 n (ZT GM CM lenM)/\w0.heap.size<=gm/\gm≠gp)
 min:ZY wr w0.heap.size GM CM n lenM s.mem
 apart:∀i j,i<N->j<n->G i≠GM j
theorem xz.gE
  (h:xz w0 R l0 l1 l2 gp cp mv gm cm N n lenM GM CM B G C T k s wr) (hb:Bw wr w'):xz w0 R l0 l1 l2 gp cp mv gm cm N n lenM GM CM B G C T k s w' where
 bel:=h.bel.trans (hb.mono h.bel.size)
 hR:=by rw [hb.block R (Array.getElem?_eq_some_iff.1 h.hR).1];exact h.hR
 hRb:=h.hRb
 pout:=h.pout.gE hb h.pout.lt
 pb:=h.pb
 pin:=fun i hi=>⟨(h.pin i hi).1,(h.pin i hi).2.1,(h.pin i hi).2.2.gE hb (h.pin i hi).2.2.lt⟩
 pinj:=h.pinj
 mout:=by
  rcases h.mout with h1 | ⟨h1,h2,h3,h4,h5⟩
  ·exact .inl h1
  ·exact .inr ⟨h1,h2,h3,h4.gE hb h4.lt,h5⟩
 min:=h.min.gE hb
 apart:=h.apart
theorem Za {e':TypeId} {f:Nat->Value} (h:w.heap[R]?=some (.cells c e (0,0))) (hr:zu w g e' n f) (he:e≠e'):R≠g:=by
 intro hg
 subst hg
 obtain⟨c',hb,_,_⟩:=hr
 rw [h] at hb
 have h1:=Option.some.inj hb
 injection h1 with _ h2
 exact he h2
theorem xz.setMem
  (h:xz w0 R l0 l1 l2 gp cp mv gm cm N n lenM GM CM B G C T k s wr) (i j:Nat) (v:Int) (hi:i<n) (hj:j<lenM i) :
  xz w0 R l0 l1 l2 gp cp mv gm cm N n lenM GM CM B G C T k ⟨xE s.mem i j v,s.val⟩ (wr.setCell (ad (GM i) j) (iV v)) where
 bel:=h.bel.setCell (by show w0.heap.size<=GM i;exact (h.min.1 i hi).1) _
 hR:=by rw [Below.heap_setCell _ _ _ _ (by show R≠GM i;exact Za h.hR (h.min.1 i hi).2.2.2 (by decide))];exact h.hR
 hRb:=h.hRb
 pout:=h.pout.gF (by show gp≠GM i;exact h.pout.apart (h.min.1 i hi).2.2.2 (by decide)) _
 pb:=h.pb
 pin:=fun a ha=>⟨(h.pin a ha).1,(h.pin a ha).2.1,(h.pin a ha).2.2.gF (by show G a≠GM i;exact h.apart a i ha hi) _⟩
 pinj:=h.pinj
 mout:=by
  rcases h.mout with h1 | ⟨h1,h2,h3,h4,h5⟩
  ·exact .inl h1
  ·exact .inr ⟨h1,h2,h3,h4.gF (by show gm≠GM i;exact h4.apart (h.min.1 i hi).2.2.2 (by decide)) _,h5⟩
 min:=by
  refine⟨fun a ha=>⟨(h.min.1 a ha).1,(h.min.1 a ha).2.1,(h.min.1 a ha).2.2.1,?_⟩,h.min.2⟩
  by_cases e:a=i
  ·subst e
   refine ((h.min.1 a ha).2.2.2.set j _ hj).congr fun q hq=>?_
   show (if q=j then iV v else iV (s.mem a q))=iV (xE s.mem a j v a q)
   rw [zon]
   split <;> rfl
  ·refine ((h.min.1 a ha).2.2.2.gF (by show GM a≠GM i;exact h.min.2 a i ha hi e) _).congr fun q hq=>?_
   show iV (s.mem a q)=iV (xE s.mem i j v a q)
   rw [zdg _ _ _ _ _ _ e]
 apart:=h.apart
theorem xz.push
  (h:xz w0 R l0 l1 l2 gp cp mv gm cm N n lenM GM CM B G C T k s wr) (hk:k<N) (v:Int)
  (ho:w2.ownsRow w0.heap.size 2 1 (.slice (pA g) (T+3+1) cap) (T+3+1) ((List.range (T+3)).map (fun j=>iV (Zs B s.val k j))++[iV v]))
  (hg:wr.grownBy w2 (some (G k))) (hat:some (G k)=some g\/wr.heap.size<=g) :
  xz w0 R l0 l1 l2 gp cp mv gm cm N n lenM GM CM B (fun i=>if i=k then g else G i) (fun i=>if i=k then cap else C i) T (k+1) ⟨s.mem,xE s.val T k v⟩ (w2.setCell (ad gp k) (.slice (pA g) (T+3+1) cap)):=by
 obtain⟨x1,x2,x3⟩:=zvq ho
 have hpk:=h.pin k hk
 have hGk:w0.heap.size<=G k:=hpk.1
 have hbel2:Bw w0 w2:=h.bel.grown hg h.bel.size (fun q hq=>by injection hq with hq;omega)
 have hgp:gp≠G k:=h.pout.apart hpk.2.2.row (by decide)
 have hRk:R≠G k:=Za h.hR hpk.2.2.row (by decide)
 have hRl:R<wr.heap.size:=(Array.getElem?_eq_some_iff.1 h.hR).1
 have hRp:R≠gp:=Za h.hR h.pout (by decide)
 have blk:∀q,q<wr.heap.size->q≠G k->w2.heap[q]?=wr.heap[q]?:=fun q hq hne=>hg.block q hq (by intro e;exact hne (Option.some.inj e))
 have hgfar:∀q,q<wr.heap.size->q≠G k->q≠g:=by
  intro q hq hne e
  rcases hat with e2 | e2
  ·exact hne (e.trans (Option.some.inj e2).symm)
  ·omega
 have hpo:zu w2 gp 63 N (ZT G C (YG T k)):=h.pout.gG (blk gp h.pout.lt hgp)
 refine { bel:=hbel2.setCell (by show w0.heap.size<=gp;exact h.pb.1) _,hR:=?_,hRb:=h.hRb,pout:=?_,pb:=h.pb,pin:=?_,pinj:=?_,mout:=?_,min:=?_,apart:=?_ }
 ·rw [Below.heap_setCell _ _ _ _ (by show R≠gp;exact hRp),blk R hRl hRk];exact h.hR
 ·refine (hpo.set k _ hk).congr fun i hi=>?_
  by_cases e:i=k
  ·subst e;simp [ZT,YG]
  ·simp only [if_neg e,ZT,YG]
   by_cases e2:i<k
   ·rw [if_pos e2,if_pos (by omega)]
   ·rw [if_neg e2,if_neg (by omega)]
 ·intro i hi
  by_cases e:i=k
  ·subst e
   simp only [if_true]
   refine⟨x1,x2,?_⟩
   have hp:YG T (i+1) i=T+3+1:=by unfold YG;rw [if_pos (by omega)]
   rw [hp]
   refine (x3.gF (by show g≠gp;exact (hgfar gp h.pout.lt hgp).symm) _).congr fun j hj=>?_
   by_cases ej:j<T+3
   ·rw [zhd _ _ _ (by simpa using ej),Y5 _ _ _ ej]
    show iV (Zs B s.val i j)=iV (Zs B (xE s.val T i v) i j)
    unfold Zs
    by_cases e3:j<3
    ·rw [if_pos e3,if_pos e3]
    ·rw [if_neg e3,if_neg e3,zdg _ _ _ _ _ _ (by omega)]
   ·have e4:j=T+3:=by omega
    subst e4
    rw [zhc _ _ _ (by simp)]
    show _=iV (Zs B (xE s.val T i v) i (T+3))
    unfold Zs
    rw [if_neg (by omega),show T+3 - 3=T from by omega,zom]
  ·simp only [if_neg e]
   obtain⟨p1,p2,p3⟩:=h.pin i hi
   refine⟨p1,p2,?_⟩
   have hp:YG T (k+1) i=YG T k i:=by
    unfold YG
    by_cases e2:i<k
    ·rw [if_pos e2,if_pos (by omega)]
    ·rw [if_neg e2,if_neg (by omega)]
   rw [hp]
   refine ((p3.gG (blk (G i) p3.lt (h.pinj i k hi hk e))).gF (by show G i≠gp;exact (h.pout.apart p3.row (by decide)).symm) _).congr fun j hj=>?_
   show iV (Zs B s.val i j)=iV (Zs B (xE s.val T k v) i j)
   unfold Zs
   rw [zvt _ _ _ _ _ _ e]
 ·intro i j hi hj hij
  by_cases e1:i=k
  ·by_cases e2:j=k
   ·omega
   ·simp only [if_pos e1,if_neg e2]
    exact (hgfar (G j) (h.pin j hj).2.2.lt (h.pinj j k hj hk e2)).symm
  ·by_cases e2:j=k
   ·simp only [if_neg e1,if_pos e2]
    exact hgfar (G i) (h.pin i hi).2.2.lt (h.pinj i k hi hk e1)
   ·simp only [if_neg e1,if_neg e2]
    exact h.pinj i j hi hj hij
 ·rcases h.mout with h1 | ⟨h1,h2,h3,h4,h5,h6⟩
  ·exact .inl h1
  ·exact .inr ⟨h1,h2,h3,(h4.gG (blk gm h4.lt (h4.apart hpk.2.2.row (by decide)))).gF (by show gm≠gp;exact h6) _,h5,h6⟩
 ·exact (h.min.keep fun i hi=>blk (GM i) (h.min.1 i hi).2.2.2.lt (h.apart k i hk hi).symm).keep fun i hi=>Below.heap_setCell _ _ _ _ (by show GM i≠gp;exact (h.pout.apart (h.min.1 i hi).2.2.2 (by decide)).symm)
 ·intro i j hi hj
  by_cases e:i=k
  ·simp only [if_pos e]
   exact (hgfar (GM j) (h.min.1 j hj).2.2.2.lt (h.apart k j hk hj).symm).symm
  ·simp only [if_neg e]
   exact h.apart i j hi hj
theorem xz.next
  (h:xz w0 R l0 l1 l2 gp cp mv gm cm N n lenM GM CM B G C T N s wr):xz w0 R l0 l1 l2 gp cp mv gm cm N n lenM GM CM B G C (T+1) 0 s wr:=by
 have hp:∀i,i<N->YG T N i=YG (T+1) 0 i:=fun i hi=>by unfold YG;rw [if_pos hi,if_neg (by omega)]
 exact { h with
  pout:=h.pout.congr fun i hi=>by unfold ZT;rw [hp i hi]
  pin:=fun i hi=>by rw [<-hp i hi];exact h.pin i hi }
theorem xz.words {capm:Nat}
  (h:xz w0 R l0 l1 l2 gp cp (.slice am n capm) gm capm N n lenM GM CM B G C T k s wr) (hc1:n<=capm) (hc2:capm<=maxLen) (hs:s.fine) :
  yo wr (.slice am n capm) ((List.range n).map fun i=>(List.range (lenM i)).map fun j=>s.mem i j):=by
 have hl:((List.range n).map fun i=>(List.range (lenM i)).map fun j=>s.mem i j).length=n:=by simp
 refine⟨am,capm,by rw [hl],by rw [hl];exact hc1,hc2,fun hp=>?_⟩
 rw [hl] at hp ⊢
 rcases h.mout with e | ⟨e1,e2,e3,e4,e5⟩
 ·omega
 injection e1 with f1 f2 f3
 refine⟨gm,0,f1,e4.lt,fun i hi=>⟨ZT GM CM lenM i,by rw [Nat.zero_add];exact e4.cell hi,?_⟩⟩
 obtain⟨g1,g2,g3,g4⟩:=h.min.1 i hi
 have hr:zv ((List.range n).map fun i=>(List.range (lenM i)).map fun j=>s.mem i j) i=(List.range (lenM i)).map fun j=>s.mem i j:=by unfold zv;simp [List.getD,hi]
 have hnth:∀j,j<lenM i->nth ((List.range (lenM i)).map fun j=>s.mem i j) j=s.mem i j:=fun j hj=>by unfold nth;simp [List.getD,hj]
 have hl2:((List.range (lenM i)).map fun j=>s.mem i j).length=lenM i:=by simp
 rw [hr]
 refine⟨some (ad (GM i) 0),CM i,by rw [hl2];rfl,by rw [hl2];exact g2,g3,fun j hj=>?_,fun _=>⟨GM i,0,rfl,g4.lt,fun j hj=>?_⟩⟩
 ·rw [hl2] at hj;rw [hnth j hj];exact hs.1 i j
 ·rw [hl2] at hj;rw [Nat.zero_add,hnth j hj];exact g4.cell hj
theorem xz.cells
  (h:xz w0 R l0 l1 l2 gp cp mv gm cm N n lenM GM CM B G C T k s wr):wr.cell? (ad R 0)=some l0/\wr.cell? (ad R 1)=some l1/\wr.cell? (ad R 2)=some l2 /\
   wr.cell? (ad R 3)=some (.slice (pA gp) N cp)/\wr.cell? (ad R 4)=some mv/\R<wr.heap.size :=
 ⟨by rw [cell_of_block h.hR];rfl,by rw [cell_of_block h.hR];rfl,by rw [cell_of_block h.hR];rfl,by rw [cell_of_block h.hR];rfl,by rw [cell_of_block h.hR];rfl,(Array.getElem?_eq_some_iff.1 h.hR).1⟩
theorem UF {n k x y:Int} (h:yN n k x y=true) (hk:k<=n):0<=x/\x<n/\0<=y/\y<=3/\(y=0->x<k):=by
 unfold yN at h
 rw [Bool.and_eq_true] at h
 have h1:=zx.1 h.1
 have h2:=zx.1 h.2
 split at h2 <;> omega
theorem zov (w:World) (x y:Int)
  (hI:xz w0 R l0 l1 l2 gp cp mv gm cm N n lenM GM CM B G C T k s w) (ht:T<=200) (hx0:0<=x) (hx:x<N) (hy0:0<=y) (hy:y<=3) (hxy:y=0->x<k) :
  Calls prog 150 #[.pointer (pA R),.agg #[iV x,iV y],iV T] w (Rt w (iV (UE B s.val T x y))):=by
 obtain⟨a,rfl⟩:=Int.eq_ofNat_of_zero_le hx0
 obtain⟨d,rfl⟩:=Int.eq_ofNat_of_zero_le hy0
 have haN:a<N:=by omega
 obtain⟨-,-,-,c3,-,hRz⟩:=hI.cells
 have hpo:w.cell? (ad gp a)=some (.slice (pA (G a)) (YG T k a) (C a)):=hI.pout.cell haN
 have hpz:=hI.pout.lt
 obtain⟨p1,p2,p3⟩:=hI.pin a haN
 obtain⟨-,b2,b3⟩:=hI.pb
 obtain⟨j,hj⟩:∃j,3+T=d+j:=⟨3+T - d,by omega⟩
 have hjl:j<YG T k a:=by
  unfold YG
  split <;> omega
 have hc:=p3.row.cell hjl
 have hGz:=p3.lt
 have hle:=p3.le
 have HV:Hid (UE B s.val T a d=Zs B s.val a j):=by
  show _=_
  rw [<-zrk B s.val T a d (by omega),show 3+T - d=j from by omega]
 have e0:IntKind.i64.wrap (3+(T:Int))=3+(T:Int):=by rw [IntKind.wrap_i64];omega
 have e1:(3:Int)+(T:Int) - (d:Int)=(j:Int):=by omega
 have e2:(j:Int)<(YG T k a:Int):=by omega
 have e3:(a:Int)<(N:Int):=by omega
 have e4:IntKind.i64.wrap (j:Int)=(j:Int):=by rw [IntKind.wrap_i64];omega
 unfold maxLen at p2 b3
 generalize YG T k a=pl at *
 generalize Zs B s.val a j=pv at *
 clear p3 hI p1 hx0 hy0 hx hxy hj
 go_enter func150,ntmps150
 go_wp2_with fail
 go_quiet ((fail))
 go_wp2_with fail
 go_ret
 exact⟨yO HV.out.symm,(below_alloc1 _ _).trans (below_draws _ _ _)⟩
theorem zl3 (w:World) (L:Lp) (o xa xb ya yb sp pl nn:Int) (i j:Nat)
  (hI:xz w0 R l0 l1 l2 gp cp mv gm cm N n lenM GM CM B G C T k s w) (hL:zK w0 l0 L.l) (hn:n=L.l.length) (hi:i<n) (hj:idx sp pl T (nth L.l i)=(j:Int)) (hjl:j<lenM i) (hlm:lenM i<=32) :
  Calls prog 149 #[.pointer (pA R),.agg #[iV o,iV xa,iV xb,iV ya,iV yb,iV i,iV sp,iV pl,iV nn],iV T] w fun e w' =>
   e=.returned (.pointer (some (ad (GM i) j)))/\Bw w w':=by
 obtain⟨c0,-,-,-,c4,hRz⟩:=hI.cells
 have gH:=hI.bel
 rcases hI.mout with h0 | ⟨rfl,m2,m3,m4,m5,m6⟩
 ·omega
 obtain⟨a,cap,rfl,ll,lm,lr,lc⟩:=hL
 obtain⟨lb,lo,rfl,hlb,hlc⟩:=lc (by omega)
 have hlk:=hlc i (by omega)
 rw [<-zf gH _ _ hlb] at hlk
 have hlz:lb<w.heap.size:=by have:=gH.size;omega
 have hmo:w.cell? (ad gm i)=some (.slice (pA (GM i)) (lenM i) (CM i)):=m4.cell hi
 have hmz:=m4.lt
 obtain⟨i1,i2,i3,i4⟩:=hI.min.1 i hi
 have hGz:=i4.lt
 have e1:(i:Int)<(n:Int):=by omega
 have e2:(i:Int)<(L.l.length:Int):=by omega
 have e3:(j:Int)<(lenM i:Int):=by omega
 unfold maxLen at m3 lm i3
 generalize lenM i=lmi at *
 generalize nth L.l i=lg at *
 clear i4 i1 m4 hI gH lc hlc lr
 go_enter func149,ntmps149
 go_wp2_with fail
 go_quiet ((go_at_call 175;exact Calls.quiet_of_same (U4 _ _ _ _ _)))
 go_wp2_with fail
 go_ret
 exact⟨rfl,(below_alloc1 _ _).trans (below_draws _ _ _)⟩
def Us (n:Nat) (GM:Nat->Nat) (w w':World):Prop:=(∀g,g<w.heap.size->(∀i,i<n->g≠GM i)->w'.heap[g]?=w.heap[g]?)/\w.heap.size<=w'.heap.size
theorem Us.of_below (h:Bw w w'):Us n GM w w':=⟨fun g hg _=>h.block g hg,h.size⟩
theorem ztn (w:World) (L:Lp) (o xa xb ya yb ar sp pl nn:Int)
  (hI:xz w0 R l0 l1 l2 gp cp mv gm cm N n lenM GM CM B G C T k s w) (hx:zc L.b k=⟨o,xa,xb,ya,yb,ar,sp,pl,nn⟩) (ht:T<=200) (hk:k<N) (o1:11<=o) (o2:o<=18) (ra:yN N k xa xb=true) (rb:yN N k ya yb=true) :
  Calls prog 111 #[.pointer (pA R),.agg #[iV o,iV xa,iV xb,iV ya,iV yb,iV ar,iV sp,iV pl,iV nn],iV T] w fun e w' =>
   ∃v m,Zu L B T s k=⟨m,xE s.val T k v⟩/\e=.returned (iV v)/\xz w0 R l0 l1 l2 gp cp mv gm cm N n lenM GM CM B G C T k ⟨m,s.val⟩ w'/\Us n GM w w':=by
 obtain⟨a1,a2,a3,a4,a5⟩:=UF ra (by omega)
 obtain⟨b1,b2,b3,b4,b5⟩:=UF rb (by omega)
 have q1:(o == 1)=false:=beq_eq_false_iff_ne.2 (by omega)
 have q2:(o == 2)=false:=beq_eq_false_iff_ne.2 (by omega)
 have q3:(o == 3)=false:=beq_eq_false_iff_ne.2 (by omega)
 have q4:(o == 4)=false:=beq_eq_false_iff_ne.2 (by omega)
 have ho10:IntKind.i64.wrap (o - 10)=o - 10:=zzz _ (by omega) (by omega)
 have HI:=z9 hI
 have HS:=z9 (zyt (B:=B) (t:=T) (s:=s) hx o1)
 clear hI hx ra rb
 go_enter func111,ntmps111
 go_wp2_with fail
 go_region_held3 (fun w'=>w'.cell? (ad w.heap.size 0)=sI o/\w'.cell? (ad w.heap.size 1)=sI xa/\w'.cell? (ad w.heap.size 2)=sI xb/\w'.cell? (ad w.heap.size 3)=sI ya/\w'.cell? (ad w.heap.size 4)=sI yb/\w.heap.size<w'.heap.size/\Bw w w')
  ((go_split_ands;refine⟨?_,?_,?_,?_,?_,?_,?_⟩ <;> first | (rw [zf hbw _ _ (by assumption)];assumption) | exact Nat.lt_of_lt_of_le (by assumption) hbw.size | exact Below.trans (by assumption) (hbw.mono (Nat.le_of_lt (by assumption))) | (go_keep;done) | exact (below_alloc1 _ _).drew))
  (first
   | (go_at_call 150;refine Calls.mono (zov _ _ _ (HI.out.gE (by go_split_ands;assumption)) ht (by first | exact a1 | exact b1) (by first | exact a2 | exact b2) (by first | exact a3 | exact b3) (by first | exact a4 | exact b4) (by first | exact a5 | exact b5)) ?_;rintro e w2 ⟨rfl,hbw⟩)
   | (go_at_call 151;refine (zoh _ _ _ _).mono ?_;rintro e w4 ⟨rfl,hbw⟩))
 go_wp2_with fail
 go_split_ands
 have hbe:Bw w w4:=by assumption
 go_ret
 exact⟨_,_,HS.out,rfl,HI.out.gE hbe,Us.of_below hbe⟩
theorem zx6 (w:World) (L:Lp) (xa xb ya yb ar sp pl nn:Int)
  (hI:xz w0 R l0 l1 l2 gp cp mv gm cm N n lenM GM CM B G C T k s w) (hx:zc L.b k=⟨1,xa,xb,ya,yb,ar,sp,pl,nn⟩) :
  Calls prog 111 #[.pointer (pA R),.agg #[iV 1,iV xa,iV xb,iV ya,iV yb,iV ar,iV sp,iV pl,iV nn],iV T] w fun e w' =>
   ∃v m,Zu L B T s k=⟨m,xE s.val T k v⟩/\e=.returned (iV v)/\xz w0 R l0 l1 l2 gp cp mv gm cm N n lenM GM CM B G C T k ⟨m,s.val⟩ w'/\Us n GM w w':=by
 have HI:=z9 hI
 have HS:=z9 (yaq (B:=B) (t:=T) (s:=s) hx)
 clear hI hx
 go_enter func111,ntmps111
 go_wp2_with fail
 go_ret
 exact⟨_,_,HS.out,rfl,HI.out.gE (below_alloc1 _ _),Us.of_below (below_alloc1 _ _)⟩
theorem zx7 (w:World) (L:Lp) (xa xb ya yb ar sp pl nn:Int)
  (hI:xz w0 R l0 l1 l2 gp cp mv gm cm N n lenM GM CM B G C T k s w) (hx:zc L.b k=⟨2,xa,xb,ya,yb,ar,sp,pl,nn⟩) :
  Calls prog 111 #[.pointer (pA R),.agg #[iV 2,iV xa,iV xb,iV ya,iV yb,iV ar,iV sp,iV pl,iV nn],iV T] w fun e w' =>
   ∃v m,Zu L B T s k=⟨m,xE s.val T k v⟩/\e=.returned (iV v)/\xz w0 R l0 l1 l2 gp cp mv gm cm N n lenM GM CM B G C T k ⟨m,s.val⟩ w'/\Us n GM w w':=by
 have HI:=z9 hI
 have HS:=z9 (yar (B:=B) (t:=T) (s:=s) hx)
 clear hI hx
 go_enter func111,ntmps111
 go_wp2_with fail
 go_ret
 exact⟨_,_,HS.out,rfl,HI.out.gE (below_alloc1 _ _),Us.of_below (below_alloc1 _ _)⟩
theorem zx8 (w:World) (L:Lp) (xa xb ya yb sp pl nn:Int) (i:Nat)
  (hI:xz w0 R l0 l1 l2 gp cp mv gm cm N n lenM GM CM B G C T k s w) (hx:zc L.b k=⟨3,xa,xb,ya,yb,i,sp,pl,nn⟩) (hL:zK w0 l0 L.l) (hn:n=L.l.length) (hi:i<n)
  (hlen:∀i,i<n->lenM i=2 ^ (nth L.l i).toNat/\lenM i<=32) :
  Calls prog 111 #[.pointer (pA R),.agg #[iV 3,iV xa,iV xb,iV ya,iV yb,iV i,iV sp,iV pl,iV nn],iV T] w fun e w' =>
   ∃v m,Zu L B T s k=⟨m,xE s.val T k v⟩/\e=.returned (iV v)/\xz w0 R l0 l1 l2 gp cp mv gm cm N n lenM GM CM B G C T k ⟨m,s.val⟩ w'/\Us n GM w w':=by
 have hjc:=VR L T ⟨3,xa,xb,ya,yb,i,sp,pl,nn⟩
 have hjl:=zgl L T ⟨3,xa,xb,ya,yb,i,sp,pl,nn⟩
 have hs:=yas (B:=B) (t:=T) (s:=s) hx
 dsimp only at hjc hjl
 rw [Int.toNat_natCast] at hjc hjl hs
 rw [<-(hlen i hi).1] at hjl
 generalize yU L T ⟨3,xa,xb,ya,yb,i,sp,pl,nn⟩=j at *
 have HS:=z9 hs
 have HI:=z9 hI
 have gR:=(hI.min.1 i hi).2.2.2.cell hjl
 have hGz:=(hI.min.1 i hi).2.2.2.lt
 have hbal:Bw w (w.alloc (.cells #[iV 3,iV xa,iV xb,iV ya,iV yb,iV i,iV sp,iV pl,iV nn] 41)):=below_alloc1 _ _
 have HBA:=z9 hbal
 have h32:=(hlen i hi).2
 clear hI hs hx hlen hbal
 go_enter func111,ntmps111
 go_wp2_with fail
 refine (zl3 _ L 3 xa xb ya yb sp pl nn i j (HI.out.gE HBA.out) hL hn hi hjc hjl h32).mono ?_
 rintro e w1 ⟨rfl,hb1⟩
 have hb2:Bw w w1:=HBA.out.trans (hb1.mono (by simp))
 rw [<-zf hb2 _ _ hGz] at gR
 have HB2:=z9 hb2
 clear hb2 hb1 hjc
 go_wp2_with fail
 go_ret
 exact⟨_,_,HS.out,rfl,HI.out.gE HB2.out,Us.of_below HB2.out⟩
theorem zx9 (w:World) (L:Lp) (xa xb ya yb sp pl nn:Int) (i:Nat)
  (hI:xz w0 R l0 l1 l2 gp cp mv gm cm N n lenM GM CM B G C T k s w) (hx:zc L.b k=⟨4,xa,xb,ya,yb,i,sp,pl,nn⟩) (hL:zK w0 l0 L.l) (hn:n=L.l.length) (hi:i<n)
  (hlen:∀i,i<n->lenM i=2 ^ (nth L.l i).toNat/\lenM i<=32) (ht:T<=200) (hk:k<N) (ra:yN N k xa xb=true) :
  Calls prog 111 #[.pointer (pA R),.agg #[iV 4,iV xa,iV xb,iV ya,iV yb,iV i,iV sp,iV pl,iV nn],iV T] w fun e w' =>
   ∃v m,Zu L B T s k=⟨m,xE s.val T k v⟩/\e=.returned (iV v)/\xz w0 R l0 l1 l2 gp cp mv gm cm N n lenM GM CM B G C T k ⟨m,s.val⟩ w'/\Us n GM w w':=by
 obtain⟨a1,a2,a3,a4,a5⟩:=UF ra (by omega)
 have hjc:=VR L T ⟨4,xa,xb,ya,yb,i,sp,pl,nn⟩
 have hjl:=zgl L T ⟨4,xa,xb,ya,yb,i,sp,pl,nn⟩
 have hs:=yat (B:=B) (t:=T) (s:=s) hx
 dsimp only at hjc hjl
 rw [Int.toNat_natCast] at hjc hjl hs
 rw [<-(hlen i hi).1] at hjl
 generalize yU L T ⟨4,xa,xb,ya,yb,i,sp,pl,nn⟩=j at *
 have HS:=z9 hs
 have HI:=z9 hI
 have hbal:Bw w (w.alloc (.cells #[iV 4,iV xa,iV xb,iV ya,iV yb,iV i,iV sp,iV pl,iV nn] 41)):=below_alloc1 _ _
 have HBA:=z9 hbal
 have h32:=(hlen i hi).2
 clear hI hs hx hlen hbal
 go_enter func111,ntmps111
 go_wp2_with fail
 refine (zl3 _ L 4 xa xb ya yb sp pl nn i j (HI.out.gE HBA.out) hL hn hi hjc hjl h32).mono ?_
 rintro e w1 ⟨rfl,hb1⟩
 have hb2:Bw w w1:=HBA.out.trans (hb1.mono (by simp))
 have hxc:∀o,w1.cell? (ad w.heap.size o)=(w.alloc (.cells #[iV 4,iV xa,iV xb,iV ya,iV yb,iV i,iV sp,iV pl,iV nn] 41)).cell? (ad w.heap.size o):=fun o=>hb1.cell (p:=(ad w.heap.size o)) (by simp)
 have hx1:w1.cell? (ad w.heap.size 1)=sI xa:=by rw [hxc];go_simp
 have hx2:w1.cell? (ad w.heap.size 2)=sI xb:=by rw [hxc];go_simp
 have HB2:=z9 hb2
 clear hb2 hb1 hjc hxc
 go_wp2_with fail
 refine (zov _ xa xb (HI.out.gE HB2.out) ht a1 a2 a3 a4 a5).mono ?_
 rintro e w2 ⟨rfl,hb3⟩
 have hb4:Bw w w2:=HB2.out.trans (hb3.mono HB2.out.size)
 have HI2:=z9 (HI.out.gE hb4)
 have gR:=(HI2.out.min.1 i hi).2.2.2.cell hjl
 have hfr:=(HI2.out.min.1 i hi).2.2.2.frozen j
 have HG:=z9 (HI.out.min.1 i hi).1
 have HB4:=z9 hb4
 clear hb3 hb4
 go_wp2_with fail
 go_ret
 refine⟨_,_,HS.out,rfl,HI2.out.setMem i j _ hi hjl,fun g hg hne=>?_,by simpa using HB4.out.size⟩
 rw [Below.heap_setCell _ _ _ _ (by show g≠GM i;exact hne i hi)]
 exact HB4.out.block g hg
theorem zpq (w:World) (L:Lp) (x:St)
  (hI:xz w0 R l0 l1 l2 gp cp mv gm cm N n lenM GM CM B G C T k s w) (hx:zc L.b k=x) (hL:zK w0 l0 L.l) (hn:n=L.l.length)
  (hlen:∀i,i<n->lenM i=2 ^ (nth L.l i).toNat/\lenM i<=32) (ht:T<=200) (hk:k<N) (hok:yH n N k x=true) :
  Calls prog 111 #[.pointer (pA R),.agg (zP x),iV T] w fun e w' =>
   ∃v m,Zu L B T s k=⟨m,xE s.val T k v⟩/\e=.returned (iV v)/\xz w0 R l0 l1 l2 gp cp mv gm cm N n lenM GM CM B G C T k ⟨m,s.val⟩ w'/\Us n GM w w':=by
 obtain⟨o,xa,xb,ya,yb,ar,sp,pl,nn⟩:=x
 have hpos:=zaj hok
 simp only at hpos
 rcases hpos with rfl | rfl | ⟨rfl,q1,q2⟩ | ⟨rfl,q1,q2,q3⟩ | ⟨q1,q2,q3,q4⟩
 ·exact zx6 w L xa xb ya yb ar sp pl nn hI hx
 ·exact zx7 w L xa xb ya yb ar sp pl nn hI hx
 ·obtain⟨i,rfl⟩:=Int.eq_ofNat_of_zero_le q1
  exact zx8 w L xa xb ya yb sp pl nn i hI hx hL hn (by omega) hlen
 ·obtain⟨i,rfl⟩:=Int.eq_ofNat_of_zero_le q1
  exact zx9 w L xa xb ya yb sp pl nn i hI hx hL hn (by omega) hlen ht hk q3
 ·exact ztn w L o xa xb ya yb ar sp pl nn hI hx ht hk q1 q2 q3 q4
theorem Ux {rv c0 c1 c2 c3 c4 c5 c6 c7 c8:Value} {W:World}
  (h:W.cell? (ad R 3)=some pv/\W.cell? (ad X 0)=some c0/\W.cell? (ad X 1)=some c1/\W.cell? (ad X 2)=some c2/\W.cell? (ad X 3)=some c3/\W.cell? (ad X 4)=some c4/\W.cell? (ad X 5)=some c5/\W.cell? (ad X 6)=some c6/\W.cell? (ad X 7)=some c7/\W.cell? (ad X 8)=some c8/\W.cell? (ad gp k)=some rv)
  (h1:w'.heap[R]?=W.heap[R]?) (h2:w'.heap[X]?=W.heap[X]?) (h3:w'.heap[gp]?=W.heap[gp]?) :
  w'.cell? (ad R 3)=some pv/\w'.cell? (ad X 0)=some c0/\w'.cell? (ad X 1)=some c1/\w'.cell? (ad X 2)=some c2/\w'.cell? (ad X 3)=some c3/\w'.cell? (ad X 4)=some c4/\w'.cell? (ad X 5)=some c5/\w'.cell? (ad X 6)=some c6/\w'.cell? (ad X 7)=some c7/\w'.cell? (ad X 8)=some c8/\w'.cell? (ad gp k)=some rv:=by
 have e1:∀o,w'.cell? (ad R o)=W.cell? (ad R o):=fun o=>World.cell?_of_block (a:=(ad R o)) h1
 have e2:∀o,w'.cell? (ad X o)=W.cell? (ad X o):=fun o=>World.cell?_of_block (a:=(ad X o)) h2
 have e3:∀o,w'.cell? (ad gp o)=W.cell? (ad gp o):=fun o=>World.cell?_of_block (a:=(ad gp o)) h3
 rw [e1,e2,e2,e2,e2,e2,e2,e2,e2,e2,e3]
 exact h
theorem zol (T k:Nat):YG T k k=T+3:=by unfold YG;rw [if_neg (by omega)]
theorem zil (h:xz w0 R l0 l1 l2 gp cp mv gm cm N n lenM GM CM B G C T k s wr) (hk:k<N) :
  (wr.alloc (.cells #[iV o,iV xa,iV xb,iV ya,iV yb,iV ar,iV sp,iV pl,iV nn] 41)).cell? (ad R 3)=some (.slice (pA gp) N cp)/\(wr.alloc (.cells #[iV o,iV xa,iV xb,iV ya,iV yb,iV ar,iV sp,iV pl,iV nn] 41)).cell? (ad wr.heap.size 0)=sI o/\(wr.alloc (.cells #[iV o,iV xa,iV xb,iV ya,iV yb,iV ar,iV sp,iV pl,iV nn] 41)).cell? (ad wr.heap.size 1)=sI xa/\(wr.alloc (.cells #[iV o,iV xa,iV xb,iV ya,iV yb,iV ar,iV sp,iV pl,iV nn] 41)).cell? (ad wr.heap.size 2)=sI xb/\(wr.alloc (.cells #[iV o,iV xa,iV xb,iV ya,iV yb,iV ar,iV sp,iV pl,iV nn] 41)).cell? (ad wr.heap.size 3)=sI ya/\(wr.alloc (.cells #[iV o,iV xa,iV xb,iV ya,iV yb,iV ar,iV sp,iV pl,iV nn] 41)).cell? (ad wr.heap.size 4)=sI yb/\(wr.alloc (.cells #[iV o,iV xa,iV xb,iV ya,iV yb,iV ar,iV sp,iV pl,iV nn] 41)).cell? (ad wr.heap.size 5)=sI ar/\(wr.alloc (.cells #[iV o,iV xa,iV xb,iV ya,iV yb,iV ar,iV sp,iV pl,iV nn] 41)).cell? (ad wr.heap.size 6)=sI sp/\(wr.alloc (.cells #[iV o,iV xa,iV xb,iV ya,iV yb,iV ar,iV sp,iV pl,iV nn] 41)).cell? (ad wr.heap.size 7)=sI pl/\(wr.alloc (.cells #[iV o,iV xa,iV xb,iV ya,iV yb,iV ar,iV sp,iV pl,iV nn] 41)).cell? (ad wr.heap.size 8)=sI nn/\(wr.alloc (.cells #[iV o,iV xa,iV xb,iV ya,iV yb,iV ar,iV sp,iV pl,iV nn] 41)).cell? (ad gp k)=some (.slice (pA (G k)) (T+3) (C k)):=by
 obtain⟨-,-,-,d3,-,hRz⟩:=h.cells
 have e:(wr.alloc (.cells #[iV o,iV xa,iV xb,iV ya,iV yb,iV ar,iV sp,iV pl,iV nn] 41)).cell? (ad R 3)=some (.slice (pA gp) N cp):=by
  rw [zf (below_alloc1 _ _) _ _ hRz];exact d3
 have e2:(wr.alloc (.cells #[iV o,iV xa,iV xb,iV ya,iV yb,iV ar,iV sp,iV pl,iV nn] 41)).cell? (ad gp k)=some (.slice (pA (G k)) (T+3) (C k)):=by
  rw [zf (below_alloc1 _ _) _ _ h.pout.lt,<-zol T k];exact h.pout.cell hk
 refine⟨e,?_,?_,?_,?_,?_,?_,?_,?_,?_,e2⟩ <;> go_simp
theorem zxd {sq:Sq} (h:xz w0 R l0 l1 l2 gp cp mv gm cm N n lenM GM CM B G C T k s wr) (hk:k<N)
  (hI2:xz w0 R l0 l1 l2 gp cp mv gm cm N n lenM GM CM B G C T k sq w2) (hkp:Us n GM (wr.alloc (.cells #[iV o,iV xa,iV xb,iV ya,iV yb,iV ar,iV sp,iV pl,iV nn] 41)).drew w2) :
  (w2.cell? (ad R 3)=some (.slice (pA gp) N cp)/\w2.cell? (ad wr.heap.size 0)=sI o/\w2.cell? (ad wr.heap.size 1)=sI xa/\w2.cell? (ad wr.heap.size 2)=sI xb/\w2.cell? (ad wr.heap.size 3)=sI ya/\w2.cell? (ad wr.heap.size 4)=sI yb/\w2.cell? (ad wr.heap.size 5)=sI ar/\w2.cell? (ad wr.heap.size 6)=sI sp/\w2.cell? (ad wr.heap.size 7)=sI pl/\w2.cell? (ad wr.heap.size 8)=sI nn/\w2.cell? (ad gp k)=some (.slice (pA (G k)) (T+3) (C k)))/\wr.heap.size<w2.heap.size:=by
 have hz:wr.heap.size<w2.heap.size:=by
  have h2:=hkp.2
  have h3:(wr.alloc (.cells #[iV o,iV xa,iV xb,iV ya,iV yb,iV ar,iV sp,iV pl,iV nn] 41)).drew.heap.size=wr.heap.size+1:=by simp
  omega
 have hRz:=h.cells.2.2.2.2.2
 have hpz:=h.pout.lt
 exact⟨Ux (zil (o:=o) (xa:=xa) (xb:=xb) (ya:=ya) (yb:=yb) (ar:=ar) (sp:=sp) (pl:=pl) (nn:=nn) h hk) (w':=w2) (hkp.1 R (by simp;omega) (fun i hi=>Za h.hR (h.min.1 i hi).2.2.2 (by decide)))
  (hkp.1 wr.heap.size (by simp) (fun i hi=>by have:=(h.min.1 i hi).2.2.2.lt;omega))
  (hkp.1 gp (by simp;omega) (fun i hi=>h.pout.apart (h.min.1 i hi).2.2.2 (by decide))),hz⟩
theorem zxe (h:xz w0 R l0 l1 l2 gp cp mv gm cm N n lenM GM CM B G C T k s w2)
  (K:w2.cell? (ad R 3)=some (.slice (pA gp) N cp)/\w2.cell? (ad X 0)=sI o/\w2.cell? (ad X 1)=sI xa/\w2.cell? (ad X 2)=sI xb/\w2.cell? (ad X 3)=sI ya/\w2.cell? (ad X 4)=sI yb/\w2.cell? (ad X 5)=sI ar/\w2.cell? (ad X 6)=sI sp/\w2.cell? (ad X 7)=sI pl/\w2.cell? (ad X 8)=sI nn/\w2.cell? (ad gp k)=some (.slice (pA (G k)) (T+3) (C k))) (hX:X<w2.heap.size) (Y:Obj):(w2.alloc Y).cell? (ad R 3)=some (.slice (pA gp) N cp)/\(w2.alloc Y).cell? (ad X 0)=sI o/\(w2.alloc Y).cell? (ad X 1)=sI xa/\(w2.alloc Y).cell? (ad X 2)=sI xb/\(w2.alloc Y).cell? (ad X 3)=sI ya/\(w2.alloc Y).cell? (ad X 4)=sI yb/\(w2.alloc Y).cell? (ad X 5)=sI ar/\(w2.alloc Y).cell? (ad X 6)=sI sp/\(w2.alloc Y).cell? (ad X 7)=sI pl/\(w2.alloc Y).cell? (ad X 8)=sI nn/\(w2.alloc Y).cell? (ad gp k)=some (.slice (pA (G k)) (T+3) (C k)) :=
 Ux K (Below.heap_alloc _ _ _ h.cells.2.2.2.2.2) (Below.heap_alloc _ _ _ hX) (Below.heap_alloc _ _ _ h.pout.lt)
theorem zpx {w3:World} {Y:Obj} (h:xz w0 R l0 l1 l2 gp cp mv gm cm N n lenM GM CM B G C T k s w2) (hk:k<N)
  (K:w2.cell? (ad R 3)=some (.slice (pA gp) N cp)/\w2.cell? (ad X 0)=sI o/\w2.cell? (ad X 1)=sI xa/\w2.cell? (ad X 2)=sI xb/\w2.cell? (ad X 3)=sI ya/\w2.cell? (ad X 4)=sI yb/\w2.cell? (ad X 5)=sI ar/\w2.cell? (ad X 6)=sI sp/\w2.cell? (ad X 7)=sI pl/\w2.cell? (ad X 8)=sI nn/\w2.cell? (ad gp k)=some (.slice (pA (G k)) (T+3) (C k))) (hX:X<w2.heap.size) (hXs:∃c,w2.heap[X]?=some (.cells c 41 (0,0))) (hg:(w2.alloc Y).grownBy w3 (some (G k))) :
  (w3.cell? (ad R 3)=some (.slice (pA gp) N cp)/\w3.cell? (ad X 0)=sI o/\w3.cell? (ad X 1)=sI xa/\w3.cell? (ad X 2)=sI xb/\w3.cell? (ad X 3)=sI ya/\w3.cell? (ad X 4)=sI yb/\w3.cell? (ad X 5)=sI ar/\w3.cell? (ad X 6)=sI sp/\w3.cell? (ad X 7)=sI pl/\w3.cell? (ad X 8)=sI nn/\w3.cell? (ad gp k)=some (.slice (pA (G k)) (T+3) (C k)))/\w3.frozen? (ad gp k)=false:=by
 have gI:=(h.pin k hk).2.2.row
 have hRz:=h.cells.2.2.2.2.2
 obtain⟨c,hc⟩:=hXs
 have blk:∀q,q<w2.heap.size->q≠G k->w3.heap[q]?=w2.heap[q]?:=fun q hq hne=>by
  rw [hg.block q (by simp;omega) (by intro e;exact hne (Option.some.inj e)),Below.heap_alloc _ _ _ hq]
 have b3:=blk gp h.pout.lt (h.pout.apart gI (by decide))
 have hp3:zu w3 gp 63 N (ZT G C (YG T k)):=h.pout.gG b3
 exact⟨Ux K (blk R hRz (Za h.hR gI (by decide))) (blk X hX (Za hc gI (by decide))) b3,hp3.frozen k⟩
theorem zzs (hkp:Us n GM (wr.alloc (.cells c 41)).drew w2) (h:∀i,i<n->GM i<wr.heap.size):∃c,w2.heap[wr.heap.size]?=some (.cells c 41 (0,0)):=by
 refine⟨c,?_⟩
 rw [hkp.1 wr.heap.size (by simp) (fun i hi=>by have:=h i hi;omega)]
 show (wr.heap.push _)[wr.heap.size]?=_
 simp
theorem zzt (h:xz w0 R l0 l1 l2 gp cp mv gm cm N n lenM GM CM B G C T k s w2) (hk:k<N) (Y:Obj) :
  (w2.alloc Y).ownsRow w0.heap.size 2 1 (.slice (pA (G k)) (T+3) (C k)) (T+3) ((List.range (T+3)).map (fun j=>iV (Zs B s.val k j))):=by
 obtain⟨p1,p2,p3⟩:=h.pin k hk
 rw [zol] at p3
 exact zA (p3.own p1 p2) (below_alloc1 _ _)
theorem zlg (w:World) (L:Lp) (o xa xb ya yb ar sp pl nn:Int)
  (hI:xz w0 R l0 l1 l2 gp cp mv gm cm N n lenM GM CM B G C T k s w) (hx:zc L.b k=⟨o,xa,xb,ya,yb,ar,sp,pl,nn⟩) (hL:zK w0 l0 L.l) (hn:n=L.l.length)
  (hlen:∀i,i<n->lenM i=2 ^ (nth L.l i).toNat/\lenM i<=32) (ht:T<=200) (hk:k<N) (hok:yH n N k ⟨o,xa,xb,ya,yb,ar,sp,pl,nn⟩=true) :
  Calls prog 111 #[.pointer (pA R),.agg #[iV o,iV xa,iV xb,iV ya,iV yb,iV ar,iV sp,iV pl,iV nn],iV T] w fun e w' =>
   ∃v m,Zu L B T s k=⟨m,xE s.val T k v⟩/\e=.returned (iV v)/\xz w0 R l0 l1 l2 gp cp mv gm cm N n lenM GM CM B G C T k ⟨m,s.val⟩ w'/\Us n GM w w' :=
 zpq w L ⟨o,xa,xb,ya,yb,ar,sp,pl,nn⟩ hI hx hL hn hlen ht hk hok
theorem zzr (w:World) (L:Lp)
  (hI:xz w0 R l0 l1 l2 gp cp mv gm cm N n lenM GM CM B G C T 0 s w) (hL:zE w0 (.agg #[l0,l1,l2]) L) (hN:N=L.b.length) (hn:n=L.l.length)
  (hlen:∀i,i<n->lenM i=2 ^ (nth L.l i).toNat/\lenM i<=32) (gQ:Y2 L=true) (h16:N<=16) (ht:T<=200) :
  Calls prog 61 #[.pointer (pA R),iV T] w fun e w'=>e=.returned (.tuple #[])/\∃G' C',xz w0 R l0 l1 l2 gp cp mv gm cm N n lenM GM CM B G' C' (T+1) 0 (zal L B T N s) w':=by
 obtain⟨v0,v1,v2,hv,hL0,⟨a1,gB,rfl,hl1,hm1,hc1⟩,hL2⟩:=hL
 injection hv with hv
 injection hv with hv
 injection hv with e0 hv
 injection hv with e1 hv
 injection hv with e2 hv
 subst e0;subst e1;subst e2
 unfold maxLen at hm1
 obtain⟨i0,hi,hz0,hz1,hz2⟩:=info_parts Tryz.i2
 obtain⟨-,d1,-,d3,-,hRz⟩:=hI.cells
 have HI:=z9 hI
 have HL:=z9 hL0
 have HLE:=z9 hlen
 have HBO:=z9 gQ
 have HC1:=z9 hc1
 have HN:=z9 hN
 have Hn:=z9 hn
 clear hI hv hL0 hL2 hlen gQ hc1 d3 hN hn
 go_enter func61,ntmps61
 go_wp2_with fail
 go_loopw [12] (fun i wr=>∃k:Nat,k<=N/\i=iV k/\∃G C,xz w0 R l0 (.slice a1 L.b.length gB) l2 gp cp mv gm cm N n lenM GM CM B G C T k (zal L B T k s) wr) (fun i _=>N - (intOf i).toNat)
 case atStart=>exact⟨0,Nat.zero_le _,rfl,G,C,HI.out⟩
 case round =>
  clear HI d1 hRz
  obtain⟨k,hk,rfl,G,C,hQ⟩:=hrel
  by_cases hkl:k<N
  ·have hki:(k:Int)<(L.b.length:Int):=by have:=HN.out;omega
   have hkN:(k:Int)<(N:Int):=by omega
   obtain⟨b,off,rfl,hb,gR⟩:=HC1.out (by have:=HN.out;omega)
   obtain⟨c0,c1,c2,c3,c4,c5,c6,c7,c8⟩:=V5 (gR k (by have:=HN.out;omega))
   rw [<-zf hQ.bel _ _ hb] at c0 c1 c2 c3 c4 c5 c6 c7 c8
   have hbz:b<wr.heap.size:=by have:=hQ.bel.size;omega
   obtain⟨-,p2,p3⟩:=hQ.pb
   unfold maxLen at p3
   have hst:yH n N k (zc L.b k)=true:=by rw [Hn.out,HN.out];exact zo HBO.out k (by have:=HN.out;omega)
   have HST:=z9 hst
   have HQ:=z9 hQ
   have HCO:Hid (Zu L B T (zal L B T k s) k=zal L B T (k+1) s):=rfl
   clear hst hQ gR
   generalize zal L B T k s=sq at *
   generalize hx:zc L.b k=x at *
   have HXX:=z9 hx
   clear hx
   obtain⟨o,xa,xb,ya,yb,ar,sp,pl,nn⟩:=x
   simp only at c0 c1 c2 c3 c4 c5 c6 c7 c8
   have HK1:=z9 (zil (o:=o) (xa:=xa) (xb:=xb) (ya:=ya) (yb:=yb) (ar:=ar) (sp:=sp) (pl:=pl) (nn:=nn) HQ.out hkl)
   go_wp2_with fail
   clear c0 c1 c2 c3 c4 c5 c6 c7 c8
   refine wp_region_noPanic ?_
   refine zm 19 (fun w'=>w'.cell? (ad R 3)=some (.slice (pA gp) N cp)/\w'.cell? (ad wr.heap.size 0)=sI o/\w'.cell? (ad wr.heap.size 1)=sI xa/\w'.cell? (ad wr.heap.size 2)=sI xb/\w'.cell? (ad wr.heap.size 3)=sI ya/\w'.cell? (ad wr.heap.size 4)=sI yb/\w'.cell? (ad wr.heap.size 5)=sI ar/\w'.cell? (ad wr.heap.size 6)=sI sp/\w'.cell? (ad wr.heap.size 7)=sI pl/\w'.cell? (ad wr.heap.size 8)=sI nn/\w'.cell? (ad gp k)=some (.slice (pA (G k)) (T+3) (C k))) (by kernel_rfl) HK1.out (fun h9=>?_)
   refine uk 0 h9 ?_
   refine uk 1 h9 ?_
   refine uk 2 h9 ?_
   refine uk 3 h9 ?_
   refine uk 4 h9 ?_
   refine uk 5 h9 ?_
   refine uk 6 h9 ?_
   refine uk 7 h9 ?_
   refine uk 8 h9 ?_
   refine uk 9 h9 ?_
   refine uk 10 h9 ?_
   refine uk 11 h9 ?_
   refine uk 12 h9 ?_
   refine uk 13 h9 ?_
   refine uk 14 h9 ?_
   refine ze (i:=15) rfl (by kernel_rfl) (fun K hK=>?_)
   go_simp
   refine (zlg _ L o xa xb ya yb ar sp pl nn (HQ.out.gE ((below_alloc1 _ _).drew)) HXX.out HL.out Hn.out HLE.out ht hkl HST.out).mono ?_
   rintro e w2 ⟨v,m,hst2,rfl,hI2,hkp⟩
   obtain⟨hk2,hwz2⟩:=zxd HQ.out hkl hI2 hkp
   have HX2:=z9 (zzs hkp (fun i hi=>(HQ.out.min.1 i hi).2.2.2.lt))
   have HI2:=z9 hI2
   have HS2:=z9 hst2
   have HBB:=z9 hI2.bel.size
   clear hI2 hst2 hkp h9
   refine nxt hK.out (.inr hk2) ?_
   clear hK K
   refine ze (i:=16) rfl (by kernel_rfl) (fun K hK=>?_)
   go_simp
   have hk2a:=zxe HI2.out hk2 hwz2 (.cells #[iV v] 2)
   refine nxt hK.out (.inr hk2a) ?_
   clear hK K
   refine ze (i:=17) rfl (by kernel_rfl) (fun K hK=>?_)
   refine step_append_lies _ (by rfl) (.tmp 28) (.tmp 33) 63 (by rfl) w0.heap.size 2 i0 (iV 0) 1 8 underlying63 hi hz0 hz1 hz2 rfl (by decide) _ (T+3) _ (by rfl) (zzt HI2.out hkl _) (ad w2.heap.size 0) 1 1 [iV v] (by rfl) rfl (xU _ _ _) (by intro u hu;simp at hu;subst hu;rfl) (by decide) (by unfold maxLen;omega) (by omega) (by have:=HBB.out;simp;omega) (w2.heap.size+1) (by simp) ?_
   intro g cap w3 hown3 hgrow3 hat3 hlt3
   obtain⟨hk3,hf3⟩:=zpx HI2.out hkl hk2 hwz2 HX2.out hgrow3
   have HO3:=z9 hown3
   have HG3:=z9 hgrow3
   have HA3:=z9 hat3
   clear hown3 hgrow3 hat3
   refine nxt hK.out (.inr hk3) ?_
   clear hK K hk2 hk2a
   have h9:=hk3
   have hpc3:=hk3.2.2.2.2.2.2.2.2.2.2
   refine uk 18 h9 ?_
   refine ze (i:=19) rfl (by kernel_rfl) (fun K hK=>?_)
   go_simp
   refine nxt hK.out (.inl rfl) ?_
   clear hK K
   refine zq (by kernel_rfl) ?_ _
   refine NoPanic.normal ?_
   clear hk3 h9
   go_wp2_with fail
   go_roundw
   case rel=>exact⟨k+1,by omega,by go_num,_,_,by
    rw [<-HCO.out,HS2.out]
    exact (HI2.out.gE (below_alloc1 _ _)).push hkl v HO3.out HG3.out (by
     rcases HA3.out with e | e
     ·exact .inl e
     ·exact .inr (by simp;omega))⟩
   case measure=>simp [intOf];omega
  ·have e:k=N:=by omega
   subst e
   have HQ:=z9 hQ
   have hki:¬(k:Int)<(L.b.length:Int):=by have:=HN.out;omega
   clear hQ
   go_wp2_with fail
   go_end0
   exact⟨rfl,G,C,HQ.out.next⟩
structure B1 (wb:World) (l0 l1 l2:Value) (B:List (List Int)) (k:Nat) (G C:Nat->Nat) (pa:Option Addr) (pc:Nat) (wr:World):Prop where
 bel:Bw wb wr
 hR:wr.heap[wb.heap.size]?=some (.cells #[l0,l1,l2,.slice pa k pc,.slice none 0 0] 169 (0,0))
 own:wr.ownsRow (wb.heap.size+1) 63 1 (.slice pa k pc) k ((List.range k).map (ZT G C (fun _=>3)))
 rows:∀i,i<k->wb.heap.size+1<=G i/\C i<=maxLen/\xX wr (G i) 2 (C i) 3 (fun j=>iV (nth (zv B i) (2 - j)))
 inj:∀i j,i<k->j<k->i≠j->G i≠G j
theorem B1.first (wb:World) (l0 l1 l2:Value) (B:List (List Int)):B1 wb l0 l1 l2 B 0 (fun _=>0) (fun _=>0) none 0 (wb.alloc (.cells #[l0,l1,l2,.slice none 0 0,.slice none 0 0] 169)) where
 bel:=below_alloc1 _ _
 hR:=by show (wb.heap.push _)[wb.heap.size]?=_;simp
 own:=World.ownsRow_nil _ _ _ _
 rows:=fun i hi=>absurd hi (Nat.not_lt_zero _)
 inj:=fun i j hi=>absurd hi (Nat.not_lt_zero _)
theorem B1.cells (h:B1 wb l0 l1 l2 B k G C pa pc wr) :
  wr.cell? (ad wb.heap.size 3)=some (.slice pa k pc)/\wr.cell? (ad wb.heap.size 4)=some (.slice none 0 0)/\wb.heap.size<wr.heap.size :=
 ⟨by rw [cell_of_block h.hR];rfl,by rw [cell_of_block h.hR];rfl,(Array.getElem?_eq_some_iff.1 h.hR).1⟩
theorem zmo (h:w.ownsRow base e 1 v n xs) (hg:g<base):some g≠v.ownBlock:=fun e=>by have:=yc h _ e.symm;omega
theorem zey {t:TypeId} {X:Obj} (hR:w.heap[R]?=some (.cells c t (0,0))) (ho:w.ownsRow base e 1 v n xs) (hb:R<base) (hg:(w.alloc X).grownBy w2 v.ownBlock) :
  w2.heap[R]?=some (.cells c t (0,0)):=by
 have hlt:=(Array.getElem?_eq_some_iff.1 hR).1
 rw [hg.block R (by simp;omega) (zmo ho hb),Below.heap_alloc _ _ _ hlt]
 exact hR
theorem B1.step {pa2:Option Addr} {pc2:Nat} {X:Obj} (h:B1 wb l0 l1 l2 B k G C pa pc wr)
  (hb1:Bw wr w1) (hg1:wr.heap.size<=g) (hm:cap<=maxLen) (hx:xX w1 g 2 cap 3 (fun j=>iV (zp3 (nth (zv B k)) j)))
  (ho2:w2.ownsRow (wb.heap.size+1) 63 1 (.slice pa2 (k+1) pc2) (k+1) ((List.range k).map (ZT G C (fun _=>3))++[.slice (pA g) 3 cap])) (hg2:(w1.alloc X).grownBy w2 (Value.ownBlock (.slice pa k pc))) :
  w2.cell? (ad wb.heap.size 3)=some (.slice pa k pc)/\w2.frozen? (ad wb.heap.size 3)=false /\
   B1 wb l0 l1 l2 B (k+1) (fun i=>if i=k then g else G i) (fun i=>if i=k then cap else C i) pa2 pc2 (w2.setCell (ad wb.heap.size 3) (.slice pa2 (k+1) pc2)):=by
 have hRl:=h.cells.2.2
 have hs1:=hb1.size
 have hR1:w1.heap[wb.heap.size]?=some (.cells #[l0,l1,l2,.slice pa k pc,.slice none 0 0] 169 (0,0)):=by rw [hb1.block _ hRl];exact h.hR
 have ho1:=zA h.own hb1
 have hR2:=zey hR1 ho1 (by omega) hg2
 have hoa:=zA ho1 (below_alloc1 w1 X)
 have hbel1:Bw wb (w1.alloc X):=(h.bel.trans (hb1.mono (by omega))).alloc (by omega) _
 have hbel2:Bw wb w2:=hbel1.grown hg2 (by simp;omega) (fun q hq=>by have:=yc ho1 q hq;omega)
 have blk:∀q e n f,xX w1 q 2 e n f->xX w2 q 2 e n f:=fun q e n f hq=>by
  have hr:zu (w1.alloc X) q 2 n f:=hq.row.alloc X
  refine hq.gG ?_
  rw [hg2.block q hr.lt (Zh hoa hr (by decide)),Below.heap_alloc _ _ _ hq.lt]
 have hne:∀q e n f,xX w2 q 2 e n f->q≠wb.heap.size:=fun q e n f hq=>(Za hR2 hq.row (by decide)).symm
 refine⟨by rw [cell_of_block hR2];rfl,unfrozen_of_block hR2 3,?_⟩
 refine { bel:=hbel2.setCell (by show wb.heap.size<=wb.heap.size;omega) _,hR:=?_,own:=?_,rows:=?_,inj:=?_ }
 ·rw [block_setCell hR2];rfl
 ·refine ownsRow_setCell_below ?_ (by show wb.heap.size<_;omega) _
  rw [<-zbd];exact ho2
 ·intro i hi
  by_cases e:i=k
  ·subst e
   simp only [if_true]
   refine⟨by omega,hm,((blk _ _ _ _ hx).gF (by show g≠wb.heap.size;omega) _).congr fun j hj=>?_⟩
   obtain rfl | rfl | rfl:j=0\/j=1\/j=2:=by omega
   ·rfl
   ·rfl
   ·rfl
  ·simp only [if_neg e]
   obtain⟨r1,r2,r3⟩:=h.rows i (by omega)
   have r4:=blk _ _ _ _ (r3.gE hb1 r3.lt)
   exact⟨r1,r2,r4.gF (by show G i≠wb.heap.size;omega) _⟩
 ·intro i j hi hj hij
  by_cases e1:i=k
  ·by_cases e2:j=k
   ·omega
   ·simp only [if_pos e1,if_neg e2]
    have:=(h.rows j (by omega)).2.2.lt
    omega
  ·by_cases e2:j=k
   ·simp only [if_neg e1,if_pos e2]
    have:=(h.rows i (by omega)).2.2.lt
    omega
   ·simp only [if_neg e1,if_neg e2]
    exact h.inj i j (by omega) (by omega) hij
structure B2 (wb w1:World) (l0 l1 l2 pv:Value) (k:Nat) (GM CM lenM:Nat->Nat) (f:Nat->Nat->Int) (ma:Option Addr) (mc:Nat) (wr:World):Prop where
 bel:Bw wb wr
 hR:wr.heap[wb.heap.size]?=some (.cells #[l0,l1,l2,pv,.slice ma k mc] 169 (0,0))
 keep:∀g,g<w1.heap.size->g≠wb.heap.size->wr.heap[g]?=w1.heap[g]?
 size:wb.heap.size<w1.heap.size/\w1.heap.size<=wr.heap.size
 own:wr.ownsRow w1.heap.size 63 1 (.slice ma k mc) k ((List.range k).map (ZT GM CM lenM))
 inner:ZY wr w1.heap.size GM CM k lenM f
theorem B2.first (lenM:Nat->Nat) (f:Nat->Nat->Int) (h:B1 wb l0 l1 l2 B k G C pa pc w1) :
  B2 wb w1 l0 l1 l2 (.slice pa k pc) 0 (fun _=>0) (fun _=>0) lenM f none 0 w1 where
 bel:=h.bel
 hR:=h.hR
 keep:=fun g _ _=>rfl
 size:=⟨h.cells.2.2,Nat.le_refl _⟩
 own:=World.ownsRow_nil _ _ _ _
 inner:=⟨fun i hi=>absurd hi (Nat.not_lt_zero _),fun i j hi=>absurd hi (Nat.not_lt_zero _)⟩
theorem B2.cells (h:B2 wb w1 l0 l1 l2 pv k GM CM lenM f ma mc wr) :
  wr.cell? (ad wb.heap.size 4)=some (.slice ma k mc)/\wb.heap.size<wr.heap.size :=
 ⟨by rw [cell_of_block h.hR];rfl,(Array.getElem?_eq_some_iff.1 h.hR).1⟩
theorem B2.step {wc:World} {ma2:Option Addr} {mc2:Nat} {X:Obj} (h:B2 wb w1 l0 l1 l2 pv k GM CM lenM f ma mc wr)
  (hb1:Bw wr wc) (hg1:wr.heap.size<=g) (hm:cap<=maxLen) (hx:xX wc g 2 cap (lenM k) (fun j=>iV (f k j)))
  (ho2:w2.ownsRow w1.heap.size 63 1 (.slice ma2 (k+1) mc2) (k+1) ((List.range k).map (ZT GM CM lenM)++[.slice (pA g) (lenM k) cap])) (hg2:(wc.alloc X).grownBy w2 (Value.ownBlock (.slice ma k mc))) :
  w2.cell? (ad wb.heap.size 4)=some (.slice ma k mc)/\w2.frozen? (ad wb.heap.size 4)=false /\
   B2 wb w1 l0 l1 l2 pv (k+1) (fun i=>if i=k then g else GM i) (fun i=>if i=k then cap else CM i) lenM f ma2 mc2 (w2.setCell (ad wb.heap.size 4) (.slice ma2 (k+1) mc2)):=by
 have hRl:=h.cells.2
 have hs1:=hb1.size
 obtain⟨z1,z2⟩:=h.size
 have hRc:wc.heap[wb.heap.size]?=some (.cells #[l0,l1,l2,pv,.slice ma k mc] 169 (0,0)):=by rw [hb1.block _ hRl];exact h.hR
 have ho1:=zA h.own hb1
 have hR2:=zey hRc ho1 (by omega) hg2
 have hoa:=zA ho1 (below_alloc1 wc X)
 have hbel1:Bw wb (wc.alloc X):=(h.bel.trans (hb1.mono (by omega))).alloc (by omega) _
 have hbel2:Bw wb w2:=hbel1.grown hg2 (by simp;omega) (fun q hq=>by have:=yc ho1 q hq;omega)
 have hx2:zu w2 g 2 (lenM k) (fun j=>iV (f k j)):=by
  have hr:zu (wc.alloc X) g 2 (lenM k) (fun j=>iV (f k j)):=hx.row.alloc X
  exact hr.gG (hg2.block g hr.lt (Zh hoa hr (by decide)))
 have hi1:=(h.inner.gE hb1).gE (below_alloc1 wc X)
 have hi2:ZY w2 w1.heap.size GM CM k lenM f:=hi1.keep fun i hi=>hg2.block _ (hi1.1 i hi).2.2.2.lt (Zh hoa (hi1.1 i hi).2.2.2 (by decide))
 refine⟨by rw [cell_of_block hR2];rfl,unfrozen_of_block hR2 4,?_⟩
 refine { bel:=hbel2.setCell (by show wb.heap.size<=wb.heap.size;omega) _,hR:=?_,keep:=?_,size:=?_,own:=?_,inner:=?_ }
 ·rw [block_setCell hR2];rfl
 ·intro q hq hne
  rw [Below.heap_setCell _ _ _ _ (by show q≠wb.heap.size;exact hne),hg2.block q (by simp;omega) (zmo ho1 hq),Below.heap_alloc _ _ _ (by omega),hb1.block q (by omega)]
  exact h.keep q hq hne
 ·refine⟨z1,?_⟩
  have h2:=hg2.size
  simp at h2 ⊢
  omega
 ·refine ownsRow_setCell_below ?_ (by show wb.heap.size<_;omega) _
  rw [<-zbd];exact ho2
 ·refine (hi2.snoc g cap (by omega) hx.le hm hx2 (fun i hi=>by have:=(h.inner.1 i hi).2.2.2.lt;omega)).keep fun i hi=>Below.heap_setCell _ _ _ _ ?_
  show (if i=k then g else GM i)≠wb.heap.size
  by_cases e:i=k
  ·rw [if_pos e];omega
  ·rw [if_neg e]
   have:=(h.inner.1 i (by omega)).1
   omega
theorem zpc {M:List (List Int)} (hw:Bw w wb) (h1:B1 wb l0 l1 l2 B N G C pa pc w1) (hN:0<N)
  (h2:B2 wb w1 l0 l1 l2 (.slice pa N pc) n GM CM (fun i=>(zv M i).length) (fun i j=>nth (zv M i) j) ma mc wr) :
  ∃gp gm,xz w wb.heap.size l0 l1 l2 gp pc (.slice ma n mc) gm mc N n (fun i=>(zv M i).length) GM CM B G C 0 0 (xV M) wr/\n<=mc/\mc<=maxLen:=by
 have hws:=hw.size
 obtain⟨z1,z2⟩:=h2.size
 obtain⟨gp,cp,hv,hgp,hc1,hc2,gI⟩:=yx h1.own (.inr hN)
 injection hv with e1 e2 e3
 subst e1;subst e3
 have hgne:gp≠wb.heap.size:=by omega
 have hpo:zu wr gp 63 N (ZT G C (YG 0 0)):=by
  refine (gI.gG (h2.keep gp gI.lt hgne)).congr fun i hi=>?_
  rw [Y5 _ _ _ hi]
  rfl
 obtain⟨ma',mc',hmv,hm1,hm2⟩:=ZI h2.own
 injection hmv with f1 f2 f3
 subst f1;subst f3
 have hcommon:∀gm,(n=0\/(Value.slice ma n mc=.slice (pA gm) n mc/\n<=mc/\mc<=maxLen/\zu wr gm 63 n (ZT GM CM (fun i=>(zv M i).length))/\w.heap.size<=gm/\gm≠gp)) ->
   xz w wb.heap.size l0 l1 l2 gp pc (.slice ma n mc) gm mc N n (fun i=>(zv M i).length) GM CM B G C 0 0 (xV M) wr:=by
  intro gm hg
  refine { bel:=hw.trans (h2.bel.mono hws),hR:=h2.hR,hRb:=hws,pout:=hpo,pb:=⟨by omega,hc1,hc2⟩,pin:=?_,pinj:=h1.inj,mout:=hg,min:=?_,apart:=?_ }
  ·intro i hi
   obtain⟨r1,r2,r3⟩:=h1.rows i hi
   refine⟨by omega,r2,(r3.gG (h2.keep _ r3.lt (by omega))).congr fun j hj=>?_⟩
   unfold Zs
   rw [if_pos hj]
  ·exact⟨fun i hi=>⟨by have:=(h2.inner.1 i hi).1;omega,(h2.inner.1 i hi).2.1,(h2.inner.1 i hi).2.2.1,(h2.inner.1 i hi).2.2.2⟩,h2.inner.2⟩
  ·intro i j hi hj
   have a1:=(h1.rows i hi).2.2.lt
   have a2:=(h2.inner.1 j hj).1
   omega
 by_cases e:n=0
 ·exact⟨gp,0,hcommon 0 (.inl e),hm1,hm2⟩
 ·obtain⟨gm,cm,hv,hgm,d1,d2,hr⟩:=yx h2.own (.inr (by omega))
  injection hv with x1 x2 x3
  have hgpl:=gI.lt
  refine⟨gp,gm,hcommon gm (.inr ⟨by rw [x1],hm1,hm2,hr.congr fun i hi=>Y5 _ _ _ hi,by omega,by omega⟩),hm1,hm2⟩
def Vp (w:World) (l0 l1 l2 s0 s1:Value):World:=(w.alloc (.cells #[l0,l1,l2] 25)).alloc (.cells #[s0,s1] 34)
theorem yX (w:World) (l0 l1 l2 s0 s1:Value):(Vp w l0 l1 l2 s0 s1).heap.size=w.heap.size+1+1:=by unfold Vp;simp
theorem XV (w:World) (l0 l1 l2 s0 s1:Value):Bw w (Vp w l0 l1 l2 s0 s1):=below_alloc2 _ _ _
theorem zi9 (h:Below (Vp w l0 l1 l2 s0 s1).heap.size (Vp w l0 l1 l2 s0 s1) wr):wr.cell? (ad (w.heap.size+1) 1)=some s1:=by
 rw [zf h _ _ (by rw [yX];omega)]
 unfold Vp
 go_simp
theorem zpb (lv sv:Value) (L:Lp) (B M:List (List Int)) (w:World) (hL:zE w lv L) (hS:Ys w sv B M) (hf:xG L B M=true) :
  Calls prog 60 #[lv,sv] w fun e w'=>∃l0 l1 l2 R gp cp am cm gm G C GM CM,lv=.agg #[l0,l1,l2]/\e=.returned (.pointer (pA R)) /\
   xz w R l0 l1 l2 gp cp (.slice am M.length cm) gm cm L.b.length M.length (fun i=>(zv M i).length) GM CM B G C 0 0 (xV M) w'/\M.length<=cm/\cm<=maxLen:=by
 obtain⟨f1,f2,f3,f4,f5⟩:=Y4 hf
 have h32:=zze f1 f3 f5
 obtain⟨m1,m2,m3,m4,m5,m6,m7⟩:=zw f1
 obtain⟨v0,v1,v2,rfl,⟨a0,gA,rfl,hl0,hm0,hr0,hc0⟩,⟨a1,gB,rfl,hl1,hm1,hc1⟩,⟨a2,gC,rfl,hl2,hm2,hr2,hc2⟩⟩:=hL
 obtain⟨s0,s1,rfl,⟨ba,bcap,rfl,bl,bm,bc⟩,⟨ma,mcap,rfl,ml,mm,mc⟩⟩:=hS
 unfold maxLen at bm mm
 obtain⟨j0,ji,jz0,jz1,jz2⟩:=info_parts Tryz.i63
 have hB0:0<B.length:=by omega
 have hB16:B.length<=16:=by omega
 have hM3:M.length<=3:=by omega
 have HF2:=z9 f2
 have H32:=z9 h32
 have HF4:=z9 f4
 have HBC:=z9 bc
 have HMC:=z9 mc
 clear f1 f2 f3 f4 f5 h32 hf m5 m6 m7 m1 m2 m3 m4 hc0 hc1 hc2 hr0 hr2 bc mc hl0 hm0 hl1 hm1 hl2 hm2
 go_enter func60,ntmps60
 go_wp2_with fail
 go_loopw [17] (fun i wr=>∃k:Nat,k<=B.length/\i=iV k/\∃G C pa pc,B1 (Vp w (.slice a0 L.l.length gA) (.slice a1 L.b.length gB) (.slice a2 L.o.length gC) (.slice ba B.length bcap) (.slice ma M.length mcap)) (.slice a0 L.l.length gA) (.slice a1 L.b.length gB) (.slice a2 L.o.length gC) B k G C pa pc wr) (fun i _=>B.length - (intOf i).toNat)
 case atStart=>exact⟨0,Nat.zero_le _,rfl,_,_,_,_,B1.first _ _ _ _ _⟩
 case round =>
  obtain⟨k,hk,rfl,G,C,pa,pc,hP⟩:=hrel
  have hbw:Bw w wr:=(XV _ _ _ _ _ _).trans (hP.bel.mono (by rw [yX];omega))
  have HP:=z9 hP
  have HBW:=z9 hbw
  have hRz:=hP.cells.2.2
  rw [yX] at hRz
  by_cases hlt:k<B.length
  ·have hki:(k:Int)<(B.length:Int):=by omega
   obtain⟨b,off,rfl,hb,gI⟩:=HBC.out hB0
   obtain⟨u,hu,hIu⟩:=gI k hlt
   have h3:=HF4.out k hlt
   have hIr:zK wr u (zv B k):=hIu.gE hbw
   obtain⟨ra,rc,rfl,rl,rm,rr,rcell⟩:=hIu
   rw [<-zf hbw _ _ hb] at hu
   have hbz:b<wr.heap.size:=by have:=hbw.size;omega
   have hcl:=zf0 _ _ _ hIr (by omega) (by omega)
   rw [h3] at hcl hu
   have HCL:=z9 hcl
   clear hcl hIr rcell rr gI hP hbw
   go_wp2_with fail
   refine HCL.out.mono ?_
   rintro e w1 ⟨g,cap,rfl,hg1,hcm1,hx1,hb1⟩
   have HX1:=z9 hx1
   have HB1:=z9 hb1
   clear hx1 hb1 HCL
   go_wp2_with fail
   refine (zk2 g cap (nth (zv B k)) _ HX1.out hcm1).mono ?_
   rintro e w2 ⟨rfl,hx2,hb2⟩
   have hb12:Bw wr w2:=HB1.out.trans (hb2 _ hg1)
   have HX2:=z9 hx2
   have HB2:=z9 hb12
   have hc3:=HP.out.cells.1
   rw [yX,<-zf hb12 _ _ hRz] at hc3
   have HOW:=z9 (zA (zA HP.out.own hb12) (below_alloc1 w2 (.cells #[.slice (pA g) 3 cap] 63)))
   have hwz:w.heap.size+1+1<w2.heap.size:=by have:=hb12.size;omega
   have hgz:w2.heap.size<w2.heap.size+1:=by omega
   rw [yX] at HOW
   clear hx2 hb2 hb12 HX1 HB1
   go_wp2_with (at_builtin;refine wpList_append_own _ rfl (.tmp 29) (.tmp 31) 32 rfl (w.heap.size+1+1+1) 63 j0 (.slice none 0 0) 1 24 underlying32 ji jz0 jz1 jz2 rfl (by decide) _ _ _ rfl HOW.out (ad w2.heap.size 0) 1 1 [.slice (pA g) 3 cap] rfl rfl (by exact xU _ _ _) (by intro u hu;simp at hu;subst hu;rfl) (by unfold maxLen;omega) (by omega) (by simp;omega) ?_;intro v3 w3 hown3 hgrow3 hnil3;obtain⟨pa2,pc2,rfl,hpc2,hpm2⟩:=ZI hown3;obtain⟨x1,x2,x3⟩:=B1.step HP.out HB2.out hg1 hcm1 HX2.out (by rw [yX];exact hown3) hgrow3;rw [yX] at x1 x2 x3;have HB3:=z9 x3;clear x3 hown3 hgrow3)
   go_roundw
   case rel=>exact⟨k+1,by omega,by go_num,_,_,_,_,HB3.out⟩
   case measure=>simp [intOf];omega
  ·have e:k=B.length:=by omega
   subst e
   have hs1:=zi9 hP.bel
   clear hP hbw
   rename World=>wo
   go_wp2_with fail
   go_loopw [39] (fun i wr=>∃k:Nat,k<=M.length/\i=iV k/\∃GM CM ma2 mc2,B2 (Vp w (.slice a0 L.l.length gA) (.slice a1 L.b.length gB) (.slice a2 L.o.length gC) (.slice ba B.length bcap) (.slice ma M.length mcap)) wo (.slice a0 L.l.length gA) (.slice a1 L.b.length gB) (.slice a2 L.o.length gC) (.slice pa B.length pc) k GM CM (fun i=>(zv M i).length) (fun i j=>nth (zv M i) j) ma2 mc2 wr) (fun i _=>M.length - (intOf i).toNat)
   case atStart=>exact⟨0,Nat.zero_le _,rfl,_,_,_,_,B2.first _ _ HP.out⟩
   case round =>
    clear hs1
    obtain⟨k,hk,rfl,GM,CM,ma2,mc2,hQ⟩:=hrel
    have hbw:Bw w wr:=(XV _ _ _ _ _ _).trans (hQ.bel.mono (by rw [yX];omega))
    have hc4:=hQ.cells.1
    have hRw:=hQ.cells.2
    rw [yX] at hc4 hRw
    have HQ:=z9 hQ
    by_cases hlt:k<M.length
    ·have hki:(k:Int)<(M.length:Int):=by omega
     obtain⟨b,off,rfl,hb,gI⟩:=HMC.out (by omega)
     obtain⟨u,hu,hIu⟩:=gI k hlt
     obtain⟨q1,q2⟩:=H32.out k hlt
     have hIr:zK wr.drew u (zv M k):=hIu.gE (hbw.drew)
     obtain⟨ra,rc,rfl,rl,rm,rr,rcell⟩:=hIu
     rw [<-zf hbw _ _ hb] at hu
     have hbz:b<wr.heap.size:=by have:=hbw.size;omega
     have HCL:=z9 (zf0 _ _ _ hIr q1 q2)
     clear hIr rcell rr gI hQ hbw
     go_wp2_with fail
     refine wp_region_noPanic ?_
     refine zm 11 (fun w'=>w'.cell? (ad (w.heap.size+1+1) 4)=some (.slice ma2 k mc2)) (by kernel_rfl) hc4 (fun h9=>?_)
     refine uk 0 h9 ?_
     refine uk 1 h9 ?_
     refine uk 2 h9 ?_
     refine uk 3 h9 ?_
     refine uk 4 h9 ?_
     refine uk 5 h9 ?_
     refine ze (i:=6) rfl (by kernel_rfl) (fun K hK=>?_)
     go_simp
     refine HCL.out.mono ?_
     rintro e w2 ⟨g,cap,rfl,hg1,hcm1,hx1,hb1⟩
     have hb12:Bw wr w2:=((Below.refl _ _).drew).trans hb1
     have hg2:wr.heap.size<=g:=hg1
     have hw2:=hb12.size
     have hk2:w2.cell? (ad (w.heap.size+1+1) 4)=some (.slice ma2 k mc2):=by rw [zf hb12 _ _ hRw];exact hc4
     have HX1:=z9 hx1
     have HB2:=z9 hb12
     clear hx1 hb1 hb12 HCL h9 hg1
     refine nxt hK.out (.inr hk2) ?_
     clear hK K
     refine ze (i:=7) rfl (by kernel_rfl) (fun K hK=>?_)
     go_simp
     have hk2a:(w2.alloc (.cells #[.slice (pA g) (zv M k).length cap] 63)).cell? (ad (w.heap.size+1+1) 4)=some (.slice ma2 k mc2):=by rw [zf (below_alloc1 _ _) _ _ (by omega)];exact hk2
     refine nxt hK.out (.inr hk2a) ?_
     clear hK K
     have HOW:=z9 (zA (zA HQ.out.own HB2.out) (below_alloc1 w2 (.cells #[.slice (pA g) (zv M k).length cap] 63)))
     have HSZ:=z9 HQ.out.size
     refine ze (i:=8) rfl (by kernel_rfl) (fun K hK=>?_)
     refine step_append_lies _ (by rfl) (.tmp 47) (.tmp 50) 32 (by rfl) wo.heap.size 63 j0 (.slice none 0 0) 1 24 underlying32 ji jz0 jz1 jz2 rfl (by decide) _ k _ (by rfl) HOW.out (ad w2.heap.size 0) 1 1 [.slice (pA g) (zv M k).length cap] (by rfl) rfl (xU _ _ _) (by intro u hu;simp at hu;subst hu;rfl) (by decide) (by unfold maxLen;omega) (by omega) (by have:=HSZ.out.2;simp;omega) (w2.heap.size+1) (by simp) ?_
     intro g3 cap3 w3 hown3 hgrow3 hat3 hlt3
     obtain⟨x1,x2,x3⟩:=B2.step HQ.out HB2.out hg2 hcm1 HX1.out hown3 hgrow3
     rw [yX] at x1 x2 x3
     have HB3:=z9 x3
     clear x3 hown3 hgrow3 hat3 hk2 hk2a
     refine nxt hK.out (.inr x1) ?_
     clear hK K
     have h9:=x1
     refine uk 9 h9 ?_
     refine uk 10 h9 ?_
     refine ze (i:=11) rfl (by kernel_rfl) (fun K hK=>?_)
     go_simp
     refine nxt hK.out (.inl rfl) ?_
     clear hK K
     refine zq (by kernel_rfl) ?_ _
     refine NoPanic.normal ?_
     clear x1 h9
     go_wp2_with fail
     go_roundw
     case rel=>exact⟨k+1,by omega,by go_num,_,_,_,_,HB3.out⟩
     case measure=>simp [intOf];omega
    ·have e:k=M.length:=by omega
     subst e
     clear hQ hbw
     go_wp2_with fail
     go_ret
     obtain⟨gp,gm,hI,hm1,hm2⟩:=zpc (XV w _ _ _ _ _) HP.out hB0 HQ.out
     rw [yX,HF2.out] at hI
     exact⟨_,_,_,w.heap.size+1+1,gp,pc,ma2,mc2,gm,G,C,GM,CM,rfl,rfl,hI,hm1,hm2⟩
theorem zvo {base':Nat} (h:w.ownsRow base e 1 v n xs) (hb:base'<=base):w.ownsRow base' e 1 v n xs:=by
 obtain⟨hl,h⟩:=h
 refine⟨hl,?_⟩
 rcases h with h | ⟨g,cap,cur,hv,hg,r⟩
 ·exact .inl h
 ·exact .inr ⟨g,cap,cur,hv,by omega,r⟩
theorem xz.low
  (h:xz w0 R l0 l1 l2 gp cp mv gm cm N n lenM GM CM B G C T k s wr) {b i:Nat} (hb:b<w0.heap.size) (u:Value) :
  xz (w0.setCell (ad b i) u) R l0 l1 l2 gp cp mv gm cm N n lenM GM CM B G C T k s (wr.setCell (ad b i) u):=by
 have hz:(w0.setCell (ad b i) u).heap.size=w0.heap.size:=by simp
 have hRb:=h.hRb
 refine { bel:=?_,hR:=?_,hRb:=by rw [hz];exact hRb,pout:=?_,pb:=by rw [hz];exact h.pb,pin:=?_,pinj:=h.pinj,mout:=?_,min:=?_,apart:=h.apart }
 ·show Below _ _ _
  rw [hz]
  refine⟨h.bel.os,h.bel.tape,h.bel.output,by simpa [World.setCell] using h.bel.size,fun k hk=>?_⟩
  by_cases e:k=b
  ·subst e
   simp only [World.setCell,Array.getElem?_modify]
   rw [h.bel.block k hk]
  ·rw [Below.heap_setCell _ _ _ _ (by show k≠b;exact e),Below.heap_setCell _ _ _ _ (by show k≠b;exact e)]
   exact h.bel.block k hk
 ·rw [Below.heap_setCell _ _ _ _ (by show R≠b;omega)];exact h.hR
 ·exact h.pout.gF (by have:=h.pb.1;show gp≠b;omega) _
 ·intro a ha
  rw [hz]
  have h1:=(h.pin a ha).1
  exact⟨h1,(h.pin a ha).2.1,(h.pin a ha).2.2.gF (by show G a≠b;omega) _⟩
 ·rcases h.mout with h1 | ⟨h1,h2,h3,h4,h5,h6⟩
  ·exact .inl h1
  ·exact .inr ⟨h1,h2,h3,h4.gF (by show gm≠b;omega) _,by rw [hz];exact h5,h6⟩
 ·rw [hz]
  exact h.min.keep fun a ha=>Below.heap_setCell _ _ _ _ (by have:=(h.min.1 a ha).1;show GM a≠b;omega)
theorem zn2 (w:World) (L:Lp)
  (hI:xz w0 R l0 l1 l2 gp cp (.slice am n cm) gm cm N n lenM GM CM B G C T 0 s w) (hL:zE w0 (.agg #[l0,l1,l2]) L) (hN:N=L.b.length) (ho:Xz L.b.length L.o=true) (h16:L.o.length<=16) (ht:T<=200)
  (hc1:n<=cm) (hc2:cm<=maxLen) :
  Calls prog 62 #[.pointer (pA R)] w fun e w'=>∃ov,e=.returned (.agg #[ov,.slice am n cm]) /\
   w'.ownsRow w.heap.size 2 1 ov (xH L B T s).length ((xH L B T s).map (Value.int .i64))/\Bw w w':=by
 obtain⟨v0,v1,v2,hv,hL0,hL1,⟨a2,gC,rfl,hl2,hm2,hr2,hc2'⟩⟩:=hL
 injection hv with hv
 injection hv with hv
 injection hv with e0 hv
 injection hv with e1 hv
 injection hv with e2 hv
 subst e0;subst e1;subst e2
 unfold maxLen at hm2
 obtain⟨i0,hi,hz0,hz1,hz2⟩:=info_parts Tryz.i2
 obtain⟨-,-,d2,d3,d4,hRz⟩:=hI.cells
 obtain⟨-,pp2,pp3⟩:=hI.pb
 unfold maxLen at pp3
 have HI:=z9 hI
 have HO:=z9 ho
 have HN:=z9 hN
 have HC2:=z9 hc2'
 clear hI hv hL0 hL1 hc2' hN ho hr2
 go_enter func62,ntmps62
 go_wp2_with fail
 go_loopw [18] (fun i wq=>∃q:Nat,q<=L.o.length/\i=iV q/\∃oa oc,Xu (w.alloc (.cells #[.slice none 0 0,.slice none 0 0] 65)) wq (xH L B T s) q (.slice am n cm) oa oc) (fun i _=>L.o.length - (intOf i).toNat)
 case atStart=>exact⟨0,Nat.zero_le _,rfl,none,0,Xu.first _ _ _⟩
 case round =>
  obtain⟨q,hq,rfl,oa,oc,hP⟩:=hrel
  obtain⟨o1,o2,o3,o4⟩:=hP.cells
  have hbA:Bw w wr:=(below_alloc1 _ _).trans (hP.2.2.mono (by simp))
  have hsA:(w.alloc (.cells #[.slice none 0 0,.slice none 0 0] 65)).heap.size=w.heap.size+1:=by simp
  rw [hsA] at o1 o2 o3 o4
  have HP:=z9 hP
  have HBA:=z9 hbA
  by_cases hql:q<L.o.length
  ·have hqi:(q:Int)<(L.o.length:Int):=by omega
   obtain⟨ob,of,rfl,hob,hoc⟩:=HC2.out (by omega)
   have hoq:=hoc q hql
   obtain⟨z0,z1⟩:=zre HO.out hql
   obtain⟨c,hc⟩:=Int.eq_ofNat_of_zero_le z0
   have hcN:c<N:=by have:=HN.out;omega
   have hobw:ob<w.heap.size:=by have:=HI.out.bel.size;omega
   rw [<-zf HI.out.bel _ _ hob,<-zf hbA _ _ hobw,hc] at hoq
   obtain⟨p1,p2,p3⟩:=HI.out.pin c hcN
   unfold maxLen at p2
   obtain⟨j,hj⟩:∃j,j=T+2:=⟨_,rfl⟩
   have hpl:YG T 0 c=j+1:=by unfold YG;rw [if_neg (by omega)];omega
   have hrc:wr.cell? (ad gp c)=some (.slice (pA (G c)) (j+1) (C c)):=by
    rw [zf hbA _ _ HI.out.pout.lt,<-hpl];exact HI.out.pout.cell hcN
   have hjc:wr.cell? (ad (G c) j)=sI (Zs B s.val c j):=by
    rw [zf hbA _ _ p3.lt];exact p3.row.cell (by omega)
   have hgz:gp<wr.heap.size:=by have:=HI.out.pout.lt;have:=hbA.size;omega
   have hGz:G c<wr.heap.size:=by have:=p3.lt;have:=hbA.size;omega
   have hGw:G c<w.heap.size:=p3.lt
   have hRw:R<wr.heap.size:=by have:=hbA.size;omega
   have hobr:ob<wr.heap.size:=by have:=hbA.size;omega
   have hd3:wr.cell? (ad R 3)=some (.slice (pA gp) N cp):=by rw [zf hbA _ _ hRz];exact d3
   have hci:(c:Int)<(N:Int):=by omega
   have hle:=p3.le
   rw [hpl] at hle
   have hwj:IntKind.i64.wrap ((j:Int)+1 - 1)=(j:Int):=by rw [IntKind.wrap_i64];omega
   have hwj2:IntKind.i64.wrap (j:Int)=(j:Int):=by rw [IntKind.wrap_i64];omega
   have hjj:(j:Int)<(j:Int)+1:=by omega
   have HV:Hid (nth (xH L B T s) q=Zs B s.val c j):=by
    show _=_
    rw [zdd L B T s q hql,hc,Int.toNat_natCast,hj,zms]
   have hqz:q<(xH L B T s).length:=by rw [V6];exact hql
   generalize Zs B s.val c j=pv at *
   clear hP hbA hoc hc z0 z1 p3 hpl hj p1 d3
   go_wp2_with fail
   refine wp_region_noPanic ?_
   refine zm 11 (fun w'=>w'.cell? (ad (w.heap.size+1) 0)=some (.slice oa q oc)/\w'.cell? (ad (G c) j)=sI pv) (by kernel_rfl) ⟨o1,hjc⟩ (fun h9=>?_)
   refine uk 0 h9 ?_
   refine uk 1 h9 ?_
   refine uk 2 h9 ?_
   refine uk 3 h9 ?_
   refine uk 4 h9 ?_
   refine uk 5 h9 ?_
   refine uk 6 h9 ?_
   refine uk 7 h9 ?_
   refine ze (i:=8) rfl (by kernel_rfl) (fun K hK=>?_)
   go_simp
   have hk2:∀Y,(wr.alloc Y).cell? (ad (w.heap.size+1) 0)=some (.slice oa q oc)/\(wr.alloc Y).cell? (ad (G c) j)=sI pv:=fun Y=>⟨by rw [zf (below_alloc1 _ _) _ _ o4];exact o1,by rw [zf (below_alloc1 _ _) _ _ hGz];exact hjc⟩
   refine nxt hK.out (.inr (hk2 _)) ?_
   clear hK K
   have HOW:=z9 (zA HP.out.2.1 (below_alloc1 wr (.cells #[iV pv] 2)))
   rw [hsA] at HOW
   refine ze (i:=9) rfl (by kernel_rfl) (fun K hK=>?_)
   refine step_append_lies _ (by rfl) (.tmp 30) (.tmp 37) 63 (by rfl) (w.heap.size+1+1) 2 i0 (iV 0) 1 8 underlying63 hi hz0 hz1 hz2 rfl (by decide) _ q _ (by rfl) HOW.out (ad wr.heap.size 0) 1 1 [iV pv] (by rfl) rfl (xU _ _ _) (by intro u hu;simp at hu;subst hu;rfl) (by decide) (by unfold maxLen;omega) (by omega) (by simp;omega) (wr.heap.size+1) (by simp) ?_
   intro g3 cap3 w3 hown3 hgrow3 hat3 hlt3
   obtain⟨oa2,oc2,hv2,x1,x2,x3⟩:=Xu.step (n:=1) HP.out hqz (by rw [HV.out,hsA];exact hown3) (by exact hgrow3)
   rw [hsA] at x1 x2 x3
   have hx4:w3.cell? (ad (G c) j)=sI pv:=by
    rw [hgrow3.cell_far (ad (G c) j) (by simp;omega) (zmo HP.out.2.1 (by rw [hsA];show G c<_;omega))]
    exact (hk2 _).2
   have HB3:=z9 x3
   have HV2:=z9 hv2
   clear x3 hown3 hgrow3 hat3 hk2 h9 hv2
   refine nxt hK.out (.inr ⟨x1,hx4⟩) ?_
   clear hK K
   have h9:=And.intro x1 hx4
   refine uk 10 h9 ?_
   refine ze (i:=11) rfl (by kernel_rfl) (fun K hK=>?_)
   go_simp
   refine nxt hK.out (.inl rfl) ?_
   clear hK K
   refine zq (by kernel_rfl) ?_ _
   refine NoPanic.normal ?_
   clear x1 h9 hx4
   go_wp2_with fail
   go_roundw
   case rel=>exact⟨q+1,by omega,by go_num,oa2,oc2,HB3.out⟩
   case measure=>simp [intOf];omega
  ·have e:q=L.o.length:=by omega
   subst e
   have hrs:wr.heap[w.heap.size]?=some (.cells #[.slice none 0 0,.slice none 0 0] 65 (0,0)):=by
    rw [hP.2.2.block w.heap.size (by simp)]
    show (w.heap.push _)[w.heap.size]?=_
    simp
   have hs1:wr.cell? (ad w.heap.size 0)=some (.slice none 0 0):=by rw [cell_of_block hrs];rfl
   have hs2:wr.cell? (ad w.heap.size 1)=some (.slice none 0 0):=by rw [cell_of_block hrs];rfl
   have hs3:wr.frozen? (ad w.heap.size 0)=false:=unfrozen_of_block hrs 0
   have hs4:wr.frozen? (ad w.heap.size 1)=false:=unfrozen_of_block hrs 1
   have HOW:Hid (wr.ownsRow (w.heap.size+1+1) 2 1 (.slice oa L.o.length oc) (xH L B T s).length ((xH L B T s).map (Value.int .i64))):=by
    have h:=HP.out.2.1
    rw [List.take_of_length_le (by rw [V6];omega),hsA] at h
    show wr.ownsRow _ _ _ _ (xH L B T s).length _
    rw [V6];exact h
   have hf0:∀ov,(wr.setCell (ad w.heap.size 0) ov).cell? (ad w.heap.size 0)=some ov:=fun ov=>by rw [cell_of_block (block_setCell hrs ov)];rfl
   have hf1:∀ov mv,((wr.setCell (ad w.heap.size 0) ov).setCell (ad w.heap.size 1) mv).cell? (ad w.heap.size 1)=some mv:=fun ov mv=>by rw [cell_of_block (block_setCell (block_setCell hrs ov) mv)];rfl
   have hf2:∀ov mv,((wr.setCell (ad w.heap.size 0) ov).setCell (ad w.heap.size 1) mv).cell? (ad w.heap.size 0)=some ov:=fun ov mv=>by rw [cell_of_block (block_setCell (block_setCell hrs ov) mv)];rfl
   clear hP hbA hrs
   go_wp2_with fail
   have hfin:Bw w ((wr.setCell (ad w.heap.size 0) (.slice oa L.o.length oc)).setCell (ad w.heap.size 1) (.slice am n cm)):=(HBA.out.setCell (by show w.heap.size<=w.heap.size;omega) _).setCell (by show w.heap.size<=w.heap.size;omega) _
   refine bodyPost_ret (v:=.agg #[.slice oa L.o.length oc,.slice am n cm]) (by simp [results,results62,go_sem,hf0,hf1,hf2]) rfl ⟨_,rfl,zvo (base:=w.heap.size+1+1) ?_ (by omega),hfin⟩
   exact ownsRow_setCell_below (ownsRow_setCell_below HOW.out (by show w.heap.size<_;omega) _) (by show w.heap.size<_;omega) _
theorem Xi (h:Below (w.heap.size+3) (XF w l0 l1 l2 s0 s1) w1) :
  w1.cell? (ad (w.heap.size+1+1) 0)=some (.slice none 0 0)/\w1.cell? (ad (w.heap.size+1+1) 1)=some (.slice none 0 0)/\w1.frozen? (ad (w.heap.size+1+1) 0)=false/\w1.frozen? (ad (w.heap.size+1+1) 1)=false /\
   (∀ov,(w1.setCell (ad (w.heap.size+1+1) 0) ov).cell? (ad (w.heap.size+1+1) 0)=some ov) /\
   (∀ov mv,((w1.setCell (ad (w.heap.size+1+1) 0) ov).setCell (ad (w.heap.size+1+1) 1) mv).cell? (ad (w.heap.size+1+1) 1)=some mv) /\
   (∀ov mv,((w1.setCell (ad (w.heap.size+1+1) 0) ov).setCell (ad (w.heap.size+1+1) 1) mv).cell? (ad (w.heap.size+1+1) 0)=some ov):=by
 have hrs:=zpf h
 have hrs':w1.heap[w.heap.size+1+1]?=some (.cells #[.slice none 0 0,.slice none 0 0] 65 (0,0)):=hrs
 exact⟨by rw [cell_of_block hrs'];rfl,by rw [cell_of_block hrs'];rfl,unfrozen_of_block hrs' 0,unfrozen_of_block hrs' 1,fun ov=>by rw [cell_of_block (block_setCell hrs' ov)];rfl,
  fun ov mv=>by rw [cell_of_block (block_setCell (block_setCell hrs' ov) mv)];rfl,fun ov mv=>by rw [cell_of_block (block_setCell (block_setCell hrs' ov) mv)];rfl⟩
theorem zw8 (lv sv:Value) (L:Lp) (B M:List (List Int)) (gD:Int) (w:World) (hL:zE w lv L) (hS:Ys w sv B M) (hf:xG L B M=false) :
  Calls prog 25 #[lv,sv,iV gD] w (Rt w (.tuple #[.agg #[.slice none 0 0,.slice none 0 0],iV 2])):=by
 have h:=hL
 have hs:=hS
 obtain⟨l0,l1,l2,rfl,-,-,-⟩:=h
 obtain⟨s0,s1,rfl,-,-⟩:=hs
 have hfa:=zcz _ _ L B M _ (hL.gE (yY w l0 l1 l2 s0 s1)) (hS.gE (yY w l0 l1 l2 s0 s1))
 rw [hf] at hfa
 have HFA:=z9 hfa
 clear hfa hf
 go_enter func25,ntmps25
 go_wp2_with fail
 refine HFA.out.mono ?_
 rintro e w1 ⟨rfl,hb1⟩
 rw [YM] at hb1
 obtain⟨c0,c1,f0,f1,g0,g1,g2⟩:=Xi hb1
 have HB:=z9 ((yY w l0 l1 l2 s0 s1).trans (hb1.mono (by omega)))
 clear hb1 HFA
 go_wp2_with fail
 refine bodyPost_ret (v:=.tuple #[.agg #[.slice none 0 0,.slice none 0 0],iV 2]) (by simp [results,results25,go_sem,g1,g2]) rfl ⟨rfl,?_⟩
 exact (HB.out.setCell (by show w.heap.size<=w.heap.size+1+1;omega) _).setCell (by show w.heap.size<=w.heap.size+1+1;omega) _
theorem zs6 (lv sv:Value) (L:Lp) (B M:List (List Int)) (gD:Int) (w:World) (hL:zE w lv L) (hS:Ys w sv B M) (hf:xG L B M=true) (ht:gD<0\/200<gD) :
  Calls prog 25 #[lv,sv,iV gD] w (Rt w (.tuple #[.agg #[.slice none 0 0,.slice none 0 0],iV 3])):=by
 have h:=hL
 have hs:=hS
 obtain⟨l0,l1,l2,rfl,-,-,-⟩:=h
 obtain⟨s0,s1,rfl,-,-⟩:=hs
 have hfa:=zcz _ _ L B M _ (hL.gE (yY w l0 l1 l2 s0 s1)) (hS.gE (yY w l0 l1 l2 s0 s1))
 rw [hf] at hfa
 have HFA:=z9 hfa
 clear hfa hf
 by_cases h0:gD<0
 ·clear ht
  go_enter func25,ntmps25
  go_wp2_with fail
  refine HFA.out.mono ?_
  rintro e w1 ⟨rfl,hb1⟩
  rw [YM] at hb1
  obtain⟨c0,c1,f0,f1,g0,g1,g2⟩:=Xi hb1
  have HB:=z9 ((yY w l0 l1 l2 s0 s1).trans (hb1.mono (by omega)))
  clear hb1 HFA
  go_wp2_with fail
  refine bodyPost_ret (v:=.tuple #[.agg #[.slice none 0 0,.slice none 0 0],iV 3]) (by simp [results,results25,go_sem,g1,g2]) rfl ⟨rfl,?_⟩
  exact (HB.out.setCell (by show w.heap.size<=w.heap.size+1+1;omega) _).setCell (by show w.heap.size<=w.heap.size+1+1;omega) _
 ·have h2:200<gD:=by omega
  clear ht
  go_enter func25,ntmps25
  go_wp2_with fail
  refine HFA.out.mono ?_
  rintro e w1 ⟨rfl,hb1⟩
  rw [YM] at hb1
  obtain⟨c0,c1,f0,f1,g0,g1,g2⟩:=Xi hb1
  have HB:=z9 ((yY w l0 l1 l2 s0 s1).trans (hb1.mono (by omega)))
  clear hb1 HFA
  go_wp2_with fail
  refine bodyPost_ret (v:=.tuple #[.agg #[.slice none 0 0,.slice none 0 0],iV 3]) (by simp [results,results25,go_sem,g1,g2]) rfl ⟨rfl,?_⟩
  exact (HB.out.setCell (by show w.heap.size<=w.heap.size+1+1;omega) _).setCell (by show w.heap.size<=w.heap.size+1+1;omega) _
theorem yao (lv sv:Value) (L:Lp) (B M:List (List Int)) (t:Nat) (w:World) (hL:zE w lv L) (hS:Ys w sv B M) (hf:xG L B M=true) (ht:t<=200) (hLI:LoopIn L) (hB:Y1 B) (hM:Y1 M) :
  Calls prog 25 #[lv,sv,iV t] w fun e w'=>∃ov mv,e=.returned (.tuple #[.agg #[ov,mv],iV 0])/\zK w' ov (xH L B t (Vl L B t (xV M)))/\yo w' mv (zjj M (Vl L B t (xV M)))/\Bw w w':=by
 obtain⟨f1,f2,f3,f4,f5⟩:=Y4 hf
 have h32:=zze f1 f3 f5
 obtain⟨m1,m2,m3,m4,m5,m6,m7⟩:=zw f1
 have h:=hL
 have hs:=hS
 obtain⟨l0,l1,l2,rfl,-,-,-⟩:=h
 obtain⟨s0,s1,rfl,-,-⟩:=hs
 have hfa:=zcz _ _ L B M _ (hL.gE (yY w l0 l1 l2 s0 s1)) (hS.gE (yY w l0 l1 l2 s0 s1))
 rw [hf] at hfa
 have HFA:=z9 hfa
 have HLE:Hid (∀i,i<M.length->(zv M i).length=2 ^ (nth L.l i).toNat/\(zv M i).length<=32):=fun i hi=>⟨f5 i hi,(h32 i hi).2⟩
 have H3:=z9 f3
 have HF:=z9 hf
 have HBO:=z9 m7
 have HOU:=z9 m6
 have hn0:¬(t:Int)<0:=by omega
 have hn2:¬(200:Int)<(t:Int):=by omega
 clear hfa hf f1 f2 f3 f4 f5 h32 m7 m6 m5
 go_enter func25,ntmps25
 go_wp2_with fail
 refine HFA.out.mono ?_
 rintro e w1 ⟨rfl,hb1⟩
 rw [YM] at hb1
 obtain⟨x0,x1,x2,y0,y1,hbw,hbz⟩:=zia hb1
 have HB1:=z9 hb1
 have HBW:=z9 hbw
 have i5:w.heap.size<w1.heap.size:=by omega
 have i6:w.heap.size+1<w1.heap.size:=by omega
 clear hb1 hbw HFA
 go_wp2_with fail
 refine (zpb _ _ L B M _ (hL.gE HBW.out) (hS.gE HBW.out) HF.out).mono ?_
 rintro e w2 ⟨k0,k1,k2,R,gp,cp,am,cm,gm,G0,C0,GM,CM,hag,rfl,hI,hc1,hc2⟩
 have HI:=z9 hI
 have HLV:=z9 (hL.gE HBW.out)
 rw [hag] at HLV
 have HAG:=z9 hag
 clear hI hag
 go_wp2_with fail
 go_loopw [26] (fun i wr=>∃T:Nat,T<=t/\i=iV T/\∃G C,xz w1 R k0 k1 k2 gp cp (.slice am M.length cm) gm cm L.b.length M.length (fun i=>(zv M i).length) GM CM B G C T 0 (Vl L B T (xV M)) wr) (fun i _=>t - (intOf i).toNat)
 case atStart=>exact⟨0,Nat.zero_le _,rfl,G0,C0,HI.out⟩
 case round =>
  clear HI
  obtain⟨T,hT,rfl,G,C,hQ⟩:=hrel
  have HQ:=z9 hQ
  clear hQ
  by_cases hlt:T<t
  ·have hTi:(T:Int)<(t:Int):=by omega
   go_wp2_with fail
   refine (zzr _ L HQ.out HLV.out rfl H3.out HLE.out HBO.out m3 (by omega)).mono ?_
   rintro e w3 ⟨rfl,G',C',hI3⟩
   have HI3:=z9 hI3
   clear hI3
   go_wp2_with fail
   go_roundw
   case rel=>exact⟨T+1,by omega,by go_num,G',C',HI3.out⟩
   case measure=>simp [intOf];omega
  ·have e:T=t:=by omega
   subst e
   go_wp2_with fail
   refine (zn2 _ L HQ.out HLV.out rfl HOU.out m4 ht hc1 hc2).mono ?_
   rintro e w3 ⟨ov,rfl,gJ,hb3⟩
   obtain⟨oa,oc,rfl,ho1,ho2⟩:=ZI gJ
   have hb13:Below (w.heap.size+3) (XF w l0 l1 l2 s0 s1) w3:=HB1.out.trans ((HQ.out.bel.trans (hb3.mono HQ.out.bel.size)).mono hbz)
   obtain⟨c0,c1,f0,f1,g0,g1,g2⟩:=Xi hb13
   have HFI:=z9 ((yY w l0 l1 l2 s0 s1).trans (hb13.mono (by omega)))
   have HI3:=z9 (HQ.out.gE hb3)
   have HOW:=z9 gJ
   have hwr:=HQ.out.bel.size
   clear gJ hb3 hb13
   go_wp2_with fail
   refine bodyPost_ret (v:=.tuple #[.agg #[.slice oa (xH L B T (Vl L B T (xV M))).length oc,.slice am M.length cm],iV 0]) (by simp [results,results25,go_sem,g1,g2]) rfl ⟨_,_,rfl,?_,?_,?_⟩
   ·refine zbn (base:=wr.heap.size) ?_ (zrf _ _ _ _ hB (ziu hLI hB ht (zcx hM)))
    exact ownsRow_setCell_below (ownsRow_setCell_below HOW.out (by show w.heap.size+1+1<_;omega) _) (by show w.heap.size+1+1<_;omega) _
   ·exact ((HI3.out.low (by omega) _).low (by simp;omega) _).words hc1 hc2 (ziu hLI hB ht (zcx hM))
   ·exact (HFI.out.setCell (by show w.heap.size<=w.heap.size+1+1;omega) _).setCell (by show w.heap.size<=w.heap.size+1+1;omega) _
end Go.Proofs.YtjoapiafpahihabGreat
