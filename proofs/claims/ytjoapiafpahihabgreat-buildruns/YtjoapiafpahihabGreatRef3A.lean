import Derived.Test.YtjoapiafpahihabGreatLoopP
import Derived.Deep.QuietTactic
import Derived.BigQuiet
import Derived.Test.YtjoapiafpahihabGreatMaths
set_option maxHeartbeats 20000000
namespace Go.Proofs.YtjoapiafpahihabGreat
open Go.Proofs.Tryz
open Go.RowKit Go.Joins
set_option linter.unusedVariables false
variable {w w':World} {base n:Nat} {G C len:Nat->Nat} {f:Nat->Nat->Int}
theorem Tryz.i2:(prog.info? 2).map (fun i=>(i.zero,i.size,i.bytes))=some (some (iV 0),1,8):=by kernel_rfl
theorem Tryz.i63:(prog.info? 63).map (fun i=>(i.zero,i.size,i.bytes))=some (some (.slice none 0 0),1,24):=by kernel_rfl
def ZY (w:World) (base:Nat) (G C:Nat->Nat) (n:Nat) (len:Nat->Nat) (f:Nat->Nat->Int):Prop :=
 (∀i,i<n->base<=G i/\len i<=C i/\C i<=maxLen/\zu w (G i) 2 (len i) (fun j=>iV (f i j)))/\∀i j,i<n->j<n->i≠j->G i≠G j
def ZT (G C len:Nat->Nat) (i:Nat):Value:=.slice (pA (G i)) (len i) (C i)
theorem ZY.keep (h:ZY w base G C n len f) (hb:∀i,i<n->w'.heap[G i]?=w.heap[G i]?):ZY w' base G C n len f :=
 ⟨fun i hi=>⟨(h.1 i hi).1,(h.1 i hi).2.1,(h.1 i hi).2.2.1,(h.1 i hi).2.2.2.gG (hb i hi)⟩,h.2⟩
theorem ZY.gE (h:ZY w base G C n len f) (hb:Bw w w'):ZY w' base G C n len f :=
 h.keep fun i hi=>hb.block _ (h.1 i hi).2.2.2.lt
theorem ZY.snoc (h:ZY w base G C n len f) (g c:Nat) (hg:base<=g) (hc:len n<=c) (hm:c<=maxLen)
  (hr:zu w g 2 (len n) (fun j=>iV (f n j))) (hd:∀i,i<n->G i≠g) :
  ZY w base (fun i=>if i=n then g else G i) (fun i=>if i=n then c else C i) (n+1) len f:=by
 refine⟨fun i hi=>?_,fun i j hi hj hij=>?_⟩
 ·by_cases e:i=n
  ·subst e;simp only [if_true];exact⟨hg,hc,hm,hr⟩
  ·simp only [if_neg e];exact h.1 i (by omega)
 ·by_cases e1:i=n
  ·by_cases e2:j=n
   ·omega
   ·simp only [if_pos e1,if_neg e2];exact fun h=>hd j (by omega) h.symm
  ·by_cases e2:j=n
   ·simp only [if_neg e1,if_pos e2];exact hd i (by omega)
   ·simp only [if_neg e1,if_neg e2];exact h.2 i j (by omega) (by omega) hij
theorem zbd (G C len:Nat->Nat) (n g c:Nat):((List.range n).map (ZT G C len))++[.slice (pA g) (len n) c]=(List.range (n+1)).map (ZT (fun i=>if i=n then g else G i) (fun i=>if i=n then c else C i) len):=by
 rw [List.range_succ,List.map_append]
 congr 1
 ·refine List.map_congr_left fun i hi=>?_
  have hi2:=List.mem_range.1 hi
  have hne:i≠n:=by omega
  simp [ZT,hne]
 ·simp [ZT]
theorem zg4 {b o:Nat} {zs:List Int} (h:∀i,i<zs.length->w.cell? (ad b (o+i))=sI (nth zs i)):∀j u,(zs.map (Value.int .i64))[j]?=some u->w.cell? (((ad b o):Addr).add j)=some u:=by
 intro j u hu
 rw [List.getElem?_map] at hu
 have hj:j<zs.length:=by
  by_cases hj:j<zs.length
  ·exact hj
  ·rw [List.getElem?_eq_none (by omega)] at hu;cases hu
 have ha:((ad b o):Addr).add j=(ad b (o+j)):=by simp [Addr.add]
 rw [ha,h j hj]
 rw [List.getElem?_eq_getElem hj] at hu
 have h2:iV zs[j]=u:=Option.some.inj hu
 rw [<-h2]
 simp [nth,List.getD,hj]
theorem zj6 (zs:List Int):∀u∈zs.map (Value.int .i64),u.oneCell'=true:=by
 intro u hu
 obtain⟨z,_,rfl⟩:=List.mem_map.1 hu
 rfl
theorem XI (zs:List Int) (i:Nat) (h:i<zs.length):(zs.map (Value.int .i64)).getD i (.bool false)=iV (nth zs i):=by
 simp [List.getD,nth,h]
theorem zbh {w1:World} {e:TypeId} {c:Nat} (h:(w.alloc (.cells #[] e)).grownBy w1 (Value.ownBlock (.slice (pA w.heap.size) n c))):Bw w w1 :=
 (below_alloc1 w (.cells #[] e)).grown h (by simp) (fun k hk=>by
  have:w.heap.size=k:=by simpa [Value.ownBlock] using hk
  omega)
theorem xU (w:World) (x:Value) (t:TypeId):∀(j:Nat) (u:Value),[x][j]?=some u->(w.alloc (.cells #[x] t)).cell? (((ad w.heap.size 0):Addr).add j)=some u:=by
 intro j u hj
 match j,hj with
 | 0,hj =>
   have h:x=u:=by simpa using hj
   subst h
   simp [Addr.add]
theorem zog {a b:List Int} (hl:a.length=b.length) (h:∀j,j<a.length->nth a j=nth b j):a=b:=by
 refine List.ext_getElem hl fun i h1 h2=>?_
 have:=h i h1
 simpa [nth,List.getD,h1,h2] using this
theorem zyo {a b:List (List Int)} (hl:a.length=b.length) (h:∀j,j<a.length->zv a j=zv b j):a=b:=by
 refine List.ext_getElem hl fun i h1 h2=>?_
 have:=h i h1
 simpa [zv,List.getD,h1,h2] using this
theorem zim {wr:World} {m:Nat} (h:∃n,wr=w.drewN n):∃n,wr.drewN m=w.drewN n:=by
 obtain⟨n,rfl⟩:=h
 exact⟨_,World.drewN_drewN _ _ _⟩
theorem VE (va vb:Value) (za zb:List Int) (w:World) (ha:zK w va za) (hb:zK w vb zb) :
  Calls prog 29 #[va,vb] w fun e w'=>e=.returned (.bool (decide (za=zb)))/\∃n,w'=w.drewN n:=by
 obtain⟨aa,ac,rfl,al,am,ar,acell⟩:=ha
 obtain⟨ba,bc,rfl,bl,bm,br,zf⟩:=hb
 unfold maxLen at am bm
 by_cases hl:za.length=zb.length
 ·have h1:((za.length:Int) != (zb.length:Int))=false:=by simp;omega
  have HL:=z9 hl
  clear hl
  go_enter func29,ntmps29
  go_wp2_with fail
  go_loopw [5] (fun i wr=>∃k n:Nat,k<=za.length/\i=iV k/\wr=w.drewN n/\∀j,j<k->nth za j=nth zb j) (fun i _=>za.length - (intOf i).toNat)
  case atStart=>exact⟨0,0,Nat.zero_le _,rfl,rfl,fun j hj=>absurd hj (Nat.not_lt_zero _)⟩
  case round =>
   obtain⟨k,n,hk,rfl,rfl,hall⟩:=hrel
   have HA:=z9 hall
   clear hall
   by_cases hlt:k<za.length
   ·have hltb:k<zb.length:=by have:=HL.out;omega
    obtain⟨b1,o1,rfl,hb1,hc1⟩:=acell (by omega)
    obtain⟨b2,o2,rfl,hb2,hc2⟩:=zf (by omega)
    have c1:=hc1 k hlt
    have c2:=hc2 k hltb
    have i1:(k:Int)<(za.length:Int):=by omega
    have i2:(k:Int)<(zb.length:Int):=by omega
    clear hc1 hc2 acell zf ar br
    by_cases hx:nth za k=nth zb k
    ·have HX:=z9 hx
     have hne:(nth za k != nth zb k)=false:=by simpa using hx
     clear hx
     go_wp2_with fail
     go_quiet ((fail))
     go_wp2_with fail
     go_roundw
     case rel=>exact⟨k+1,_,by omega,by go_num,rfl,fun j hj=>by
      by_cases e:j=k
      ·rw [e];exact HX.out
      ·exact HA.out j (by omega)⟩
     case measure=>simp [intOf];omega
    ·have HX:Hid (decide (za=zb)=false):=decide_eq_false (fun e=>hx (by rw [e]))
     have hne:(nth za k != nth zb k)=true:=by simpa using hx
     clear hx
     go_wp2_with fail
     go_quiet ((fail))
     go_wp2_with fail
     go_ret
     exact⟨zg HX.out.symm,_,World.drewN_drewN _ _ _⟩
   ·have HX:Hid (decide (za=zb)=true):=decide_eq_true (zog HL.out (fun j hj=>HA.out j (by omega)))
    clear HA acell zf ar br
    go_wp2_with fail
    go_ret
    exact⟨zg HX.out.symm,_,rfl⟩
 ·have h1:((za.length:Int) != (zb.length:Int))=true:=by simp;omega
  have HX:Hid (decide (za=zb)=false):=decide_eq_false (fun e=>hl (by rw [e]))
  clear hl acell zf ar br
  go_enter func29,ntmps29
  go_wp2_with fail
  go_ret
  exact⟨zg HX.out.symm,0,rfl⟩
theorem zt0 (va vb:Value) (ra rb:List (List Int)) (w:World) (ha:yo w va ra) (hb:yo w vb rb) :
  Calls prog 30 #[va,vb] w fun e w'=>e=.returned (.bool (decide (ra=rb)))/\∃n,w'=w.drewN n:=by
 obtain⟨aa,ac,rfl,al,am,acell⟩:=ha
 obtain⟨ba,bc,rfl,bl,bm,zf⟩:=hb
 unfold maxLen at am bm
 by_cases hl:ra.length=rb.length
 ·have h1:((ra.length:Int) != (rb.length:Int))=false:=by simp;omega
  have HL:=z9 hl
  clear hl
  go_enter func30,ntmps30
  go_wp2_with fail
  go_loopw [5] (fun i wr=>∃k:Nat,k<=ra.length/\i=iV k/\(∃n,wr=w.drewN n)/\∀j,j<k->zv ra j=zv rb j) (fun i _=>ra.length - (intOf i).toNat)
  case atStart=>exact⟨0,Nat.zero_le _,rfl,⟨0,rfl⟩,fun j hj=>absurd hj (Nat.not_lt_zero _)⟩
  case round =>
   obtain⟨k,hk,rfl,hw,hall⟩:=hrel
   have HA:=z9 hall
   have HW:=z9 hw
   clear hall hw
   by_cases hlt:k<ra.length
   ·have hltb:k<rb.length:=by have:=HL.out;omega
    obtain⟨b1,o1,rfl,hb1,hc1⟩:=acell (by omega)
    obtain⟨b2,o2,rfl,hb2,hc2⟩:=zf (by omega)
    obtain⟨u1,c1,g1⟩:=hc1 k hlt
    obtain⟨u2,c2,g2⟩:=hc2 k hltb
    have i1:(k:Int)<(ra.length:Int):=by omega
    have i2:(k:Int)<(rb.length:Int):=by omega
    have c1':wr.cell? (ad b1 (o1+k))=some u1:=by obtain⟨n,rfl⟩:=HW.out;exact c1
    have c2':wr.cell? (ad b2 (o2+k))=some u2:=by obtain⟨n,rfl⟩:=HW.out;exact c2
    have g1':zK wr u1 (zv ra k):=by obtain⟨n,rfl⟩:=HW.out;exact g1
    have g2':zK wr u2 (zv rb k):=by obtain⟨n,rfl⟩:=HW.out;exact g2
    clear c1 c2
    obtain⟨x1,y1,rfl,-,-,-,-⟩:=id g1
    obtain⟨x2,y2,rfl,-,-,-,-⟩:=id g2
    clear hc1 hc2 acell zf g1 g2
    by_cases hx:zv ra k=zv rb k
    ·have HX:=z9 hx
     have hne:decide (zv ra k=zv rb k)=true:=decide_eq_true hx
     clear hx
     go_wp2_with fail
     go_quiet ((go_at_call 29;exact Calls.quiet_of (VE _ _ (zv ra k) (zv rb k) _ (by exact g1') (by exact g2'))))
     go_wp2_with fail
     go_roundw
     case rel=>exact⟨k+1,by omega,by go_num,zim HW.out,fun j hj=>by
      by_cases e:j=k
      ·rw [e];exact HX.out
      ·exact HA.out j (by omega)⟩
     case measure=>simp [intOf];omega
    ·have HX:Hid (decide (ra=rb)=false):=decide_eq_false (fun e=>hx (by rw [e]))
     have hne:decide (zv ra k=zv rb k)=false:=decide_eq_false hx
     clear hx
     go_wp2_with fail
     go_quiet ((go_at_call 29;exact Calls.quiet_of (VE _ _ (zv ra k) (zv rb k) _ (by exact g1') (by exact g2'))))
     go_wp2_with fail
     go_ret
     exact⟨zg HX.out.symm,zim HW.out⟩
   ·have HX:Hid (decide (ra=rb)=true):=decide_eq_true (zyo HL.out (fun j hj=>HA.out j (by omega)))
    clear HA acell zf
    go_wp2_with fail
    go_ret
    exact⟨zg HX.out.symm,HW.out⟩
 ·have h1:((ra.length:Int) != (rb.length:Int))=true:=by simp;omega
  have HX:Hid (decide (ra=rb)=false):=decide_eq_false (fun e=>hl (by rw [e]))
  clear hl acell zf
  go_enter func30,ntmps30
  go_wp2_with fail
  go_ret
  exact⟨zg HX.out.symm,0,rfl⟩
theorem zzz (x:Int) (h0:-9223372036854775808<=x) (h1:x<=9223372036854775807):IntKind.i64.wrap x=x:=by rw [IntKind.wrap_i64];omega
def Xb (L:Lp) (B M:List (List Int)) (gD:Int):Int:=if xG L B M=true then (if 0<=gD/\gD<=200 then 0 else 3) else 2
end Go.Proofs.YtjoapiafpahihabGreat
