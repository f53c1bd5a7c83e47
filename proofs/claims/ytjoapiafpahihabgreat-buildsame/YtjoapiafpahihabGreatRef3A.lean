import Derived.Test.YtjoapiafpahihabGreatLoopP
import Derived.Test.YtjoapiafpahihabGreatBase
import Derived.Deep.QuietTactic
import Derived.BigQuiet
import Derived.Test.YtjoapiafpahihabGreatMaths
namespace Go.Proofs.YtjoapiafpahihabGreat
open Go.RowKit Go.Joins
set_option linter.unusedVariables false
theorem Tryz.i2:(Tryz.prog.info? 2).map (fun i=>(i.zero,i.size,i.bytes))=some (some (iV 0),1,8):=by kernel_rfl
theorem Tryz.i63:(Tryz.prog.info? 63).map (fun i=>(i.zero,i.size,i.bytes))=some (some (.slice none 0 0),1,24):=by kernel_rfl
def Xx (w:World) (base:Nat) (G C:Nat->Nat) (n:Nat) (len:Nat->Nat) (f:Nat->Nat->Int):Prop :=
 (∀i,i<n->base<=G i/\len i<=C i/\C i<=maxLen/\zg w (G i) 2 (len i) (fun j=>iV (f i j)))/\∀i j,i<n->j<n->i≠j->G i≠G j
def znf (G C len:Nat->Nat) (i:Nat):Value:=.slice (some ⟨G i,0,none⟩) (len i) (C i)
theorem Xx.keep {w w':World} {base:Nat} {G C:Nat->Nat} {n:Nat} {len:Nat->Nat} {f:Nat->Nat->Int} (h:Xx w base G C n len f) (hb:∀i,i<n->w'.heap[G i]?=w.heap[G i]?):Xx w' base G C n len f :=
 ⟨fun i hi=>⟨(h.1 i hi).1,(h.1 i hi).2.1,(h.1 i hi).2.2.1,(h.1 i hi).2.2.2.of_block (hb i hi)⟩,h.2⟩
theorem Xx.below {w w':World} {base:Nat} {G C:Nat->Nat} {n:Nat} {len:Nat->Nat} {f:Nat->Nat->Int} (h:Xx w base G C n len f) (hb:Below w.heap.size w w'):Xx w' base G C n len f :=
 h.keep fun i hi=>hb.block _ (h.1 i hi).2.2.2.lt
theorem Xx.snoc {w:World} {base:Nat} {G C:Nat->Nat} {n:Nat} {len:Nat->Nat} {f:Nat->Nat->Int} (h:Xx w base G C n len f) (g c:Nat) (hg:base<=g) (hc:len n<=c) (hm:c<=maxLen)
  (hr:zg w g 2 (len n) (fun j=>iV (f n j))) (hd:∀i,i<n->G i≠g) :
  Xx w base (fun i=>if i=n then g else G i) (fun i=>if i=n then c else C i) (n+1) len f:=by
 refine⟨fun i hi=>?_,fun i j hi hj hij=>?_⟩
 ·by_cases e:i=n
  ·subst e;simp only [if_true];exact⟨hg,hc,hm,hr⟩
  ·simp only [if_neg e];exact h.1 i (by omega)
 ·by_cases e1:i=n
  ·by_cases e2:j=n
   ·omega
   ·simp only [if_pos e1,if_neg e2];exact fun h=>hd j (by omega) h.symm
  ·by_cases e2:j=n
   ·simp only [if_neg e1,if_pos e2];exact hd i (by omega)
   ·simp only [if_neg e1,if_neg e2];exact h.2 i j (by omega) (by omega) hij
theorem zvr (G C len:Nat->Nat) (n g c:Nat):((List.range n).map (znf G C len))++[.slice (some ⟨g,0,none⟩) (len n) c]=(List.range (n+1)).map (znf (fun i=>if i=n then g else G i) (fun i=>if i=n then c else C i) len):=by
 rw [List.range_succ,List.map_append]
 congr 1
 ·refine List.map_congr_left fun i hi=>?_
  have hi2:=List.mem_range.1 hi
  have hne:i≠n:=by omega
  simp [znf,hne]
 ·simp [znf]
theorem ztw {w:World} {b o:Nat} {zs:List Int} (h:∀i,i<zs.length->w.cell? ⟨b,o+i,none⟩=some (iV (nth zs i))):∀j u,(zs.map (Value.int .i64))[j]?=some u->w.cell? ((⟨b,o,none⟩:Addr).add j)=some u:=by
 intro j u hu
 rw [List.getElem?_map] at hu
 have hj:j<zs.length:=by
  by_cases hj:j<zs.length
  ·exact hj
  ·rw [List.getElem?_eq_none (by omega)] at hu;cases hu
 have ha:(⟨b,o,none⟩:Addr).add j=⟨b,o+j,none⟩:=by simp [Addr.add]
 rw [ha,h j hj]
 rw [List.getElem?_eq_getElem hj] at hu
 have h2:iV zs[j]=u:=Option.some.inj hu
 rw [<-h2]
 simp [nth,List.getD,hj]
theorem zuc (zs:List Int):∀u∈zs.map (Value.int .i64),u.oneCell'=true:=by
 intro u hu
 obtain⟨z,_,rfl⟩:=List.mem_map.1 hu
 rfl
theorem zad (zs:List Int) (i:Nat) (h:i<zs.length):(zs.map (Value.int .i64)).getD i (.bool false)=iV (nth zs i):=by
 simp [List.getD,nth,h]
theorem zt3 {w w1:World} {e:TypeId} {n c:Nat} (h:(w.alloc (.cells #[] e)).grownBy w1 (Value.ownBlock (.slice (some ⟨w.heap.size,0,none⟩) n c))):Below w.heap.size w w1 :=
 (below_alloc1 w (.cells #[] e)).grown h (by simp) (fun k hk=>by
  have:w.heap.size=k:=by simpa [Value.ownBlock] using hk
  omega)
theorem zml (w:World) (x:Value) (t:TypeId):∀(j:Nat) (u:Value),[x][j]?=some u->(w.alloc (.cells #[x] t)).cell? ((⟨w.heap.size,0,none⟩:Addr).add j)=some u:=by
 intro j u hj
 match j,hj with
 | 0,hj =>
   have h:x=u:=by simpa using hj
   subst h
   simp [Addr.add]
theorem zv8 {w wr w1 w2:World} {G C len:Nat->Nat} {f:Nat->Nat->Int} {k g1 c1 m:Nat} {v v2:Value} {zs:List Int} {X:Obj} (hbel:Below w.heap.size w wr)
  (ho:wr.ownsRow w.heap.size 63 1 v k ((List.range k).map (znf G C len))) (hi:Xx wr w.heap.size G C k len f) (hb1:Below wr.heap.size wr w1) (hg1:wr.heap.size<=g1) (hm:m=len k) (hc1:m<=c1) (hx1:c1<=maxLen)
  (hr1:zg w1 g1 2 m (fun j=>([]++zs.map (Value.int .i64)).getD j (.bool false))) (hz:zs.length=len k) (hf:∀j,f k j=nth zs j)
  (ho2:w2.ownsRow w.heap.size 63 1 v2 (k+1) ((List.range k).map (znf G C len)++[.slice (some ⟨g1,0,none⟩) (len k) c1])) (hg2:(w1.alloc X).grownBy w2 v.ownBlock) :
  Below w.heap.size w w2/\∃G C,w2.ownsRow w.heap.size 63 1 v2 (k+1) ((List.range (k+1)).map (znf G C len))/\Xx w2 w.heap.size G C (k+1) len f:=by
 subst hm
 have hb2:Below wr.heap.size wr (w1.alloc X):=hb1.alloc hb1.size _
 have hsz:=hbel.size
 have hbw:Below w.heap.size w w2:=(hbel.trans (hb2.mono hsz)).grown hg2 (by have:=hb2.size;omega) (yW ho)
 have ho':=zt ho hb2
 have hi':=hi.below hb2
 have hr1':=hr1.alloc X
 have hin2:Xx w2 w.heap.size G C k len f:=hi'.keep fun i hik=>hg2.block _ (hi'.1 i hik).2.2.2.lt (Zr ho' (hi'.1 i hik).2.2.2 (by decide))
 have hr2:zg w2 g1 2 (len k) (fun j=>iV (f k j)):=by
  refine (hr1'.grown hg2 (Zr ho' hr1' (by decide))).congr fun j hj=>?_
  rw [hf j,List.nil_append]
  exact zad zs j (by omega)
 refine⟨hbw,fun i=>if i=k then g1 else G i,fun i=>if i=k then c1 else C i,?_,?_⟩
 ·rw [<-zvr];exact ho2
 ·exact hin2.snoc g1 c1 (by omega) hc1 hx1 hr2 (fun i hik=>by have:=(hi.1 i hik).2.2.2.lt;omega)
set_option maxHeartbeats 1000000 in
theorem zt9 (v:Value) (rs:List (List Int)) (w:World) (h:YY w v rs) (h3:rs.length<=3) (h32:∀i,i<rs.length->0<(VC rs i).length/\(VC rs i).length<=32) :
  Calls Tryz.prog 81 #[v] w fun e w'=>∃m G C,e=.returned m/\w'.ownsRow w.heap.size 63 1 m rs.length ((List.range rs.length).map (znf G C (fun i=>(VC rs i).length))) /\
   Xx w' w.heap.size G C rs.length (fun i=>(VC rs i).length) (fun i j=>nth (VC rs i) j)/\Below w.heap.size w w':=by
 obtain⟨a,cap,rfl,hl,hm,hc⟩:=h
 unfold maxLen at hm
 obtain⟨i0,hi,hz0,hz1,hz2⟩:=info_parts Tryz.i2
 obtain⟨j0,ji,jz0,jz1,jz2⟩:=info_parts Tryz.i63
 go_enter Tryz.func81,Tryz.ntmps81
 go_wp2_with fail
 go_loopw [3,4] (fun v i wr=>∃k:Nat,k<=rs.length/\i=iV k/\Below w.heap.size w wr/\∃G C,wr.ownsRow w.heap.size 63 1 v k ((List.range k).map (znf G C (fun i=>(VC rs i).length))) /\
   Xx wr w.heap.size G C k (fun i=>(VC rs i).length) (fun i j=>nth (VC rs i) j)) (fun _ i _=>rs.length - (intOf i).toNat)
 case atStart=>exact⟨0,Nat.zero_le _,rfl,Below.refl _ _,fun _=>0,fun _=>0,World.ownsRow_nil _ _ _ _,fun i hi=>absurd hi (Nat.not_lt_zero _),fun i j hi=>absurd hi (Nat.not_lt_zero _)⟩
 case round =>
  obtain⟨k,hk,rfl,hbel,G,C,hown,hin⟩:=hrel
  by_cases hlt:k<rs.length
  ·obtain⟨b,off,rfl,hb,hrow⟩:=hc (by omega)
   obtain⟨u,c1,⟨ra,rc,rfl,rl,rm,rr,rcell⟩⟩:=hrow k hlt
   have hk32:=h32 k hlt
   obtain⟨b2,o2,rfl,hb2,hcell2⟩:=rcell hk32.1
   rw [<-zc hbel _ _ hb] at c1
   have hki:(k:Int)<(rs.length:Int):=by omega
   have hsz:=hbel.size
   have hbr:b<wr.heap.size:=by omega
   have hbe:Below wr.heap.size wr (wr.alloc (.cells #[] 2)):=below_alloc1 _ _
   have N1:Hid (((VC rs k).map (Value.int .i64)).length=(VC rs k).length*1):=by show _=_;simp
   have N2:Hid (∀j u,((VC rs k).map (Value.int .i64))[j]?=some u->(wr.alloc (.cells #[] 2)).cell? ((⟨b2,o2,none⟩:Addr).add j)=some u):=ztw (fun i hi=>by
    rw [zc hbe _ _ (by omega),zc hbel _ _ hb2];exact hcell2 i hi)
   have N3:=z5 (zuc (VC rs k))
   have HO:=z5 hown
   have HI:=z5 hin
   have HC:=z5 hcell2
   clear hown hin hcell2 rr hrow hc rcell
   go_wp2_with (first
    | (at_builtin;refine wpList_append_own _ rfl (.tmp 12) (.tmp 16) 63 rfl wr.heap.size 2 i0 (iV 0) 1 8 Tryz.underlying63 hi hz0 hz1 hz2 rfl (by decide) _ _ _ rfl (zjo wr 2) ⟨b2,o2,none⟩ _ rc _ rfl N1.out N2.out N3.out (by unfold maxLen;omega) (by omega) (by simp) ?_;intro v1 w1 hown1 hgrow1 hnil1;obtain⟨g1,cap1,rfl,hg1,hcp1,hmx1,hrow1⟩:=Zs hown1 (.inr (by omega));go_must (have HB1:=zt3 hgrow1))
    | (at_builtin;refine wpList_append_own _ rfl (.tmp 11) (.tmp 18) 32 rfl w.heap.size 63 j0 (.slice none 0 0) 1 24 Tryz.underlying32 ji jz0 jz1 jz2 rfl (by decide) _ _ _ rfl (zt HO.out (HB1.alloc HB1.size _)) ⟨w1.heap.size,0,none⟩ 1 1 [.slice (some ⟨g1,0,none⟩) (VC rs k).length cap1] rfl rfl ?c1 (by intro u hu;simp at hu;subst hu;rfl) (by unfold maxLen;omega) (by omega) (by have:=HB1.size;simp;omega) ?_;rotate_right;intro v2 w2 hown2 hgrow2 hnil2))
   case c1=>exact zml _ _ _
   go_roundw
   case rel =>
    obtain⟨hbw,G',C',r1,r2⟩:=zv8 (zs:=VC rs k) (f:=fun i j=>nth (VC rs i) j) hbel HO.out HI.out HB1 hg1 (by simp) hcp1 hmx1 hrow1 rfl (fun j=>rfl) hown2 hgrow2
    exact⟨k+1,by omega,by go_num,hbw,G',C',r1,r2⟩
   case measure=>simp [intOf];omega
  ·have e:k=rs.length:=by omega
   subst e
   have HO:=z5 hown
   have HI:=z5 hin
   clear hown hin hc hlt
   go_wp2_with fail
   go_ret
   exact⟨_,G,C,rfl,HO.out,HI.out,hbel⟩
theorem zv0 {a b:List Int} (hl:a.length=b.length) (h:∀j,j<a.length->nth a j=nth b j):a=b:=by
 refine List.ext_getElem hl fun i h1 h2=>?_
 have:=h i h1
 simpa [nth,List.getD,h1,h2] using this
theorem zwu {a b:List (List Int)} (hl:a.length=b.length) (h:∀j,j<a.length->VC a j=VC b j):a=b:=by
 refine List.ext_getElem hl fun i h1 h2=>?_
 have:=h i h1
 simpa [VC,List.getD,h1,h2] using this
theorem zu8 {w wr:World} {m:Nat} (h:∃n,wr=w.drewN n):∃n,wr.drewN m=w.drewN n:=by
 obtain⟨n,rfl⟩:=h
 exact⟨_,World.drewN_drewN _ _ _⟩
set_option maxHeartbeats 400000 in
theorem zso (va vb:Value) (za zb:List Int) (w:World) (ha:yf w va za) (hb:yf w vb zb) :
  Calls Tryz.prog 29 #[va,vb] w fun e w'=>e=.returned (.bool (decide (za=zb)))/\∃n,w'=w.drewN n:=by
 obtain⟨aa,ac,rfl,al,am,ar,acell⟩:=ha
 obtain⟨ba,bc,rfl,bl,bm,br,zc⟩:=hb
 unfold maxLen at am bm
 by_cases hl:za.length=zb.length
 ·have h1:((za.length:Int) != (zb.length:Int))=false:=by simp;omega
  have HL:=z5 hl
  clear hl
  go_enter Tryz.func29,Tryz.ntmps29
  go_wp2_with fail
  go_loopw [5] (fun i wr=>∃k n:Nat,k<=za.length/\i=iV k/\wr=w.drewN n/\∀j,j<k->nth za j=nth zb j) (fun i _=>za.length - (intOf i).toNat)
  case atStart=>exact⟨0,0,Nat.zero_le _,rfl,rfl,fun j hj=>absurd hj (Nat.not_lt_zero _)⟩
  case round =>
   obtain⟨k,n,hk,rfl,rfl,hall⟩:=hrel
   have HA:=z5 hall
   clear hall
   by_cases hlt:k<za.length
   ·have hltb:k<zb.length:=by have:=HL.out;omega
    obtain⟨b1,o1,rfl,hb1,hc1⟩:=acell (by omega)
    obtain⟨b2,o2,rfl,hb2,hc2⟩:=zc (by omega)
    have c1:=hc1 k hlt
    have c2:=hc2 k hltb
    have i1:(k:Int)<(za.length:Int):=by omega
    have i2:(k:Int)<(zb.length:Int):=by omega
    clear hc1 hc2 acell zc ar br
    by_cases hx:nth za k=nth zb k
    ·have HX:=z5 hx
     have hne:(nth za k != nth zb k)=false:=by simpa using hx
     clear hx
     go_wp2_with fail
     go_quiet ((fail))
     go_wp2_with fail
     go_roundw
     case rel=>exact⟨k+1,_,by omega,by go_num,rfl,fun j hj=>by
      by_cases e:j=k
      ·rw [e];exact HX.out
      ·exact HA.out j (by omega)⟩
     case measure=>simp [intOf];omega
    ·have HX:Hid (decide (za=zb)=false):=decide_eq_false (fun e=>hx (by rw [e]))
     have hne:(nth za k != nth zb k)=true:=by simpa using hx
     clear hx
     go_wp2_with fail
     go_quiet ((fail))
     go_wp2_with fail
     go_ret
     exact⟨z7 HX.out.symm,_,World.drewN_drewN _ _ _⟩
   ·have HX:Hid (decide (za=zb)=true):=decide_eq_true (zv0 HL.out (fun j hj=>HA.out j (by omega)))
    clear HA acell zc ar br
    go_wp2_with fail
    go_ret
    exact⟨z7 HX.out.symm,_,rfl⟩
 ·have h1:((za.length:Int) != (zb.length:Int))=true:=by simp;omega
  have HX:Hid (decide (za=zb)=false):=decide_eq_false (fun e=>hl (by rw [e]))
  clear hl acell zc ar br
  go_enter Tryz.func29,Tryz.ntmps29
  go_wp2_with fail
  go_ret
  exact⟨z7 HX.out.symm,0,rfl⟩
set_option maxHeartbeats 400000 in
theorem zvw (va vb:Value) (ra rb:List (List Int)) (w:World) (ha:YY w va ra) (hb:YY w vb rb) :
  Calls Tryz.prog 30 #[va,vb] w fun e w'=>e=.returned (.bool (decide (ra=rb)))/\∃n,w'=w.drewN n:=by
 obtain⟨aa,ac,rfl,al,am,acell⟩:=ha
 obtain⟨ba,bc,rfl,bl,bm,zc⟩:=hb
 unfold maxLen at am bm
 by_cases hl:ra.length=rb.length
 ·have h1:((ra.length:Int) != (rb.length:Int))=false:=by simp;omega
  have HL:=z5 hl
  clear hl
  go_enter Tryz.func30,Tryz.ntmps30
  go_wp2_with fail
  go_loopw [5] (fun i wr=>∃k:Nat,k<=ra.length/\i=iV k/\(∃n,wr=w.drewN n)/\∀j,j<k->VC ra j=VC rb j) (fun i _=>ra.length - (intOf i).toNat)
  case atStart=>exact⟨0,Nat.zero_le _,rfl,⟨0,rfl⟩,fun j hj=>absurd hj (Nat.not_lt_zero _)⟩
  case round =>
   obtain⟨k,hk,rfl,hw,hall⟩:=hrel
   have HA:=z5 hall
   have HW:=z5 hw
   clear hall hw
   by_cases hlt:k<ra.length
   ·have hltb:k<rb.length:=by have:=HL.out;omega
    obtain⟨b1,o1,rfl,hb1,hc1⟩:=acell (by omega)
    obtain⟨b2,o2,rfl,hb2,hc2⟩:=zc (by omega)
    obtain⟨u1,c1,g1⟩:=hc1 k hlt
    obtain⟨u2,c2,g2⟩:=hc2 k hltb
    have i1:(k:Int)<(ra.length:Int):=by omega
    have i2:(k:Int)<(rb.length:Int):=by omega
    have c1':wr.cell? ⟨b1,o1+k,none⟩=some u1:=by obtain⟨n,rfl⟩:=HW.out;exact c1
    have c2':wr.cell? ⟨b2,o2+k,none⟩=some u2:=by obtain⟨n,rfl⟩:=HW.out;exact c2
    have g1':yf wr u1 (VC ra k):=by obtain⟨n,rfl⟩:=HW.out;exact g1
    have g2':yf wr u2 (VC rb k):=by obtain⟨n,rfl⟩:=HW.out;exact g2
    clear c1 c2
    obtain⟨x1,y1,rfl,-,-,-,-⟩:=id g1
    obtain⟨x2,y2,rfl,-,-,-,-⟩:=id g2
    clear hc1 hc2 acell zc g1 g2
    by_cases hx:VC ra k=VC rb k
    ·have HX:=z5 hx
     have hne:decide (VC ra k=VC rb k)=true:=decide_eq_true hx
     clear hx
     go_wp2_with fail
     go_quiet ((go_at_call 29;exact Calls.quiet_of (zso _ _ (VC ra k) (VC rb k) _ (by exact g1') (by exact g2'))))
     go_wp2_with fail
     go_roundw
     case rel=>exact⟨k+1,by omega,by go_num,zu8 HW.out,fun j hj=>by
      by_cases e:j=k
      ·rw [e];exact HX.out
      ·exact HA.out j (by omega)⟩
     case measure=>simp [intOf];omega
    ·have HX:Hid (decide (ra=rb)=false):=decide_eq_false (fun e=>hx (by rw [e]))
     have hne:decide (VC ra k=VC rb k)=false:=decide_eq_false hx
     clear hx
     go_wp2_with fail
     go_quiet ((go_at_call 29;exact Calls.quiet_of (zso _ _ (VC ra k) (VC rb k) _ (by exact g1') (by exact g2'))))
     go_wp2_with fail
     go_ret
     exact⟨z7 HX.out.symm,zu8 HW.out⟩
   ·have HX:Hid (decide (ra=rb)=true):=decide_eq_true (zwu HL.out (fun j hj=>HA.out j (by omega)))
    clear HA acell zc
    go_wp2_with fail
    go_ret
    exact⟨z7 HX.out.symm,HW.out⟩
 ·have h1:((ra.length:Int) != (rb.length:Int))=true:=by simp;omega
  have HX:Hid (decide (ra=rb)=false):=decide_eq_false (fun e=>hl (by rw [e]))
  clear hl acell zc
  go_enter Tryz.func30,Tryz.ntmps30
  go_wp2_with fail
  go_ret
  exact⟨z7 HX.out.symm,0,rfl⟩
theorem zw2 (x:Int) (h0:-9223372036854775808<=x) (h1:x<=9223372036854775807):IntKind.i64.wrap x=x:=by rw [IntKind.wrap_i64];omega
def zkw (w:World) (v:Value) (len T n:Nat) (val:Nat->Nat->Int):Prop :=
 ∃ g cap,v=.slice (some ⟨g,0,none⟩) len cap/\len<=cap/\cap<=maxLen/\g<w.heap.size /\
   ∀i,i<T->∃b c,w.cell? ⟨g,i,none⟩=some (.slice (some ⟨b,0,none⟩) n c)/\n<=c/\c<=maxLen/\b<w.heap.size/\∀k,k<n->w.cell? ⟨b,k,none⟩=some (iV (val i k))
theorem zkw.below {w w':World} {v:Value} {len T n:Nat} {val:Nat->Nat->Int} (h:zkw w v len T n val) (hb:Below w.heap.size w w'):zkw w' v len T n val:=by
 obtain⟨g,cap,e,h1,h2,h3,h4⟩:=h
 refine⟨g,cap,e,h1,h2,Nat.lt_of_lt_of_le h3 hb.size,fun i hi=>?_⟩
 obtain⟨b,c,h5,h6,h7,h8,h9⟩:=h4 i hi
 exact⟨b,c,by rw [zc hb _ _ h3];exact h5,h6,h7,Nat.lt_of_lt_of_le h8 hb.size,fun k hk=>by rw [zc hb _ _ h8];exact h9 k hk⟩
set_option maxHeartbeats 400000 in
theorem zup (sv gv:Value) (B M:List (List Int)) (len n t:Nat) (val:Nat->Nat->Int) (x y:Int) (w:World) (hS:zey w sv B M) (hG:zkw w gv len (t+1) n val)
  (ht:t<len) (hl:len<=200) (hx0:0<=x) (hx:x<n) (hn:n<=16) (hy0:0<=y) (hy:y<=3) (hB:B.length=n) (hB3:∀i,i<n->(VC B i).length=3) :
  Calls Tryz.prog 85 #[sv,gv,.agg #[iV x,iV y],iV t] w fun e w'=>e=.returned (iV (zjz B val t x y))/\Below w.heap.size w w':=by
 obtain⟨a,rfl⟩:=Int.eq_ofNat_of_zero_le hx0
 obtain⟨d,rfl⟩:=Int.eq_ofNat_of_zero_le hy0
 obtain⟨s0,s1,rfl,hr0,-⟩:=hS
 obtain⟨ba,bc,rfl,bl,bm,bcell'⟩:=hr0
 obtain⟨g,cap,rfl,gl,gm,gz,grow⟩:=hG
 clear hx0 hy0
 unfold maxLen at bm gm
 by_cases hd:d<=t
 ·obtain⟨i,hi⟩:∃i,t=d+i:=⟨t - d,by omega⟩
  have HV:Hid (zjz B val t a d=val i a):=by
   show zjz B val t a d=val i a
   unfold zjz;rw [if_pos (by omega),show ((t:Int) - (d:Int)).toNat=i from by omega,Int.toNat_natCast]
  obtain⟨b,c,c1,c2,c3,c4,c5⟩:=grow i (by omega)
  have ca:=c5 a (by omega)
  have e1:(t:Int) - (d:Int)=(i:Int):=by omega
  have e2:(i:Int)<(len:Int):=by omega
  have e3:(a:Int)<(n:Int):=by omega
  have e4:(0:Int)<=(i:Int):=by omega
  unfold maxLen at c3
  clear c5 grow bcell' hi hB3 hB
  go_enter Tryz.func85,Tryz.ntmps85
  go_wp2_with fail
  go_quiet ((fail))
  go_wp2_with fail
  go_ret
  exact⟨yk HV.out.symm,(below_alloc2 _ _ _).trans (below_draws _ _ _)⟩
 ·obtain⟨i,hi⟩:∃i,d=t+1+i:=⟨d - t - 1,by omega⟩
  have HV:Hid (zjz B val t a d=nth (VC B a) i):=by
   show zjz B val t a d=nth (VC B a) i
   unfold zjz;rw [if_neg (by omega),show ((d:Int) - (t:Int) - 1).toNat=i from by omega,Int.toNat_natCast]
  obtain⟨b,o,rfl,hb,hrow⟩:=bcell' (by omega)
  obtain⟨u,c1,⟨ra,rc,rfl,rl,rm,rr,rcell⟩⟩:=hrow a (by omega)
  have h3:=hB3 a (by omega)
  obtain⟨b2,o2,rfl,hb2,hrow2⟩:=rcell (by omega)
  have ci:=hrow2 i (by omega)
  have e1:(t:Int) - (d:Int)=-((i:Int)+1):=by omega
  have e2:(i:Int)<((VC B a).length:Int):=by omega
  have e3:(a:Int)<(B.length:Int):=by omega
  have e4:¬(0:Int)<=-((i:Int)+1):=by omega
  unfold maxLen at rm
  clear hrow2 hrow rcell bcell' grow hi hB3 hB rr
  go_enter Tryz.func85,Tryz.ntmps85
  go_wp2_with fail
  go_ret
  exact⟨yk HV.out.symm,below_alloc2 _ _ _⟩
end Go.Proofs.YtjoapiafpahihabGreat
