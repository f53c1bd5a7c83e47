/- The contract of package code's Put: the closure that writes numbers, eight bytes each, and all of a kernel's. -/
import Derived.Test.YtjdbmldkgjcniabCodeGo
import Derived.Laws.MakeOwn
namespace Go.Proofs.Ytjdbmldkgjcniab
open Go.RowKit Go.Joins
set_option linter.unusedVariables false
set_option linter.unusedSimpArgs false
set_option maxRecDepth 8192

theorem Try.ibyte : (Try.prog.info? 5).map (fun i => (i.zero, i.size, i.bytes)) = some (some (.int .u8 0), 1, 1) := by kernel_rfl
def u8s (l : List Int) : List Value := l.map fun x => .int .u8 x
/-- bytes as they are written: the variable (block q) and its row, all behind w0 -/
structure OutB (w0 : World) (q : Nat) (l : List Int) (wr : World) : Prop where
  bel : Below w0.heap.size w0 wr
  ge : w0.heap.size ≤ q
  blk : ∃ a c, wr.heap[q]? = some (.cells #[.slice a l.length c] 56 (0, 0)) ∧ wr.ownsRow w0.heap.size 5 1 (.slice a l.length c) l.length (u8s l)
/-- numbers that lie in a block that is no row of bytes -/
structure NumsAt (w : World) (b off : Nat) (zs : List Int) : Prop where
  blk : ∃ cs e, w.heap[b]? = some (.cells cs e (0, 0)) ∧ e ≠ 5 ∧ e ≠ 56 ∧ ∀ i, i < zs.length → cs[off + i]? = some (.int .i64 (nth zs i))
  rng : ∀ i, i < zs.length → -9223372036854775808 ≤ nth zs i ∧ nth zs i ≤ 9223372036854775807
theorem NumsAt.of {w w' : World} {b off : Nat} {zs : List Int} (h : NumsAt w b off zs) (he : w'.heap[b]? = w.heap[b]?) : NumsAt w' b off zs := by
  obtain ⟨⟨cs, e, h1, h2, h3, h4⟩, h5⟩ := h
  exact ⟨⟨cs, e, he.trans h1, h2, h3, h4⟩, h5⟩
theorem NumsAt.cell {w : World} {b off : Nat} {zs : List Int} (h : NumsAt w b off zs) {i : Nat} (hi : i < zs.length) : w.cell? ⟨b, off + i, none⟩ = some (.int .i64 (nth zs i)) := by
  obtain ⟨⟨cs, e, h1, h2, h3, h4⟩, h5⟩ := h
  rw [cell_of_block h1]; exact h4 i hi
theorem NumsAt.lt {w : World} {b off : Nat} {zs : List Int} (h : NumsAt w b off zs) : b < w.heap.size := by
  obtain ⟨⟨cs, e, h1, _⟩, _⟩ := h
  exact (Array.getElem?_eq_some_iff.1 h1).1
theorem own_blk {w : World} {base : Nat} {e : TypeId} {a : Option Addr} {n c : Nat} {xs : List Value} (h : w.ownsRow base e 1 (.slice a n c) n xs) {b : Nat} {cs : Array Value} {e' : TypeId} (hb : w.heap[b]? = some (.cells cs e' (0, 0))) (he : e' ≠ e) : some b ≠ Value.ownBlock (.slice a n c) := by
  obtain ⟨hl, h⟩ := h
  rcases h with ⟨h1, _⟩ | ⟨g', cap, cur, h1, hg, hk, r⟩
  · rw [h1]; intro h; cases h
  · rw [h1]
    intro h
    have hgg : b = g' := by simpa [Value.ownBlock] using h
    subst hgg
    rw [hk] at hb
    have h1 := Option.some.inj hb
    injection h1 with _ h2
    exact he h2.symm
theorem OutB.lt {w0 wr : World} {q : Nat} {l : List Int} (h : OutB w0 q l wr) : q < wr.heap.size := by
  obtain ⟨a, c, h1, h2⟩ := h.blk
  exact (Array.getElem?_eq_some_iff.1 h1).1
theorem OutB.below {w0 wr y : World} {q : Nat} {l : List Int} (h : OutB w0 q l wr) (hb : Below wr.heap.size wr y) : OutB w0 q l y := by
  obtain ⟨a, c, h1, h2⟩ := h.blk
  exact ⟨h.bel.trans (hb.mono h.bel.size), h.ge, a, c, (hb.block q h.lt).trans h1, own_below h2 hb⟩
/-- one byte more -/
theorem OutB.push {w0 y w2 : World} {q : Nat} {l : List Int} {x : Int} {a : Option Addr} {c g2 c2 : Nat} (h : OutB w0 q l y) (hq : y.heap[q]? = some (.cells #[.slice a l.length c] 56 (0, 0))) (ho : y.ownsRow w0.heap.size 5 1 (.slice a l.length c) l.length (u8s l))
    (ho2 : w2.ownsRow w0.heap.size 5 1 (.slice (some ⟨g2, 0, none⟩) (l.length + 1) c2) (l.length + 1) (u8s l ++ [.int .u8 x])) (hg : y.grownBy w2 (Value.ownBlock (.slice a l.length c))) :
    OutB w0 q (l ++ [x]) (w2.setCell ⟨q, 0, none⟩ (.slice (some ⟨g2, 0, none⟩) (l.length + 1) c2)) ∧ w2.heap[q]? = some (.cells #[.slice a l.length c] 56 (0, 0)) ∧
    ∀ b off zs, NumsAt y b off zs → NumsAt (w2.setCell ⟨q, 0, none⟩ (.slice (some ⟨g2, 0, none⟩) (l.length + 1) c2)) b off zs := by
  have hq2 : w2.heap[q]? = some (.cells #[.slice a l.length c] 56 (0, 0)) := by
    rw [hg.block q h.lt (own_blk ho hq (by decide))]; exact hq
  have hl : (l ++ [x]).length = l.length + 1 := by simp
  have hx : u8s l ++ [.int .u8 x] = u8s (l ++ [x]) := by unfold u8s; simp
  have hge := ownz_block_ge ho
  refine ⟨⟨(h.bel.grown hg h.bel.size hge).setCell h.ge _, h.ge, some ⟨g2, 0, none⟩, c2, ?_, ?_⟩, hq2, fun b off zs hz => hz.of ?_⟩
  · rw [hl]; simp [World.setCell, Array.getElem?_modify, hq2]
  · rw [hl, ← hx]
    refine ownz_keep ho2 fun g hgo => ?_
    refine Below.heap_setCell _ _ _ _ ?_
    intro e
    have e1 : g = q := e
    subst e1
    exact own_blk ho2 hq2 (by decide) hgo.symm
  · obtain ⟨⟨cs, e, h1, h2, h3, h4⟩, h5⟩ := hz
    have hne : b ≠ q := by
      intro e1
      subst e1
      rw [h1] at hq
      have h6 := Option.some.inj hq
      injection h6 with _ h7
      exact h3 h7
    rw [Below.heap_setCell _ _ _ _ hne]
    exact hg.block b (Array.getElem?_eq_some_iff.1 h1).1 (own_blk ho h1 h2)
theorem shN_pow (n : Int) : ∀ e : Nat, shN n e = n / 2 ^ (8 * e) := by
  intro e
  induction e with
  | zero => simp [shN]
  | succ e ih =>
    show shN n e / 256 = _
    rw [ih, Int.ediv_ediv_of_nonneg (Int.pow_nonneg (by decide)), show 8 * (e + 1) = 8 * e + 8 by omega, Int.pow_add]
    rfl
theorem numB_take (n : Int) (d : Nat) (hd : d < 8) : (numB n).take d ++ [byteN n d] = (numB n).take (d + 1) := by
  rw [numB_byte, ← List.map_take, ← List.map_take, List.take_range, List.take_range, show min d 8 = d by omega, show min (d + 1) 8 = d + 1 by omega, List.range_succ, List.map_append]
  rfl
set_option maxHeartbeats 8000000 in
theorem put1_any (w0 w : World) (q : Nat) (l zs : List Int) (b off cap : Nat) (hO : OutB w0 q l w) (hz : NumsAt w b off zs) (hl : l.length ≤ 100000) (hzl : zs.length ≤ 1000) (hcap : zs.length ≤ cap) (hcm : cap ≤ 9223372036854775807) :
    Calls Try.prog 57 #[.slice (some ⟨b, off, none⟩) zs.length cap, .pointer (some ⟨q, 0, none⟩)] w fun e w' => e = .returned (.tuple #[]) ∧ OutB w0 q (l ++ bytesW zs) w' := by
  obtain ⟨i0, hi, hz0, hz1, hz2⟩ := info_parts Try.ibyte
  have HO := hide hO
  have HZ := hide hz
  clear hO hz
  have HE : Hid (bytesW (zs.take zs.length) = bytesW zs) := by show _ = _; rw [List.take_length]
  have HNIL : Hid (l ++ bytesW (zs.take 0) = l) := by show _ = _; simp [bytesW]
  have HNT := hide (fun (k : Nat) (hk : k < zs.length) => nums_take zs k hk)
  have HLEN : Hid (∀ k, (bytesW (zs.take k)).length ≤ 8000) := fun k => by rw [bytes_len, List.length_take]; omega
  go_enter Try.func57, Try.ntmps57
  go_wp2_with fail
  go_loopw [8] (fun iv wr => ∃ k : Nat, k ≤ zs.length ∧ iv = .int .i64 k ∧ OutB w0 q (l ++ bytesW (zs.take k)) wr ∧ NumsAt wr b off zs) (fun iv _ => zs.length - (intOf iv).toNat)
  case atStart => exact ⟨0, Nat.zero_le _, rfl, by rw [HNIL.out]; exact HO.out, HZ.out⟩
  case round =>
    clear HO HZ HNIL
    obtain ⟨k, hk, rfl, hout, hnum⟩ := hrel
    by_cases hkl : k < zs.length
    · have hki : (k : Int) < (zs.length : Int) := by omega
      have hck := hnum.cell hkl
      have hbl := hnum.lt
      obtain ⟨r1, r2⟩ := hnum.rng k hkl
      have HT := hide (HNT.out k hkl)
      have HOUT := hide hout
      have HNUM := hide hnum
      have HL1 := hide (HLEN.out k)
      clear hout hnum HNT HLEN
      obtain ⟨x, hx⟩ : ∃ x, nth zs k = x := ⟨_, rfl⟩
      rw [hx] at hck r1 r2 HT
      have HPRE : Hid (l ++ bytesW (zs.take k) ++ numB x = l ++ bytesW (zs.take (k + 1))) := by show _ = _; rw [List.append_assoc, HT.out]
      obtain ⟨pre, hpre⟩ : ∃ pre, l ++ bytesW (zs.take k) = pre := ⟨_, rfl⟩
      have HPL : Hid (pre.length ≤ 108000) := by show _ ≤ _; rw [← hpre, List.length_append]; have := HL1.out; omega
      rw [hpre] at HPRE HOUT
      have HNIL : Hid (pre ++ (numB x).take 0 = pre) := by show _ = _; simp
      have HSR := hide (shN_range r1 r2)
      have HALL : Hid ((numB x).take 8 = numB x) := by show _ = _; exact List.take_of_length_le (by rw [numB_len]; omega)
      clear hx hpre HT HL1
      rename World => wo
      go_wp2_with fail
      go_loopw [5] (fun sv wi => ∃ d : Nat, d ≤ 8 ∧ sv = .int .i64 (56 - 8 * (d : Int)) ∧ OutB w0 q (pre ++ (numB x).take d) wi ∧ NumsAt wi b off zs) (fun sv _ => (intOf sv + 8).toNat)
      case atStart => exact ⟨0, by omega, rfl, by rw [HNIL.out]; exact HOUT.out, HNUM.out⟩
      case round =>
        clear HOUT HNUM HNIL
        rename World => wi
        obtain ⟨d, hd, rfl, hout, hnum⟩ := hrel
        by_cases hd8 : d < 8
        · have hk0 : (0 : Int) ≤ 56 - 8 * (d : Int) := by omega
          obtain ⟨s0, s1⟩ := HSR.out (7 - d)
          have HBT : Hid (shN x (7 - d) % 256 = byteN x d) := rfl
          have HTK := hide (numB_take x d hd8)
          obtain ⟨sd, hsd⟩ : ∃ sd, shN x (7 - d) = sd := ⟨_, rfl⟩
          rw [hsd] at s0 s1 HBT
          obtain ⟨bt, hbt⟩ : ∃ bt, sd % 256 = bt := ⟨_, rfl⟩
          have hu8 : IntKind.u8.wrap (x / 2 ^ (56 - 8 * (d : Int)).toNat) = bt := by rw [IntKind.wrap_u8, show (56 - 8 * (d : Int)).toNat = 8 * (7 - d) by omega, ← shN_pow, hsd]; exact hbt
          rw [hbt] at HBT
          have HPL2 : Hid ((pre ++ (numB x).take d).length ≤ 108008) := by show _ ≤ _; rw [List.length_append, List.length_take, numB_len]; have := HPL.out; omega
          have HL2 : Hid (pre ++ (numB x).take d ++ [bt] = pre ++ (numB x).take (d + 1)) := by show _ = _; rw [List.append_assoc, HBT.out, HTK.out]
          obtain ⟨L, hL⟩ : ∃ L, pre ++ (numB x).take d = L := ⟨_, rfl⟩
          rw [hL] at hout HPL2 HL2
          have hLl : L.length ≤ 108008 := HPL2.out
          obtain ⟨ra, rc, hqb, hrow⟩ := hout.blk
          obtain ⟨ra9, rc9, hsh9, hkc, hcm9⟩ := ownz_shape hrow
          injection hsh9 with e1 e2 e3
          subst e3
          clear e1 e2
          unfold maxLen at hcm9
          have hc0 : wi.cell? ⟨q, 0, none⟩ = some (.slice ra L.length rc) := by rw [cell_of_block hqb]; rfl
          have hql := hout.lt
          have HOUT := hide hout
          have HNUM := hide hnum
          have HQB := hide hqb
          have HROW := hide hrow
          obtain ⟨sh, hshl⟩ : ∃ sh : Int, 56 - 8 * (d : Int) = sh := ⟨_, rfl⟩
          have HSL := hide hshl
          rw [hshl] at hk0 hu8 ⊢
          have hsb : sh ≤ 56 := by omega
          clear hout hnum hqb hrow hsd hbt hL hshl HBT HTK HPL2
          go_wp2_with fail
          refine wp_region_noPanic ?_
          refine region_until 7 (fun w' => w'.cell? ⟨q, 0, none⟩ = some (.slice ra L.length rc)) (by kernel_rfl) hc0 (fun hHeld => ?_)
          have HY0 : Hid (Below wi.heap.size wi wi.drew) := (Below.refl _ _).drew
          have HYS : Hid (wi.drew.heap.size = wi.heap.size) := rfl
          generalize wi.drew = y at HY0 HYS hHeld ⊢
          refine utk (i := 0) rfl hHeld ?_
          try simp only [Act.put, List.setIfInBounds_toArray, List.set_cons_zero, List.set_cons_succ]
          refine utk (i := 1) rfl hHeld ?_
          try simp only [Act.put, List.setIfInBounds_toArray, List.set_cons_zero, List.set_cons_succ]
          refine utk (i := 2) rfl hHeld ?_
          try simp only [Act.put, List.setIfInBounds_toArray, List.set_cons_zero, List.set_cons_succ]
          refine utk (i := 3) rfl hHeld ?_
          try simp only [Act.put, List.setIfInBounds_toArray, List.set_cons_zero, List.set_cons_succ]
          refine utk (i := 4) rfl hHeld ?_
          try simp only [Act.put, List.setIfInBounds_toArray, List.set_cons_zero, List.set_cons_succ]
          refine until_one (i := 5) rfl (by kernel_rfl) (fun K hK => ?_)
          go_simp
          have HB6 : Hid (Below wi.heap.size wi (y.alloc (.cells #[.int .u8 bt] 5))) := HY0.out.trans ((below_alloc1 y _).mono (by rw [HYS.out]; exact Nat.le_refl _))
          have HO6 := hide (HOUT.out.below HB6.out)
          have HQ6 := hide ((HB6.out.block q HOUT.out.lt).trans HQB.out)
          have HR6 := hide (own_below HROW.out HB6.out)
          have HZ6 := hide (HNUM.out.of (HB6.out.block _ HNUM.out.lt))
          have m6 : (y.alloc (.cells #[.int .u8 bt] 5)).cell? ⟨q, 0, none⟩ = some (.slice ra L.length rc) := by rw [cell_of_block HQ6.out]; rfl
          refine hK.out _ _ (.inr m6) ?_
          clear hK K hHeld
          try simp only [Act.put, List.setIfInBounds_toArray, List.set_cons_zero, List.set_cons_succ]
          refine until_one (i := 6) rfl (by kernel_rfl) (fun K hK => ?_)
          refine step_append_lies _ (by rfl) (.tmp 16) (.tmp 21) 56 (by rfl) w0.heap.size 5 i0 (.int .u8 0) 1 1 Try.underlying56 hi hz0 hz1 hz2 rfl (by decide) _ L.length _ (by rfl) HR6.out ⟨y.heap.size, 0, none⟩ 1 1 [.int .u8 bt] (by rfl) rfl (by exact one_cell y _ _) (by intro u hu; simp at hu; subst hu; rfl) (by decide) (by unfold maxLen; omega) (by omega) HO6.out.bel.size _ rfl ?_
          intro g2 c2 w2 hown2 hgrow2 hat2 hlt2
          obtain ⟨hp1, hp2, hp3⟩ := OutB.push HO6.out HQ6.out HR6.out hown2 hgrow2
          have HP1 := hide hp1
          have HP3 := hide (hp3 _ _ _ HZ6.out)
          have m7 : w2.cell? ⟨q, 0, none⟩ = some (.slice ra L.length rc) := by rw [cell_of_block hp2]; rfl
          have mf : w2.frozen? ⟨q, 0, none⟩ = false := by simp [World.frozen?, hp2]
          have ml : q < w2.heap.size := (Array.getElem?_eq_some_iff.1 hp2).1
          clear hown2 hgrow2 hat2 hlt2 hp1 hp2 hp3
          refine hK.out _ _ (.inr m7) ?_
          clear hK K
          try simp only [Act.put, List.setIfInBounds_toArray, List.set_cons_zero, List.set_cons_succ]
          refine until_one (i := 7) rfl (by kernel_rfl) (fun K hK => ?_)
          go_simp
          refine hK.out _ _ (.inl rfl) ?_
          clear hK K
          try simp only [Act.put, List.setIfInBounds_toArray, List.set_cons_zero, List.set_cons_succ]
          refine until_done (by kernel_rfl) ?_ _
          refine NoPanic.normal ?_
          go_wp2_with fail
          go_roundw
          case rel => exact ⟨d + 1, by omega, by have := HSL.out; congr 1; omega, by rw [← HL2.out]; exact HP1.out, HP3.out⟩
          case measure => simp [intOf]; omega
        · have e : d = 8 := by omega
          subst e
          have hk0 : ¬ (0 : Int) ≤ 56 - 8 * ((8 : Nat) : Int) := by omega
          have HOUT := hide hout
          have HNUM := hide hnum
          clear hout hnum
          go_wp2_with fail
          go_roundw
          case rel => exact ⟨k + 1, by omega, by go_num, by rw [← HPRE.out, ← HALL.out]; exact HOUT.out, HNUM.out⟩
          case measure => simp [intOf]; omega
    · have e : k = zs.length := by omega
      subst e
      have hki : ¬ (zs.length : Int) < (zs.length : Int) := by omega
      have HOUT := hide hout
      clear hout hnum HNT HLEN
      go_wp2_with fail
      go_end0
      exact ⟨rfl, by rw [← HE.out]; exact HOUT.out⟩
theorem bytesW_range (l : List Int) (i : Nat) (hi : i < (bytesW l).length) : 0 ≤ nth (bytesW l) i ∧ nth (bytesW l) i < 256 := by
  rw [bytes_len] at hi
  rw [show i = 8 * (i / 8) + i % 8 by omega, bytes_at l (i / 8) (i % 8) (by omega) (by omega), numB_byte]
  have h8 : i % 8 < 8 := by omega
  have e : nth ((List.range 8).map (byteN (nth l (i / 8)))) (i % 8) = byteN (nth l (i / 8)) (i % 8) := by unfold nth; simp [List.getD, h8]
  rw [e]; exact byteN_range _ _
theorem OutB.bytes {w0 wr : World} {q : Nat} {l : List Int} (h : OutB w0 q l wr) (hr : ∀ i, i < l.length → 0 ≤ nth l i ∧ nth l i < 256) : ∃ a c, wr.cell? ⟨q, 0, none⟩ = some (.slice a l.length c) ∧ BytesV wr (.slice a l.length c) l := by
  obtain ⟨a, c, h1, h2⟩ := h.blk
  refine ⟨a, c, by rw [cell_of_block h1]; rfl, ?_⟩
  obtain ⟨a9, c9, e9, k1, k2⟩ := ownz_shape h2
  injection e9 with e1 e2 e3
  subst e3
  refine ⟨a, c, rfl, k1, k2, hr, fun hp => ?_⟩
  obtain ⟨g, cap, hv, hg, hn, hm, hrow⟩ := own_parts h2 (.inr hp)
  injection hv with e4 e5 e6
  refine ⟨g, 0, e4, hrow.lt, fun i hi => ?_⟩
  rw [Nat.zero_add, hrow.cell hi]
  unfold u8s nth
  simp [List.getD, hi]
theorem nums_new (w : World) (cs : Array Value) (e : TypeId) (zs : List Int) (h1 : e ≠ 5) (h2 : e ≠ 56) (hc : ∀ i, i < zs.length → cs[i]? = some (.int .i64 (nth zs i))) (hr : ∀ i, i < zs.length → -9223372036854775808 ≤ nth zs i ∧ nth zs i ≤ 9223372036854775807) : NumsAt (w.alloc (.cells cs e)) w.heap.size 0 zs :=
  ⟨⟨cs, e, new_blkS w cs e, h1, h2, fun i hi => by rw [Nat.zero_add]; exact hc i hi⟩, hr⟩
theorem make_bytes (n : Nat) (hn : n ≤ 100000) (W : World) : (Instr.makeSlice 56 (.int .i64 0) (.int .i64 (n : Int))).run Try.prog W = .ok (.slice (some ⟨W.heap.size, 0, none⟩) 0 n) (W.alloc (.cells (madeCells #[.int .u8 0] n) 5)) := by
  obtain ⟨i0, hi, hz0, hz1, hz2⟩ := info_parts Try.ibyte
  have h := run_make (P := Try.prog) W 56 5 i0 (.int .u8 0) Try.underlying56 hi hz0 .i64 .i64 0 n (by omega) (by omega) (by rw [hz2]; omega) (by omega)
  rw [hz1, Int.toNat_natCast, Nat.mul_one] at h
  exact h
theorem out_new (w0 : World) (n : Nat) (hn : n ≤ 100000) : OutB w0 (w0.heap.size + 1) [] ((w0.alloc (.cells (madeCells #[.int .u8 0] n) 5)).alloc (.cells #[.slice (some ⟨w0.heap.size, 0, none⟩) 0 n] 56)) := by
  have e : (w0.alloc (.cells (madeCells #[.int .u8 0] n) 5)).heap.size = w0.heap.size + 1 := by simp
  refine ⟨below_alloc2 _ _ _, by omega, some ⟨w0.heap.size, 0, none⟩, n, ?_, ?_⟩
  · rw [← e]; exact new_blkS _ _ _
  · have h : (w0.alloc (.cells (madeCells #[.int .u8 0] n) 5)).ownsRow w0.heap.size 5 1 (.slice (some ⟨w0.heap.size, 0, none⟩) 0 n) 0 [] := World.ownsRow_made w0 _ n (Nat.le_refl _) (by unfold maxLen; omega) (by rw [size_madeCells, Nat.mul_one])
    exact own_below h (below_alloc1 _ _)
theorem put1_at (w0 W : World) (q b : Nat) (l zs : List Int) (n : Nat) (hn : zs.length = n) (hO : OutB w0 q l W) (hz : NumsAt W b 0 zs) (hl : l.length ≤ 100000) (hzl : n ≤ 1000) :
    Calls Try.prog 57 #[.slice (some ⟨b, 0, none⟩) n n, .pointer (some ⟨q, 0, none⟩)] W fun e w' => e = .returned (.tuple #[]) ∧ OutB w0 q (l ++ bytesW zs) w' := by
  subst hn
  exact put1_any w0 W q l zs b 0 zs.length hO hz hl hzl (Nat.le_refl _) (by omega)
set_option maxHeartbeats 16000000 in
theorem put_walk (pc st : Int) (ops : List Kop) (ka : Option Addr) (kc : Nat) (w : World) (hK : OpsV w (.slice ka ops.length kc) ops) (hin : KernIn ⟨pc, st, ops⟩) (h16 : ops.length ≤ 16) :
    Calls Try.prog 26 #[.agg #[.int .i64 pc, .int .i64 st, .slice ka ops.length kc]] w fun e w' => Below w.heap.size w w' ∧ ∃ bv, e = .returned (.tuple #[bv, .int .i64 0]) ∧ BytesV w' bv (bytesK ⟨pc, st, ops⟩) := by
  have hmf : ∀ (fn : Fn) (first cap : Array Value) (w : World), (Instr.makeFunc fn first cap).run Try.prog w = .ok (.func fn first cap) w := fun _ _ _ _ => rfl
  obtain ⟨ka', kc', hk1, hk2, hk3, hkc⟩ := hK
  injection hk1 with e1 e2 e3
  subst e1; subst e3
  unfold maxLen at hk3
  have HKC := hide hkc
  have HIN := hide hin
  have h16i : ¬ (16 : Int) < (ops.length : Int) := by omega
  have HBO := hide (fun W => bytesOf_any ops.length W h16)
  have HMK : Hid (∀ W : World, (Instr.makeSlice 56 (.int .i64 0) (.int .i64 (24 + 80 * (ops.length : Int)))).run Try.prog W = .ok (.slice (some ⟨W.heap.size, 0, none⟩) 0 (24 + 80 * ops.length)) (W.alloc (.cells (madeCells #[.int .u8 0] (24 + 80 * ops.length)) 5))) := fun W => by
    have h := make_bytes (24 + 80 * ops.length) (by omega) W
    rw [show ((24 + 80 * ops.length : Nat) : Int) = 24 + 80 * (ops.length : Int) by omega] at h
    exact h
  have HZ0 : Hid ((w.alloc (.cells #[.int .i64 pc, .int .i64 st, .slice ka ops.length kc] 40)).heap.size = w.heap.size + 1) := by show _ = _; simp
  have HBW0 : Hid (Below w.heap.size w (w.alloc (.cells #[.int .i64 pc, .int .i64 st, .slice ka ops.length kc] 40))) := below_alloc1 _ _
  have HKB0 : Hid ((w.alloc (.cells #[.int .i64 pc, .int .i64 st, .slice ka ops.length kc] 40)).heap[w.heap.size]? = some (.cells #[.int .i64 pc, .int .i64 st, .slice ka ops.length kc] 40 (0, 0))) := new_blkS _ _ _
  have HON := hide (out_new (w.alloc (.cells #[.int .i64 pc, .int .i64 st, .slice ka ops.length kc] 40)) (24 + 80 * ops.length) (by omega))
  have H3 : Hid (∀ W : World, NumsAt (W.alloc (.cells #[.int .i64 pc, .int .i64 st, .int .i64 ops.length] 2)) W.heap.size 0 [pc, st, (ops.length : Int)]) := fun W => nums_new W _ _ _ (by decide) (by decide) (fun i hi => by
      have hi3 : i < 3 := hi
      obtain rfl | rfl | rfl : i = 0 ∨ i = 1 ∨ i = 2 := by omega
      all_goals rfl) (fun i hi => by
      have hi3 : i < 3 := hi
      obtain rfl | rfl | rfl : i = 0 ∨ i = 1 ∨ i = 2 := by omega
      · exact hin.1
      · exact hin.2.1
      · show -9223372036854775808 ≤ (ops.length : Int) ∧ (ops.length : Int) ≤ 9223372036854775807; omega)
  have H0 : Hid (([] : List Int) ++ bytesW [pc, st, (ops.length : Int)] = bytesW ([pc, st, (ops.length : Int)] ++ opsW (ops.take 0))) := by show _ = _; rw [List.take_zero]; rfl
  have HE : Hid (bytesW ([pc, st, (ops.length : Int)] ++ opsW (ops.take ops.length)) = bytesK ⟨pc, st, ops⟩) := by show _ = _; rw [List.take_length]; rfl
  have hol : (ops.length : Int) ≤ 16 := by omega
  clear hkc e2 hin
  go_enter Try.func26, Try.ntmps26
  go_wp2_with fail
  refine (HBO.out _).mono ?_
  rintro e w' ⟨rfl, hw'⟩
  have hw' := hw'.symm; subst hw'
  have hmk := HMK.out
  have HP3 : Hid (Calls Try.prog 57 #[.slice (some ⟨w.heap.size + 1 + 1 + 1, 0, none⟩) 3 3, .pointer (some ⟨w.heap.size + 1 + 1, 0, none⟩)] ((((w.alloc (.cells #[.int .i64 pc, .int .i64 st, .slice ka ops.length kc] 40)).alloc (.cells (madeCells #[.int .u8 0] (24 + 80 * ops.length)) 5)).alloc (.cells #[.slice (some ⟨w.heap.size + 1, 0, none⟩) 0 (24 + 80 * ops.length)] 56)).alloc (.cells #[.int .i64 pc, .int .i64 st, .int .i64 ops.length] 2)) fun e w' => e = .returned (.tuple #[]) ∧ OutB (w.alloc (.cells #[.int .i64 pc, .int .i64 st, .slice ka ops.length kc] 40)) (w.heap.size + 1 + 1) ([] ++ bytesW [pc, st, (ops.length : Int)]) w') := by
    have h1 := HON.out
    rw [HZ0.out] at h1
    have h2 := H3.out (((w.alloc (.cells #[.int .i64 pc, .int .i64 st, .slice ka ops.length kc] 40)).alloc (.cells (madeCells #[.int .u8 0] (24 + 80 * ops.length)) 5)).alloc (.cells #[.slice (some ⟨w.heap.size + 1, 0, none⟩) 0 (24 + 80 * ops.length)] 56))
    have e : (((w.alloc (.cells #[.int .i64 pc, .int .i64 st, .slice ka ops.length kc] 40)).alloc (.cells (madeCells #[.int .u8 0] (24 + 80 * ops.length)) 5)).alloc (.cells #[.slice (some ⟨w.heap.size + 1, 0, none⟩) 0 (24 + 80 * ops.length)] 56)).heap.size = w.heap.size + 1 + 1 + 1 := by simp
    rw [e] at h2
    exact put1_at _ _ _ _ _ _ 3 rfl (h1.below (below_alloc1 _ _)) h2 (by show 0 ≤ 100000; omega) (by omega)
  clear HON
  go_wp2_with fail
  refine HP3.out.mono ?_
  rintro e x1 ⟨rfl, hx1⟩
  rw [H0.out] at hx1
  have HX1 := hide hx1
  clear hx1 HP3 H3 HMK hmk HBO
  have hkbx : x1.heap[w.heap.size]? = some (.cells #[.int .i64 pc, .int .i64 st, .slice ka ops.length kc] 40 (0, 0)) := (HX1.out.bel.block _ (by rw [HZ0.out]; omega)).trans HKB0.out
  have m2 : x1.cell? ⟨w.heap.size, 2, none⟩ = some (.slice ka ops.length kc) := by rw [cell_of_block hkbx]; rfl
  have hx1z : w.heap.size + 1 + 1 < x1.heap.size := HX1.out.lt
  clear hkbx
  go_wp2_with fail
  go_loopw [32] (fun iv wr => ∃ k : Nat, k ≤ ops.length ∧ iv = .int .i64 k ∧ OutB (w.alloc (.cells #[.int .i64 pc, .int .i64 st, .slice ka ops.length kc] 40)) (w.heap.size + 1 + 1) (bytesW ([pc, st, (ops.length : Int)] ++ opsW (ops.take k))) wr) (fun iv _ => ops.length - (intOf iv).toNat)
  case atStart => exact ⟨0, Nat.zero_le _, rfl, HX1.out⟩
  case round =>
    clear HX1 m2 hx1z
    obtain ⟨k, hk, rfl, hout⟩ := hrel
    have hbw : Below w.heap.size w wr := HBW0.out.trans (hout.bel.mono (by rw [HZ0.out]; omega))
    have hoz := hout.lt
    have HOUT := hide hout
    by_cases hkl : k < ops.length
    · have hki : (k : Int) < (ops.length : Int) := by omega
      obtain ⟨ob, oo, rfl, hobz, hocell⟩ := HKC.out (by omega)
      obtain ⟨c0, c1, c2, c3, c4, c5, c6, c7, c8, c9⟩ := ten (fun j hj => (bcell hbw ob (oo + k * 10 + j) hobz).trans (hocell k hkl j hj))
      have hobw : ob < wr.heap.size := by have := hbw.size; omega
      have hr : ∀ i, i < 10 → I64 (nth (opW (opAt ops k)) i) := HIN.out.2.2 k hkl
      have HTK := hide (opsW_take ops k hkl)
      have HLEN : Hid ((bytesW ([pc, st, (ops.length : Int)] ++ opsW (ops.take k))).length ≤ 2000) := by
        show _ ≤ _
        rw [bytes_len, List.length_append, opsW_len, List.length_take]
        show 8 * (3 + 10 * min k ops.length) ≤ 2000
        omega
      generalize opAt ops k = xo at c0 c1 c2 c3 c4 c5 c6 c7 c8 c9 hr HTK
      obtain ⟨xo0, xo1, xo2, xo3, xo4, xo5, xo6, xo7, xo8, xo9⟩ := xo
      simp only at c0 c1 c2 c3 c4 c5 c6 c7 c8 c9
      have HI9 : Hid (∀ W : World, NumsAt (W.alloc (.cells #[.int .i64 xo0, .int .i64 xo1, .int .i64 xo2, .int .i64 xo3, .int .i64 xo4, .int .i64 xo5, .int .i64 xo6, .int .i64 xo7, .int .i64 xo8, .int .i64 xo9] 111)) W.heap.size 0 [xo0, xo1, xo2, xo3, xo4, xo5, xo6, xo7, xo8, xo9]) := fun W => nums_new W _ _ _ (by decide) (by decide) (fun i hi => by
        have hi9 : i < 10 := hi
        obtain rfl | rfl | rfl | rfl | rfl | rfl | rfl | rfl | rfl | rfl : i = 0 ∨ i = 1 ∨ i = 2 ∨ i = 3 ∨ i = 4 ∨ i = 5 ∨ i = 6 ∨ i = 7 ∨ i = 8 ∨ i = 9 := by omega
        all_goals rfl) (fun i hi => hr i hi)
      have HS1 : Hid (bytesW ([pc, st, (ops.length : Int)] ++ opsW (ops.take k)) ++ bytesW [xo0, xo1, xo2, xo3, xo4, xo5, xo6, xo7, xo8, xo9] = bytesW ([pc, st, (ops.length : Int)] ++ opsW (ops.take (k + 1)))) := by
        show _ = _
        rw [← HTK.out, ← List.append_assoc, bytesW_app _ (opW _)]
        rfl
      obtain ⟨pre, hpre⟩ : ∃ pre, bytesW ([pc, st, (ops.length : Int)] ++ opsW (ops.take k)) = pre := ⟨_, rfl⟩
      rw [hpre] at HS1 HLEN HOUT
      have HNO := hide (fun W => numbersOf_any xo0 xo1 xo2 xo3 xo4 xo5 xo6 xo7 xo8 xo9 W)
      have HPU := hide (fun W b hO hz => put1_at (w.alloc (.cells #[.int .i64 pc, .int .i64 st, .slice (some ⟨ob, oo, none⟩) ops.length kc] 40)) W (w.heap.size + 1 + 1) b pre [xo0, xo1, xo2, xo3, xo4, xo5, xo6, xo7, xo8, xo9] 10 rfl hO hz (by have := HLEN.out; omega) (by omega))
      clear hocell hbw hpre HTK hr hout
      go_wp2_with fail
      refine (HNO.out _).mono ?_
      rintro e x2 ⟨rfl, hb2⟩
      have HB2 : Hid (Below wr.heap.size wr x2) := (below_alloc1 _ _).trans (hb2.mono (by simp))
      have HB3 := hide (HB2.out.trans ((below_alloc1 x2 (.cells #[.int .i64 xo0, .int .i64 xo1, .int .i64 xo2, .int .i64 xo3, .int .i64 xo4, .int .i64 xo5, .int .i64 xo6, .int .i64 xo7, .int .i64 xo8, .int .i64 xo9] 111)).mono HB2.out.size))
      have HC := hide (HPU.out _ _ (HOUT.out.below HB3.out) (HI9.out x2))
      clear hb2
      clear c0 c1 c2 c3 c4 c5 c6 c7 c8 c9
      go_wp2_with fail
      refine HC.out.mono ?_
      rintro e x3 ⟨rfl, hx3⟩
      rw [HS1.out] at hx3
      have HX3 := hide hx3
      clear hx3
      go_wp2_with fail
      go_roundw
      case rel => exact ⟨k + 1, by omega, by go_num, HX3.out⟩
      case measure => simp [intOf]; omega
    · have e : k = ops.length := by omega
      subst e
      have hki : ¬ (ops.length : Int) < (ops.length : Int) := by omega
      have h := hout
      rw [HE.out] at h
      obtain ⟨ra, rc, hrc, hbv⟩ := h.bytes (bytesW_range _)
      have HF := hide (And.intro hbw hbv)
      clear h hout HOUT hbv hbw
      obtain ⟨bk, hbk⟩ : ∃ bk, bytesK ⟨pc, st, ops⟩ = bk := ⟨_, rfl⟩
      rw [hbk] at hrc HF
      have HBK := hide hbk
      clear hbk HE
      go_wp2_with fail
      exact bodyPost_ret (v := .tuple #[.slice ra bk.length rc, .int .i64 0]) (by simp [results, Try.results26, go_sem]) rfl ⟨HF.out.1, _, rfl, by rw [HBK.out]; exact HF.out.2⟩
set_option maxHeartbeats 4000000 in
theorem put_big (pc st : Int) (ops : List Kop) (ka : Option Addr) (kc : Nat) (w : World) (hK : OpsV w (.slice ka ops.length kc) ops) (h16 : 16 < ops.length) :
    Calls Try.prog 26 #[.agg #[.int .i64 pc, .int .i64 st, .slice ka ops.length kc]] w fun e w' => Below w.heap.size w w' ∧ e = .returned (.tuple #[.slice none 0 0, .int .i64 1]) := by
  have hlk : ops.length ≤ 9223372036854775807 := by obtain ⟨_, _, e, h1, h2, _⟩ := hK; unfold maxLen at h2; omega
  have h16i : (16 : Int) < (ops.length : Int) := by omega
  have HB : Hid (Below w.heap.size w (w.alloc (.cells #[.int .i64 pc, .int .i64 st, .slice ka ops.length kc] 40))) := below_alloc1 _ _
  clear hK
  go_enter Try.func26, Try.ntmps26
  go_wp2_with fail
  exact bodyPost_ret (v := .tuple #[.slice none 0 0, .int .i64 1]) (by simp [results, Try.results26, go_sem]) rfl ⟨HB.out, rfl⟩
theorem put_all : PutC := fun v K w h hin => by
  obtain ⟨kv, rfl, ho⟩ := h
  have ho2 := ho
  obtain ⟨ka, kc, rfl, -⟩ := ho2
  by_cases h16 : 16 < K.ops.length
  · refine (put_big K.pc K.st K.ops ka kc w ho h16).mono ?_
    rintro e w' ⟨hb, rfl⟩
    exact ⟨hb, .slice none 0 0, 1, [], rfl, ⟨none, 0, rfl, Nat.le_refl _, Nat.zero_le _, fun i hi => absurd hi (Nat.not_lt_zero _), fun hp => absurd hp (Nat.not_lt_zero _)⟩, fun _ => ⟨rfl, rfl⟩, fun h => absurd h16 (by omega)⟩
  · refine (put_walk K.pc K.st K.ops ka kc w ho hin (by omega)).mono ?_
    rintro e w' ⟨hb, bv, rfl, hbv⟩
    exact ⟨hb, bv, 0, _, rfl, hbv, fun h => absurd h h16, fun _ => ⟨rfl, rfl⟩⟩
end Go.Proofs.Ytjdbmldkgjcniab
