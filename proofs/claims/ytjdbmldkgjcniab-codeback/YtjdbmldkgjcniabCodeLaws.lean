/- The walks of CodePuts, CodeGets, CodeBack and CodeThere, over the program's contracts PutC and GetC. -/
import Derived.Test.YtjdbmldkgjcniabRef13Bytes
import Derived.Test.YtjdbmldkgjcniabRef13Get
import Derived.Test.YtjdbmldkgjcniabKernS
namespace Go.Proofs.Ytjdbmldkgjcniab
open Go.RowKit Go.Joins
set_option linter.unusedVariables false
set_option linter.unusedSimpArgs false
set_option maxRecDepth 8192

/-- how the program puts a kernel as bytes -/
def PutC : Prop := ∀ (v : Value) (K : Kn) (w : World), KernV w v K → KernIn K →
  Calls Try.prog 26 #[v] w fun e w' => Below w.heap.size w w' ∧ ∃ bv c l, e = .returned (.tuple #[bv, .int .i64 c]) ∧ BytesV w' bv l ∧ (16 < K.ops.length → c = 1 ∧ l = []) ∧ (K.ops.length ≤ 16 → c = 0 ∧ l = bytesK K)
/-- how it gets one -/
def GetC : Prop := ∀ (v : Value) (b : List Int) (w : World), BytesV w v b → Calls Try.prog 28 #[v] w (GetPost b w)
theorem bytes_conv {w : World} {ba : Option Addr} {n bc : Nat} {l : List Int} (h : BytesV w (.slice ba n bc) l) (hp : 0 < l.length) : (convert 56 9 (.slice ba n bc)).run Try.prog w = .ok (.string (strOfNums l)) w := by
  obtain ⟨a, cap, e, h1, h2, h3, h4⟩ := h
  injection e with e1 e2 e3
  obtain ⟨b, off, e4, h5, h6⟩ := h4 hp
  subst e1; subst e2; subst e3
  rw [e4]
  refine run_convert_bytes_arg w 56 5 Try.underlying56 Try.underlying5 b off _ _ l rfl (fun i hi => ?_) 9 Try.underlying9
  exact h6 i hi
theorem bytesK_len (K : Kn) : (bytesK K).length = 24 + 80 * K.ops.length := by unfold bytesK; rw [bytes_len, wordsK_len]; omega
theorem new3 {w y : World} {a b d : Value} (h : Below (w.heap.size + 1) (w.alloc (.cells #[a, b, d] 40)) y) : y.cell? ⟨w.heap.size, 0, none⟩ = some a ∧ y.cell? ⟨w.heap.size, 1, none⟩ = some b ∧ y.cell? ⟨w.heap.size, 2, none⟩ = some d ∧ w.heap.size < y.heap.size ∧ Below w.heap.size w y := by
  have hb := (h.block w.heap.size (by omega)).trans (new_blkS w #[a, b, d] 40)
  refine ⟨by rw [cell_of_block hb]; rfl, by rw [cell_of_block hb]; rfl, by rw [cell_of_block hb]; rfl, (Array.getElem?_eq_some_iff.1 hb).1, (below_alloc1 _ _).trans (h.mono (by omega))⟩
set_option maxHeartbeats 4000000 in
theorem codePuts_walk (hPut : PutC) (pc st : Int) (ops : List Kop) (ka : Option Addr) (kc : Nat) (w : World) (hK : OpsV w (.slice ka ops.length kc) ops) (hin : KernIn ⟨pc, st, ops⟩) :
    Calls Try.prog 7 #[.agg #[.int .i64 pc, .int .i64 st, .slice ka ops.length kc]] w fun e w' => e = .returned (.bool true) ∧ Below w.heap.size w w' := by
  have HB1 : Hid (Below w.heap.size w (w.alloc (.cells #[.int .i64 pc, .int .i64 st, .slice ka ops.length kc] 40))) := below_alloc1 _ _
  have HZ1 : Hid ((w.alloc (.cells #[.int .i64 pc, .int .i64 st, .slice ka ops.length kc] 40)).heap.size = w.heap.size + 1) := by show _ = _; simp
  have HPU := hide (hPut (.agg #[.int .i64 pc, .int .i64 st, .slice ka ops.length kc]) ⟨pc, st, ops⟩ (w.alloc (.cells #[.int .i64 pc, .int .i64 st, .slice ka ops.length kc] 40)) ⟨_, rfl, hK.below HB1.out⟩ hin)
  have HBY := hide (fun W (h : OpsV W (.slice ka ops.length kc) ops) (h16 : ops.length ≤ 16) => bytes_any ⟨pc, st, ops⟩ ka kc W h hin h16)
  have HKO := hide hK
  have hlk : ops.length ≤ 9223372036854775807 := by obtain ⟨_, _, e, h1, h2, _⟩ := hK; unfold maxLen at h2; omega
  have HLN : Hid (0 < (bytesK ⟨pc, st, ops⟩).length) := by show _ < _; rw [bytesK_len]; omega
  clear hK hin
  go_enter Try.func7, Try.ntmps7
  go_wp2_with fail
  refine HPU.out.mono ?_
  rintro e x1 ⟨hb1, bv, c, l, rfl, hbv, hbig, hsml⟩
  have HX1 : Hid (Below (w.heap.size + 1) (w.alloc (.cells #[.int .i64 pc, .int .i64 st, .slice ka ops.length kc] 40)) x1) := by show Below _ _ _; rw [← HZ1.out]; exact hb1
  obtain ⟨m0, m1, m2, hz, hbw⟩ := new3 HX1.out
  have HBW := hide hbw
  have hbv2 := hbv
  obtain ⟨ba, bc, rfl, -⟩ := hbv2
  have HBV := hide hbv
  clear hb1 hbw hbv
  by_cases h16 : 16 < ops.length
  · obtain ⟨rfl, rfl⟩ := hbig h16
    have h16i : (16 : Int) < (ops.length : Int) := by omega
    clear hbig hsml
    go_wp2_with fail
    go_ret
    exact ⟨by simp, HBW.out⟩
  · obtain ⟨rfl, rfl⟩ := hsml (by show ops.length ≤ 16; omega)
    have h16i : ¬ (16 : Int) < (ops.length : Int) := by omega
    have HCV := hide (fun W (h : BytesV W (.slice ba (bytesK ⟨pc, st, ops⟩).length bc) (bytesK ⟨pc, st, ops⟩)) => bytes_conv h HLN.out)
    have HBC := hide (HBY.out x1 (HKO.out.below HBW.out) (by omega))
    clear hbig hsml
    go_wp2_with fail
    refine HBC.out.mono ?_
    rintro e x2 ⟨rfl, hb2⟩
    have HW2 := hide (HBW.out.trans (hb2.mono HBW.out.size))
    have hcv := HCV.out x2 (HBV.out.below hb2)
    clear hb2
    generalize bytesK ⟨pc, st, ops⟩ = bk at hcv ⊢
    go_wp2_with fail
    go_ret
    exact ⟨by simp, HW2.out⟩
theorem codePuts_any (hPut : PutC) (v : Value) (K : Kn) (w : World) (hK : KernV w v K) (hin : KernIn K) : Calls Try.prog 7 #[v] w fun e w' => e = .returned (.bool true) ∧ Below w.heap.size w w' := by
  obtain ⟨kv, rfl, ho⟩ := hK
  have ho2 := ho
  obtain ⟨ka, kc, rfl, -⟩ := ho2
  exact codePuts_walk hPut K.pc K.st K.ops ka kc w ho hin
theorem kern_shape13 {w : World} {k0 k1 : Int} {kv : Value} {K : Kn} (h : KernV w (.agg #[.int .i64 k0, .int .i64 k1, kv]) K) : ∃ a l c, kv = .slice a l c := by
  obtain ⟨kv', e, a, c, rfl, -⟩ := h
  simp only [Value.agg.injEq, Array.mk.injEq, List.cons.injEq, and_true] at e
  exact ⟨a, _, c, e.2.2⟩
set_option maxHeartbeats 4000000 in
theorem codeGets_any (hGet : GetC) (v : Value) (b : List Int) (w : World) (h : BytesV w v b) : Calls Try.prog 8 #[v] w fun e w' => e = .returned (.bool true) ∧ Below w.heap.size w w' := by
  have HGE := hide (hGet v b w h)
  have HRG := hide (fun W (hW : Below w.heap.size w W) => get_any b v W (h.below hW))
  have HSA := hide (fun va vb W ha hb => kern_same va vb (getK b) W ha hb)
  clear h
  go_enter Try.func8, Try.ntmps8
  go_wp2_with fail
  refine HGE.out.mono ?_
  rintro e x1 ⟨hb1, k0, k1, kv, rfl, hk1⟩
  have HW1 := hide hb1
  have HK1 := hide hk1
  obtain ⟨ga, gl, gc', rfl⟩ := kern_shape13 hk1
  have HA1 : Hid (Below x1.heap.size x1 (x1.alloc (.cells #[.int .i64 k0, .int .i64 k1, (.slice ga gl gc')] 40))) := below_alloc1 _ _
  clear hb1 hk1
  go_wp2_with fail
  refine (HRG.out _ (HW1.out.trans (HA1.out.mono HW1.out.size))).mono ?_
  rintro e x2 ⟨hb2, j0, j1, jv, rfl, hk2⟩
  obtain ⟨ja, jl, jc, rfl⟩ := kern_shape13 hk2
  have HX2 : Hid (Below (x1.heap.size + 1) (x1.alloc (.cells #[.int .i64 k0, .int .i64 k1, .slice ga gl gc'] 40)) x2) := by
    show Below _ _ _
    have e : (x1.alloc (.cells #[.int .i64 k0, .int .i64 k1, .slice ga gl gc'] 40)).heap.size = x1.heap.size + 1 := by simp
    rw [← e]; exact hb2
  obtain ⟨m0, m1, m2, hz, hbw⟩ := new3 HX2.out
  have HBX := hide hbw
  have HA2 : Hid (Below x2.heap.size x2 (x2.alloc (.cells #[.int .i64 j0, .int .i64 j1, .slice ja jl jc] 40))) := below_alloc1 _ _
  have HS := hide (HSA.out (.agg #[.int .i64 k0, .int .i64 k1, .slice ga gl gc']) (.agg #[.int .i64 j0, .int .i64 j1, .slice ja jl jc]) (x2.alloc (.cells #[.int .i64 j0, .int .i64 j1, .slice ja jl jc] 40)) ((HK1.out.below HBX.out).below HA2.out) (hk2.below HA2.out))
  have HW2 := hide (HW1.out.trans ((HBX.out.trans (HA2.out.mono HBX.out.size)).mono HW1.out.size))
  clear hb2 hbw hk2 HK1 HRG HGE
  generalize getC b = gc at *
  go_wp2_with fail
  refine HS.out.mono ?_
  rintro e x3 ⟨rfl, hb3⟩
  have HW3 := hide (HW2.out.trans (hb3.mono HW2.out.size))
  clear hb3
  go_wp2_with fail
  go_ret
  exact ⟨by simp, HW3.out⟩

theorem bytes_take {w : World} {ba : Option Addr} {bc : Nat} {l : List Int} (h : BytesV w (.slice ba l.length bc) l) (n : Nat) (hn : n ≤ l.length) (hn0 : 0 < l.length) : BytesV w (.slice ba n bc) (l.take n) := by
  obtain ⟨a, cap, e, h1, h2, h3, h4⟩ := h
  injection e with e1 e2 e3
  subst e1; subst e3
  have hl : (l.take n).length = n := by rw [List.length_take]; omega
  have hx : ∀ i, i < n → nth (l.take n) i = nth l i := fun i hi => by unfold nth; rw [List.getD, List.getD, List.getElem?_take, if_pos hi]
  refine ⟨ba, bc, by rw [hl], by rw [hl]; omega, h2, fun i hi => ?_, fun _ => ?_⟩
  · rw [hl] at hi; rw [hx i hi]; exact h3 i (by omega)
  · obtain ⟨b, off, e4, h5, h6⟩ := h4 (by omega)
    exact ⟨b, off, e4, h5, fun i hi => by rw [hl] at hi; rw [hx i hi]; exact h6 i (by omega)⟩
set_option maxHeartbeats 8000000 in
theorem codeBack_big (hPut : PutC) (pc st cut : Int) (ops : List Kop) (ka : Option Addr) (kc : Nat) (w : World) (hK : OpsV w (.slice ka ops.length kc) ops) (hin : KernIn ⟨pc, st, ops⟩) (h16 : 16 < ops.length) :
    Calls Try.prog 9 #[.agg #[.int .i64 pc, .int .i64 st, .slice ka ops.length kc], .int .u16 cut] w fun e w' => e = .returned (.bool true) ∧ Below w.heap.size w w' := by
  have HB1 : Hid (Below w.heap.size w (w.alloc (.cells #[.int .i64 pc, .int .i64 st, .slice ka ops.length kc] 40))) := below_alloc1 _ _
  have HZ1 : Hid ((w.alloc (.cells #[.int .i64 pc, .int .i64 st, .slice ka ops.length kc] 40)).heap.size = w.heap.size + 1) := by show _ = _; simp
  have HPU := hide (hPut (.agg #[.int .i64 pc, .int .i64 st, .slice ka ops.length kc]) ⟨pc, st, ops⟩ (w.alloc (.cells #[.int .i64 pc, .int .i64 st, .slice ka ops.length kc] 40)) ⟨_, rfl, hK.below HB1.out⟩ hin)
  have hlk : ops.length ≤ 9223372036854775807 := by obtain ⟨_, _, e, h1, h2, _⟩ := hK; unfold maxLen at h2; omega
  have h16i : (16 : Int) < (ops.length : Int) := by omega
  clear hK hin
  go_enter Try.func9, Try.ntmps9
  go_wp2_with fail
  refine HPU.out.mono ?_
  rintro e x1 ⟨hb1, bv, c, l, rfl, hbv, hbig, hsml⟩
  have HX1 : Hid (Below (w.heap.size + 1) (w.alloc (.cells #[.int .i64 pc, .int .i64 st, .slice ka ops.length kc] 40)) x1) := by show Below _ _ _; rw [← HZ1.out]; exact hb1
  obtain ⟨m0, m1, m2, hz, hbw⟩ := new3 HX1.out
  have HBW := hide hbw
  obtain ⟨ba, bc, rfl, -⟩ := hbv
  obtain ⟨rfl, rfl⟩ := hbig h16
  clear hb1 hbw hbig hsml
  go_wp2_with fail
  go_ret
  exact ⟨by simp, HBW.out⟩
set_option maxHeartbeats 8000000 in
theorem codeBack_walk (hPut : PutC) (hGet : GetC) (pc st cut : Int) (ops : List Kop) (ka : Option Addr) (kc : Nat) (w : World) (hK : OpsV w (.slice ka ops.length kc) ops) (hin : KernIn ⟨pc, st, ops⟩) (h16 : ops.length ≤ 16) (hc0 : 0 ≤ cut) (hc1 : cut ≤ 65535) :
    Calls Try.prog 9 #[.agg #[.int .i64 pc, .int .i64 st, .slice ka ops.length kc], .int .u16 cut] w fun e w' => e = .returned (.bool true) ∧ Below w.heap.size w w' := by
  have HB1 : Hid (Below w.heap.size w (w.alloc (.cells #[.int .i64 pc, .int .i64 st, .slice ka ops.length kc] 40))) := below_alloc1 _ _
  have HZ1 : Hid ((w.alloc (.cells #[.int .i64 pc, .int .i64 st, .slice ka ops.length kc] 40)).heap.size = w.heap.size + 1) := by show _ = _; simp
  have HPU := hide (hPut (.agg #[.int .i64 pc, .int .i64 st, .slice ka ops.length kc]) ⟨pc, st, ops⟩ (w.alloc (.cells #[.int .i64 pc, .int .i64 st, .slice ka ops.length kc] 40)) ⟨_, rfl, hK.below HB1.out⟩ hin)
  have HPU2 := hide (fun v W (h : KernV W v ⟨pc, st, ops⟩) => hPut v ⟨pc, st, ops⟩ W h hin)
  have HKO := hide hK
  have HOK := hide (back_ok hin h16)
  have HBK := hide (back_kern hin h16)
  have HLN : Hid ((bytesK ⟨pc, st, ops⟩).length = 24 + 80 * ops.length) := bytesK_len _
  have HCUT := hide (fun n hn => cut_no (K := ⟨pc, st, ops⟩) hin h16 (n := n) hn)
  have HGE := hide (fun v b W h => hGet v b W h)
  have HSA := hide (fun va vb W ha hb => kern_same va vb ⟨pc, st, ops⟩ W ha hb)
  clear hK hin
  go_enter Try.func9, Try.ntmps9
  go_wp2_with fail
  refine HPU.out.mono ?_
  rintro e x1 ⟨hb1, bv, c, l, rfl, hbv, hbig, hsml⟩
  have HX1 : Hid (Below (w.heap.size + 1) (w.alloc (.cells #[.int .i64 pc, .int .i64 st, .slice ka ops.length kc] 40)) x1) := by show Below _ _ _; rw [← HZ1.out]; exact hb1
  have HW1 := hide (new3 HX1.out).2.2.2.2
  obtain ⟨rfl, rfl⟩ := hsml h16
  have hbv2 := hbv
  obtain ⟨ba, bc, rfl, hbc1, hbc2, -⟩ := hbv2
  unfold maxLen at hbc2
  have HBV := hide hbv
  clear hb1 hbv hbig hsml HPU
  go_wp2_with fail
  obtain ⟨bk, hbk⟩ : ∃ bk, bytesK ⟨pc, st, ops⟩ = bk := ⟨_, rfl⟩
  have HBKE := hide hbk
  rw [hbk] at HOK HBK HLN HCUT HBV hbc1 ⊢
  obtain ⟨bb, bo, rfl⟩ : ∃ bb bo, ba = some ⟨bb, bo, none⟩ := by
    obtain ⟨a, c, e, -, -, -, h4⟩ := HBV.out
    injection e with e1
    obtain ⟨b, o, e2, -⟩ := h4 (by rw [HLN.out]; omega)
    exact ⟨b, o, e1.trans e2⟩
  have hlb : bk.length = 24 + 80 * ops.length := HLN.out
  obtain ⟨nb, hnb⟩ : ∃ nb, bk.length = nb := ⟨_, rfl⟩
  have HNB := hide hnb
  rw [hnb] at hlb hbc1 HBV HCUT ⊢
  have HLB := hide hlb
  have hnb0 : 0 < nb := by omega
  clear hlb
  have HGB := hide (HGE.out _ bk x1 HBV.out)
  clear hbk hnb
  refine HGB.out.mono ?_
  rintro e x2 ⟨hb2, k0, k1, kv, rfl, hk2⟩
  rw [(get_some HOK.out).2]
  rw [(get_some HOK.out).1, HBK.out] at hk2
  obtain ⟨ga, gl, gc', rfl⟩ := kern_shape13 hk2
  have HK2 := hide hk2
  have HB2 := hide hb2
  have HA3 : Hid (Below x2.heap.size x2 (x2.alloc (.cells #[.int .i64 k0, .int .i64 k1, .slice ga gl gc'] 40))) := below_alloc1 _ _
  have HZ3 : Hid ((x2.alloc (.cells #[.int .i64 k0, .int .i64 k1, .slice ga gl gc'] 40)).heap.size = x2.heap.size + 1) := by show _ = _; simp
  have HP3 := hide (HPU2.out _ (x2.alloc (.cells #[.int .i64 k0, .int .i64 k1, .slice ga gl gc'] 40)) (HK2.out.below HA3.out))
  clear hb2 hk2 HGB
  go_wp2_with fail
  refine HP3.out.mono ?_
  rintro e x4 ⟨hb4, cv, c4, l4, rfl, hcv, -, hsml⟩
  obtain ⟨rfl, hl4⟩ := hsml h16
  rw [hl4, HBKE.out] at hcv
  obtain ⟨ca, cc, rfl, -⟩ := id hcv
  clear hl4
  have HX4 : Hid (Below (x2.heap.size + 1) (x2.alloc (.cells #[.int .i64 k0, .int .i64 k1, .slice ga gl gc'] 40)) x4) := by show Below _ _ _; rw [← HZ3.out]; exact hb4
  have HB4 : Hid (Below x2.heap.size x2 x4) := (new3 HX4.out).2.2.2.2
  have HW4 : Hid (Below w.heap.size w x4) := HW1.out.trans ((HB2.out.trans (HB4.out.mono HB2.out.size)).mono HW1.out.size)
  have HV4 := hide hcv
  rw [HNB.out] at hcv ⊢
  have hz2 : w.heap.size + 1 ≤ x1.heap.size := by have := HX1.out.size; rw [HZ1.out] at this; exact this
  have HFIN : Hid (∀ Y, Below x4.heap.size x4 Y → (Y.cell? ⟨w.heap.size, 0, none⟩ = some (.int .i64 pc) ∧ Y.cell? ⟨w.heap.size, 1, none⟩ = some (.int .i64 st) ∧ Y.cell? ⟨w.heap.size, 2, none⟩ = some (.slice ka ops.length kc)) ∧ (Y.cell? ⟨x2.heap.size, 0, none⟩ = some (.int .i64 k0) ∧ Y.cell? ⟨x2.heap.size, 1, none⟩ = some (.int .i64 k1) ∧ Y.cell? ⟨x2.heap.size, 2, none⟩ = some (.slice ga gl gc')) ∧
      (convert 56 9 (.slice (some ⟨bb, bo, none⟩) nb bc)).run Try.prog Y = .ok (.string (strOfNums bk)) Y ∧ (convert 56 9 (.slice ca nb cc)).run Try.prog Y = .ok (.string (strOfNums bk)) Y ∧
      Calls Try.prog 17 #[.agg #[.int .i64 pc, .int .i64 st, .slice ka ops.length kc], .agg #[.int .i64 k0, .int .i64 k1, .slice ga gl gc']] Y fun e w' => e = .returned (.bool true) ∧ Below Y.heap.size Y w') := fun Y hY => by
    have h1Y : Below x1.heap.size x1 Y := HB2.out.trans ((HB4.out.trans (hY.mono HB4.out.size)).mono HB2.out.size)
    have hkY : Below (w.heap.size + 1) (w.alloc (.cells #[.int .i64 pc, .int .i64 st, .slice ka ops.length kc] 40)) Y := HX1.out.trans (h1Y.mono hz2)
    obtain ⟨m0, m1, m2, -, hwY⟩ := new3 hkY
    obtain ⟨n0, n1, n2, -, h2Y⟩ := new3 (HX4.out.trans (hY.mono (by have := HX4.out.size; rw [HZ3.out] at this; exact this)))
    have hpos : 0 < bk.length := by rw [HNB.out, HLB.out]; omega
    have hv4 := HV4.out.below hY
    rw [HNB.out] at hv4
    exact ⟨⟨m0, m1, m2⟩, ⟨n0, n1, n2⟩, bytes_conv (HBV.out.below h1Y) hpos, bytes_conv hv4 hpos, HSA.out _ _ Y ⟨_, rfl, HKO.out.below hwY⟩ (HK2.out.below h2Y)⟩
  clear hb4 hcv hsml HP3
  have hcu : IntKind.i64.wrap cut = cut := i64_wrap _ (by omega) (by omega)
  have hcu2 : wrap64 cut = cut := by unfold wrap64; omega
  by_cases hlt : cut < (nb : Int)
  · obtain ⟨cn, rfl⟩ : ∃ cn : Nat, cut = (cn : Int) := ⟨cut.toNat, by omega⟩
    have hcn : cn < nb := by omega
    have HBT : Hid (BytesV x4 (.slice (some ⟨bb, bo, none⟩) cn bc) (bk.take cn)) := by
      have h := HBV.out.below (HB2.out.trans (HB4.out.mono HB2.out.size))
      rw [← HNB.out] at h
      exact bytes_take h cn (by rw [HNB.out]; omega) (by rw [HNB.out, HLB.out]; omega)
    have HG5 := hide (HGE.out _ _ x4 HBT.out)
    have hno := HCUT.out cn hcn
    have HGC := hide (get_none hno).2
    have hcb2 : cn ≤ bc := by omega
    clear hno
    go_wp2_with fail
    refine HG5.out.mono ?_
    rintro e x5 ⟨hb5, j0, j1, jv, rfl, hk5⟩
    rw [HGC.out]
    obtain ⟨ja, jl, jc, rfl⟩ := kern_shape13 hk5
    have HB5 : Hid (Below x4.heap.size x4 (x5.alloc (.cells #[.int .i64 j0, .int .i64 j1, .slice ja jl jc] 40))) := hb5.alloc hb5.size _
    clear hb5 hk5
    obtain ⟨⟨m0, m1, m2⟩, ⟨n0, n1, n2⟩, hcb, hcc, hsame⟩ := HFIN.out (x5.alloc (.cells #[.int .i64 j0, .int .i64 j1, .slice ja jl jc] 40)) HB5.out
    have HSM := hide hsame
    clear hsame
    go_wp2_with fail
    refine HSM.out.mono ?_
    rintro e x9 ⟨rfl, hb9⟩
    have HW9 := hide ((HW4.out.trans (HB5.out.mono HW4.out.size)).trans (hb9.mono (HW4.out.trans (HB5.out.mono HW4.out.size)).size))
    clear hb9 hcb hcc m0 m1 m2 n0 n1 n2
    go_wp2_with fail
    go_ret
    exact ⟨by simp, HW9.out⟩
  · obtain ⟨⟨m0, m1, m2⟩, ⟨n0, n1, n2⟩, hcb, hcc, hsame⟩ := HFIN.out x4 (Below.refl x4.heap.size x4)
    have HSM := hide hsame
    clear hsame
    go_wp2_with fail
    refine HSM.out.mono ?_
    rintro e x9 ⟨rfl, hb9⟩
    have HW9 := hide ((HW4.out.trans ((Below.refl x4.heap.size x4).mono HW4.out.size)).trans (hb9.mono (HW4.out.trans ((Below.refl x4.heap.size x4).mono HW4.out.size)).size))
    clear hb9 hcb hcc m0 m1 m2 n0 n1 n2
    go_wp2_with fail
    go_ret
    exact ⟨by simp, HW9.out⟩
theorem codeBack_any (hPut : PutC) (hGet : GetC) (v : Value) (cut : Int) (K : Kn) (w : World) (hK : KernV w v K) (hin : KernIn K) (hc0 : 0 ≤ cut) (hc1 : cut ≤ 65535) : Calls Try.prog 9 #[v, .int .u16 cut] w fun e w' => e = .returned (.bool true) ∧ Below w.heap.size w w' := by
  obtain ⟨kv, rfl, ho⟩ := hK
  have ho2 := ho
  obtain ⟨ka, kc, rfl, -⟩ := ho2
  by_cases h16 : 16 < K.ops.length
  · exact codeBack_big hPut K.pc K.st cut K.ops ka kc w ho hin h16
  · exact codeBack_walk hPut hGet K.pc K.st cut K.ops ka kc w ho hin (by omega) hc0 hc1
end Go.Proofs.Ytjdbmldkgjcniab
