/- The walks of CodePuts, CodeGets, CodeBack and CodeThere, over the program's contracts PutC and GetC. -/
import Derived.Test.YtjdbmldkgjcniacRef13Bytes
import Derived.Test.YtjdbmldkgjcniacRef13Get
import Derived.Test.YtjdbmldkgjcniacKernS
namespace Go.Proofs.Ytjdbmldkgjcniac
open Go.RowKit Go.Joins
set_option linter.unusedVariables false
set_option linter.unusedSimpArgs false
set_option maxRecDepth 8192

/-- how the program puts a kernel as bytes -/
def PutC : Prop := ∀ (v : Value) (K : Kn) (w : World), KernV w v K → KernIn K →
  Calls Try.prog 4 #[v] w fun e w' => Below w.heap.size w w' ∧ ∃ bv c l, e = .returned (.tuple #[bv, .int .i64 c]) ∧ BytesV w' bv l ∧ (16 < K.ops.length → c = 1 ∧ l = []) ∧ (K.ops.length ≤ 16 → c = 0 ∧ l = bytesK K)
/-- how it gets one -/
def GetC : Prop := ∀ (v : Value) (b : List Int) (w : World), BytesV w v b → Calls Try.prog 5 #[v] w (GetPost b w)
theorem bytes_conv {w : World} {ba : Option Addr} {n bc : Nat} {l : List Int} (h : BytesV w (.slice ba n bc) l) (hp : 0 < l.length) : (convert 22 9 (.slice ba n bc)).run Try.prog w = .ok (.string (strOfNums l)) w := by
  obtain ⟨a, cap, e, h1, h2, h3, h4⟩ := h
  injection e with e1 e2 e3
  obtain ⟨b, off, e4, h5, h6⟩ := h4 hp
  subst e1; subst e2; subst e3
  rw [e4]
  refine run_convert_bytes_arg w 22 5 Try.underlying22 Try.underlying5 b off _ _ l rfl (fun i hi => ?_) 9 Try.underlying9
  exact h6 i hi
theorem kern_shape13 {w : World} {k0 k1 : Int} {kv : Value} {K : Kn} (h : KernV w (.agg #[.int .i64 k0, .int .i64 k1, kv]) K) : ∃ a l c, kv = .slice a l c := by
  obtain ⟨kv', e, a, c, rfl, -⟩ := h
  simp only [Value.agg.injEq, Array.mk.injEq, List.cons.injEq, and_true] at e
  exact ⟨a, _, c, e.2.2⟩
theorem kern0 (w : World) : KernV w (.agg #[.int .i64 0, .int .i64 0, .slice none 0 0]) ⟨0, 0, []⟩ := none_kern w
theorem i64_zero : I64 0 := by unfold I64; omega
theorem kernIn0 : KernIn ⟨0, 0, []⟩ := ⟨i64_zero, i64_zero, fun k hk => absurd hk (Nat.not_lt_zero _)⟩
theorem kernIn_get {b : List Int} : KernIn (kernB b) := by
  refine ⟨atB_range b 0, atB_range b 1, fun k hk i hi => ?_⟩
  have hk2 : k < (atB b 2).toNat := by simpa [kernB] using hk
  have e : opAt (kernB b).ops k = opB b k := by
    unfold opAt kernB
    show ((List.range (atB b 2).toNat).map (opB b)).getD k Kop.nil = _
    rw [List.getD, List.getElem?_map, List.getElem?_range hk2]
    rfl
  rw [e]
  obtain rfl | rfl | rfl | rfl | rfl | rfl | rfl | rfl | rfl | rfl : i = 0 ∨ i = 1 ∨ i = 2 ∨ i = 3 ∨ i = 4 ∨ i = 5 ∨ i = 6 ∨ i = 7 ∨ i = 8 ∨ i = 9 := by omega
  all_goals exact atB_range b _
set_option maxHeartbeats 8000000 in
theorem codeThere_walk (hPut : PutC) (hGet : GetC) (b : List Int) (ba : Option Addr) (bc : Nat) (w : World) (h : BytesV w (.slice ba b.length bc) b) : Calls Try.prog 3 #[.slice ba b.length bc] w fun e w' => e = .returned (.bool true) ∧ Below w.heap.size w w' := by
  have HPU := hide (hPut _ ⟨0, 0, []⟩ w (kern0 w) kernIn0)
  have HBV := hide h
  have HGE := hide (fun W (hW : Below w.heap.size w W) => hGet (.slice ba b.length bc) b W (h.below hW))
  have HRNG : Hid (∀ i, i < b.length → 0 ≤ nth b i ∧ nth b i < 256) := by obtain ⟨_, _, _, _, _, h3, _⟩ := h; exact h3
  clear h
  go_enter Try.func3, Try.ntmps3
  go_wp2_with fail
  refine HPU.out.mono ?_
  rintro e x1 ⟨hb1, bv, c, l, rfl, hbv, -, hsml⟩
  obtain ⟨rfl, hl⟩ := hsml (by show 0 ≤ 16; omega)
  have hl24 : l.length = 24 := by rw [hl]; rfl
  obtain ⟨va, vc, rfl, -⟩ := hbv
  rw [hl24]
  have HW1 := hide hb1
  have HG1 := hide (HGE.out x1 hb1)
  clear hb1 hsml hl hl24 HPU
  go_wp2_with fail
  refine HG1.out.mono ?_
  rintro e x2 ⟨hb2, k0, k1, kv, rfl, hk2⟩
  obtain ⟨ga, gl, gc', rfl⟩ := kern_shape13 hk2
  have HW2 : Hid (Below w.heap.size w x2) := HW1.out.trans (hb2.mono HW1.out.size)
  have HA3 : Hid (Below x2.heap.size x2 (x2.alloc (.cells #[.int .i64 k0, .int .i64 k1, .slice ga gl gc'] 28))) := below_alloc1 _ _
  have HZ3 : Hid ((x2.alloc (.cells #[.int .i64 k0, .int .i64 k1, .slice ga gl gc'] 28)).heap.size = x2.heap.size + 1) := by show _ = _; simp
  have HK2 := hide hk2
  clear hb2 hk2 HG1
  cases hok : okB b with
  | false =>
    obtain ⟨hgk, hgc⟩ := get_none hok
    rw [hgk] at HK2
    rw [hgc]
    have HS := hide (kern_same (.agg #[.int .i64 k0, .int .i64 k1, .slice ga gl gc']) (.agg #[.int .i64 0, .int .i64 0, .slice none 0 0]) ⟨0, 0, []⟩ (x2.alloc (.cells #[.int .i64 k0, .int .i64 k1, .slice ga gl gc'] 28)) (HK2.out.below HA3.out) (none_kern _))
    clear hgk hgc hok
    go_wp2_with fail
    refine HS.out.mono ?_
    rintro e x4 ⟨rfl, hb4⟩
    have HW4 := hide ((HW2.out.trans (HA3.out.mono HW2.out.size)).trans (hb4.mono (HW2.out.trans (HA3.out.mono HW2.out.size)).size))
    clear hb4
    go_wp2_with fail
    go_ret
    exact ⟨by simp, HW4.out⟩
  | true =>
    obtain ⟨hgk, hgc⟩ := get_some hok
    rw [hgk] at HK2
    rw [hgc]
    have h24 : 24 ≤ b.length := by
      unfold okB at hok
      simp only [Bool.and_eq_true, decide_eq_true_eq] at hok
      exact hok.1.1
    have hm16 : (kernB b).ops.length ≤ 16 := by
      unfold okB at hok
      simp only [Bool.and_eq_true, decide_eq_true_eq] at hok
      have := inR_iff.1 hok.1.2
      simp [kernB]
      omega
    have HP3 := hide (hPut _ (kernB b) (x2.alloc (.cells #[.int .i64 k0, .int .i64 k1, .slice ga gl gc'] 28)) (HK2.out.below HA3.out) kernIn_get)
    have HTB := hide (there_bytes HRNG.out hok)
    clear hgk hgc hok
    go_wp2_with fail
    refine HP3.out.mono ?_
    rintro e x4 ⟨hb4, cv, c4, l4, rfl, hcv, -, hsml⟩
    obtain ⟨rfl, hl4⟩ := hsml hm16
    rw [hl4, HTB.out] at hcv
    obtain ⟨ca, cc, rfl, -⟩ := id hcv
    have HW4 := hide ((HW2.out.trans (HA3.out.mono HW2.out.size)).trans (hb4.mono (HW2.out.trans (HA3.out.mono HW2.out.size)).size))
    have hc1 := bytes_conv (HBV.out.below HW4.out) (by omega)
    have hc2 := bytes_conv hcv (by omega)
    obtain ⟨nb, hnb⟩ : ∃ nb, b.length = nb := ⟨_, rfl⟩
    rw [hnb] at hc1 hc2 ⊢
    clear hb4 hcv hsml hl4 h24 hm16 hnb
    go_wp2_with fail
    go_ret
    exact ⟨by simp, HW4.out⟩
theorem codeThere_any (hPut : PutC) (hGet : GetC) (v : Value) (b : List Int) (w : World) (h : BytesV w v b) : Calls Try.prog 3 #[v] w fun e w' => e = .returned (.bool true) ∧ Below w.heap.size w w' := by
  have h2 := h
  obtain ⟨ba, bc, rfl, -⟩ := h2
  exact codeThere_walk hPut hGet b ba bc w h
end Go.Proofs.Ytjdbmldkgjcniac
