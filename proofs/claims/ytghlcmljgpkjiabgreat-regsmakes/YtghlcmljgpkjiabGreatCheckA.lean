/- CheckA: texts that are built as one: CheckList, CheckRead. -/
import Derived.Test.YtghlcmljgpkjiabGreatSounds
/- J2 as the program asks it: by one list of what is read, by the least turn that leaves the same; no Go in sight. -/
namespace Go.Proofs.YtghlcmljgpkjiabGreat
set_option linter.unusedVariables false

theorem floor_div {n d q : Int} (hd : 0 < d) (h1 : q * d ≤ n) (h2 : n < (q + 1) * d) : n / d = q := by
  have h3 := (Int.le_ediv_iff_mul_le hd).2 h1
  have h4 := (Int.ediv_lt_iff_lt_mul hd).2 h2
  omega
theorem floor_no {n d : Int} (hd : 0 < d) (h : ¬ n.tmod d < 0) : n.tdiv d = n / d := by
  have h1 := Int.tmod_lt_of_pos n hd
  have h3 := Int.mul_tdiv_add_tmod n d
  rw [Int.mul_comm] at h3
  refine (floor_div hd ?_ ?_).symm
  · omega
  · rw [Int.add_mul]; omega
theorem floor_yes {n d : Int} (hd : 0 < d) (h : n.tmod d < 0) : n.tdiv d - 1 = n / d := by
  have h1 := Int.lt_tmod_of_pos n hd
  have h3 := Int.mul_tdiv_add_tmod n d
  rw [Int.mul_comm] at h3
  refine (floor_div hd ?_ ?_).symm
  · rw [Int.sub_mul]; omega
  · rw [show n.tdiv d - 1 + 1 = n.tdiv d by omega]; omega
theorem mod_le {a r : Int} (h : 0 ≤ a) (hr : 0 < r) : a % r ≤ a := by
  have h1 := Int.mul_ediv_add_emod a r
  have h2 : 0 ≤ r * (a / r) := Int.mul_nonneg (by omega) (Int.ediv_nonneg h (by omega))
  omega

/-- one of the turns from first to last leaves the same -/
def meetD (p q first last r : Int) : Bool := decide (first + (p - q - first) % r ≤ last)
theorem meet_iff {p q first last r : Int} (hr : 0 < r) : meetD p q first last r = true ↔ ∃ j, first ≤ j ∧ j ≤ last ∧ (q + j - p) % r = 0 := by
  unfold meetD
  rw [decide_eq_true_iff]
  constructor
  · intro h
    have h0 := Int.emod_nonneg (p - q - first) (by omega : r ≠ 0)
    refine ⟨first + (p - q - first) % r, by omega, h, ?_⟩
    have h1 := Int.emod_def (p - q - first) r
    rw [show q + (first + (p - q - first) % r) - p = r * (-((p - q - first) / r)) by rw [h1, Int.mul_neg]; omega]
    exact Int.mul_emod_right _ _
  · rintro ⟨j, h1, h2, h3⟩
    obtain ⟨c, hc⟩ := Int.dvd_of_emod_eq_zero h3
    have e : (p - q - first) % r = (j - first) % r := by
      rw [show p - q - first = j - first + r * (-c) by rw [Int.mul_neg]; omega]
      exact Int.add_mul_emod_self_left _ _ _
    have h4 := mod_le (show 0 ≤ j - first by omega) hr
    omega
section
variable (L : Lp) (t : Tg) (K : Kn) (O : List Int)
/-- the first turn, from one of a on, of which m's result comes no sooner -/
def notJ (a m : Nat) : Int := if m = a then 1 else -((readyJ t K O m - readyJ t K O a) / K.pc)
def fstJ (a : Nat) (bk : Int) (m : Nat) : Int := if 0 < bk then min (notJ t K O a m) 1 else notJ t K O a m
def lastJ (u : Int) (m : Nat) : Int := (u - readyJ t K O m) / K.pc
def kmeetJ (a : Nat) (bk u : Int) (m : Nat) : Bool := meetD (placeJ K O a) (placeJ K O m) (fstJ t K O a bk m) (lastJ t K O u m) t.r
def omeetJ (a m : Nat) : Bool := meetD (placeJ K O a) (placeJ K O m) (notJ t K O a m) 0 t.r
end
variable {L : Lp} {t : Tg} {K : Kn} {O : List Int}
theorem allN_iff {f : Nat → Bool} {n : Nat} : allN f n = true ↔ ∀ i, i < n → f i = true := ⟨fun h i hi => allN_get h i hi, allN_mk⟩
theorem allN_eq {f g : Nat → Bool} {n m : Nat} (h : (∀ i, i < n → f i = true) ↔ ∀ i, i < m → g i = true) : allN f n = allN g m := Bool.eq_iff_iff.2 (allN_iff.trans (h.trans allN_iff.symm))
theorem last_iff {x u c j : Int} (hc : 0 < c) : x + j * c ≤ u ↔ j ≤ (u - x) / c := by
  rw [Int.le_ediv_iff_mul_le hc]; omega
theorem cfirst_iff {x a c j : Int} (hc : 0 < c) : a ≤ x + j * c ↔ -((x - a) / c) ≤ j := by
  have h : -j ≤ (x - a) / c ↔ -j * c ≤ x - a := Int.le_ediv_iff_mul_le hc
  rw [Int.neg_mul] at h
  constructor
  · intro h1; have := h.2 (by omega); omega
  · intro h1; have := h.1 (by omega); omega
/-- rule 4, of one m -/
theorem keep_iff (hp : 1 ≤ K.pc) (hr : 1 ≤ t.r) (a : Nat) (bk u : Int) (m : Nat) : (∀ j : Int, keepJ t K O a bk u m j = true) ↔ kmeetJ t K O a bk u m = false := by
  rw [← Bool.not_eq_true]
  unfold kmeetJ
  rw [meet_iff (by omega)]
  constructor
  · rintro h ⟨j, h1, h2, h3⟩
    have h4 := h j
    unfold keepJ at h4
    have hu : readyJ t K O m + j * K.pc ≤ u := (last_iff (by omega)).2 h2
    have hnear : nearJ t K O a bk u m j = true ∧ ¬ (m = a ∧ j = 0) := by
      unfold nearJ
      unfold fstJ notJ at h1
      by_cases e : m = a
      · subst e
        rw [if_pos rfl] at h1
        have hj : 1 ≤ j := by split at h1 <;> omega
        refine ⟨?_, by omega⟩
        have h5 : 0 ≤ j * K.pc := Int.mul_nonneg (by omega) (by omega)
        rw [decide_eq_true (show readyJ t K O m ≤ readyJ t K O m + j * K.pc by omega), decide_eq_true hu]; rfl
      · rw [if_neg e] at h1
        refine ⟨?_, fun h => e h.1⟩
        by_cases hb : 0 < bk
        · rw [if_pos hb] at h1
          by_cases hj : 1 ≤ j
          · rw [decide_eq_true hb, decide_eq_true (show 0 < j by omega), decide_eq_true hu]; simp
          · have h6 : readyJ t K O a ≤ readyJ t K O m + j * K.pc := (cfirst_iff (by omega)).2 (by omega)
            rw [decide_eq_true h6, decide_eq_true hu]; rfl
        · rw [if_neg hb] at h1
          have h6 : readyJ t K O a ≤ readyJ t K O m + j * K.pc := (cfirst_iff (by omega)).2 h1
          rw [decide_eq_true h6, decide_eq_true hu]; rfl
    have hna : (decide (m = a) && decide (j = 0)) = false := by
      by_cases e1 : m = a
      · rw [decide_eq_false (fun e2 => hnear.2 ⟨e1, e2⟩)]; simp
      · rw [decide_eq_false e1]; rfl
    rw [hnear.1, hna, decide_eq_true h3] at h4
    cases h4
  · intro h j
    unfold keepJ
    by_cases h3 : (placeJ K O m + j - placeJ K O a) % t.r = 0
    · by_cases hna : m = a ∧ j = 0
      · rw [decide_eq_true hna.1, decide_eq_true hna.2]; simp
      · have hf : nearJ t K O a bk u m j = false := by
          rw [← Bool.not_eq_true]
          intro hn
          refine h ⟨j, ?_, ?_, h3⟩
          · unfold nearJ at hn
            unfold fstJ notJ
            simp only [Bool.or_eq_true, Bool.and_eq_true, decide_eq_true_eq] at hn
            by_cases e : m = a
            · subst e
              rw [if_pos rfl]
              have hj : 1 ≤ j := by
                rcases hn with ⟨h5, h6⟩ | ⟨⟨h5, h6⟩, h7⟩
                · by_cases hj : j ≤ 0
                  · have h8 : (-j) * 1 ≤ (-j) * K.pc := Int.mul_le_mul_of_nonneg_left hp (by omega)
                    rw [Int.neg_mul, Int.neg_mul] at h8
                    have : j = 0 := by omega
                    exact absurd ⟨rfl, this⟩ hna
                  · omega
                · omega
              split <;> omega
            · rw [if_neg e]
              rcases hn with ⟨h5, h6⟩ | ⟨⟨h5, h6⟩, h7⟩
              · have h8 := (cfirst_iff (by omega)).1 h5
                split <;> omega
              · rw [if_pos h5]; omega
          · unfold nearJ at hn
            simp only [Bool.or_eq_true, Bool.and_eq_true, decide_eq_true_eq] at hn
            unfold lastJ
            refine (last_iff (by omega)).1 ?_
            rcases hn with ⟨h5, h6⟩ | ⟨⟨h5, h6⟩, h7⟩
            · exact h6
            · exact h7
        rw [hf]; rfl
    · rw [decide_eq_false h3]; simp
/-- rule 4, of one Ref: j's too far off do not matter -/
theorem kept_eq (hl : layD L t K O = true) {a : Nat} (ha : a < L.body.length) {bk u : Int} (hu0 : 0 ≤ u) (hu1 : u ≤ 1600) : keptJ L t K O a bk u = allN (fun m => !kmeetJ t K O a bk u m) L.body.length := by
  obtain ⟨⟨hp1, hp2, hr1⟩, hrg⟩ := lay_range hl
  unfold keptJ
  refine allN_eq ⟨fun h m hm => ?_, fun h m hm => ?_⟩
  · have h1 := h m hm
    have h2 : ∀ j : Int, keepJ t K O a bk u m j = true := by
      intro j
      by_cases hj : -4100 ≤ j ∧ j ≤ 4100
      · have h9 := allN_get h1 (j + 4100).toNat (by omega)
        have h9' : keepJ t K O a bk u m (((j + 4100).toNat : Int) - 4100) = true := h9
        rw [show (((j + 4100).toNat : Nat) : Int) - 4100 = j by omega] at h9'
        exact h9'
      · obtain ⟨a1, a2, a3, a4⟩ := hrg a ha
        obtain ⟨m1, m2, m3, m4⟩ := hrg m hm
        have hn : nearJ t K O a bk u m j = false := by
          unfold nearJ
          by_cases hj2 : 0 < j
          · have h9 : j * 1 ≤ j * K.pc := Int.mul_le_mul_of_nonneg_left hp1 (by omega)
            rw [decide_eq_false (show ¬ readyJ t K O m + j * K.pc ≤ u by omega)]; simp
          · have h9 : (-j) * 1 ≤ (-j) * K.pc := Int.mul_le_mul_of_nonneg_left hp1 (by omega)
            rw [Int.neg_mul, Int.neg_mul] at h9
            rw [decide_eq_false (show ¬ readyJ t K O a ≤ readyJ t K O m + j * K.pc by omega), decide_eq_false hj2]; simp
        unfold keepJ
        rw [hn]; rfl
    have h3 := (keep_iff (by omega) hr1 a bk u m).1 h2
    show (!kmeetJ t K O a bk u m) = true
    rw [h3]; rfl
  · have h1 := h m hm
    have h3 : kmeetJ t K O a bk u m = false := by simpa using h1
    exact allN_mk fun j _ => (keep_iff (by omega) hr1 a bk u m).2 h3 _
/-- rule 6, of one a -/
theorem told_eq (hl : layD L t K O = true) {a : Nat} (ha : a < L.body.length) : toldJ L t K O a = allN (fun m => !omeetJ t K O a m) L.body.length := by
  obtain ⟨⟨hp1, hp2, hr1⟩, hrg⟩ := lay_range hl
  unfold toldJ
  refine allN_eq ⟨fun h m hm => ?_, fun h m hm => ?_⟩
  · have h1 := h m hm
    obtain ⟨a1, a2, a3, a4⟩ := hrg a ha
    obtain ⟨m1, m2, m3, m4⟩ := hrg m hm
    have hf : omeetJ t K O a m = false := by
      rw [← Bool.not_eq_true]
      unfold omeetJ
      rw [meet_iff (by omega)]
      rintro ⟨j, h2, h3, h4⟩
      unfold notJ at h2
      by_cases e : m = a
      · rw [if_pos e] at h2; omega
      · rw [if_neg e] at h2
        have h5 := (cfirst_iff (by omega)).2 h2
        have h9 : (-j) * 1 ≤ (-j) * K.pc := Int.mul_le_mul_of_nonneg_left hp1 (by omega)
        rw [Int.neg_mul, Int.neg_mul] at h9
        have h6 := allN_get h1 (-j).toNat (by omega)
        unfold tellJ at h6
        have ej : (((-j).toNat : Nat) : Int) = -j := by omega
        rw [ej, show placeJ K O m - -j - placeJ K O a = placeJ K O m + j - placeJ K O a by omega, decide_eq_true h4, decide_eq_false e, Int.neg_mul, decide_eq_false (by omega)] at h6
        cases h6
    show (!omeetJ t K O a m) = true
    rw [hf]; rfl
  · have h1 := h m hm
    have h3 : ¬ (omeetJ t K O a m = true) := by simpa using h1
    refine allN_mk fun j _ => ?_
    unfold tellJ
    by_cases h4 : (placeJ K O m - j - placeJ K O a) % t.r = 0
    · by_cases e0 : m = a ∧ j = 0
      · rw [decide_eq_true e0.1, decide_eq_true e0.2]; simp
      · by_cases h5 : readyJ t K O m - j * K.pc < readyJ t K O a
        · rw [decide_eq_true h5]; rfl
        · exfalso
          by_cases e : m = a
          · subst e
            have hj : 1 ≤ (j : Int) := by
              have : j ≠ 0 := fun h => e0 ⟨rfl, h⟩
              omega
            have h9 : (j : Int) * 1 ≤ (j : Int) * K.pc := Int.mul_le_mul_of_nonneg_left hp1 (by omega)
            omega
          · refine h3 ?_
            unfold omeetJ
            rw [meet_iff (by omega)]
            refine ⟨-(j : Int), ?_, by omega, by rw [show placeJ K O m + -(j : Int) - placeJ K O a = placeJ K O m - j - placeJ K O a by omega]; exact h4⟩
            unfold notJ
            rw [if_neg e]
            refine (cfirst_iff (by omega)).1 ?_
            rw [Int.neg_mul]; omega
    · rw [decide_eq_false h4]; simp
end Go.Proofs.YtghlcmljgpkjiabGreat
/- J2 and J3 over the list of what is read, and over what stands ahead of the first turn; no Go in sight. -/
namespace Go.Proofs.YtghlcmljgpkjiabGreat
set_option linter.unusedVariables false

/-- what is read: At, Back, time, Stage, and the register's name -/
structure Rd where
  ra : Int
  rb : Int
  tm : Int
  sg : Int
  nm : Int
def rdZ : Rd := ⟨0, 0, 0, 0, 0⟩
def rdAt (l : List Rd) (i : Nat) : Rd := l.getD i rdZ
section
variable (L : Lp) (t : Tg) (K : Kn) (O : List Int)
def readOf (s i : Nat) : Rd := ⟨(refAt (usesL (stAt L.body s)) i).1, (refAt (usesL (stAt L.body s)) i).2, timeJ K O s, (opJ K O s).sg, if i = 1 then (opJ K O s).b else (opJ K O s).a⟩
def readsU (s : Nat) (i : Nat) : List Rd := (List.range i).map (readOf L K O s)
def readsN : Nat → List Rd
  | 0 => []
  | s + 1 => readsN s ++ readsU L K O s (usesL (stAt L.body s)).length
def readsD : List Rd := readsN L K O L.body.length
def nameD (x : Rd) : Bool := decide (x.nm = (placeJ K O x.ra.toNat - x.rb - x.sg) % t.r)
def keepD (x : Rd) : Bool := allN (fun m => !kmeetJ t K O x.ra.toNat x.rb (x.tm + x.rb * K.pc) m) L.body.length
def beginsD : Bool := allN (freshJ (firstsJ L t K O L.body.length)) (firstsJ L t K O L.body.length).length
def waitsD : Bool := allN (fun i => edgeJ K O (edAt (edgesD L t) i)) (edgesD L t).length
def namesD : Bool := allN (fun i => nameD t K O (rdAt (readsD L K O) i)) (readsD L K O).length
def keepsD : Bool := allN (fun i => keepD L t K O (rdAt (readsD L K O) i)) (readsD L K O).length
def endsD : Bool := allN (fun i => allN (fun m => !omeetJ t K O (nth L.outs i).toNat m) L.body.length) L.outs.length
end
variable {L : Lp} {t : Tg} {K : Kn} {O : List Int}
theorem reads_mem {k : Nat} {x : Rd} : x ∈ readsN L K O k ↔ ∃ s, s < k ∧ ∃ i, i < (usesL (stAt L.body s)).length ∧ readOf L K O s i = x := by
  induction k with
  | zero =>
    constructor
    · intro h; cases h
    · rintro ⟨s, h, -⟩; omega
  | succ k ih =>
    show x ∈ readsN L K O k ++ readsU L K O k (usesL (stAt L.body k)).length ↔ _
    rw [List.mem_append, ih]
    constructor
    · rintro (⟨s, h, r⟩ | h)
      · exact ⟨s, by omega, r⟩
      · obtain ⟨i, hi, e⟩ := List.mem_map.1 h
        exact ⟨k, by omega, i, List.mem_range.1 hi, e⟩
    · rintro ⟨s, h, i, hi, e⟩
      by_cases e2 : s = k
      · subst e2
        exact .inr (List.mem_map.2 ⟨i, List.mem_range.2 hi, e⟩)
      · exact .inl ⟨s, by omega, i, hi, e⟩
theorem rdAt_mem {l : List Rd} {i : Nat} (h : i < l.length) : rdAt l i ∈ l := by
  unfold rdAt
  rw [List.getD, List.getElem?_eq_getElem h]
  exact List.getElem_mem _
theorem reads_all {p : Rd → Bool} {l : List Rd} : (∀ i, i < l.length → p (rdAt l i) = true) ↔ ∀ x ∈ l, p x = true := by
  constructor
  · intro h x hx
    obtain ⟨i, hi, e⟩ := List.mem_iff_getElem.1 hx
    have := h i hi
    unfold rdAt at this
    rw [List.getD, List.getElem?_eq_getElem hi] at this
    rw [← e]; exact this
  · exact fun h i hi => h _ (rdAt_mem hi)
/-- a stage, a place, a name of an Op that is laid -/
theorem lay_ops (h : layD L t K O = true) {s : Nat} (hs : s < L.body.length) : 0 ≤ (opJ K O s).sg ∧ (opJ K O s).sg ≤ 1000 ∧ 0 ≤ (opJ K O s).sl ∧ (opJ K O s).sl ≤ 1000 ∧ 0 ≤ (opJ K O s).d ∧ (opJ K O s).d ≤ 127 ∧ 0 ≤ placeJ K O s ∧ placeJ K O s ≤ 1127 ∧ t.r ≤ 128 ∧ (opJ K O s).sg * K.pc = timeJ K O s - (opJ K O s).sl ∧ 0 ≤ (nth O s) ∧ (nth O s) < L.body.length := by
  obtain ⟨h1, h2, h3, h4, h5, h6⟩ := lay_parts h
  obtain ⟨⟨hp1, hp2, hr1⟩, hrg⟩ := lay_range h
  have hk := h3
  unfold mayK at hk
  simp only [Bool.and_eq_true] at hk
  obtain ⟨⟨⟨⟨hk1, hk2⟩, hk3⟩, hk4⟩, hk5⟩ := hk
  obtain ⟨u1, u2, u3, hr1', hr2⟩ := mayT_parts hk1
  obtain ⟨o1, o2, -⟩ := ord_parts (h6 s hs).1
  have h7 := allN_get hk5 (ordJ O s) (by unfold ordJ; omega)
  have h7' := h7
  unfold oneOk regsOk at h7'
  simp only [Bool.and_eq_true] at h7'
  unfold oneOk timeOk at h7
  simp only [Bool.and_eq_true, decide_eq_true_eq] at h7
  have h8 := inR_iff.1 h7.1.1.1.1.1
  have h9 := inR_iff.1 h7.1.1.1.1.2
  have h10 := h7.1.1.1.2
  have h12 : timeJ K O s = (opAt K.ops (ordJ O s)).sl + (opAt K.ops (ordJ O s)).sg * K.pc := by unfold timeJ opJ; rw [Int.mul_comm]
  have h13 : (opAt K.ops (ordJ O s)).sg * 1 ≤ (opAt K.ops (ordJ O s)).sg * K.pc := Int.mul_le_mul_of_nonneg_left hp1 h9.1
  obtain ⟨g1, g2, -, -⟩ := hrg s hs
  have hd : 0 ≤ (opAt K.ops (ordJ O s)).d ∧ (opAt K.ops (ordJ O s)).d ≤ t.r - 1 := by
    exact inR_iff.1 h7'.1.1.2.1.1.1.1
  unfold placeJ opJ
  omega
/-- what is read, of what is laid -/
theorem read_range (h : layD L t K O = true) {s i : Nat} (hs : s < L.body.length) (hi : i < (usesL (stAt L.body s)).length) :
    0 ≤ (readOf L K O s i).ra ∧ (readOf L K O s i).ra < L.body.length ∧ 0 ≤ (readOf L K O s i).rb ∧ (readOf L K O s i).rb ≤ 3 ∧ 0 ≤ (readOf L K O s i).tm ∧ (readOf L K O s i).tm ≤ 1000 ∧ 0 ≤ (readOf L K O s i).sg ∧ (readOf L K O s i).sg ≤ 1000 := by
  obtain ⟨h1, -⟩ := lay_parts h
  obtain ⟨-, hrg⟩ := lay_range h
  obtain ⟨g1, g2, -, -⟩ := hrg s hs
  obtain ⟨r1, r2, r3, r4⟩ := usesJ_ok h1 hs _ (refAt_mem hi)
  obtain ⟨o1, o2, -⟩ := lay_ops h hs
  exact ⟨r1, r2, r3, r4, g1, g2, o1, o2⟩
theorem outs_range (hm : mayB L = true) {i : Nat} (hi : i < L.outs.length) : 0 ≤ nth L.outs i ∧ nth L.outs i < L.body.length := by
  obtain ⟨-, -, -, -, -, h6o, -⟩ := may_parts hm
  have h9 := prev_range L.body.length L.outs (i + 1) (by omega) (allN_mk fun k hk => allN_get h6o k (by omega))
  have e2 : prev L.outs (i + 1) = nth L.outs i := rfl
  rw [e2] at h9
  omega
/-- J2, as the program asks it -/
theorem taken_eq (hl : layD L t K O = true) : takenD L t K O = (beginsD L t K O && waitsD L t K O && namesD L t K O && keepsD L t K O && endsD L t K O) := by
  obtain ⟨hm, -⟩ := lay_parts hl
  obtain ⟨⟨hp1, hp2, hr1⟩, hrg⟩ := lay_range hl
  have hu : allN (fun s => allN (useJ L t K O s) (usesL (stAt L.body s)).length) L.body.length = (namesD L t K O && keepsD L t K O) := by
    unfold namesD keepsD
    rw [Bool.eq_iff_iff, Bool.and_eq_true, allN_iff, allN_iff, allN_iff, reads_all (p := nameD t K O), reads_all (p := keepD L t K O)]
    have hone : ∀ s, s < L.body.length → ∀ i, i < (usesL (stAt L.body s)).length → useJ L t K O s i = (nameD t K O (readOf L K O s i) && keepD L t K O (readOf L K O s i)) := by
      intro s hs i hi
      obtain ⟨r1, r2, r3, r4, r5, r6, r7, r8⟩ := read_range hl hs hi
      have hb : (readOf L K O s i).rb * K.pc ≤ 3 * 200 := Int.mul_le_mul r4 hp2 (by omega) (by omega)
      have hb0 : 0 ≤ (readOf L K O s i).rb * K.pc := Int.mul_nonneg r3 (by omega)
      have e := kept_eq hl (a := (readOf L K O s i).ra.toNat) (by omega) (bk := (readOf L K O s i).rb) (u := (readOf L K O s i).tm + (readOf L K O s i).rb * K.pc) (by omega) (by omega)
      unfold useJ keepD
      rw [← e]
      rfl
    constructor
    · intro h
      constructor
      · intro x hx
        obtain ⟨s, hs, i, hi, rfl⟩ := reads_mem.1 hx
        have h1 := allN_get (h s hs) i hi
        rw [hone s hs i hi, Bool.and_eq_true] at h1
        exact h1.1
      · intro x hx
        obtain ⟨s, hs, i, hi, rfl⟩ := reads_mem.1 hx
        have h1 := allN_get (h s hs) i hi
        rw [hone s hs i hi, Bool.and_eq_true] at h1
        exact h1.2
    · rintro ⟨h1, h2⟩ s hs
      refine allN_mk fun i hi => ?_
      rw [hone s hs i hi, h1 _ (reads_mem.2 ⟨s, hs, i, hi, rfl⟩), h2 _ (reads_mem.2 ⟨s, hs, i, hi, rfl⟩)]; rfl
  have ho : allN (fun i => toldJ L t K O (nth L.outs i).toNat) L.outs.length = endsD L t K O := by
    unfold endsD
    refine allN_eq ⟨fun h i hi => ?_, fun h i hi => ?_⟩
    · have := outs_range hm hi
      have h1 := h i hi
      rw [told_eq hl (by omega)] at h1
      exact h1
    · have := outs_range hm hi
      show toldJ L t K O (nth L.outs i).toNat = true
      rw [told_eq hl (by omega)]
      exact h i hi
  unfold takenD
  rw [hl, hu, ho, Bool.true_and]
  show (waitsD L t K O && (namesD L t K O && keepsD L t K O) && beginsD L t K O && endsD L t K O) = _
  cases waitsD L t K O <;> cases namesD L t K O <;> cases keepsD L t K O <;> cases beginsD L t K O <;> cases endsD L t K O <;> rfl
end Go.Proofs.YtghlcmljgpkjiabGreat
