/- Rounds: texts that are built as one: DueRow, EdgeRow, RoundMath, RoundLess, BoundMath, LegalMath. -/
import Derived.Test.YtghlcmljgpkjiabGreatMaths
import Derived.Test.YtghlcmljgpkjiabGreatBase
import Derived.Test.YtghlcmljgpkjiabGreatLoopStmt
/- Rows of results that are due, three cells each: what a row of the call's own holds, and what an append makes of it. -/
namespace Go.Proofs.YtghlcmljgpkjiabGreat
open Go.RowKit Go.Joins
set_option linter.unusedVariables false

def duCells (d : Du) : List Value := [.int .i64 d.at_, .int .i64 d.rg, .int .i64 d.v]
def flatD (l : List Du) : List Value := l.flatMap duCells
theorem flatD_snoc (l : List Du) (d : Du) : flatD l ++ duCells d = flatD (l ++ [d]) := by unfold flatD; simp
theorem flatD_get (l : List Du) : ∀ i c, i < l.length → c < 3 → (flatD l)[i * 3 + c]? = (duCells (duAt l i))[c]? := by
  induction l with
  | nil => intro i c h; exact absurd h (Nat.not_lt_zero _)
  | cons d l ih =>
    intro i c h hc
    show (duCells d ++ flatD l)[i * 3 + c]? = _
    have h3 : (duCells d).length = 3 := rfl
    cases i with
    | zero =>
      rw [List.getElem?_append_left (by omega), Nat.zero_mul, Nat.zero_add]
      rfl
    | succ i =>
      rw [List.getElem?_append_right (by omega), h3, show (i + 1) * 3 + c - 3 = i * 3 + c from by omega, ih i c (by simpa using h) hc]
      rfl
/-- any size: out of an own row -/
theorem ownz_block_ge {w : World} {base sz : Nat} {e : TypeId} {v : Value} {n : Nat} {xs : List Value} (h : w.ownsRow base e sz v n xs) : ∀ k, v.ownBlock = some k → base ≤ k := by
  obtain ⟨hl, h⟩ := h
  rcases h with ⟨rfl, _⟩ | ⟨g', cap, cur, rfl, hg, hk, r⟩
  · intro k h; cases h
  · intro k h
    have : g' = k := by simpa [Value.ownBlock] using h
    omega
theorem ownz_block_lt {w : World} {base sz : Nat} {e : TypeId} {v : Value} {n : Nat} {xs : List Value} (h : w.ownsRow base e sz v n xs) : ∀ k, v.ownBlock = some k → k < w.heap.size := by
  obtain ⟨hl, h⟩ := h
  rcases h with ⟨rfl, _⟩ | ⟨g', cap, cur, rfl, hg, hk, r⟩
  · intro k h; cases h
  · intro k h
    have e : g' = k := by simpa [Value.ownBlock] using h
    subst e
    exact (Array.getElem?_eq_some_iff.1 hk).1
theorem ownz_apart {w : World} {base sz : Nat} {e e' : TypeId} {v : Value} {n m : Nat} {xs : List Value} {g : Nat} {f : Nat → Value} (h : w.ownsRow base e sz v n xs) (hr : RowF w g e' m f) (he : e' ≠ e) : some g ≠ v.ownBlock := by
  obtain ⟨hl, h⟩ := h
  rcases h with ⟨rfl, _⟩ | ⟨g', cap, cur, rfl, hg, hk, r⟩
  · intro h; cases h
  · intro h
    have hgg : g = g' := by simpa [Value.ownBlock] using h
    subst hgg
    obtain ⟨c, hb, _, _⟩ := hr
    rw [hk] at hb
    have h1 := Option.some.inj hb
    injection h1 with _ h2
    exact he h2.symm
theorem ownz_shape {w : World} {base sz : Nat} {e : TypeId} {v : Value} {n : Nat} {xs : List Value} (h : w.ownsRow base e sz v n xs) : ∃ a cap, v = .slice a n cap ∧ n ≤ cap ∧ cap ≤ maxLen := by
  obtain ⟨hl, h⟩ := h
  rcases h with ⟨rfl, rfl⟩ | ⟨g, cap, cur, rfl, hg, hb, hn, hm, r⟩
  · exact ⟨none, 0, rfl, Nat.le_refl _, Nat.zero_le _⟩
  · exact ⟨_, cap, rfl, hn, hm⟩
/-- what leaves the row's block as it was -/
theorem ownz_keep {w w' : World} {base sz : Nat} {e : TypeId} {v : Value} {n : Nat} {xs : List Value} (h : w.ownsRow base e sz v n xs) (hk : ∀ g, v.ownBlock = some g → w'.heap[g]? = w.heap[g]?) : w'.ownsRow base e sz v n xs := by
  obtain ⟨hl, h⟩ := h
  refine ⟨hl, ?_⟩
  rcases h with h | ⟨g, cap, cur, hv, hg, hb, r⟩
  · exact .inl h
  · exact .inr ⟨g, cap, cur, hv, hg, by rw [hk g (by rw [hv]; rfl)]; exact hb, r⟩
/-- two own rows of two types -/
theorem ownz_two {w : World} {base base' sz sz' : Nat} {e e' : TypeId} {v v' : Value} {n n' : Nat} {xs xs' : List Value} (h : w.ownsRow base e sz v n xs) (h' : w.ownsRow base' e' sz' v' n' xs') (he : e ≠ e') : ∀ g, v.ownBlock = some g → some g ≠ v'.ownBlock := by
  intro g hg hg'
  obtain ⟨_, h⟩ := h
  obtain ⟨_, h'⟩ := h'
  rcases h with ⟨rfl, _⟩ | ⟨g1, c1, cur1, rfl, _, hb1, _⟩
  · cases hg
  rcases h' with ⟨rfl, _⟩ | ⟨g2, c2, cur2, rfl, _, hb2, _⟩
  · cases hg'
  have e1 : g1 = g := by simpa [Value.ownBlock] using hg
  have e2 : g = g2 := by simpa [Value.ownBlock] using hg'
  subst e1; subst e2
  rw [hb1] at hb2
  have h1 := Option.some.inj hb2
  injection h1 with _ h2
  exact he h2
/-- the cells of one that is due -/
theorem due_cells {w : World} {base : Nat} {e : TypeId} {v : Value} {l : List Du} (h : w.ownsRow base e 3 v l.length (flatD l)) (hp : 0 < l.length) :
    ∃ g cap, v = .slice (some ⟨g, 0, none⟩) l.length cap ∧ base ≤ g ∧ l.length ≤ cap ∧ cap ≤ maxLen ∧ g < w.heap.size ∧
      ∀ i, i < l.length → w.cell? ⟨g, i * 3, none⟩ = some (.int .i64 (duAt l i).at_) ∧ w.cell? ⟨g, i * 3 + 1, none⟩ = some (.int .i64 (duAt l i).rg) ∧ w.cell? ⟨g, i * 3 + 2, none⟩ = some (.int .i64 (duAt l i).v) := by
  obtain ⟨hl, h⟩ := h
  rcases h with ⟨_, hn⟩ | ⟨g, cap, cur, rfl, hg, hb, hn, hm, hc, ht⟩
  · omega
  · have key : ∀ i c, i < l.length → c < 3 → w.cell? ⟨g, i * 3 + c, none⟩ = (duCells (duAt l i))[c]? := fun i c hi hc3 => by
      rw [cell_of_block hb, ← flatD_get l i c hi hc3, ← ht, List.getElem?_take, if_pos (by omega)]
      simp
    exact ⟨g, cap, rfl, hg, hn, hm, (Array.getElem?_eq_some_iff.1 hb).1, fun i hi => ⟨key i 0 hi (by omega), key i 1 hi (by omega), key i 2 hi (by omega)⟩⟩
theorem three_cells (w : World) (a b c : Value) (t : TypeId) : ∀ (j : Nat) (u : Value), [a, b, c][j]? = some u → (w.alloc (.cells #[a, b, c] t)).cell? ((⟨w.heap.size, 0, none⟩ : Addr).add j) = some u := by
  intro j u hj
  have hb : (w.alloc (.cells #[a, b, c] t)).heap[w.heap.size]? = some (.cells #[a, b, c] t (0, 0)) := by
    show (w.heap.push _)[w.heap.size]? = _
    simp
  have ha : (⟨w.heap.size, 0, none⟩ : Addr).add j = ⟨w.heap.size, j, none⟩ := by simp [Addr.add]; omega
  rw [ha, cell_of_block hb]
  simpa using hj
end Go.Proofs.YtghlcmljgpkjiabGreat
/- Rows of edges, four cells each: what a row of the call's own holds, and what an append makes of it. -/
namespace Go.Proofs.YtghlcmljgpkjiabGreat
open Go.RowKit Go.Joins
set_option linter.unusedVariables false

def Ed.nil : Ed := ⟨0, 0, 0, 0⟩
def edAt (l : List Ed) (i : Nat) : Ed := l.getD i Ed.nil
def edCells (d : Ed) : List Value := [.int .i64 d.fr, .int .i64 d.to, .int .i64 d.bk, .int .i64 d.wt]
def flatE (l : List Ed) : List Value := l.flatMap edCells
theorem flatE_snoc (l : List Ed) (d : Ed) : flatE l ++ edCells d = flatE (l ++ [d]) := by unfold flatE; simp
theorem flatE_len (l : List Ed) : (flatE l).length = l.length * 4 := by
  induction l with
  | nil => rfl
  | cons d l ih =>
    show (edCells d ++ flatE l).length = (l.length + 1) * 4
    rw [List.length_append, ih]
    show 4 + _ = _
    omega
theorem flatE_get (l : List Ed) : ∀ i c, i < l.length → c < 4 → (flatE l)[i * 4 + c]? = (edCells (edAt l i))[c]? := by
  induction l with
  | nil => intro i c h; exact absurd h (Nat.not_lt_zero _)
  | cons d l ih =>
    intro i c h hc
    show (edCells d ++ flatE l)[i * 4 + c]? = _
    have h3 : (edCells d).length = 4 := rfl
    cases i with
    | zero =>
      rw [List.getElem?_append_left (by omega), Nat.zero_mul, Nat.zero_add]
      rfl
    | succ i =>
      rw [List.getElem?_append_right (by omega), h3, show (i + 1) * 4 + c - 4 = i * 4 + c from by omega, ih i c (by simpa using h) hc]
      rfl
/-- v is a slice of the edges l -/
def EdgesV (w : World) (v : Value) (l : List Ed) : Prop :=
  ∃ a cap, v = .slice a l.length cap ∧ l.length ≤ cap ∧ cap ≤ maxLen ∧
    (0 < l.length → ∃ blk off, a = some ⟨blk, off, none⟩ ∧ blk < w.heap.size ∧ ∀ i, i < l.length → ∀ j, j < 4 → w.cell? ⟨blk, off + i * 4 + j, none⟩ = (edCells (edAt l i))[j]?)
theorem EdgesV.below {w w' : World} {v : Value} {l : List Ed} (h : EdgesV w v l) (hb : Below w.heap.size w w') : EdgesV w' v l := by
  obtain ⟨a, cap, e, h1, h2, h4⟩ := h
  refine ⟨a, cap, e, h1, h2, fun hp => ?_⟩
  obtain ⟨b, off, e2, h5, h6⟩ := h4 hp
  exact ⟨b, off, e2, Nat.lt_of_lt_of_le h5 hb.size, fun i hi j hj => by rw [bcell hb _ _ h5]; exact h6 i hi j hj⟩
theorem EdgesV.of_own {w : World} {base : Nat} {e : TypeId} {v : Value} {l : List Ed} (h : w.ownsRow base e 4 v l.length (flatE l)) : EdgesV w v l := by
  obtain ⟨hl, h⟩ := h
  rcases h with ⟨rfl, hn⟩ | ⟨g, cap, cur, rfl, hg, hb, hn, hm, hc, ht⟩
  · refine ⟨none, 0, by rw [hn], by omega, Nat.zero_le _, fun hp => by omega⟩
  · refine ⟨some ⟨g, 0, none⟩, cap, rfl, hn, hm, fun _ => ⟨g, 0, rfl, (Array.getElem?_eq_some_iff.1 hb).1, fun i hi j hj => ?_⟩⟩
    rw [Nat.zero_add, cell_of_block hb, ← flatE_get l i j hi hj, ← ht, List.getElem?_take, if_pos (by omega)]
    simp
theorem four_cells (w : World) (a b c d : Value) (t : TypeId) : ∀ (j : Nat) (u : Value), [a, b, c, d][j]? = some u → (w.alloc (.cells #[a, b, c, d] t)).cell? ((⟨w.heap.size, 0, none⟩ : Addr).add j) = some u := by
  intro j u hj
  have hb : (w.alloc (.cells #[a, b, c, d] t)).heap[w.heap.size]? = some (.cells #[a, b, c, d] t (0, 0)) := by
    show (w.heap.push _)[w.heap.size]? = _
    simp
  have ha : (⟨w.heap.size, 0, none⟩ : Addr).add j = ⟨w.heap.size, j, none⟩ := by simp [Addr.add]; omega
  rw [ha, cell_of_block hb]
  simpa using hj
theorem fourE {w : World} {b o : Nat} {x : Ed} (h : ∀ j, j < 4 → w.cell? ⟨b, o + j, none⟩ = (edCells x)[j]?) :
    w.cell? ⟨b, o, none⟩ = some (.int .i64 x.fr) ∧ w.cell? ⟨b, o + 1, none⟩ = some (.int .i64 x.to) ∧ w.cell? ⟨b, o + 2, none⟩ = some (.int .i64 x.bk) ∧ w.cell? ⟨b, o + 3, none⟩ = some (.int .i64 x.wt) :=
  ⟨h 0 (by omega), h 1 (by omega), h 2 (by omega), h 3 (by omega)⟩
end Go.Proofs.YtghlcmljgpkjiabGreat
/- The least pace for which no round of edges is too long: times that all edges let grow stand still within as many passes as there are statements, if ever; no Go in sight. -/
namespace Go.Proofs.YtghlcmljgpkjiabGreat
set_option linter.unusedVariables false

theorem edAt_in {l : List Ed} {i : Nat} (h : i < l.length) : edAt l i ∈ l := by
  unfold edAt
  rw [List.getD, List.getElem?_eq_getElem h]
  exact List.getElem_mem _
end Go.Proofs.YtghlcmljgpkjiabGreat
/- Rounds of edges: as many passes as there are statements tell whether none is too long, one fewer than the document's; no Go in sight. -/
namespace Go.Proofs.YtghlcmljgpkjiabGreat
set_option linter.unusedVariables false

end Go.Proofs.YtghlcmljgpkjiabGreat
/- The least paces, by units and by rounds, as the document says them; no Go in sight. -/
namespace Go.Proofs.YtghlcmljgpkjiabGreat
set_option linter.unusedVariables false

theorem edges_ok {L : Lp} {t : Tg} (hm : mayB L = true) : ∀ e ∈ edgesD L t, ∃ fr to bk wt : Nat, e = ⟨fr, to, bk, wt⟩ ∧ fr < L.body.length ∧ to < L.body.length ∧ (bk = 0 → fr < to) ∧ wt ≤ 6 ∧ bk ≤ 32 := by
  intro e he
  obtain ⟨fr, to, b, x, h1, h2, rfl, h3⟩ := frD_mem _ he
  obtain ⟨fr', to', bk', wt', h5, -, -, h8⟩ := edge_like hm he
  have e1 : (b : Int) = bk' := congrArg Ed.bk h5
  have e2 : (fr : Int) = fr' := congrArg Ed.fr h5
  have e3 : (to : Int) = to' := congrArg Ed.to h5
  refine ⟨fr, to, b, x, rfl, h1, h2, fun h => by have := h8 (by omega); omega, ?_⟩
  -- the bounds of all that might be
  have hb : ∀ k, (⟨fr, to, b, x⟩ : Ed) ∈ frD L t k → x ≤ 6 ∧ b ≤ 32 := by
    have w1 : ∀ {fr to bk : Nat} {e : Ed} k, e ∈ wtD L t fr to bk k → ∃ y : Nat, y < k ∧ e = ⟨fr, to, bk, y⟩ := fun k h => by
      obtain ⟨y, h1, h2, _⟩ := wtD_mem k h; exact ⟨y, h1, h2⟩
    have w2 : ∀ {fr to : Nat} {e : Ed} k, e ∈ bkD L t fr to k → ∃ b y : Nat, b < k ∧ y < 7 ∧ e = ⟨fr, to, b, y⟩ := by
      intro fr to e k
      induction k with
      | zero => intro h; cases h
      | succ k ih =>
        intro h
        rcases List.mem_append.1 h with h | h
        · obtain ⟨b, y, h1, h2, h3⟩ := ih h; exact ⟨b, y, by omega, h2, h3⟩
        · obtain ⟨y, h1, h2⟩ := w1 7 h; exact ⟨k, y, by omega, h1, h2⟩
    have w3 : ∀ {fr : Nat} {e : Ed} k, e ∈ toD L t fr k → ∃ to b y : Nat, b < 33 ∧ y < 7 ∧ e = ⟨fr, to, b, y⟩ := by
      intro fr e k
      induction k with
      | zero => intro h; cases h
      | succ k ih =>
        intro h
        rcases List.mem_append.1 h with h | h
        · exact ih h
        · obtain ⟨b, y, h1, h2, h3⟩ := w2 33 h; exact ⟨k, b, y, h1, h2, h3⟩
    intro k
    induction k with
    | zero => intro h; cases h
    | succ k ih =>
      intro h
      rcases List.mem_append.1 h with h | h
      · exact ih h
      · obtain ⟨to2, b2, y2, h1, h2, h3⟩ := w3 L.body.length h
        have f1 : (b : Int) = b2 := congrArg Ed.bk h3
        have f2 : (x : Int) = y2 := congrArg Ed.wt h3
        omega
  exact hb _ he
end Go.Proofs.YtghlcmljgpkjiabGreat
/- Plans: which are legal, as the document says it; that none is faster than the least paces; no Go in sight. -/
namespace Go.Proofs.YtghlcmljgpkjiabGreat
set_option linter.unusedVariables false

/-- two statements at one time of the pace, of one class -/
def meetL (L : Lp) (P : Int) (T : List Int) (i j : Nat) : Bool := decide ((nth T j).tmod P = (nth T i).tmod P) && decide (clsv (stAt L.body j).o = clsv (stAt L.body i).o)
def manyL (L : Lp) (P : Int) (T : List Int) (i : Nat) : Nat := cnt (meetL L P T i) T.length
/-- a statement's time, and the units at it -/
def timeL (L : Lp) (t : Tg) (P : Int) (T : List Int) (i : Nat) : Bool := inR (nth T i) 0 1000 && decide ((manyL L P T i : Int) ≤ unitsT t (clsv (stAt L.body i).o))
def edgeL (P : Int) (T : List Int) (e : Ed) : Bool := decide (nth T e.fr.toNat + e.wt ≤ nth T e.to.toNat + e.bk * P)
/-- H1 -/
def legalD (L : Lp) (t : Tg) (P : Int) (T : List Int) : Bool :=
  mayB L && mayT t && inR P 1 200 && decide (T.length = L.body.length) && allN (timeL L t P T) T.length && allN (fun i => edgeL P T (edAt (edgesD L t) i)) (edgesD L t).length

theorem legal_parts {L : Lp} {t : Tg} {P : Int} {T : List Int} (h : legalD L t P T = true) : mayB L = true ∧ mayT t = true ∧ 1 ≤ P ∧ P ≤ 200 ∧ T.length = L.body.length ∧ allN (timeL L t P T) T.length = true ∧ allN (fun i => edgeL P T (edAt (edgesD L t) i)) (edgesD L t).length = true := by
  unfold legalD at h
  simp only [Bool.and_eq_true, decide_eq_true_eq] at h
  obtain ⟨⟨⟨⟨⟨h1, h2⟩, h3⟩, h4⟩, h5⟩, h6⟩ := h
  have h3 := inR_iff.1 h3
  exact ⟨h1, h2, h3.1, h3.2, h4, h5, h6⟩
/-! ### units: each time of the pace holds so many -/
theorem cnt_zero_or (p : Nat → Bool) (n : Nat) : cnt p n = 0 ∨ ∃ i, i < n ∧ p i = true := by
  induction n with
  | zero => exact .inl rfl
  | succ n ih =>
    cases hp : p n with
    | true => exact .inr ⟨n, by omega, hp⟩
    | false =>
      rcases ih with h | ⟨i, h1, h2⟩
      · exact .inl (by show cnt p n + (if p n = true then 1 else 0) = 0; rw [hp, h]; rfl)
      · exact .inr ⟨i, by omega, h2⟩
theorem cnt_imp {p q : Nat → Bool} {n : Nat} (h : ∀ i, i < n → p i = true → q i = true) : cnt p n ≤ cnt q n := by
  induction n with
  | zero => exact Nat.le_refl _
  | succ n ih =>
    have h1 := ih fun i hi => h i (by omega)
    show cnt p n + (if p n = true then 1 else 0) ≤ cnt q n + (if q n = true then 1 else 0)
    cases hp : p n with
    | false => simp; omega
    | true => rw [h n (by omega) hp]; omega
end Go.Proofs.YtghlcmljgpkjiabGreat
