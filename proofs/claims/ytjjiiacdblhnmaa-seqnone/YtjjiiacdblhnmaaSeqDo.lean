/- The contract of a turn: each statement is done in its order, and its past grows by what it came to. -/
import Derived.Test.YtjjiiacdblhnmaaSeqComes
import Derived.Test.YtjjiiacdblhnmaaUntil
import Derived.Deep.AppendLies
namespace Go.Proofs.Ytjjiiacdblhnmaa
open Go.RowKit Go.Joins
set_option linter.unusedVariables false
set_option linter.unusedSimpArgs false

/-- what is read while a statement is done stays: the runner's pasts, the statement's own variable and its past -/
theorem held_block {R X gp k : Nat} {pv rv c0 c1 c2 c3 c4 c5 c6 c7 c8 : Value} {W w' : World}
    (h : W.cell? ⟨R, 3, none⟩ = some pv ∧ W.cell? ⟨X, 0, none⟩ = some c0 ∧ W.cell? ⟨X, 1, none⟩ = some c1 ∧ W.cell? ⟨X, 2, none⟩ = some c2 ∧ W.cell? ⟨X, 3, none⟩ = some c3 ∧ W.cell? ⟨X, 4, none⟩ = some c4 ∧ W.cell? ⟨X, 5, none⟩ = some c5 ∧ W.cell? ⟨X, 6, none⟩ = some c6 ∧ W.cell? ⟨X, 7, none⟩ = some c7 ∧ W.cell? ⟨X, 8, none⟩ = some c8 ∧ W.cell? ⟨gp, k, none⟩ = some rv)
    (h1 : w'.heap[R]? = W.heap[R]?) (h2 : w'.heap[X]? = W.heap[X]?) (h3 : w'.heap[gp]? = W.heap[gp]?) :
    w'.cell? ⟨R, 3, none⟩ = some pv ∧ w'.cell? ⟨X, 0, none⟩ = some c0 ∧ w'.cell? ⟨X, 1, none⟩ = some c1 ∧ w'.cell? ⟨X, 2, none⟩ = some c2 ∧ w'.cell? ⟨X, 3, none⟩ = some c3 ∧ w'.cell? ⟨X, 4, none⟩ = some c4 ∧ w'.cell? ⟨X, 5, none⟩ = some c5 ∧ w'.cell? ⟨X, 6, none⟩ = some c6 ∧ w'.cell? ⟨X, 7, none⟩ = some c7 ∧ w'.cell? ⟨X, 8, none⟩ = some c8 ∧ w'.cell? ⟨gp, k, none⟩ = some rv := by
  have e1 : ∀ o, w'.cell? ⟨R, o, none⟩ = W.cell? ⟨R, o, none⟩ := fun o => World.cell?_of_block (a := ⟨R, o, none⟩) h1
  have e2 : ∀ o, w'.cell? ⟨X, o, none⟩ = W.cell? ⟨X, o, none⟩ := fun o => World.cell?_of_block (a := ⟨X, o, none⟩) h2
  have e3 : ∀ o, w'.cell? ⟨gp, o, none⟩ = W.cell? ⟨gp, o, none⟩ := fun o => World.cell?_of_block (a := ⟨gp, o, none⟩) h3
  rw [e1, e2, e2, e2, e2, e2, e2, e2, e2, e2, e3]
  exact h
theorem plen_at (T k : Nat) : plen T k k = T + 3 := by unfold plen; rw [if_neg (by omega)]
/-- ahead of the statement's call -/
theorem do_first {w0 : World} {R : Nat} {l0 l1 l2 : Value} {gp cp : Nat} {mv : Value} {gm cm N n : Nat} {lenM GM CM : Nat → Nat} {B : List (List Int)} {G C : Nat → Nat} {T k : Nat} {s : Sq} {wr : World} {o xa xb ya yb ar sp pl nn : Int} (h : RInv w0 R l0 l1 l2 gp cp mv gm cm N n lenM GM CM B G C T k s wr) (hk : k < N) :
    (wr.alloc (.cells #[.int .i64 o, .int .i64 xa, .int .i64 xb, .int .i64 ya, .int .i64 yb, .int .i64 ar, .int .i64 sp, .int .i64 pl, .int .i64 nn] 62)).cell? ⟨R, 3, none⟩ = some (.slice (some ⟨gp, 0, none⟩) N cp) ∧ (wr.alloc (.cells #[.int .i64 o, .int .i64 xa, .int .i64 xb, .int .i64 ya, .int .i64 yb, .int .i64 ar, .int .i64 sp, .int .i64 pl, .int .i64 nn] 62)).cell? ⟨wr.heap.size, 0, none⟩ = some (.int .i64 o) ∧ (wr.alloc (.cells #[.int .i64 o, .int .i64 xa, .int .i64 xb, .int .i64 ya, .int .i64 yb, .int .i64 ar, .int .i64 sp, .int .i64 pl, .int .i64 nn] 62)).cell? ⟨wr.heap.size, 1, none⟩ = some (.int .i64 xa) ∧ (wr.alloc (.cells #[.int .i64 o, .int .i64 xa, .int .i64 xb, .int .i64 ya, .int .i64 yb, .int .i64 ar, .int .i64 sp, .int .i64 pl, .int .i64 nn] 62)).cell? ⟨wr.heap.size, 2, none⟩ = some (.int .i64 xb) ∧ (wr.alloc (.cells #[.int .i64 o, .int .i64 xa, .int .i64 xb, .int .i64 ya, .int .i64 yb, .int .i64 ar, .int .i64 sp, .int .i64 pl, .int .i64 nn] 62)).cell? ⟨wr.heap.size, 3, none⟩ = some (.int .i64 ya) ∧ (wr.alloc (.cells #[.int .i64 o, .int .i64 xa, .int .i64 xb, .int .i64 ya, .int .i64 yb, .int .i64 ar, .int .i64 sp, .int .i64 pl, .int .i64 nn] 62)).cell? ⟨wr.heap.size, 4, none⟩ = some (.int .i64 yb) ∧ (wr.alloc (.cells #[.int .i64 o, .int .i64 xa, .int .i64 xb, .int .i64 ya, .int .i64 yb, .int .i64 ar, .int .i64 sp, .int .i64 pl, .int .i64 nn] 62)).cell? ⟨wr.heap.size, 5, none⟩ = some (.int .i64 ar) ∧ (wr.alloc (.cells #[.int .i64 o, .int .i64 xa, .int .i64 xb, .int .i64 ya, .int .i64 yb, .int .i64 ar, .int .i64 sp, .int .i64 pl, .int .i64 nn] 62)).cell? ⟨wr.heap.size, 6, none⟩ = some (.int .i64 sp) ∧ (wr.alloc (.cells #[.int .i64 o, .int .i64 xa, .int .i64 xb, .int .i64 ya, .int .i64 yb, .int .i64 ar, .int .i64 sp, .int .i64 pl, .int .i64 nn] 62)).cell? ⟨wr.heap.size, 7, none⟩ = some (.int .i64 pl) ∧ (wr.alloc (.cells #[.int .i64 o, .int .i64 xa, .int .i64 xb, .int .i64 ya, .int .i64 yb, .int .i64 ar, .int .i64 sp, .int .i64 pl, .int .i64 nn] 62)).cell? ⟨wr.heap.size, 8, none⟩ = some (.int .i64 nn) ∧ (wr.alloc (.cells #[.int .i64 o, .int .i64 xa, .int .i64 xb, .int .i64 ya, .int .i64 yb, .int .i64 ar, .int .i64 sp, .int .i64 pl, .int .i64 nn] 62)).cell? ⟨gp, k, none⟩ = some (.slice (some ⟨G k, 0, none⟩) (T + 3) (C k)) := by
  obtain ⟨-, -, -, d3, -, hRz⟩ := h.cells
  have e : (wr.alloc (.cells #[.int .i64 o, .int .i64 xa, .int .i64 xb, .int .i64 ya, .int .i64 yb, .int .i64 ar, .int .i64 sp, .int .i64 pl, .int .i64 nn] 62)).cell? ⟨R, 3, none⟩ = some (.slice (some ⟨gp, 0, none⟩) N cp) := by
    rw [bcell (below_alloc1 _ _) _ _ hRz]; exact d3
  have e2 : (wr.alloc (.cells #[.int .i64 o, .int .i64 xa, .int .i64 xb, .int .i64 ya, .int .i64 yb, .int .i64 ar, .int .i64 sp, .int .i64 pl, .int .i64 nn] 62)).cell? ⟨gp, k, none⟩ = some (.slice (some ⟨G k, 0, none⟩) (T + 3) (C k)) := by
    rw [bcell (below_alloc1 _ _) _ _ h.pout.lt, ← plen_at T k]; exact h.pout.cell hk
  refine ⟨e, ?_, ?_, ?_, ?_, ?_, ?_, ?_, ?_, ?_, e2⟩ <;> go_simp
/-- behind the statement's call -/
theorem do_call {w0 : World} {R : Nat} {l0 l1 l2 : Value} {gp cp : Nat} {mv : Value} {gm cm N n : Nat} {lenM GM CM : Nat → Nat} {B : List (List Int)} {G C : Nat → Nat} {T k : Nat} {s : Sq} {sq : Sq} {wr w2 : World} {o xa xb ya yb ar sp pl nn : Int} (h : RInv w0 R l0 l1 l2 gp cp mv gm cm N n lenM GM CM B G C T k s wr) (hk : k < N)
    (hI2 : RInv w0 R l0 l1 l2 gp cp mv gm cm N n lenM GM CM B G C T k sq w2) (hkp : Kept n GM (wr.alloc (.cells #[.int .i64 o, .int .i64 xa, .int .i64 xb, .int .i64 ya, .int .i64 yb, .int .i64 ar, .int .i64 sp, .int .i64 pl, .int .i64 nn] 62)).drew w2) :
    (w2.cell? ⟨R, 3, none⟩ = some (.slice (some ⟨gp, 0, none⟩) N cp) ∧ w2.cell? ⟨wr.heap.size, 0, none⟩ = some (.int .i64 o) ∧ w2.cell? ⟨wr.heap.size, 1, none⟩ = some (.int .i64 xa) ∧ w2.cell? ⟨wr.heap.size, 2, none⟩ = some (.int .i64 xb) ∧ w2.cell? ⟨wr.heap.size, 3, none⟩ = some (.int .i64 ya) ∧ w2.cell? ⟨wr.heap.size, 4, none⟩ = some (.int .i64 yb) ∧ w2.cell? ⟨wr.heap.size, 5, none⟩ = some (.int .i64 ar) ∧ w2.cell? ⟨wr.heap.size, 6, none⟩ = some (.int .i64 sp) ∧ w2.cell? ⟨wr.heap.size, 7, none⟩ = some (.int .i64 pl) ∧ w2.cell? ⟨wr.heap.size, 8, none⟩ = some (.int .i64 nn) ∧ w2.cell? ⟨gp, k, none⟩ = some (.slice (some ⟨G k, 0, none⟩) (T + 3) (C k))) ∧ wr.heap.size < w2.heap.size := by
  have hz : wr.heap.size < w2.heap.size := by
    have h2 := hkp.2
    have h3 : (wr.alloc (.cells #[.int .i64 o, .int .i64 xa, .int .i64 xb, .int .i64 ya, .int .i64 yb, .int .i64 ar, .int .i64 sp, .int .i64 pl, .int .i64 nn] 62)).drew.heap.size = wr.heap.size + 1 := by simp
    omega
  have hRz := h.cells.2.2.2.2.2
  have hpz := h.pout.lt
  exact ⟨held_block (do_first (o := o) (xa := xa) (xb := xb) (ya := ya) (yb := yb) (ar := ar) (sp := sp) (pl := pl) (nn := nn) h hk) (w' := w2) (hkp.1 R (by simp; omega) (fun i hi => block_apart h.hR (h.min.1 i hi).2.2.2 (by decide)))
    (hkp.1 wr.heap.size (by simp) (fun i hi => by have := (h.min.1 i hi).2.2.2.lt; omega))
    (hkp.1 gp (by simp; omega) (fun i hi => h.pout.apart (h.min.1 i hi).2.2.2 (by decide))), hz⟩
/-- behind the new row of one -/
theorem do_made {w0 : World} {R : Nat} {l0 l1 l2 : Value} {gp cp : Nat} {mv : Value} {gm cm N n : Nat} {lenM GM CM : Nat → Nat} {B : List (List Int)} {G C : Nat → Nat} {T k : Nat} {s : Sq} {X : Nat} {w2 : World} {o xa xb ya yb ar sp pl nn : Int} (h : RInv w0 R l0 l1 l2 gp cp mv gm cm N n lenM GM CM B G C T k s w2)
    (K : w2.cell? ⟨R, 3, none⟩ = some (.slice (some ⟨gp, 0, none⟩) N cp) ∧ w2.cell? ⟨X, 0, none⟩ = some (.int .i64 o) ∧ w2.cell? ⟨X, 1, none⟩ = some (.int .i64 xa) ∧ w2.cell? ⟨X, 2, none⟩ = some (.int .i64 xb) ∧ w2.cell? ⟨X, 3, none⟩ = some (.int .i64 ya) ∧ w2.cell? ⟨X, 4, none⟩ = some (.int .i64 yb) ∧ w2.cell? ⟨X, 5, none⟩ = some (.int .i64 ar) ∧ w2.cell? ⟨X, 6, none⟩ = some (.int .i64 sp) ∧ w2.cell? ⟨X, 7, none⟩ = some (.int .i64 pl) ∧ w2.cell? ⟨X, 8, none⟩ = some (.int .i64 nn) ∧ w2.cell? ⟨gp, k, none⟩ = some (.slice (some ⟨G k, 0, none⟩) (T + 3) (C k))) (hX : X < w2.heap.size) (Y : Obj) : (w2.alloc Y).cell? ⟨R, 3, none⟩ = some (.slice (some ⟨gp, 0, none⟩) N cp) ∧ (w2.alloc Y).cell? ⟨X, 0, none⟩ = some (.int .i64 o) ∧ (w2.alloc Y).cell? ⟨X, 1, none⟩ = some (.int .i64 xa) ∧ (w2.alloc Y).cell? ⟨X, 2, none⟩ = some (.int .i64 xb) ∧ (w2.alloc Y).cell? ⟨X, 3, none⟩ = some (.int .i64 ya) ∧ (w2.alloc Y).cell? ⟨X, 4, none⟩ = some (.int .i64 yb) ∧ (w2.alloc Y).cell? ⟨X, 5, none⟩ = some (.int .i64 ar) ∧ (w2.alloc Y).cell? ⟨X, 6, none⟩ = some (.int .i64 sp) ∧ (w2.alloc Y).cell? ⟨X, 7, none⟩ = some (.int .i64 pl) ∧ (w2.alloc Y).cell? ⟨X, 8, none⟩ = some (.int .i64 nn) ∧ (w2.alloc Y).cell? ⟨gp, k, none⟩ = some (.slice (some ⟨G k, 0, none⟩) (T + 3) (C k)) :=
  held_block K (Below.heap_alloc _ _ _ h.cells.2.2.2.2.2) (Below.heap_alloc _ _ _ hX) (Below.heap_alloc _ _ _ h.pout.lt)
/-- behind the append -/
theorem do_append {w0 : World} {R : Nat} {l0 l1 l2 : Value} {gp cp : Nat} {mv : Value} {gm cm N n : Nat} {lenM GM CM : Nat → Nat} {B : List (List Int)} {G C : Nat → Nat} {T k : Nat} {s : Sq} {X : Nat} {w2 w3 : World} {Y : Obj} {o xa xb ya yb ar sp pl nn : Int} (h : RInv w0 R l0 l1 l2 gp cp mv gm cm N n lenM GM CM B G C T k s w2) (hk : k < N)
    (K : w2.cell? ⟨R, 3, none⟩ = some (.slice (some ⟨gp, 0, none⟩) N cp) ∧ w2.cell? ⟨X, 0, none⟩ = some (.int .i64 o) ∧ w2.cell? ⟨X, 1, none⟩ = some (.int .i64 xa) ∧ w2.cell? ⟨X, 2, none⟩ = some (.int .i64 xb) ∧ w2.cell? ⟨X, 3, none⟩ = some (.int .i64 ya) ∧ w2.cell? ⟨X, 4, none⟩ = some (.int .i64 yb) ∧ w2.cell? ⟨X, 5, none⟩ = some (.int .i64 ar) ∧ w2.cell? ⟨X, 6, none⟩ = some (.int .i64 sp) ∧ w2.cell? ⟨X, 7, none⟩ = some (.int .i64 pl) ∧ w2.cell? ⟨X, 8, none⟩ = some (.int .i64 nn) ∧ w2.cell? ⟨gp, k, none⟩ = some (.slice (some ⟨G k, 0, none⟩) (T + 3) (C k))) (hX : X < w2.heap.size) (hXs : ∃ c, w2.heap[X]? = some (.cells c 62 (0, 0))) (hg : (w2.alloc Y).grownBy w3 (some (G k))) :
    (w3.cell? ⟨R, 3, none⟩ = some (.slice (some ⟨gp, 0, none⟩) N cp) ∧ w3.cell? ⟨X, 0, none⟩ = some (.int .i64 o) ∧ w3.cell? ⟨X, 1, none⟩ = some (.int .i64 xa) ∧ w3.cell? ⟨X, 2, none⟩ = some (.int .i64 xb) ∧ w3.cell? ⟨X, 3, none⟩ = some (.int .i64 ya) ∧ w3.cell? ⟨X, 4, none⟩ = some (.int .i64 yb) ∧ w3.cell? ⟨X, 5, none⟩ = some (.int .i64 ar) ∧ w3.cell? ⟨X, 6, none⟩ = some (.int .i64 sp) ∧ w3.cell? ⟨X, 7, none⟩ = some (.int .i64 pl) ∧ w3.cell? ⟨X, 8, none⟩ = some (.int .i64 nn) ∧ w3.cell? ⟨gp, k, none⟩ = some (.slice (some ⟨G k, 0, none⟩) (T + 3) (C k))) ∧ w3.frozen? ⟨gp, k, none⟩ = false := by
  have hrow := (h.pin k hk).2.2.row
  have hRz := h.cells.2.2.2.2.2
  obtain ⟨c, hc⟩ := hXs
  have blk : ∀ q, q < w2.heap.size → q ≠ G k → w3.heap[q]? = w2.heap[q]? := fun q hq hne => by
    rw [hg.block q (by simp; omega) (by intro e; exact hne (Option.some.inj e)), Below.heap_alloc _ _ _ hq]
  have b3 := blk gp h.pout.lt (h.pout.apart hrow (by decide))
  have hp3 : RowF w3 gp 36 N (rowV G C (plen T k)) := h.pout.of_block b3
  exact ⟨held_block K (blk R hRz (block_apart h.hR hrow (by decide))) (blk X hX (block_apart hc hrow (by decide))) b3, hp3.frozen k⟩
theorem do_box {n : Nat} {GM : Nat → Nat} {wr w2 : World} {c : Array Value} (hkp : Kept n GM (wr.alloc (.cells c 62)).drew w2) (h : ∀ i, i < n → GM i < wr.heap.size) : ∃ c, w2.heap[wr.heap.size]? = some (.cells c 62 (0, 0)) := by
  refine ⟨c, ?_⟩
  rw [hkp.1 wr.heap.size (by simp) (fun i hi => by have := h i hi; omega)]
  show (wr.heap.push _)[wr.heap.size]? = _
  simp
theorem do_own {w0 : World} {R : Nat} {l0 l1 l2 : Value} {gp cp : Nat} {mv : Value} {gm cm N n : Nat} {lenM GM CM : Nat → Nat} {B : List (List Int)} {G C : Nat → Nat} {T k : Nat} {s : Sq} {w2 : World} (h : RInv w0 R l0 l1 l2 gp cp mv gm cm N n lenM GM CM B G C T k s w2) (hk : k < N) (Y : Obj) :
    (w2.alloc Y).ownsRow w0.heap.size 2 1 (.slice (some ⟨G k, 0, none⟩) (T + 3) (C k)) (T + 3) ((List.range (T + 3)).map (fun j => Value.int .i64 (pastV B s.val k j))) := by
  obtain ⟨p1, p2, p3⟩ := h.pin k hk
  rw [plen_at] at p3
  exact own_below (p3.own p1 p2) (below_alloc1 _ _)

theorem comes_nine {w0 : World} {R : Nat} {l0 l1 l2 : Value} {gp cp : Nat} {mv : Value} {gm cm N n : Nat} {lenM GM CM : Nat → Nat} {B : List (List Int)} {G C : Nat → Nat} {T k : Nat} {s : Sq} (w : World) (L : Lp) (o xa xb ya yb ar sp pl nn : Int)
    (hI : RInv w0 R l0 l1 l2 gp cp mv gm cm N n lenM GM CM B G C T k s w) (hx : stAt L.body k = ⟨o, xa, xb, ya, yb, ar, sp, pl, nn⟩) (hL : Ints w0 l0 L.logs) (hn : n = L.logs.length)
    (hlen : ∀ i, i < n → lenM i = 2 ^ (nth L.logs i).toNat ∧ lenM i ≤ 32) (ht : T ≤ 200) (hk : k < N) (hok : stOk n N k ⟨o, xa, xb, ya, yb, ar, sp, pl, nn⟩ = true) :
    Calls Try.prog 46 #[.pointer (some ⟨R, 0, none⟩), .agg #[.int .i64 o, .int .i64 xa, .int .i64 xb, .int .i64 ya, .int .i64 yb, .int .i64 ar, .int .i64 sp, .int .i64 pl, .int .i64 nn], .int .i64 T] w fun e w' =>
      ∃ v m, stepS L B T s k = ⟨m, put2 s.val T k v⟩ ∧ e = .returned (.int .i64 v) ∧ RInv w0 R l0 l1 l2 gp cp mv gm cm N n lenM GM CM B G C T k ⟨m, s.val⟩ w' ∧ Kept n GM w w' :=
  comes_any w L ⟨o, xa, xb, ya, yb, ar, sp, pl, nn⟩ hI hx hL hn hlen ht hk hok

set_option maxHeartbeats 4000000 in
theorem do_any {w0 : World} {R : Nat} {l0 l1 l2 : Value} {gp cp : Nat} {mv : Value} {gm cm N n : Nat} {lenM GM CM : Nat → Nat} {B : List (List Int)} {G C : Nat → Nat} {T : Nat} {s : Sq} (w : World) (L : Lp)
    (hI : RInv w0 R l0 l1 l2 gp cp mv gm cm N n lenM GM CM B G C T 0 s w) (hL : LoopV w0 (.agg #[l0, l1, l2]) L) (hN : N = L.body.length) (hn : n = L.logs.length)
    (hlen : ∀ i, i < n → lenM i = 2 ^ (nth L.logs i).toNat ∧ lenM i ≤ 32) (hbody : bodyOk L = true) (h16 : N ≤ 16) (ht : T ≤ 200) :
    Calls Try.prog 35 #[.pointer (some ⟨R, 0, none⟩), .int .i64 T] w fun e w' => e = .returned (.tuple #[]) ∧ ∃ G' C', RInv w0 R l0 l1 l2 gp cp mv gm cm N n lenM GM CM B G' C' (T + 1) 0 (turnS L B T N s) w' := by
  obtain ⟨v0, v1, v2, hv, hL0, ⟨a1, cap1, rfl, hl1, hm1, hc1⟩, hL2⟩ := hL
  injection hv with hv
  injection hv with hv
  injection hv with e0 hv
  injection hv with e1 hv
  injection hv with e2 hv
  subst e0; subst e1; subst e2
  unfold maxLen at hm1
  obtain ⟨i0, hi, hz0, hz1, hz2⟩ := info_parts Try.i2
  obtain ⟨-, d1, -, d3, -, hRz⟩ := hI.cells
  have HI := hide hI
  have HL := hide hL0
  have HLE := hide hlen
  have HBO := hide hbody
  have HC1 := hide hc1
  have HN := hide hN
  have Hn := hide hn
  clear hI hv hL0 hL2 hlen hbody hc1 d3 hN hn
  go_enter Try.func35, Try.ntmps35
  go_wp2_with fail
  go_loopw [12] (fun i wr => ∃ k : Nat, k ≤ N ∧ i = .int .i64 k ∧ ∃ G C, RInv w0 R l0 (.slice a1 L.body.length cap1) l2 gp cp mv gm cm N n lenM GM CM B G C T k (turnS L B T k s) wr) (fun i _ => N - (intOf i).toNat)
  case atStart => exact ⟨0, Nat.zero_le _, rfl, G, C, HI.out⟩
  case round =>
    clear HI d1 hRz
    obtain ⟨k, hk, rfl, G, C, hQ⟩ := hrel
    by_cases hkl : k < N
    · have hki : (k : Int) < (L.body.length : Int) := by have := HN.out; omega
      have hkN : (k : Int) < (N : Int) := by omega
      obtain ⟨b, off, rfl, hb, hcell⟩ := HC1.out (by have := HN.out; omega)
      obtain ⟨c0, c1, c2, c3, c4, c5, c6, c7, c8⟩ := nine (hcell k (by have := HN.out; omega))
      rw [← bcell hQ.bel _ _ hb] at c0 c1 c2 c3 c4 c5 c6 c7 c8
      have hbz : b < wr.heap.size := by have := hQ.bel.size; omega
      obtain ⟨-, p2, p3⟩ := hQ.pb
      unfold maxLen at p3
      have hst : stOk n N k (stAt L.body k) = true := by rw [Hn.out, HN.out]; exact allN_get HBO.out k (by have := HN.out; omega)
      have HST := hide hst
      have HQ := hide hQ
      have HCO : Hid (stepS L B T (turnS L B T k s) k = turnS L B T (k + 1) s) := rfl
      clear hst hQ hcell
      generalize turnS L B T k s = sq at *
      generalize hx : stAt L.body k = x at *
      have HXX := hide hx
      clear hx
      obtain ⟨o, xa, xb, ya, yb, ar, sp, pl, nn⟩ := x
      simp only at c0 c1 c2 c3 c4 c5 c6 c7 c8
      have HK1 := hide (do_first (o := o) (xa := xa) (xb := xb) (ya := ya) (yb := yb) (ar := ar) (sp := sp) (pl := pl) (nn := nn) HQ.out hkl)
      go_wp2_with fail
      clear c0 c1 c2 c3 c4 c5 c6 c7 c8
      refine wp_region_noPanic ?_
      refine region_until 19 (fun w' => w'.cell? ⟨R, 3, none⟩ = some (.slice (some ⟨gp, 0, none⟩) N cp) ∧ w'.cell? ⟨wr.heap.size, 0, none⟩ = some (.int .i64 o) ∧ w'.cell? ⟨wr.heap.size, 1, none⟩ = some (.int .i64 xa) ∧ w'.cell? ⟨wr.heap.size, 2, none⟩ = some (.int .i64 xb) ∧ w'.cell? ⟨wr.heap.size, 3, none⟩ = some (.int .i64 ya) ∧ w'.cell? ⟨wr.heap.size, 4, none⟩ = some (.int .i64 yb) ∧ w'.cell? ⟨wr.heap.size, 5, none⟩ = some (.int .i64 ar) ∧ w'.cell? ⟨wr.heap.size, 6, none⟩ = some (.int .i64 sp) ∧ w'.cell? ⟨wr.heap.size, 7, none⟩ = some (.int .i64 pl) ∧ w'.cell? ⟨wr.heap.size, 8, none⟩ = some (.int .i64 nn) ∧ w'.cell? ⟨gp, k, none⟩ = some (.slice (some ⟨G k, 0, none⟩) (T + 3) (C k))) (by kernel_rfl) HK1.out (fun hHeld => ?_)
      refine until_take (i := 0) (v := ?_) rfl (by kernel_rfl) (by kernel_rfl) (by kernel_rfl) (by kernel_rfl) (fun _ _ _ h => h) (Or.inl ⟨by rfl, ?_⟩) hHeld ?_
      rotate_left
      · intro w hSw
        try dsimp only at hSw
        go_simp
        try with_reducible rfl
      try simp only [Act.put, List.setIfInBounds_toArray, List.set_cons_zero, List.set_cons_succ]
      refine until_take (i := 1) (v := ?_) rfl (by kernel_rfl) (by kernel_rfl) (by kernel_rfl) (by kernel_rfl) (fun _ _ _ h => h) (Or.inl ⟨by rfl, ?_⟩) hHeld ?_
      rotate_left
      · intro w hSw
        try dsimp only at hSw
        go_simp
        try with_reducible rfl
      try simp only [Act.put, List.setIfInBounds_toArray, List.set_cons_zero, List.set_cons_succ]
      refine until_take (i := 2) (v := ?_) rfl (by kernel_rfl) (by kernel_rfl) (by kernel_rfl) (by kernel_rfl) (fun _ _ _ h => h) (Or.inl ⟨by rfl, ?_⟩) hHeld ?_
      rotate_left
      · intro w hSw
        try dsimp only at hSw
        go_simp
        try with_reducible rfl
      try simp only [Act.put, List.setIfInBounds_toArray, List.set_cons_zero, List.set_cons_succ]
      refine until_take (i := 3) (v := ?_) rfl (by kernel_rfl) (by kernel_rfl) (by kernel_rfl) (by kernel_rfl) (fun _ _ _ h => h) (Or.inl ⟨by rfl, ?_⟩) hHeld ?_
      rotate_left
      · intro w hSw
        try dsimp only at hSw
        go_simp
        try with_reducible rfl
      try simp only [Act.put, List.setIfInBounds_toArray, List.set_cons_zero, List.set_cons_succ]
      refine until_take (i := 4) (v := ?_) rfl (by kernel_rfl) (by kernel_rfl) (by kernel_rfl) (by kernel_rfl) (fun _ _ _ h => h) (Or.inl ⟨by rfl, ?_⟩) hHeld ?_
      rotate_left
      · intro w hSw
        try dsimp only at hSw
        go_simp
        try with_reducible rfl
      try simp only [Act.put, List.setIfInBounds_toArray, List.set_cons_zero, List.set_cons_succ]
      refine until_take (i := 5) (v := ?_) rfl (by kernel_rfl) (by kernel_rfl) (by kernel_rfl) (by kernel_rfl) (fun _ _ _ h => h) (Or.inl ⟨by rfl, ?_⟩) hHeld ?_
      rotate_left
      · intro w hSw
        try dsimp only at hSw
        go_simp
        try with_reducible rfl
      try simp only [Act.put, List.setIfInBounds_toArray, List.set_cons_zero, List.set_cons_succ]
      refine until_take (i := 6) (v := ?_) rfl (by kernel_rfl) (by kernel_rfl) (by kernel_rfl) (by kernel_rfl) (fun _ _ _ h => h) (Or.inl ⟨by rfl, ?_⟩) hHeld ?_
      rotate_left
      · intro w hSw
        try dsimp only at hSw
        go_simp
        try with_reducible rfl
      try simp only [Act.put, List.setIfInBounds_toArray, List.set_cons_zero, List.set_cons_succ]
      refine until_take (i := 7) (v := ?_) rfl (by kernel_rfl) (by kernel_rfl) (by kernel_rfl) (by kernel_rfl) (fun _ _ _ h => h) (Or.inl ⟨by rfl, ?_⟩) hHeld ?_
      rotate_left
      · intro w hSw
        try dsimp only at hSw
        go_simp
        try with_reducible rfl
      try simp only [Act.put, List.setIfInBounds_toArray, List.set_cons_zero, List.set_cons_succ]
      refine until_take (i := 8) (v := ?_) rfl (by kernel_rfl) (by kernel_rfl) (by kernel_rfl) (by kernel_rfl) (fun _ _ _ h => h) (Or.inl ⟨by rfl, ?_⟩) hHeld ?_
      rotate_left
      · intro w hSw
        try dsimp only at hSw
        go_simp
        try with_reducible rfl
      try simp only [Act.put, List.setIfInBounds_toArray, List.set_cons_zero, List.set_cons_succ]
      refine until_take (i := 9) (v := ?_) rfl (by kernel_rfl) (by kernel_rfl) (by kernel_rfl) (by kernel_rfl) (fun _ _ _ h => h) (Or.inl ⟨by rfl, ?_⟩) hHeld ?_
      rotate_left
      · intro w hSw
        try dsimp only at hSw
        go_simp
        try with_reducible rfl
      try simp only [Act.put, List.setIfInBounds_toArray, List.set_cons_zero, List.set_cons_succ]
      refine until_take (i := 10) (v := ?_) rfl (by kernel_rfl) (by kernel_rfl) (by kernel_rfl) (by kernel_rfl) (fun _ _ _ h => h) (Or.inl ⟨by rfl, ?_⟩) hHeld ?_
      rotate_left
      · intro w hSw
        try dsimp only at hSw
        go_simp
        try with_reducible rfl
      try simp only [Act.put, List.setIfInBounds_toArray, List.set_cons_zero, List.set_cons_succ]
      refine until_take (i := 11) (v := ?_) rfl (by kernel_rfl) (by kernel_rfl) (by kernel_rfl) (by kernel_rfl) (fun _ _ _ h => h) (Or.inl ⟨by rfl, ?_⟩) hHeld ?_
      rotate_left
      · intro w hSw
        try dsimp only at hSw
        go_simp
        try with_reducible rfl
      try simp only [Act.put, List.setIfInBounds_toArray, List.set_cons_zero, List.set_cons_succ]
      refine until_take (i := 12) (v := ?_) rfl (by kernel_rfl) (by kernel_rfl) (by kernel_rfl) (by kernel_rfl) (fun _ _ _ h => h) (Or.inl ⟨by rfl, ?_⟩) hHeld ?_
      rotate_left
      · intro w hSw
        try dsimp only at hSw
        go_simp
        try with_reducible rfl
      try simp only [Act.put, List.setIfInBounds_toArray, List.set_cons_zero, List.set_cons_succ]
      refine until_take (i := 13) (v := ?_) rfl (by kernel_rfl) (by kernel_rfl) (by kernel_rfl) (by kernel_rfl) (fun _ _ _ h => h) (Or.inl ⟨by rfl, ?_⟩) hHeld ?_
      rotate_left
      · intro w hSw
        try dsimp only at hSw
        go_simp
        try with_reducible rfl
      try simp only [Act.put, List.setIfInBounds_toArray, List.set_cons_zero, List.set_cons_succ]
      refine until_take (i := 14) (v := ?_) rfl (by kernel_rfl) (by kernel_rfl) (by kernel_rfl) (by kernel_rfl) (fun _ _ _ h => h) (Or.inl ⟨by rfl, ?_⟩) hHeld ?_
      rotate_left
      · intro w hSw
        try dsimp only at hSw
        go_simp
        try with_reducible rfl
      try simp only [Act.put, List.setIfInBounds_toArray, List.set_cons_zero, List.set_cons_succ]
      refine until_one (i := 15) rfl (by kernel_rfl) (fun K hK => ?_)
      go_simp
      refine (comes_nine _ L o xa xb ya yb ar sp pl nn (HQ.out.below ((below_alloc1 _ _).drew)) HXX.out HL.out Hn.out HLE.out ht hkl HST.out).mono ?_
      rintro e w2 ⟨v, m, hst2, rfl, hI2, hkp⟩
      obtain ⟨hk2, hwz2⟩ := do_call HQ.out hkl hI2 hkp
      have HX2 := hide (do_box hkp (fun i hi => (HQ.out.min.1 i hi).2.2.2.lt))
      have HI2 := hide hI2
      have HS2 := hide hst2
      have HBB := hide hI2.bel.size
      clear hI2 hst2 hkp hHeld
      refine hK.out _ _ (.inr hk2) ?_
      clear hK K
      try simp only [Act.put, List.setIfInBounds_toArray, List.set_cons_zero, List.set_cons_succ]
      refine until_one (i := 16) rfl (by kernel_rfl) (fun K hK => ?_)
      go_simp
      have hk2a := do_made HI2.out hk2 hwz2 (.cells #[.int .i64 v] 2)
      refine hK.out _ _ (.inr hk2a) ?_
      clear hK K
      try simp only [Act.put, List.setIfInBounds_toArray, List.set_cons_zero, List.set_cons_succ]
      refine until_one (i := 17) rfl (by kernel_rfl) (fun K hK => ?_)
      refine step_append_lies _ (by rfl) (.tmp 28) (.tmp 33) 36 (by rfl) w0.heap.size 2 i0 (.int .i64 0) 1 8 Try.underlying36 hi hz0 hz1 hz2 rfl (by decide) _ (T + 3) _ (by rfl) (do_own HI2.out hkl _) ⟨w2.heap.size, 0, none⟩ 1 1 [.int .i64 v] (by rfl) rfl (one_cell _ _ _) (by intro u hu; simp at hu; subst hu; rfl) (by decide) (by unfold maxLen; omega) (by omega) (by have := HBB.out; simp; omega) (w2.heap.size + 1) (by simp) ?_
      intro g cap w3 hown3 hgrow3 hat3 hlt3
      obtain ⟨hk3, hf3⟩ := do_append HI2.out hkl hk2 hwz2 HX2.out hgrow3
      have HO3 := hide hown3
      have HG3 := hide hgrow3
      have HA3 := hide hat3
      clear hown3 hgrow3 hat3
      refine hK.out _ _ (.inr hk3) ?_
      clear hK K hk2 hk2a
      try simp only [Act.put, List.setIfInBounds_toArray, List.set_cons_zero, List.set_cons_succ]
      have hHeld := hk3
      have hpc3 := hk3.2.2.2.2.2.2.2.2.2.2
      refine until_take (i := 18) (v := ?_) rfl (by kernel_rfl) (by kernel_rfl) (by kernel_rfl) (by kernel_rfl) (fun _ _ _ h => h) (Or.inl ⟨by rfl, ?_⟩) hHeld ?_
      rotate_left
      · intro w hSw
        try dsimp only at hSw
        go_simp
        try with_reducible rfl
      try simp only [Act.put, List.setIfInBounds_toArray, List.set_cons_zero, List.set_cons_succ]
      refine until_one (i := 19) rfl (by kernel_rfl) (fun K hK => ?_)
      go_simp
      refine hK.out _ _ (.inl rfl) ?_
      clear hK K
      try simp only [Act.put, List.setIfInBounds_toArray, List.set_cons_zero, List.set_cons_succ]
      refine until_done (by kernel_rfl) ?_ _
      refine NoPanic.normal ?_
      clear hk3 hHeld
      go_wp2_with fail
      go_roundw
      case rel => exact ⟨k + 1, by omega, by go_num, _, _, by
        rw [← HCO.out, HS2.out]
        exact (HI2.out.below (below_alloc1 _ _)).push hkl v HO3.out HG3.out (by
          rcases HA3.out with e | e
          · exact .inl e
          · exact .inr (by simp; omega))⟩
      case measure => simp [intOf]; omega
    · have e : k = N := by omega
      subst e
      have HQ := hide hQ
      have hki : ¬ (k : Int) < (L.body.length : Int) := by have := HN.out; omega
      clear hQ
      go_wp2_with fail
      go_end0
      exact ⟨rfl, G, C, HQ.out.next⟩
end Go.Proofs.Ytjjiiacdblhnmaa
