/- 'm[k]++' on a map of the call's own, whose keys are structs: the entry first, the look-up before or behind it, then the store; no Go in sight. -/
import Derived.WideKeyEntry
import Derived.Maps.Own
import Derived.Maps.Views
namespace Go.Proofs.Ytlgphgfldfjkkaa
open Go.ChangeMaps Go.MapKept
open Go.WideMaps (KeyLaw)
open Go.WideElems (Fit)
open Go.Maps (Keyed)
set_option linter.unusedVariables false

theorem set_inj {w : World} {b : Nat} {es : Array MapEntry} {clock : Nat} (hb : w.heap[b]? = some (.map es clock)) {o o' : Obj} (h : setBlock w b o = setBlock w b o') : o = o' := by
  have h1 := heap_setBlock_same hb o
  have h2 := heap_setBlock_same hb o'
  rw [h, h2] at h1
  exact (Option.some.inj h1).symm
theorem grown_set {w : World} {b : Nat} {es : Array MapEntry} {clock : Nat} (hb : w.heap[b]? = some (.map es clock)) (o : Obj) : w.grownBy (setBlock w b o) (some b) :=
  ⟨rfl, rfl, rfl, by simp [setBlock], fun i _ hi => heap_setBlock_other hb _ (fun e => hi (by rw [e]))⟩
section
variable {H : Type} {P : Program} {w : World} {t k e : TypeId} {b n : Nat} {D : DataW H}

theorem entry_own (K : KeyLaw P k) (ht : P.underlying t = some (.map k e)) (he : P.underlying e = some (.int .i64)) (hz : ∀ u : World, (zeroValue e).run P u = .ok (.int .i64 0) u) (h : w.ownsMap P k (plainElem P e) b n D) (hn : n < maxLen)
    {key : Value} {kl : Lit} (hkey : keyOf P k key = some kl) {c : Int} (hc : (Instr.lookup t (.map (some b)) key false).run P w = .ok (.int .i64 c) w) :
    ∃ v0 st w1, (Instr.mapEntry t (.map (some b)) key).run P w = .ok (.tuple #[v0, goInt st]) w1 ∧ w.grownBy w1 (some b) ∧ (Instr.lookup t (.map (some b)) key false).run P w1 = .ok (.int .i64 c) w1 ∧
      ∀ (w2 : World) (a : Int), w2.heap[b]? = w1.heap[b]? → (Lit.int .i64 a).wf = true → ∃ w3, (Instr.entryStore t (.map (some b)) (goInt st) (.int .i64 a)).run P w2 = .ok () w3 ∧ w2.grownBy w3 (some b) ∧ w3.ownsMap P k (plainElem P e) b (n + 1) (D.put kl (.lit (.int .i64 a))) := by
  have hK := Keyed.of_law K
  obtain ⟨es, clock, hb, F, hs, hD⟩ := h
  have hown : w.ownsMap P k (plainElem P e) b n D := ⟨es, clock, hb, F, hs, hD⟩
  obtain ⟨v0, st, es1, clock1, hrun, hcase, hstore⟩ := WideElems.entry_then_store K ht hz hb F hkey
  have hb1 : (setBlock w b (.map es1 clock1)).heap[b]? = some (.map es1 clock1) := heap_setBlock_same hb _
  refine ⟨v0, st, setBlock w b (.map es1 clock1), hrun, grown_set hb _, ?_, ?_⟩
  · -- the look-up behind the entry
    have hz0 : plainElem (H := H) P e (.int .i64 0) = some (.lit (.int .i64 0), []) := plainElem_int he (by decide)
    have hfind := K.find w hkey es.toList F.keys
    obtain ⟨s1, s2, _⟩ := F.stamped
    rcases hfind with ⟨h1, h2⟩ | ⟨j, e0, h1, h2, h3⟩
    · -- it was not there
      have he1 : setBlock w b (.map es1 clock1) = setBlock w b (.map (es.push ⟨key, .int .i64 0, clock⟩) (clock + 1)) := by
        have hr : (Instr.mapEntry t (.map (some b)) key).run P w = .ok (.tuple #[.int .i64 0, goInt clock]) (setBlock w b (.map (es.push ⟨key, .int .i64 0, clock⟩) (clock + 1))) := by
          simp [Instr.mapEntry, run_underlying ht, MapKept.run_getObj_map hb, K.check w false hkey, h1, hz, MapKept.run_setObj_map _ hb, Result.andThen, setBlock]
        exact (Result.ok.inj (hrun.symm.trans hr)).2
      have hu : (Instr.mapUpdate t (.map (some b)) key (.int .i64 0)).run P w = .ok () (setBlock w b (.map (es.push ⟨key, .int .i64 0, clock⟩) (clock + 1))) := by
        simp [Instr.mapUpdate, run_underlying ht, MapKept.run_getObj_map hb, K.check w false hkey, h1, MapKept.run_setObj_map _ hb, Result.andThen, setBlock]
      obtain ⟨w', hu', hown', _⟩ := hown.update hK ht hn hkey hz0
      have hw' := (Result.ok.inj (hu.symm.trans hu')).2
      obtain ⟨c', hl, hat, _⟩ := hown.lookup_int hK ht he (hz w) hkey
      have hcc : c = c' := (Value.int.inj (Result.ok.inj (hc.symm.trans hl)).1).2
      subst hcc
      have hlz : (Instr.lookup t (.map (some b)) key false).run P w = .ok (.int .i64 0) w := by
        rcases Maps.fit_look false hK ht (hz w) hb F hkey with ⟨hr, _, _⟩ | ⟨e0, y, hm, hk, _⟩
        · exact hr
        · exact absurd hk (h2 e0 hm)
      have hc0 : (0 : Int) = c := (Value.int.inj (Result.ok.inj (hlz.symm.trans hc)).1).2
      rw [he1, hw']
      have hd : w'.ownsMap P k (plainElem P e) b (n + 1) (D.put kl (.lit (.int .i64 0))) := hown'
      obtain ⟨c2, hl2, hat2, _⟩ := hd.lookup_int hK ht he (hz _) hkey
      rw [hl2]
      have hm : Maps.IsMap D := by rw [hD]; exact ⟨_, rfl⟩
      rw [Maps.atKey_put_same hm (hK.key hkey)] at hat2
      injection hat2 with e1
      injection e1 with _ e2
      rw [← e2, ← hc0]
    · have hj : es[j]? = some e0 := by simpa using h2
      have hsame : es.modify j (fun e => { e with key := key }) = es := by
        apply Array.ext'
        rw [Array.toList_modify, modify_eq_set _ _ _ _ h2]
        have : ({ e0 with key := key } : MapEntry) = e0 := by rw [← h3]
        rw [this]
        exact WideElems.set_self _ _ _ h2
      have he1 : setBlock w b (.map es1 clock1) = setBlock w b (.map es clock) := by
        have hr : (Instr.mapEntry t (.map (some b)) key).run P w = .ok (.tuple #[e0.val, goInt e0.born]) (setBlock w b (.map es clock)) := by
          simp [Instr.mapEntry, run_underlying ht, MapKept.run_getObj_map hb, K.check w false hkey, h1, hj, h3, K.stays w hkey, hsame, MapKept.run_setObj_map _ hb, Result.andThen, setBlock]
        exact (Result.ok.inj (hrun.symm.trans hr)).2
      rw [he1]
      have hd : (setBlock w b (.map es clock)).ownsMap P k (plainElem P e) b n D := ⟨es, clock, heap_setBlock_same hb _, F, hs, hD⟩
      obtain ⟨c2, hl2, hat2, _⟩ := hd.lookup_int hK ht he (hz _) hkey
      obtain ⟨c', hl, hat, _⟩ := hown.lookup_int hK ht he (hz w) hkey
      have hcc : c = c' := (Value.int.inj (Result.ok.inj (hc.symm.trans hl)).1).2
      rw [hl2]
      rw [hat] at hat2
      injection hat2 with e1
      injection e1 with _ e2
      rw [hcc, e2]
  · intro w2 a hw2 ha
    rw [hb1] at hw2
    obtain ⟨es', clock', hr1, hr2⟩ := hstore w2 (.int .i64 a) hw2
    obtain ⟨w', hu', hown', _⟩ := hown.update hK ht hn hkey (plainElem_int he ha)
    have hw' := (Result.ok.inj (hr2.symm.trans hu')).2
    refine ⟨_, hr1, grown_set hw2 _, ?_⟩
    rw [← hw'] at hown'
    obtain ⟨es3, clock3, hb3, F3, hs3, hD3⟩ := hown'
    rw [heap_setBlock_same hb] at hb3
    exact ⟨es3, clock3, by rw [heap_setBlock_same hw2]; exact hb3, F3, hs3, hD3⟩
end
end Go.Proofs.Ytlgphgfldfjkkaa
