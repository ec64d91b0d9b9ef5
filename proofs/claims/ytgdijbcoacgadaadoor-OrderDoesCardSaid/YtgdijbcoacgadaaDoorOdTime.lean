/- The law's time. -/
import Derived.Test.YtgdijbcoacgadaaDoorOdFrom
import Derived.Test.YtgdijbcoacgadaaDoorOdNone
namespace Go.Proofs.YtgdijbcoacgadaaDoor
open Go.RowKit
set_option linter.unusedVariables false
set_option linter.unusedSimpArgs false
set_option maxRecDepth 100000

theorem OwnL.slR19 {w : World} {base : Nat} {u : Value} {l : List Rp} (h : OwnL w base 30 68 Rp.cells u l) (hf : ∀ b ∈ l, b.Fits) (hl : l.length ≤ 1000000) : ∃ A c, u = .slice A l.length c ∧ SlR w w.heap.size A c l := by
  obtain ⟨A, c, rfl, hc, _⟩ := h.form
  refine ⟨A, c, rfl, fun h0 => ?_, fun e => ?_, hc, hl, hf⟩
  · obtain ⟨g, c', hge, _, hgl⟩ := h.ne h0
    injection hge with ea eb ec
    subst ea
    subst ec
    exact ⟨g, 0, rfl, hgl, fun i hi => by rw [Nat.zero_add]; exact h.at (Rp.lens hf) i hi⟩
  · subst e
    rcases h.own.2 with ⟨e3, hn⟩ | ⟨g, cap, cur, e3, _⟩
    · injection e3 with e1 e2 e3
      exact ⟨List.length_eq_zero_iff.1 hn, e3⟩
    · injection e3 with e1 e2 e3
      cases e1
/-- when a call is, behind some receipts -/
def Od.timeOf (rs : List Rp) (later : Int) : Int := if rs = [] ∨ later < -1000 ∨ 1000 < later then later else Od.last rs + later
theorem Od.Good.times {rs : List Rp} (h : Od.Good rs) : ∀ r ∈ rs, 0 ≤ r.time ∧ r.time ≤ 1099511627776 := by
  intro r hr
  obtain ⟨k, hk, rfl⟩ := List.getElem_of_mem hr
  have := (h.took k hk).rok
  rw [Rp.ok_iff] at this
  exact this.2.2.1
set_option maxHeartbeats 3200000 in
theorem time19_any (a : Act19) (rs : List Rp) (A : Option Addr) (c : Nat) (w : World) (h : SlR w w.heap.size A c rs) (ht : ∀ r ∈ rs, 0 ≤ r.time ∧ r.time ≤ 1099511627776) :
    Calls Tryd.prog 13 #[.slice A rs.length c, .agg a.cells.toArray] w fun e w' => e = .returned (.int .i64 (Od.timeOf rs a.later)) ∧ Below w.heap.size w w' := by
  have HB0 := Lib.hid ((Below.refl w.heap.size w).alloc (Nat.le_refl _) (.cells a.cells.toArray 32))
  have c1 := (Act19.box (Row.new w 32 a.cells)).2.1
  unfold Od.timeOf
  match hn : rs.length with
  | 0 =>
    rw [if_pos (.inl (List.length_eq_zero_iff.1 hn))]
    generalize a.cells = CA at *
    generalize a.later = al at *
    clear h ht hn
    go_enter Tryd.func13, Tryd.ntmps13
    go_wp2_with fail
    go_ret
    exact ⟨rfl, HB0.out⟩
  | m + 1 =>
    have hne : rs ≠ [] := by intro e; rw [e] at hn; cases hn
    obtain ⟨n, hnn⟩ : ∃ n, n = m + 1 := ⟨_, rfl⟩
    have dn : decide ((n : Int) = 0) = false := decide_eq_false (by omega)
    have dnb : ((n : Int) == 0) = false := by simp; omega
    have dn' : ((n : Int) = 0) = False := by simp; omega
    have dn'' : (n = 0) = False := by simp; omega
    rw [← hnn]
    by_cases h1 : a.later < -1000
    · rw [if_pos (.inr (.inl h1))]
      generalize a.cells = CA at *
      generalize a.later = al at *
      have d1 : decide (al < -1000) = true := decide_eq_true h1
      clear h ht hn hne hnn
      go_enter Tryd.func13, Tryd.ntmps13
      go_wp2_with fail
      go_ret
      exact ⟨rfl, HB0.out⟩
    by_cases h2 : 1000 < a.later
    · rw [if_pos (.inr (.inr h2))]
      generalize a.cells = CA at *
      generalize a.later = al at *
      have d1 : decide (al < -1000) = false := decide_eq_false h1
      have d2 : decide (al > 1000) = true := decide_eq_true h2
      have d2' : decide (1000 < al) = true := decide_eq_true h2
      clear h ht hn hne hnn
      go_enter Tryd.func13, Tryd.ntmps13
      go_wp2_with fail
      go_ret
      exact ⟨rfl, HB0.out⟩
    rw [if_neg (fun q => q.elim hne (fun q => q.elim h1 h2))]
    obtain ⟨gA, oA, rfl, hg, hat⟩ := h.1 hne
    have hml : m < rs.length := by omega
    have hlast := (Od.last_at hn).2
    have htm := ht _ (List.getElem_mem hml)
    have hf := h.2.2.2.2 _ (List.getElem_mem hml)
    have hc2 : w.cell? ⟨gA, oA + m * 68 + 2, none⟩ = some (.int .i64 (Od.last rs)) := by rw [hlast]; exact (Rp.at hf.prev (hat m hml)).2.2.1
    rw [← hlast] at htm
    generalize Od.last rs = lt at *
    generalize a.cells = CA at *
    generalize a.later = al at *
    have d1 : decide (al < -1000) = false := decide_eq_false h1
    have d2 : decide (al > 1000) = false := decide_eq_false h2
    have d2' : decide (1000 < al) = false := decide_eq_false h2
    have e1 : IntKind.i64.wrap ((n : Int) - 1) = (m : Int) := by rw [IntWalk.i64_in _ (by have := h.2.2.2.1; omega)]; omega
    have e2 : IntKind.i64.wrap (lt + al) = lt + al := IntWalk.i64_in _ (by omega)
    have hmn : (m : Int) < (n : Int) := by omega
    have hm0 : (0 : Int) ≤ (m : Int) := by omega
    have HTm : Hid (∀ W, Below (w.alloc (.cells CA.toArray 32)).heap.size (w.alloc (.cells CA.toArray 32)) W → W.cell? ⟨gA, oA + m * 68 + 2, none⟩ = some (.int .i64 lt)) := Lib.hid (fun W hW => ((two_below' HB0.out hW).cell (p := ⟨gA, oA + m * 68 + 2, none⟩) hg).trans hc2)
    have HAc : Hid (∀ W, Below (w.alloc (.cells CA.toArray 32)).heap.size (w.alloc (.cells CA.toArray 32)) W → W.cell? ⟨w.heap.size, 1, none⟩ = some (.int .i64 al)) := Lib.hid (fun W hW => (hW.cell (p := ⟨w.heap.size, 1, none⟩) (by simp)).trans c1)
    have c1' := HAc.out _ (Below.refl _ _)
    clear h ht hn hne hnn h1 h2 hg hat hml hlast htm hf hc2 c1
    go_enter Tryd.func13, Tryd.ntmps13
    go_wp2_with fail
    generalize w.alloc (.cells CA.toArray 32) = wA at *
    clear c1'
    refine wp_region_held_drew (S := fun w' => Below wA.heap.size wA w') (by kernel_rfl) ((Below.refl _ _).drew) (fun hHeld => ?_)
    generalize wA.drew = wq at *
    refine wpAnyH_take (i := 0) (v := .slice (some ⟨gA, oA, none⟩) n c) rfl (by kernel_rfl) (by kernel_rfl) (by kernel_rfl) (fun _ _ _ h => h) (Or.inl ⟨by rfl, fun w' hSw => by go_simp⟩) hHeld ?_
    try simp only [Act.put, List.getElem_toArray, List.getElem_cons_succ, List.getElem_cons_zero, List.setIfInBounds_toArray, List.set_cons_zero, List.set_cons_succ]
    refine wpAnyH_take (i := 1) (v := .slice (some ⟨gA, oA, none⟩) n c) rfl (by kernel_rfl) (by kernel_rfl) (by kernel_rfl) (fun _ _ _ h => h) (Or.inl ⟨by rfl, fun w' hSw => by go_simp⟩) hHeld ?_
    try simp only [Act.put, List.getElem_toArray, List.getElem_cons_succ, List.getElem_cons_zero, List.setIfInBounds_toArray, List.set_cons_zero, List.set_cons_succ]
    refine wpAnyH_take (i := 2) (v := .int .i64 n) rfl (by kernel_rfl) (by kernel_rfl) (by kernel_rfl) (fun _ _ _ h => h) (Or.inl ⟨by rfl, fun w' hSw => by go_simp⟩) hHeld ?_
    try simp only [Act.put, List.getElem_toArray, List.getElem_cons_succ, List.getElem_cons_zero, List.setIfInBounds_toArray, List.set_cons_zero, List.set_cons_succ]
    refine wpAnyH_take (i := 3) (v := .int .i64 m) rfl (by kernel_rfl) (by kernel_rfl) (by kernel_rfl) (fun _ _ _ h => h) (Or.inl ⟨by rfl, fun w' hSw => by go_simp⟩) hHeld ?_
    try simp only [Act.put, List.getElem_toArray, List.getElem_cons_succ, List.getElem_cons_zero, List.setIfInBounds_toArray, List.set_cons_zero, List.set_cons_succ]
    refine wpAnyH_take (i := 4) (v := .pointer (some ⟨gA, (oA + m * 68), none⟩)) rfl (by kernel_rfl) (by kernel_rfl) (by kernel_rfl) (fun _ _ _ h => h) (Or.inl ⟨by rfl, fun w' hSw => by go_simp⟩) hHeld ?_
    try simp only [Act.put, List.getElem_toArray, List.getElem_cons_succ, List.getElem_cons_zero, List.setIfInBounds_toArray, List.set_cons_zero, List.set_cons_succ]
    refine wpAnyH_take (i := 5) (v := .pointer (some ⟨gA, (oA + m * 68 + 2), none⟩)) rfl (by kernel_rfl) (by kernel_rfl) (by kernel_rfl) (fun _ _ _ h => h) (Or.inl ⟨by rfl, fun w' hSw => by go_simp⟩) hHeld ?_
    try simp only [Act.put, List.getElem_toArray, List.getElem_cons_succ, List.getElem_cons_zero, List.setIfInBounds_toArray, List.set_cons_zero, List.set_cons_succ]
    refine wpAnyH_take (i := 6) (v := .int .i64 lt) rfl (by kernel_rfl) (by kernel_rfl) (by kernel_rfl) (fun _ _ _ h => h) (Or.inl ⟨by rfl, fun w' hSw => by have hq := hSw; have hd := HTm.out _ hq; go_simp⟩) hHeld ?_
    try simp only [Act.put, List.getElem_toArray, List.getElem_cons_succ, List.getElem_cons_zero, List.setIfInBounds_toArray, List.set_cons_zero, List.set_cons_succ]
    refine wpAnyH_take (i := 7) (v := .pointer (some ⟨w.heap.size, 1, none⟩)) rfl (by kernel_rfl) (by kernel_rfl) (by kernel_rfl) (fun _ _ _ h => h) (Or.inl ⟨by rfl, fun w' hSw => by go_simp⟩) hHeld ?_
    try simp only [Act.put, List.getElem_toArray, List.getElem_cons_succ, List.getElem_cons_zero, List.setIfInBounds_toArray, List.set_cons_zero, List.set_cons_succ]
    refine wpAnyH_take (i := 8) (v := .int .i64 al) rfl (by kernel_rfl) (by kernel_rfl) (by kernel_rfl) (fun _ _ _ h => h) (Or.inl ⟨by rfl, fun w' hSw => by have hq := hSw; have hd := HAc.out _ hq; go_simp⟩) hHeld ?_
    try simp only [Act.put, List.getElem_toArray, List.getElem_cons_succ, List.getElem_cons_zero, List.setIfInBounds_toArray, List.set_cons_zero, List.set_cons_succ]
    refine wpAnyH_take (i := 9) (v := .int .i64 (lt + al)) rfl (by kernel_rfl) (by kernel_rfl) (by kernel_rfl) (fun _ _ _ h => h) (Or.inl ⟨by rfl, fun w' hSw => by go_simp⟩) hHeld ?_
    try simp only [Act.put, List.getElem_toArray, List.getElem_cons_succ, List.getElem_cons_zero, List.setIfInBounds_toArray, List.set_cons_zero, List.set_cons_succ]
    refine wpAnyH_take (i := 10) (v := .int .i64 (lt + al)) rfl (by kernel_rfl) (by kernel_rfl) (by kernel_rfl) (fun _ _ _ h => h) (Or.inl ⟨by rfl, fun w' hSw => by go_simp⟩) hHeld ?_
    try simp only [Act.put, List.getElem_toArray, List.getElem_cons_succ, List.getElem_cons_zero, List.setIfInBounds_toArray, List.set_cons_zero, List.set_cons_succ]
    refine wpAnyH_done (by kernel_rfl) ?_ _
    go_wp2_with fail
    go_ret
    exact ⟨rfl, two_below' HB0.out hHeld⟩
end Go.Proofs.YtgdijbcoacgadaaDoor
