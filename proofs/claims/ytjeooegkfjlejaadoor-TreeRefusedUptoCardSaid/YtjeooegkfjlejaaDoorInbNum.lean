/- cavalcaderef12.Numbers: are two lists of numbers the same? -/
import Derived.Test.YtjeooegkfjlejaaDoorInbPut
namespace Go.Proofs.YtjeooegkfjlejaaDoor
open Go.RowKit
set_option linter.unusedVariables false
set_option linter.unusedSimpArgs false

/-- v reads as the numbers L -/
def NumsV (w : World) (v : Value) (L : List Int) : Prop :=
  ∃ (A : Option Addr) (c : Nat), v = .slice A L.length c ∧ (L ≠ [] → ∃ b off, A = some ⟨b, off, none⟩ ∧ b < w.heap.size ∧ ∀ i, i < L.length → w.cell? ⟨b, off + i, none⟩ = some (.int .i64 (L.getD i 0)))
theorem NumsV.row {w : World} {B c : Nat} {t : TypeId} {L : List Int} (h : Row w B t (Is L)) : NumsV w (.slice (some ⟨B, 0, none⟩) L.length c) L :=
  ⟨_, c, rfl, fun _ => ⟨B, 0, rfl, h.lt, fun i hi => by rw [Nat.zero_add]; exact h.num i hi⟩⟩
theorem NumsV.nil (w : World) : NumsV w (.slice none 0 0) [] := ⟨none, 0, rfl, fun h => absurd rfl h⟩
theorem NumsV.kept {w w' : World} {v : Value} {L : List Int} (h : NumsV w v L) (hg : w.grownBy w' none) : NumsV w' v L := by
  obtain ⟨A, c, rfl, hL⟩ := h
  refine ⟨A, c, rfl, fun hne => ?_⟩
  obtain ⟨b, off, rfl, hb, hc⟩ := hL hne
  exact ⟨b, off, rfl, Nat.lt_of_lt_of_le hb hg.size, fun i hi => (World.cell?_of_block (hg.block b hb (by simp))).trans (hc i hi)⟩

theorem eq_of_getD {L1 L2 : List Int} (hl : L1.length = L2.length) (h : ∀ i, i < L1.length → L1.getD i 0 = L2.getD i 0) : L1 = L2 := by
  apply List.ext_getElem hl
  intro i h1 h2
  have := h i h1
  simpa [List.getD, h1, h2] using this

set_option maxHeartbeats 400000 in
theorem numbers12_any (v1 v2 : Value) (L1 L2 : List Int) (w : World) (h1 : NumsV w v1 L1) (h2 : NumsV w v2 L2) (hl1 : L1.length ≤ 9223372036854775807) (hl2 : L2.length ≤ 9223372036854775807) :
    Calls Tryd.prog 35 #[v1, v2] w fun e w' => e = .returned (.bool (decide (L1 = L2))) ∧ ∃ n, w' = w.drewN n := by
  obtain ⟨A1, c1, rfl, t1⟩ := h1
  obtain ⟨A2, c2, rfl, t2⟩ := h2
  have T1 := Lib.hid t1
  have T2 := Lib.hid t2
  clear t1 t2
  by_cases hl : L1.length = L2.length
  · have hne : ((L1.length : Int) != (L2.length : Int)) = false := by simp [hl]
    have hne' : ((L1.length : Int) == (L2.length : Int)) = true := by simp [hl]
    have Hl := Lib.hid hl
    obtain ⟨m, hm⟩ : ∃ m, m = L2.length := ⟨_, rfl⟩
    rw [← hm] at hl2
    rw [hl, ← hm]
    have hm1 : L1.length = m := hl.trans hm.symm
    have Hm1 := Lib.hid hm1
    clear hl hne hne' hm hm1 hl1
    go_enter Tryd.func35, Tryd.ntmps35
    go_wp2_with fail
    go_loopw [5] (fun i wr => ∃ (k n : Nat), k ≤ m ∧ i = .int .i64 k ∧ wr = w.drewN n ∧ ∀ j, j < k → L1.getD j 0 = L2.getD j 0) (fun i _ => m - (intOf i).toNat)
    case atStart => exact ⟨0, 0, Nat.zero_le _, rfl, rfl, fun j hj => absurd hj (by omega)⟩
    case round =>
      obtain ⟨k, n, hk, rfl, rfl, hall⟩ := hrel
      have Hall := Lib.hid hall
      clear hall
      by_cases hlt : k < m
      · have hlt' : (k : Int) < m := by omega
        have hn1 : L1 ≠ [] := by
          intro e
          have := Hm1.out
          rw [e] at this
          simp at this; omega
        have hn2 : L2 ≠ [] := by
          intro e
          have := Hm1.out
          have h3 := Hl.out
          rw [e] at h3
          simp only [List.length_nil] at h3; omega
        obtain ⟨b1, o1, rfl, hb1, hc1⟩ := T1.out hn1
        obtain ⟨b2, o2, rfl, hb2, hc2⟩ := T2.out hn2
        have e1 := hc1 k (by rw [Hm1.out]; exact hlt)
        have e2 := hc2 k (by rw [← Hl.out, Hm1.out]; exact hlt)
        obtain ⟨x, hx⟩ : ∃ x, x = L1.getD k 0 := ⟨_, rfl⟩
        obtain ⟨y, hy⟩ : ∃ y, y = L2.getD k 0 := ⟨_, rfl⟩
        rw [← hx] at e1
        rw [← hy] at e2
        have Hx := Lib.hid hx
        have Hy := Lib.hid hy
        clear hx hy hc1 hc2 hn1 hn2
        by_cases hxy : x = y
        · have hd : (x != y) = false := by simp [hxy]
          have hd' : (x == y) = true := by simp [hxy]
          have Hxy := Lib.hid hxy
          clear hxy
          go_wp2_with fail
          go_quiet (fail)
          go_wp2_with fail
          refine ⟨⟨k + 1, _, hlt, by go_num, rfl, fun j hj => ?_⟩, by simp [intOf]; omega⟩
          by_cases hjk : j < k
          · exact Hall.out j hjk
          · obtain rfl : j = k := by omega
            rw [← Hx.out, ← Hy.out]; exact Hxy.out
        · have hd : (x != y) = true := by simpa using hxy
          have hd' : (x == y) = false := by simpa using hxy
          have hf : decide (L1 = L2) = false := by
            rw [decide_eq_false_iff_not]
            intro e
            apply hxy
            rw [Hx.out, Hy.out, e]
          have Hf := Lib.hid hf
          clear hxy hf
          go_wp2_with fail
          go_quiet (fail)
          go_wp2_with fail
          go_ret
          rw [Hf.out]
          exact ⟨rfl, _, World.drewN_drewN _ _ _⟩
      · obtain rfl : k = m := by omega
        have ht : decide (L1 = L2) = true := by
          rw [decide_eq_true_eq]
          exact eq_of_getD Hl.out (fun i hi => Hall.out i (by rw [← Hm1.out]; exact hi))
        have Ht := Lib.hid ht
        clear ht
        go_wp2_with fail
        go_ret
        rw [Ht.out]
        exact ⟨rfl, _, rfl⟩
  · have hne : ((L1.length : Int) != (L2.length : Int)) = true := by simp; omega
    have hne' : ((L1.length : Int) == (L2.length : Int)) = false := by simp; omega
    have hf : decide (L1 = L2) = false := by
      rw [decide_eq_false_iff_not]
      intro e; exact hl (by rw [e])
    have Hf := Lib.hid hf
    clear hf hl
    go_enter Tryd.func35, Tryd.ntmps35
    go_wp2_with fail
    go_ret
    rw [Hf.out]
    exact ⟨rfl, 0, rfl⟩
end Go.Proofs.YtjeooegkfjlejaaDoor
