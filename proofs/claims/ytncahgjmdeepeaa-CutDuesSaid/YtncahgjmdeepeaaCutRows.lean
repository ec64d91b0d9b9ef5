/- Layer 21: receipts in a row. -/
import Derived.Test.YtncahgjmdeepeaaCutRefN
import Derived.Great.BuildSlice
namespace Go.Proofs.Ytncahgjmdeepeaa
open Go.RowKit
set_option linter.unusedVariables false
set_option linter.unusedSimpArgs false

def RcOk (x : Rc) : Prop := x.rest.length = 64 ∧ x.body.size ≤ 140737488351232 ∧ ∀ v ∈ x.rest, v.oneCell' = true
theorem rcL_length {x : Rc} (h : RcOk x) : (rcL x).length = 68 := by simp [rcL, h.1]
theorem flat_at : ∀ (l : List Rc) (hl : ∀ x ∈ l, RcOk x) (i : Nat) (hi : i < l.length) (j : Nat) (hj : j < 68), (l.flatMap rcL)[i * 68 + j]? = (rcL l[i])[j]?
  | x :: l, hl, 0, hi, j, hj => by
    have h := rcL_length (hl x (by simp))
    simp only [List.flatMap_cons, Nat.zero_mul, Nat.zero_add, List.getElem_cons_zero]
    rw [List.getElem?_append_left (by omega)]
  | x :: l, hl, i + 1, hi, j, hj => by
    have h := rcL_length (hl x (by simp))
    have ih := flat_at l (fun y hy => hl y (by simp [hy])) i (by simpa using hi) j hj
    simp only [List.flatMap_cons, List.getElem_cons_succ]
    rw [List.getElem?_append_right (by omega), ← ih]
    congr 1
    omega
theorem flat_length : ∀ (l : List Rc), (∀ x ∈ l, RcOk x) → (l.flatMap rcL).length = l.length * 68
  | [], _ => rfl
  | x :: l, hl => by
    have h := rcL_length (hl x (by simp))
    have ih := flat_length l (fun y hy => hl y (by simp [hy]))
    simp only [List.flatMap_cons, List.length_append, List.length_cons, h, ih]
    omega
theorem flat_one (l : List Rc) (hl : ∀ x ∈ l, RcOk x) : ∀ v ∈ l.flatMap rcL, v.oneCell' = true := by
  intro v hv
  obtain ⟨x, hx, hv'⟩ := List.mem_flatMap.1 hv
  unfold rcL at hv'
  rcases List.mem_append.1 hv' with h | h
  · simp at h
    rcases h with rfl | rfl | rfl | rfl <;> rfl
  · exact (hl x hx).2.2 v h
/-- cells that hold receipts -/
theorem rcs_cells {w : World} {g : Nat} {l : List Rc} (hl : ∀ x ∈ l, RcOk x) (hg : g < w.heap.size) (h : ∀ j u, (l.flatMap rcL)[j]? = some u → w.cell? ⟨g, j, none⟩ = some u) : RcsAt w (some ⟨g, 0, none⟩) l := by
  intro hne
  refine ⟨g, 0, rfl, hg, fun i hi => ⟨fun j v hv => ?_, hl _ (List.getElem_mem hi)⟩⟩
  have hj : j < 68 := by
    have := (List.getElem?_eq_some_iff.1 hv).1
    rw [rcL_length (hl _ (List.getElem_mem hi))] at this
    exact this
  have := h (i * 68 + j) v (by rw [flat_at l hl i hi j hj]; exact hv)
  rw [show 0 + i * 68 + j = i * 68 + j by omega]
  exact this
theorem rcs_row {w : World} {g : Nat} {t : TypeId} {l : List Rc} (hl : ∀ x ∈ l, RcOk x) (h : Row w g t (l.flatMap rcL)) : RcsAt w (some ⟨g, 0, none⟩) l :=
  rcs_cells hl h.lt fun j u hj => by
    obtain ⟨hlt, he⟩ := List.getElem?_eq_some_iff.1 hj
    rw [h.cell j hlt, he]
theorem RcsAt.take {w : World} {A : Option Addr} {l : List Rc} (h : RcsAt w A l) (n : Nat) : RcsAt w A (l.take n) := by
  intro hne
  have hl : l ≠ [] := by rintro rfl; simp at hne
  obtain ⟨b, off, rfl, hb, hc⟩ := h hl
  refine ⟨b, off, rfl, hb, fun i hi => ?_⟩
  have hi' : i < l.length := by simp at hi; omega
  have := hc i hi'
  simpa using this
theorem RcsAt.drop {w : World} {b off : Nat} {l : List Rc} (h : RcsAt w (some ⟨b, off, none⟩) l) (n : Nat) : RcsAt w (some ⟨b, off + n * 68, none⟩) (l.drop n) := by
  intro hne
  have hn : n < l.length := by
    rcases Nat.lt_or_ge n l.length with h | h
    · exact h
    · exact absurd (List.drop_of_length_le h) hne
  have hl : l ≠ [] := by rintro rfl; simp at hn
  obtain ⟨b', off', he, hb, hc⟩ := h hl
  obtain ⟨rfl, rfl⟩ : b = b' ∧ off = off' := by simpa using he
  refine ⟨b, _, rfl, hb, fun i hi => ?_⟩
  have hi' : n + i < l.length := by simp at hi; omega
  have := hc (n + i) hi'
  rw [List.getElem_drop]
  rw [show off + n * 68 + i * 68 = off + (n + i) * 68 by omega]
  exact this
theorem RcsAt.nil (w : World) (A : Option Addr) : RcsAt w A [] := fun h => absurd rfl h
theorem RcsAt.kept {w w' : World} {A : Option Addr} {l : List Rc} (h : RcsAt w A l) (hg : w.grownBy w' none) : RcsAt w' A l := by
  intro hne
  obtain ⟨b, off, rfl, hlt, hc⟩ := h hne
  refine ⟨b, off, rfl, Nat.lt_of_lt_of_le hlt hg.size, fun i hi => ⟨fun j v hv => ?_, (hc i hi).2⟩⟩
  exact hg.cell ((hc i hi).1 j v hv) (by simp)
/-- a receipt of a time -/
def rcT (k t : Int) (s : ByteArray) : Rc := ⟨0, k, t, s, List.replicate 64 (.int .u8 0)⟩
theorem rcT_ok (k t : Int) (s : ByteArray) (h : s.size ≤ 140737488351232) : RcOk (rcT k t s) := ⟨rfl, h, fun v hv => by rw [List.eq_of_mem_replicate hv]; rfl⟩
theorem built_3 : Try.prog.built 44 [(2, .int .i64 3)] = some (rcA (rcT 0 3 ByteArray.empty)) := by kernel_rfl
theorem built_4 : Try.prog.built 44 [(2, .int .i64 4)] = some (rcA (rcT 0 4 ByteArray.empty)) := by kernel_rfl
theorem built_a : Try.prog.built 44 [(1, .int .i64 1), (3, .string ⟨#[97]⟩)] = some (rcA (rcT 1 0 ⟨#[97]⟩)) := by kernel_rfl
def three : List Rc := [rcT 0 3 ByteArray.empty, rcT 0 4 ByteArray.empty, rcT 0 4 ByteArray.empty]
def single : List Rc := [rcT 1 0 ⟨#[97]⟩]
theorem rc_info : (Try.prog.info? 44).map (fun i => (i.zero, i.size)) = some (some (.agg rcZero), 68) := by kernel_rfl
theorem fill_three : Instr.fill (fun i => some (i * 68, 68)) ((Array.range (3 * 68)).map ((Value.agg rcZero).cells[· % (Value.agg rcZero).cells.size]!)) [(0, .agg (rcA (rcT 0 3 ByteArray.empty))), (1, .agg (rcA (rcT 0 4 ByteArray.empty))), (2, .agg (rcA (rcT 0 4 ByteArray.empty)))] = some (three.flatMap rcL).toArray := by kernel_rfl
theorem fill_single : Instr.fill (fun i => some (i * 68, 68)) ((Array.range (1 * 68)).map ((Value.agg rcZero).cells[· % (Value.agg rcZero).cells.size]!)) [(0, .agg (rcA (rcT 1 0 ⟨#[97]⟩)))] = some (single.flatMap rcL).toArray := by kernel_rfl
theorem fill_rc (x : Rc) (hx : RcOk x) : Instr.fill (fun i => some (i * 68, 68)) ((Array.range (1 * 68)).map ((Value.agg rcZero).cells[· % (Value.agg rcZero).cells.size]!)) [(0, .agg (rcA x))] = some (rcL x).toArray := by
  have hs : (rcA x).size = 68 := by simp [rcA, rcL_length hx]
  have := Go.Great.fill_whole (s := 68) (by decide) [Value.agg (rcA x)] ((Array.range (1 * 68)).map ((Value.agg rcZero).cells[· % (Value.agg rcZero).cells.size]!)) (fun v hv => by
    obtain rfl : v = Value.agg (rcA x) := by simpa using hv
    exact hs) (by simp)
  simp [Value.cells] at this
  exact this
end Go.Proofs.Ytncahgjmdeepeaa
