/- Lists of structs in rows of the call's own. -/
import Derived.Test.YtgdijbcoacgadaaDoorSlD
import Derived.Test.YtgdijbcoacgadaaDoorRwMath
import Derived.Deep.DeepAppendWide
import Derived.Deep.MidRow
import Derived.RangeFuncBox
namespace Go.Proofs.YtgdijbcoacgadaaDoor
open Go.RowKit
set_option linter.unusedVariables false
set_option linter.unusedSimpArgs false

/-- a list of structs in a row of the call's own -/
structure OwnL {α : Type} (w : World) (base : Nat) (e : TypeId) (m : Nat) (f : α → List Value) (v : Value) (l : List α) : Prop where
  own : w.ownsRow base e m v l.length (Rw.flat f l)
section
variable {α : Type} {w : World} {base : Nat} {e : TypeId} {m : Nat} {f : α → List Value} {v : Value} {l : List α}
theorem OwnL.nil (w : World) (base : Nat) (e : TypeId) (m : Nat) (f : α → List Value) : OwnL w base e m f (.slice none 0 0) ([] : List α) := ⟨World.ownsRow_nil _ _ _ _⟩
theorem OwnL.kept {w' : World} {r : Option Nat} (h : OwnL w base e m f v l) (hg : w.grownBy w' r) (hne : v.ownBlock = none ∨ v.ownBlock ≠ r) : OwnL w' base e m f v l := ⟨h.own.kept hg hne⟩
theorem OwnL.below {w' : World} (h : OwnL w base e m f v l) (hb : Below w.heap.size w w') : OwnL w' base e m f v l :=
  h.kept (grownBy_of_below hb none) (by cases hv : v.ownBlock <;> simp)
theorem OwnL.alloc (h : OwnL w base e m f v l) (o : Obj) : OwnL (w.alloc o) base e m f v l := ⟨h.own.alloc o⟩
theorem OwnL.mono {base' : Nat} (h : OwnL w base e m f v l) (hb : base' ≤ base) : OwnL w base' e m f v l := by
  refine ⟨h.own.1, ?_⟩
  rcases h.own.2 with hn | ⟨g, cap, cur, hv, hbb, rest⟩
  · exact .inl hn
  · exact .inr ⟨g, cap, cur, hv, by omega, rest⟩
theorem OwnL.lt (h : OwnL w base e m f v l) : ∀ k, v.ownBlock = some k → base ≤ k ∧ k < w.heap.size := h.own.lt
theorem OwnL.form (h : OwnL w base e m f v l) : ∃ A c, v = .slice A l.length c ∧ l.length ≤ c ∧ c ≤ maxLen := by
  rcases h.own.2 with ⟨rfl, h0⟩ | ⟨g, cap, cur, rfl, _, _, h1, h2, _⟩
  · exact ⟨none, 0, by rw [h0], by omega, by unfold maxLen; omega⟩
  · exact ⟨_, _, rfl, h1, h2⟩
theorem OwnL.ne (h : OwnL w base e m f v l) (h0 : l ≠ []) : ∃ g c, v = .slice (some ⟨g, 0, none⟩) l.length c ∧ base ≤ g ∧ g < w.heap.size := by
  rcases h.own.2 with ⟨rfl, h1⟩ | ⟨g, cap, cur, rfl, hb, hg, _⟩
  · exact absurd (List.length_eq_zero_iff.1 h1) h0
  · exact ⟨g, cap, rfl, hb, (Array.getElem?_eq_some_iff.1 hg).1⟩
/-- the row's type -/
theorem OwnL.type {g n c : Nat} (h : OwnL w base e m f (.slice (some ⟨g, 0, none⟩) n c) l) : ∃ cur, w.heap[g]? = some (.cells cur e (0, 0)) := by
  rcases h.own.2 with ⟨h', _⟩ | ⟨g', cap', cur, h', _, hg, _⟩
  · simp at h'
  · simp only [Value.slice.injEq, Option.some.injEq, Addr.mk.injEq, and_true, true_and] at h'
    obtain ⟨rfl, _⟩ := h'
    exact ⟨cur, hg⟩
theorem OwnL.ne_row {g n c B : Nat} {T : TypeId} {xs : List Value} (h : OwnL w base e m f (.slice (some ⟨g, 0, none⟩) n c) l) (hr : Row w B T xs) (hT : T ≠ e) : B ≠ g := by
  rintro rfl
  obtain ⟨cur, hc⟩ := h.type
  unfold Row at hr
  rw [hr] at hc
  simp at hc
  exact hT hc.2
theorem OwnL.ne_block {B : Nat} {T : TypeId} {xs : List Value} (h : OwnL w base e m f v l) (hr : Row w B T xs) (hT : T ≠ e) : v.ownBlock ≠ Option.some B := by
  intro hv
  obtain ⟨A, c, rfl, _⟩ := h.form
  rcases h.own.2 with ⟨h', _⟩ | ⟨g, cap, cur, h', _, hg, _⟩
  · rw [h'] at hv; simp [Value.ownBlock] at hv
  · rw [h'] at hv
    simp [Value.ownBlock] at hv
    subst hv
    unfold Row at hr
    rw [hr] at hg
    simp at hg
    exact hT hg.2
/-- what lies at a place -/
theorem OwnL.at {g n c : Nat} (h : OwnL w base e m f (.slice (Option.some ⟨g, 0, none⟩) n c) l) (hm : ∀ x ∈ l, (f x).length = m) (k : Nat) (hk : k < l.length) : w.rangeAt g (k * m) (f l[k]) := by
  intro j v hv
  have h1 := Rw.flat_at hm k hk j v hv
  have hn : n = l.length := by
    rcases h.own.2 with ⟨h', _⟩ | ⟨_, _, _, h', _⟩
    · simp at h'
    · injection h'
  subst hn
  have hlt := (List.getElem?_eq_some_iff.1 h1).1
  rw [h.own.1] at hlt
  exact (h.own.cellAt _ hlt).trans h1
theorem OwnL.cell {g n c : Nat} (h : OwnL w base e m f (.slice (Option.some ⟨g, 0, none⟩) n c) l) (hm : ∀ x ∈ l, (f x).length = m) (k : Nat) (hk : k < l.length) (j : Nat) (u : Value) (hu : (f l[k])[j]? = Option.some u) : w.cell? ⟨g, k * m + j, none⟩ = Option.some u := h.at hm k hk j u hu
/-- a store of a whole struct -/
theorem wpList_store_own {P : Program} {ops : Array Oper} {rest : List Oper} {op : Oper} {a : Act} {Q : Exit → Act → World → Prop} (hgd : op.guard = none) (ty : TypeId) (x y : Operand) (ho : op.op = .store ty x y)
    {g n c : Nat} (k : Nat) (u : α) (h : OwnL w base e m f (.slice (Option.some ⟨g, 0, none⟩) n c) l) (hm : ∀ x ∈ l, (f x).length = m) (hu : (f u).length = m) (hk : k < l.length)
    (hx : a.eval x = .pointer (Option.some ⟨g, k * m, none⟩)) (hy : a.eval y = .agg (f u).toArray) (hi : (P.info? ty).map (·.size) = Option.some m) (h1 : ∀ v ∈ f u, v.oneCell' = true)
    (K : ∀ w', OwnL w' base e m f (.slice (Option.some ⟨g, 0, none⟩) n c) (l.set k u) → w.grownBy w' (Option.some g) → wpList P ops Q rest (a.put op.dst undef) w') : wpList P ops Q (op :: rest) a w := by
  rcases h.own.2 with ⟨h', _⟩ | ⟨g', cap', cur, h', hb, hg, hnc, hcm, hcs, htake⟩
  · simp at h'
  · simp only [Value.slice.injEq, Option.some.injEq, Addr.mk.injEq, and_true, true_and] at h'
    obtain ⟨rfl, rfl, rfl⟩ := h'
    have hle : k * m + m ≤ l.length * m := by
      have : (k + 1) * m ≤ l.length * m := Nat.mul_le_mul_right m (by omega)
      rw [Nat.succ_mul] at this; exact this
    have hle2 : l.length * m ≤ c * m := Nat.mul_le_mul_right m hnc
    have hcl : cur.toList.length = c * m := by rw [Array.length_toList]; exact hcs
    have hr : Row w g e cur.toList := hg
    obtain ⟨r1, r2⟩ := row_setCells (f u) (k * m) w cur.toList hr (by rw [hu, hcl]; omega)
    refine wpList_store_mid hgd ty x y ho g (k * m) (f u).toArray hx hy (fun j hj => ⟨by
      have hj' : j < (f u).length := by simpa using hj
      rw [hr.cell (k * m + j) (by rw [hcl]; omega)]; rfl, hr.free _⟩) (by rw [hi, List.size_toArray, hu]) (all_oneCell_toArray h1) (K _ ⟨?_, .inr ⟨g, c, _, by rw [List.length_set], hb, r1, by rw [List.length_set]; exact hnc, hcm, ?_, ?_⟩⟩ r2)
    · rw [← Rw.flat_set hm hu k hk, List.length_set]
      have := h.own.1
      simp only [List.length_append, List.length_take, List.length_drop, hu, this]
      omega
    · simp only [List.size_toArray, List.length_append, List.length_take, List.length_drop, hu, hcl]
      omega
    · rw [List.length_set, ← Rw.flat_set hm hu k hk, ← htake, Rw.splice_take _ _ _ _ (by rw [hu]; omega)]
/-- append of one struct that lies in a new box -/
theorem OwnL.pushed {w' : World} {v' : Value} {x : α} (h : w'.ownsRow base e m v' (l.length + 1) (Rw.flat f l ++ f x)) : OwnL w' base e m f v' (l ++ [x]) := by
  constructor
  rw [Rw.flat_push, List.length_append]
  exact h
end
end Go.Proofs.YtgdijbcoacgadaaDoor
