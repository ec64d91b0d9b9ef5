/- One cell of one element of a list in own memory is stored. -/
import Derived.Test.YtoicpidiejhjeaaPlTake
import Derived.Test.YtoicpidiejhjeaaPlPush
namespace Go.Proofs.Ytoicpidiejhjeaa
open Go.RowKit
set_option linter.unusedVariables false
set_option linter.unusedSimpArgs false
set_option maxRecDepth 100000

theorem Rw.flat_setcell {α β : Type} {f : α → List β} {m : Nat} : ∀ {l : List α} (h : ∀ x ∈ l, (f x).length = m) {y : α} (k j : Nat) (hk : k < l.length) (hj : j < m) (v : β) (hy : f y = (f l[k]).set j v), (Rw.flat f l).set (k * m + j) v = Rw.flat f (l.set k y) := fun {l} => by
  induction l with
  | nil => intro h y k j hk; simp at hk
  | cons x t ih =>
    intro h y k j hk hj v hy
    have hx := h x (by simp)
    match k with
    | 0 =>
      rw [List.set_cons_zero, Rw.flat_cons, Rw.flat_cons, Nat.zero_mul, Nat.zero_add, List.set_append_left _ _ (by rw [hx]; exact hj)]
      rw [hy]
      rfl
    | k + 1 =>
      rw [List.set_cons_succ, Rw.flat_cons, Rw.flat_cons, List.set_append_right _ _ (by rw [hx, Nat.succ_mul]; omega)]
      congr 1
      have e : (k + 1) * m + j - (f x).length = k * m + j := by rw [hx, Nat.succ_mul]; omega
      rw [e]
      exact ih (fun z hz => h z (by simp [hz])) k j (by simpa using hk) hj v hy
theorem wp_store_elem {P : Program} {op : Oper} {a : Act} {w : World} {K : Act → World → Prop} {Q : Exit → Act → World → Prop} (ty : TypeId) (x y : Operand) (ho : op.op = .store ty x y) (hs : (P.info? ty).map (·.size) = some 1)
    {base g n c : Nat} {l : List Wt} (h : OwnL w base 38 76 Wt.cells (.slice (some ⟨g, 0, none⟩) n c) l) (hl : ∀ x ∈ l, x.Ok) (k j : Nat) (z : Int) (u : Wt) (hu1 : u.Ok) (hk : k < l.length) (hj : j < 76) (hu : u.cells = l[k].cells.set j (.int .i64 z))
    (hx : a.eval x = .pointer (some ⟨g, k * 76 + j, none⟩)) (hy : a.eval y = .int .i64 z)
    (H : ∀ w', OwnL w' base 38 76 Wt.cells (.slice (some ⟨g, 0, none⟩) n c) (l.set k u) → w.grownBy w' (some g) → K (a.put op.dst undef) w') : op.wp P a w K Q := by
  obtain ⟨xs, hr, hb, hn, hnc, hcm, hxl, ht⟩ := h.row
  have hle : k * 76 + j < n * 76 := by omega
  have hle2 : n * 76 ≤ c * 76 := Nat.mul_le_mul_right 76 hnc
  have hi : k * 76 + j < xs.length := by omega
  have hc := hr.cell _ hi
  have hf := hr.free (k * 76 + j)
  have e : (storeVar ty ⟨g, k * 76 + j, none⟩ (.int .i64 z)).run P w = (storeVar ty ⟨g, k * 76 + j, none⟩ (.agg #[.int .i64 z])).run P w := by simp [storeVar, Value.cells]
  have hst := run_storeVar_mid (P := P) w g (k * 76 + j) ty #[.int .i64 z] (fun q hq => by
    have : q = 0 := by simp at hq; omega
    subst this
    exact ⟨by rw [Nat.add_zero, hc]; rfl, hf⟩) (by rw [hs]; rfl) (all_oneCell_toArray (cs := [.int .i64 z]) (fun v hv => by simp only [List.mem_singleton] at hv; subst hv; rfl))
  obtain ⟨r1, r2⟩ := row_setCells [.int .i64 z] (k * 76 + j) w xs hr (by simp; omega)
  have e2 : xs.take (k * 76 + j) ++ ([.int .i64 z] ++ xs.drop (k * 76 + j + [Value.int .i64 z].length)) = xs.set (k * 76 + j) (.int .i64 z) := by
    rw [List.set_eq_take_append_cons_drop, if_pos hi]
    rfl
  rw [e2] at r1
  unfold Oper.wp execOp
  simp only [ho, hx, hy, Instr.storeAt, Instr.sureAddr, Sem.run_bind, Sem.run_pure, Result.andThen_ok, e, hst]
  refine H _ (row_own r1 hb (by rw [List.length_set]; exact hn) hnc hcm (by rw [List.length_set]; exact hxl) ?_ (Rw.flat_len (fun x hx => ?_))) r2
  · rw [List.take_set, ht]
    exact Rw.flat_setcell (fun x hx => Wt.cells_len (hl x hx)) k j hk hj _ hu
  · rcases List.mem_or_eq_of_mem_set hx with q | rfl
    · exact Wt.cells_len (hl x q)
    · exact Wt.cells_len hu1
theorem Wt.cells_at {w : Wt} (h : w.Ok) (z : Int) : ({ w with at_ := z } : Wt).cells = w.cells.set 74 (.int .i64 z) := by
  unfold Wt.cells
  rw [List.set_append_right _ _ (by rw [Tx.cells_length h.tx]; omega), Tx.cells_length h.tx]
  rfl
theorem Wt.cells_place {w : Wt} (h : w.Ok) (z : Int) : ({ w with place := z } : Wt).cells = w.cells.set 75 (.int .i64 z) := by
  unfold Wt.cells
  rw [List.set_append_right _ _ (by rw [Tx.cells_length h.tx]; omega), Tx.cells_length h.tx]
  rfl
namespace Pl
/-- some of the first raised already -/
def mix (b : Wt) (l : List Wt) (k : Nat) : List Wt := (l.take k).map (raise b) ++ l.drop k
theorem mix_zero (b : Wt) (l : List Wt) : mix b l 0 = l := by simp [mix]
theorem mix_all (b : Wt) (l : List Wt) : mix b l l.length = l.map (raise b) := by simp [mix]
theorem mix_len (b : Wt) (l : List Wt) (k : Nat) : (mix b l k).length = l.length := by unfold mix; rw [List.length_append, List.length_map, List.length_take, List.length_drop]; omega
theorem mix_at (b : Wt) (l : List Wt) (k : Nat) (hk : k < l.length) (hk2 : k < (mix b l k).length) : (mix b l k)[k] = l[k] := by
  have e : (mix b l k)[k]? = some l[k] := by
    unfold mix
    have e1 : ((l.take k).map (raise b)).length = k := by rw [List.length_map, List.length_take]; omega
    rw [List.getElem?_append_right (by omega), e1, Nat.sub_self, List.getElem?_drop, Nat.add_zero, List.getElem?_eq_getElem hk]
  rw [List.getElem?_eq_getElem hk2] at e
  injection e
theorem mix_succ (b : Wt) (l : List Wt) (k : Nat) (hk : k < l.length) : mix b l (k + 1) = (mix b l k).set k (raise b l[k]) := by
  unfold mix
  rw [List.set_append_right _ _ (by rw [List.length_map, List.length_take]; omega), List.take_add_one, List.getElem?_eq_getElem hk, List.map_append]
  have e : k - ((l.take k).map (raise b)).length = 0 := by rw [List.length_map, List.length_take]; omega
  rw [e, List.drop_eq_getElem_cons hk, List.set_cons_zero, List.append_assoc]
  rfl
theorem mix_ok {b : Wt} {l : List Wt} (hl : ∀ x ∈ l, x.Ok) (hb : b.Ok) (k : Nat) : ∀ x ∈ mix b l k, x.Ok := by
  intro x hx
  rcases List.mem_append.1 hx with q | q
  · obtain ⟨y, hy, rfl⟩ := List.mem_map.1 q
    have h1 := hl y (List.mem_of_mem_take hy)
    unfold raise
    split
    · exact ⟨h1.tx, h1.ix, h1.till, hb.at_, hb.place⟩
    · exact h1
  · exact hl x (List.mem_of_mem_drop q)
theorem raise_ok {b x : Wt} (hb : b.Ok) (hx : x.Ok) : (raise b x).Ok := by
  unfold raise
  split
  · exact ⟨hx.tx, hx.ix, hx.till, hb.at_, hb.place⟩
  · exact hx
end Pl
end Go.Proofs.Ytoicpidiejhjeaa
