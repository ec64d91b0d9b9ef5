/- A slice (elements of one cell) that the call made itself, whatever its row's mark beyond the end is: what an append of one element does to it. -/
import Derived.Test.YtdifbndpgbdkbaaDoorProg
import Derived.ArgAppend
import Derived.Lib.ConvBytes
import Derived.Laws.BytesArg
import Derived.Laws.IdiomCopy
import Derived.Below
import Derived.OwnWalk
import Derived.WalkKit
namespace Go.Proofs.YtdifbndpgbdkbaaDoor
open Go.RowKit
set_option linter.unusedVariables false
set_option linter.unusedSimpArgs false

/-- v holds the values xs in a row of the call's own, from block 'base' on; all its places up to the capacity can be written -/
def Own1 (w : World) (base : Nat) (v : Value) (xs : List Value) : Prop :=
  ∃ g cap, v = .slice (some ⟨g, 0, none⟩) xs.length cap ∧ base ≤ g ∧ g < w.heap.size ∧ xs.length ≤ cap ∧ cap ≤ maxLen ∧
    (∀ i, i < cap → (w.cell? ⟨g, i, none⟩).isSome = true ∧ w.frozen? ⟨g, i, none⟩ = false) ∧
    ∀ i x, xs[i]? = some x → w.cell? ⟨g, i, none⟩ = some x
theorem Own1.below {w w1 : World} {base : Nat} {v : Value} {xs : List Value} (h : Own1 w base v xs) (hb : Below w.heap.size w w1) : Own1 w1 base v xs := by
  obtain ⟨g, cap, rfl, hg, hgs, hn, hm, hw, hc⟩ := h
  refine ⟨g, cap, rfl, hg, Nat.lt_of_lt_of_le hgs hb.size, hn, hm, fun i hi => ?_, fun i x hi => ?_⟩
  · rw [hb.cell (p := ⟨g, i, none⟩) hgs, hb.frozen (p := ⟨g, i, none⟩) hgs]; exact hw i hi
  · rw [hb.cell (p := ⟨g, i, none⟩) hgs]; exact hc i x hi
theorem Own1.mono {w : World} {base b2 : Nat} {v : Value} {xs : List Value} (h : Own1 w base v xs) (hb : b2 ≤ base) : Own1 w b2 v xs := by
  obtain ⟨g, cap, h1, hg, h2⟩ := h
  exact ⟨g, cap, h1, Nat.le_trans hb hg, h2⟩
theorem Own1.drew {w : World} {base : Nat} {v : Value} {xs : List Value} (h : Own1 w base v xs) : Own1 w.drew base v xs := h
theorem cells1_size (b : Nat) : ∀ (vs : List Value) (o : Nat) (w : World), (w.setCells b o vs).heap.size = w.heap.size
  | [], _, _ => rfl
  | v :: r, o, w => by rw [World.setCells, cells1_size b r]; simp [World.setCell]
theorem add0 (b off i : Nat) : (⟨b, off, none⟩ : Addr).add i = ⟨b, off + i, none⟩ := by unfold Addr.add; split <;> simp_all
/-- a row that the model says is the call's own -/
theorem Own1.of_owns {w : World} {base : Nat} {e : TypeId} {v : Value} {n : Nat} {xs : List Value} (h : w.ownsRow base e 1 v n xs) (hn : 0 < n) : Own1 w base v xs := by
  obtain ⟨hl, ⟨_, h0⟩ | ⟨g, cap, cur, rfl, hg, hh, hnc, hcm, hcs, htk⟩⟩ := h
  · omega
  · have hgs : g < w.heap.size := by
      rcases Nat.lt_or_ge g w.heap.size with h1 | h1
      · exact h1
      · rw [Array.getElem?_eq_none h1] at hh; cases hh
    refine ⟨g, cap, by rw [hl, Nat.mul_one], hg, hgs, by omega, hcm, fun i hi => ⟨?_, ?_⟩, fun i x hx => ?_⟩
    · rw [cell_of_row w g i cur e (0, 0) hh, Array.getElem?_eq_getElem (by omega)]; rfl
    · exact frozen_of_row w g i cur e hh
    · rw [cell_of_row w g i cur e (0, 0) hh]
      rw [← htk, Nat.mul_one] at hx
      have hi : i < n := by
        have := (List.getElem?_eq_some_iff.1 hx).1
        rw [List.length_take] at this
        omega
      rw [List.getElem?_take, if_pos hi] at hx
      simpa using hx
theorem Own1.push {P : Program} {w : World} {base : Nat} {v : Value} {xs : List Value} (h : Own1 w base v xs) (t ty e : TypeId) (i : TypeInfo) (z : Value) (bytes : Nat)
    (ht : P.underlying t = some (.slice e)) (hi : P.info? e = some i) (hz : i.zero = some z) (hsize : i.size = 1) (hby : i.bytes = bytes) (hzs : z.cells.size = 1)
    (g2 : Nat) (u : Value) (hu : w.cell? ⟨g2, 0, none⟩ = some u) (h1 : u.oneCell' = true) (hbytes : (xs.length + 1) * bytes ≤ 140737488355328) (hlen : xs.length + 1 ≤ 140737488355328) (hbase : base ≤ w.heap.size) :
    ∃ v' w', (Builtin.append_ #[t, t] ty #[v, .slice (some ⟨g2, 0, none⟩) 1 1]).run P w = .ok v' w' ∧ Own1 w' base v' (xs ++ [u]) ∧ Below base w w' := by
  obtain ⟨g, cap, rfl, hg, hgs, hn, hm, hw, hc⟩ := h
  have hnews : ∀ j x, [u][j]? = some x → w.cell? ((⟨g2, 0, none⟩ : Addr).add j) = some x := by
    intro j x hj
    have hl : j < [u].length := (List.getElem?_eq_some_iff.1 hj).1
    have h2 : j = 0 := by simp at hl; omega
    subst h2
    rw [add0]
    have : u = x := by simpa using hj
    rw [← this]; exact hu
  by_cases hroom : xs.length + 1 ≤ cap
  · have hr := run_append_room_cells (P := P) w t ty e i ht hi g 0 xs.length cap ⟨g2, 0, none⟩ 1 1 [u] (by rw [hsize]; rfl) hnews (by simpa using h1) hroom
      (fun j hj => by rw [hsize]; have : j = 0 := by simp at hj; omega
                      subst this; simpa using (hw xs.length (by omega)).1)
      (fun j hj => by rw [hsize]; have : j = 0 := by simp at hj; omega
                      subst this; simpa using (hw xs.length (by omega)).2)
    rw [hsize] at hr
    simp only [Nat.mul_one, Nat.zero_add] at hr
    refine ⟨_, _, hr, ⟨g, cap, by rw [List.length_append]; rfl, hg, by rw [cells1_size]; exact hgs, by simpa using hroom, hm, fun j hj => ⟨?_, ?_⟩, fun j x hj => ?_⟩, (Below.refl _ _).setCell hg _⟩
    · by_cases hjx : j = xs.length
      · subst hjx
        show ((w.setCell ⟨g, xs.length, none⟩ u).cell? ⟨g, xs.length, none⟩).isSome = true
        have := World.cell?_setCells_in g [u] xs.length w (fun k hk => by have : k = 0 := by simp at hk; omega
                                                                          subst this; simpa using (hw xs.length (by omega)).1) 0 (by simp)
        simp only [Nat.add_zero, World.setCells] at this
        rw [this]; rfl
      · have := World.cell?_setCells_out g [u] xs.length w ⟨g, j, none⟩ (fun _ _ => by simp; omega)
        rw [this]
        exact (hw j hj).1
    · rw [World.frozen?_setCells]; exact (hw j hj).2
    · by_cases hjx : j < xs.length
      · rw [World.cell?_setCells_out g [u] xs.length w ⟨g, j, none⟩ (fun _ _ => Or.inl hjx)]
        rw [List.getElem?_append_left hjx] at hj
        exact hc j x hj
      · have hjl : j = xs.length := by
          have := (List.getElem?_eq_some_iff.1 hj).1
          simp at this
          omega
        subst hjl
        have e1 := World.cell?_setCells_in g [u] xs.length w (fun k hk => by have : k = 0 := by simp at hk; omega
                                                                             subst this; simpa using (hw xs.length (by omega)).1) 0 (by simp)
        simp only [Nat.add_zero] at e1
        rw [e1, ← hj]
        simp
  · have holds : ∀ j x, xs[j]? = some x → w.cell? ((⟨g, 0, none⟩ : Addr).add j) = some x := by
      intro j x hj
      rw [add0, Nat.zero_add]
      exact hc j x hj
    obtain ⟨v', w', hr, hown, hgr⟩ := run_append_arg_grows (P := P) w t ty e i z 1 bytes ht hi hz hsize hby hzs (by omega) ⟨g, 0, none⟩ xs.length cap xs (by simp) holds ⟨g2, 0, none⟩ 1 1 [u] rfl hnews (by omega) (by unfold maxLen; omega) hbytes
    exact ⟨v', w', hr, (Own1.of_owns hown (by omega)).mono hbase, (Below.refl base w).grown hgr hbase (fun g hg => by cases hg)⟩
/-- the operation append, where its run is known -/
theorem wpList_push_run {P : Program} (w : World) {ops : Array Oper} {rest : List Oper} {o : Oper} {a : Act} {Q : Exit → Act → World → Prop} (hgd : o.guard = none) (s x : Operand) (t t' : TypeId)
    (ho : o.op = .call { callee := .builtin .append, args := #[s, x], argTypes := #[t, t'] }) (v u : Value) (hs : a.eval s = v) (hx : a.eval x = u) {v' : Value} {w' : World}
    (hr : (Builtin.append_ #[t, t'] o.type #[v, u]).run P w = .ok v' w') (h : wpList P ops Q rest (a.put o.dst v') w') : wpList P ops Q (o :: rest) a w := by
  refine wpList_plain hgd fun K hK => ?_
  unfold Oper.wp execOp
  simp only [ho, resolve, invoke, builtin, Sem.run_bind, Sem.run_pure, Result.andThen_ok, List.map_toArray, List.map_cons, List.map_nil, hs, hx, hr]
  exact hK _ _ h
end Go.Proofs.YtdifbndpgbdkbaaDoor
