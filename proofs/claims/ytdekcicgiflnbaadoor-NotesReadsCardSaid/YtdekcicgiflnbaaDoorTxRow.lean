/- Rows loaded and stored, whole or in the middle of a block; a result that lies in a block. -/
import Derived.Test.YtdekcicgiflnbaaDoorTxText
import Derived.Laws.ResultCell
namespace Go.Proofs.YtdekcicgiflnbaaDoor
open Go.RowKit
set_option linter.unusedVariables false
set_option linter.unusedSimpArgs false

theorem row_setCells {g : Nat} {T : TypeId} : ∀ (l : List Value) (off : Nat) (w : World) (xs : List Value), Row w g T xs → off + l.length ≤ xs.length →
    Row (w.setCells g off l) g T (xs.take off ++ (l ++ xs.drop (off + l.length))) ∧ w.grownBy (w.setCells g off l) (some g)
  | [], off, w, xs, h, hl => by
    refine ⟨?_, grownBy_refl _ _⟩
    simp only [List.nil_append, List.length_nil, Nat.add_zero, List.take_append_drop]
    exact h
  | v :: l, off, w, xs, h, hl => by
    simp only [List.length_cons] at hl
    obtain ⟨h1, h2⟩ := row_setCells l (off + 1) (w.setCell ⟨g, off, none⟩ v) (xs.set off v) (h.set off v (by omega)) (by rw [List.length_set]; omega)
    refine ⟨?_, (grownBy_set w g off v).trans h2⟩
    have e1 : (xs.set off v).take (off + 1) = xs.take off ++ [v] := by
      rw [List.take_succ_eq_append_getElem (by rw [List.length_set]; omega), List.take_set_of_le (Nat.le_refl _)]
      simp
    have e2 : (xs.set off v).drop (off + 1 + l.length) = xs.drop (off + 1 + l.length) := by rw [List.drop_set_of_lt (by omega)]
    rw [e1, e2, List.append_assoc] at h1
    simp only [List.length_cons]
    rw [show off + (l.length + 1) = off + 1 + l.length by omega]
    exact h1
/-- a value of many cells stored into a block's middle -/
theorem wpList_store_at {P : Program} {ops : Array Oper} {rest : List Oper} {op : Oper} {a : Act} {w : World} {Q : Exit → Act → World → Prop} (hgd : op.guard = none) (ty : TypeId) (x y : Operand) (ho : op.op = .store ty x y)
    (g off : Nat) (l xs : List Value) (T : TypeId) (hx : a.eval x = .pointer (some ⟨g, off, none⟩)) (hy : a.eval y = .agg l.toArray) (hg : Row w g T xs) (hoff : off + l.length ≤ xs.length)
    (hi : (P.info? ty).map (·.size) = some l.length) (h1 : ∀ v ∈ l, v.oneCell' = true)
    (h : ∀ w', Row w' g T (xs.take off ++ (l ++ xs.drop (off + l.length))) → w.grownBy w' (some g) → wpList P ops Q rest (a.put op.dst undef) w') : wpList P ops Q (op :: rest) a w := by
  obtain ⟨r1, r2⟩ := row_setCells l off w xs hg hoff
  exact wpList_store_mid hgd ty x y ho g off l.toArray hx hy (fun j hj => ⟨by
    have hj' : j < l.length := by simpa using hj
    rw [hg.cell (off + j) (by omega)]; rfl, hg.free _⟩) (by simpa using hi) (all_oneCell_toArray h1) (h _ r1 r2)
theorem results_rowL {P : Program} {fn : Func} {p u : Tmp} {ty : TypeId} (h : fn.results = #[.cell p ty, .tmp u]) (tmps : Array Value) (w : World) (g : Nat) (T : TypeId) (xs : List Value) (d : TypeDesc)
    (hp : tmps.getD p undef = .pointer (some ⟨g, 0, none⟩)) (hg : Row w g T xs)
    (hu : P.underlying ty = some d) (hd : (match d with | .struct _ | .array _ _ => true | _ => false) = true) (hi : (P.info? ty).map (·.size) = some xs.toArray.size) (x : Value) (hx : tmps.getD u undef = x) :
    (results fn tmps).run P w = .ok (.tuple #[.agg xs.toArray, x]) w := by
  rw [results_cell_tmp h, hp]
  have hl := run_loadVar_row w g T ty xs.toArray (0, 0) d hg hu hd hi
  have ha : (asAddr (.pointer (some ⟨g, 0, none⟩))).run P w = .ok ⟨g, 0, none⟩ w := rfl
  rw [ha]
  simp only [Result.andThen, hl, hx]
theorem row_range {w : World} {g : Nat} {T : TypeId} {xs : List Value} (h : Row w g T xs) : w.rangeAt g 0 xs := by
  intro j v hv
  obtain ⟨hlt, he⟩ := List.getElem?_eq_some_iff.1 hv
  rw [Nat.zero_add, h.cell j hlt, he]
theorem hash_one (R : List UInt8) (h : R.length = 32) : ∀ v ∈ (bRow R).toList, v.oneCell' = true := by
  rw [bRow_yRow R h]
  unfold yRow
  intro v hv
  simp at hv
  obtain ⟨b, _, rfl⟩ := hv
  rfl
theorem Tx.cells_one {t : Tx} (h : t.Ok) : ∀ v ∈ t.cells, v.oneCell' = true := by
  intro v hv
  unfold Tx.cells Tx.head at hv
  rcases List.mem_append.1 hv with h1 | h1
  · simp at h1
    rcases h1 with rfl | rfl | rfl | rfl | rfl | rfl | rfl | rfl <;> rfl
  · rcases List.mem_append.1 h1 with h2 | h2
    · exact hash_one _ h.bY v h2
    · exact hash_one _ h.tag v h2
theorem Tx.none_ok : Tx.none.Ok := ⟨rfl, rfl, by decide, fits0, fits0, fits0, fits0, fits0, fits0⟩
theorem tx_zv (w : World) : (zeroValue 25).run Tryd.prog w = .ok (.agg Tx.none.arr) w := by kernel_rfl
theorem hash_zv (w : World) : (zeroValue 23).run Tryd.prog w = .ok (.agg (bRow Tx.zero)) w := by kernel_rfl
theorem tx_built0 : Tryd.prog.built 25 [] = some Tx.none.arr := by kernel_rfl
/-- a list's bytes are few -/
theorem listGo_len : ∀ (L : List (List UInt8)) (left : Nat) (b : List UInt8), Oct.listGo left L = some b → b.length ≤ left + 9 * L.length
  | [], left, b, h => by
    simp only [Oct.listGo, Option.some.injEq] at h
    subst h
    simp
  | s :: r, left, b, h => by
    unfold Oct.listGo at h
    split at h
    · cases h
    · obtain ⟨c, hc, rfl⟩ := Option.map_eq_some_iff.1 h
      have := listGo_len r (left - s.length) c hc
      have h2 := Oct.num_length_le s.length
      have h3 : (Oct.text s).length = (Oct.num s.length).length + s.length := by unfold Oct.text; rw [List.length_append]
      rw [List.length_append, h3, List.length_cons]
      omega
theorem listE_len (L : List (List UInt8)) : (Oct.listE L).1.length ≤ 100000 := by
  unfold Oct.listE
  split
  · simp
  · next hl =>
    cases h : Oct.listGo 65536 L with
    | none => simp
    | some b =>
      have h1 := listGo_len L 65536 b h
      have h2 := Oct.num_length_le L.length
      simp only [List.length_append]
      omega
theorem Tx.body_len (t : Tx) : t.bodyE.1.length ≤ 100000 := by
  unfold Tx.bodyE
  split
  · exact listE_len _
  · simp
theorem Tx.text_len (t : Tx) : t.textE.1.length ≤ 100000 := by
  unfold Tx.textE
  split
  · exact listE_len _
  · simp
end Go.Proofs.YtdekcicgiflnbaaDoor
