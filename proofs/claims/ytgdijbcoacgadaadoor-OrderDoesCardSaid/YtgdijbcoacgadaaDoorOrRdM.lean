/- What a text is as a transaction, step by step. -/
import Derived.Test.YtgdijbcoacgadaaDoorOrBuilt
namespace Go.Proofs.YtgdijbcoacgadaaDoor
open Go.RowKit
set_option linter.unusedVariables false
set_option linter.unusedSimpArgs false

theorem int_info5 : (Tryd.prog.info? 3).map (fun i => (i.zero, i.size, i.bytes)) = some (some (.int .i64 0), 1, 8) := by kernel_rfl
theorem int5 : ∃ i0 : TypeInfo, Tryd.prog.info? 3 = some i0 ∧ i0.zero = some (.int .i64 0) ∧ i0.size = 1 ∧ i0.bytes = 8 := by
  obtain ⟨i0, hi, h2⟩ := Option.map_eq_some_iff.1 int_info5
  simp only [Prod.mk.injEq] at h2
  exact ⟨i0, hi, h2.1, h2.2.1, h2.2.2⟩
theorem one_int (w : World) (t : TypeId) (x : Int) : ∀ j u, [Value.int .i64 x][j]? = some u → (w.alloc (.cells #[.int .i64 x] t)).cell? ((⟨w.heap.size, 0, none⟩ : Addr).add j) = some u := by
  intro j u hj
  match j, hj with
  | 0, hj => simp at hj; subst hj; simp [Addr.add]
theorem one_intc (x : Int) : ∀ u ∈ [Value.int .i64 x], u.oneCell' = true := by
  intro u hu
  simp at hu
  subst hu
  rfl
namespace Tx
theorem read_no1 {s : List UInt8} (h : listAll s = Option.none) : read s = Option.none := by unfold read; rw [h]
theorem read_no2 {s : List UInt8} {L : List (List UInt8)} (h : listAll s = some L) (hl : ¬ (L.length = 2 ∨ L.length = 3)) : read s = Option.none := by
  unfold read; rw [h]; simp only; rw [if_neg hl]
theorem signs_none : ∀ (l : List (List UInt8)) (t : Tx) (k j : Nat) (hj : j < l.length), l[j].length ≠ 32 → signs t k l = Option.none := by
  intro l
  induction l with
  | nil => intro t k j hj; simp at hj
  | cons x r ih =>
    intro t k j hj hx
    rw [signs]
    by_cases h : x.length = 32
    · rw [if_pos h]
      match j with
      | 0 => exact absurd h hx
      | j + 1 => exact ih _ _ j (by simpa using hj) (by simpa using hx)
    · rw [if_neg h]
theorem readOf_none (d : List UInt8) : readOf d Option.none = Option.none := rfl
theorem read_no3 {s : List UInt8} {L : List (List UInt8)} (h : listAll s = some L) {j : Nat} (h1 : 1 ≤ j) (hj : j < L.length) (hx : L[j].length ≠ 32) : read s = Option.none := by
  unfold read
  rw [h]
  simp only
  split
  · rw [signs_none (L.drop 1) Tx.none 0 (j - 1) (by rw [List.length_drop]; omega) (by rw [List.getElem_drop]; have e : 1 + (j - 1) = j := by omega
                                                                                      simp only [e]; exact hx)]
    rfl
  · rfl
theorem read_two {s : List UInt8} {a b : List UInt8} (h : listAll s = some [a, b]) (hb : b.length = 32) : read s = readOf a (some { Tx.none with tag := b }) := by
  unfold read
  rw [h]
  simp only [List.length_cons, List.length_nil, true_or, if_true, List.getD_cons_zero, List.drop_succ_cons, List.drop_zero, Nat.zero_add, Nat.reduceAdd]
  rw [signs, if_pos hb, signs]
  rfl
theorem read_three {s : List UInt8} {a b c : List UInt8} (h : listAll s = some [a, b, c]) (hb : b.length = 32) (hc : c.length = 32) : read s = readOf a (some { Tx.none with tag := b, bY := c, lane := true }) := by
  unfold read
  rw [h]
  simp only [List.length_cons, List.length_nil, or_true, if_true, List.getD_cons_zero, List.drop_succ_cons, List.drop_zero, Nat.zero_add, Nat.reduceAdd]
  rw [signs, if_pos hb, signs, if_pos hc, signs]
  rfl
theorem readOf_no1 {d : List UInt8} {t : Tx} (h : listAll d = Option.none) : readOf d (some t) = Option.none := by
  unfold readOf bodyRead; simp only; rw [h]
theorem readOf_no2 {d : List UInt8} {t : Tx} {K : List (List UInt8)} (h : listAll d = some K) (hl : K.length ≠ t.want) : readOf d (some t) = Option.none := by
  unfold readOf bodyRead; simp only; rw [h]; simp only; rw [if_neg hl]
theorem fill_none : ∀ (l : List (List UInt8)) (t : Tx) (i j : Nat) (hj : j < l.length), i + j ≠ 4 → numAll l[j] = Option.none → fill t i l = Option.none := by
  intro l
  induction l with
  | nil => intro t k j hj; simp at hj
  | cons x r ih =>
    intro t i j hj h4 hx
    rw [fill]
    match j with
    | 0 =>
      rw [if_neg (by simpa using h4)]
      simp only [List.getElem_cons_zero] at hx
      rw [hx]
    | j + 1 =>
      have q := fun t' => ih t' (i + 1) j (by simpa using hj) (by omega) (by simpa using hx)
      split
      · exact q _
      · cases numAll x with
        | none => rfl
        | some n => exact q _
theorem readOf_no3 {d : List UInt8} {t : Tx} {K : List (List UInt8)} (h : listAll d = some K) {j : Nat} (hj : j < K.length) (h4 : j ≠ 4) (hn : numAll K[j] = Option.none) : readOf d (some t) = Option.none := by
  unfold readOf bodyRead
  simp only
  rw [h]
  simp only
  by_cases hl : K.length = t.want
  · rw [if_pos hl, fill_none K _ 0 j hj (by omega) hn]
  · rw [if_neg hl]
theorem readOf_five {d : List UInt8} {b : List UInt8} {K : List (List UInt8)} (h : listAll d = some K) (hl : K.length = 5) {n0 n1 n2 n3 : Int}
    (h0 : numAll (K[0]'(by omega)) = some n0) (h1 : numAll (K[1]'(by omega)) = some n1) (h2 : numAll (K[2]'(by omega)) = some n2) (h3 : numAll (K[3]'(by omega)) = some n3) :
    readOf d (some { Tx.none with tag := b }) = if (Tx.mk n0 n1 n2 n3 ⟨(K[4]'(by omega)).toArray⟩ false 0 0 Tx.zero b).err = 0 then some (Tx.mk n0 n1 n2 n3 ⟨(K[4]'(by omega)).toArray⟩ false 0 0 Tx.zero b) else Option.none := by
  match K, hl with
  | [k0, k1, k2, k3, k4], _ =>
    simp only [List.getElem_cons_zero, List.getElem_cons_succ] at h0 h1 h2 h3 ⊢
    have hf : fill (Tx.withData { Tx.none with tag := b } k4) 0 [k0, k1, k2, k3, k4] = some (Tx.mk n0 n1 n2 n3 ⟨k4.toArray⟩ false 0 0 Tx.zero b) := by
      simp only [fill, h0, h1, h2, h3]
      rfl
    unfold readOf bodyRead
    simp only
    rw [h]
    simp only
    rw [if_pos (by rfl)]
    rw [show [k0, k1, k2, k3, k4].getD 4 [] = k4 from rfl, hf]
theorem readOf_seven {d : List UInt8} {b c : List UInt8} {K : List (List UInt8)} (h : listAll d = some K) (hl : K.length = 7) {n0 n1 n2 n3 n5 n6 : Int}
    (h0 : numAll (K[0]'(by omega)) = some n0) (h1 : numAll (K[1]'(by omega)) = some n1) (h2 : numAll (K[2]'(by omega)) = some n2) (h3 : numAll (K[3]'(by omega)) = some n3) (h5 : numAll (K[5]'(by omega)) = some n5) (h6 : numAll (K[6]'(by omega)) = some n6) :
    readOf d (some { Tx.none with tag := b, bY := c, lane := true }) = if (Tx.mk n0 n1 n2 n3 ⟨(K[4]'(by omega)).toArray⟩ true n5 n6 c b).err = 0 then some (Tx.mk n0 n1 n2 n3 ⟨(K[4]'(by omega)).toArray⟩ true n5 n6 c b) else Option.none := by
  match K, hl with
  | [k0, k1, k2, k3, k4, k5, k6], _ =>
    simp only [List.getElem_cons_zero, List.getElem_cons_succ] at h0 h1 h2 h3 h5 h6 ⊢
    have hf : fill (Tx.withData { Tx.none with tag := b, bY := c, lane := true } k4) 0 [k0, k1, k2, k3, k4, k5, k6] = some (Tx.mk n0 n1 n2 n3 ⟨k4.toArray⟩ true n5 n6 c b) := by
      simp only [fill, h0, h1, h2, h3, h5, h6]
      rfl
    unfold readOf bodyRead
    simp only
    rw [h]
    simp only
    rw [if_pos (by rfl)]
    rw [show [k0, k1, k2, k3, k4, k5, k6].getD 4 [] = k4 from rfl, hf]
end Tx
theorem list_two {α : Type} {L : List α} (h : L.length = 2) : L = [L[0]'(by omega), L[1]'(by omega)] := by
  match L, h with
  | [a, b], _ => rfl
theorem list_three {α : Type} {L : List α} (h : L.length = 3) : L = [L[0]'(by omega), L[1]'(by omega), L[2]'(by omega)] := by
  match L, h with
  | [a, b, c], _ => rfl
theorem mk_list (l : List UInt8) : (ByteArray.mk l.toArray).data.toList = l := by simp
theorem mk_data {Y : ByteArray} {l : List UInt8} (h : Y.data.toList = l) : (⟨l.toArray⟩ : ByteArray) = Y := by
  rw [← h]
end Go.Proofs.YtgdijbcoacgadaaDoor
