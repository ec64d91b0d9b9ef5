/- tx.readBody. -/
import Derived.Test.YtdekcicgiflnbaaDoorTxRead1
namespace Go.Proofs.YtdekcicgiflnbaaDoor
open Go.RowKit
set_option linter.unusedVariables false
set_option linter.unusedSimpArgs false

namespace Tx
/-- the i-th number of a body put in its place -/
def put (t : Tx) (i : Nat) (n : Int) : Tx :=
  if i = 0 then { t with frm := n } else if i = 1 then { t with nonce := n } else if i = 2 then { t with fee := n } else if i = 3 then { t with to := n } else if i = 5 then { t with round := n } else if i = 6 then { t with turn := n } else t
def fill (t : Tx) : Nat → List (List UInt8) → Option Tx
  | _, [] => some t
  | i, s :: r => if i = 4 then fill t (i + 1) r else match numAll s with
    | Option.none => Option.none
    | some n => fill (put t i n) (i + 1) r
def want (t : Tx) : Nat := if t.lane = true then 7 else 5
def withData (t : Tx) (s : List UInt8) : Tx := { t with data := ⟨s.toArray⟩ }
def bodyRead (t : Tx) (s : List UInt8) : Option Tx :=
  match listAll s with
  | Option.none => Option.none
  | some l => if l.length = t.want then fill (t.withData (l.getD 4 [])) 0 l else Option.none
/-- where the i-th number lies -/
def place (i : Nat) : Nat := if i < 4 then i else i + 1
theorem put_cells (t : Tx) (i : Nat) (n : Int) (hi : i < 7) (h4 : i ≠ 4) : t.cells.set (place i) (.int .i64 n) = (put t i n).cells := by
  have : i = 0 ∨ i = 1 ∨ i = 2 ∨ i = 3 ∨ i = 5 ∨ i = 6 := by omega
  rcases this with rfl | rfl | rfl | rfl | rfl | rfl <;> rfl
theorem put_ok {t : Tx} (h : t.Ok) (i : Nat) {n : Int} (hn : fits n) : (put t i n).Ok := by
  unfold put
  split
  · exact ⟨h.bY, h.tag, h.data, hn, h.nonce, h.fee, h.to, h.round, h.turn⟩
  split
  · exact ⟨h.bY, h.tag, h.data, h.frm, hn, h.fee, h.to, h.round, h.turn⟩
  split
  · exact ⟨h.bY, h.tag, h.data, h.frm, h.nonce, hn, h.to, h.round, h.turn⟩
  split
  · exact ⟨h.bY, h.tag, h.data, h.frm, h.nonce, h.fee, hn, h.round, h.turn⟩
  split
  · exact ⟨h.bY, h.tag, h.data, h.frm, h.nonce, h.fee, h.to, hn, h.turn⟩
  split
  · exact ⟨h.bY, h.tag, h.data, h.frm, h.nonce, h.fee, h.to, h.round, hn⟩
  · exact h
theorem put_lane (t : Tx) (i : Nat) (n : Int) : (put t i n).lane = t.lane := by
  unfold put
  repeat' split
  all_goals rfl
theorem data_cells (t : Tx) (s : List UInt8) : t.cells.set 4 (S s) = (t.withData s).cells := rfl
theorem listGo_text : ∀ (L : List (List UInt8)) (left : Nat) (b : List UInt8), Oct.listGo left L = some b → ∀ x ∈ L, x.length ≤ left
  | s :: r, left, b, h, x, hx => by
    unfold Oct.listGo at h
    split at h
    · cases h
    · next hle =>
      obtain ⟨c, hc, rfl⟩ := Option.map_eq_some_iff.1 h
      rcases List.mem_cons.1 hx with rfl | hx
      · omega
      · have := listGo_text r (left - s.length) c hc x hx
        omega
theorem listAll_text {s : List UInt8} {L : List (List UInt8)} (h : listAll s = some L) : ∀ x ∈ L, x.length ≤ 65536 := by
  have h1 := listE_listAll h
  unfold Oct.listE at h1
  split at h1
  · simp at h1
  · cases hg : Oct.listGo 65536 L with
    | none => rw [hg] at h1; simp at h1
    | some b => exact listGo_text L 65536 b hg
end Tx
/-- texts lie in no transaction's block -/
theorem texts_apart {w : World} {g b off : Nat} {T : TypeId} {t : Tx} (h : Row w g T t.cells) (ht : t.Ok) (a c : List UInt8) (h0 : w.cell? ⟨b, off, none⟩ = some (S a)) (h1 : w.cell? ⟨b, off + 1, none⟩ = some (S c)) : b ≠ g := by
  rintro rfl
  have hl := Tx.cells_length ht
  have key : ∀ j x, w.cell? ⟨b, j, none⟩ = some (S x) → j = 4 := by
    intro j x hx
    by_cases hj : j < 72
    · have hc := h.cell j (by omega)
      rw [hx] at hc
      have he : t.cells[j]'(by omega) = S x := (Option.some.inj hc).symm
      by_cases hj8 : j < 8
      · have hh : t.cells[j]'(by omega) = t.head[j]'(by simp [Tx.head]; omega) := by
          unfold Tx.cells
          rw [List.getElem_append_left]
        rw [hh] at he
        have : j = 0 ∨ j = 1 ∨ j = 2 ∨ j = 3 ∨ j = 4 ∨ j = 5 ∨ j = 6 ∨ j = 7 := by omega
        rcases this with rfl | rfl | rfl | rfl | rfl | rfl | rfl | rfl <;> simp [Tx.head, S] at he ⊢
      · have hm : S x ∈ (bRow t.bY).toList ++ (bRow t.tag).toList := by
          have hh : t.cells[j]'(by omega) = ((bRow t.bY).toList ++ (bRow t.tag).toList)[j - 8]'(by rw [List.length_append, Tx.bRow_len _ ht.bY, Tx.bRow_len _ ht.tag]; omega) := by
            unfold Tx.cells
            rw [List.getElem_append_right (by simp [Tx.head]; omega)]
            rfl
          rw [← he, hh]
          exact List.getElem_mem _
        have : ∀ R : List UInt8, R.length = 32 → S x ∉ (bRow R).toList := by
          intro R hR hx
          rw [bRow_yRow R hR] at hx
          unfold yRow at hx
          simp [S] at hx
        rcases List.mem_append.1 hm with h2 | h2
        · exact absurd h2 (this _ ht.bY)
        · exact absurd h2 (this _ ht.tag)
    · unfold Row at h
      simp [World.cell?, h] at hx
      have := (List.getElem?_eq_some_iff.1 hx).1
      omega
  have e0 := key _ _ h0
  have e1 := key _ _ h1
  omega
end Go.Proofs.YtdekcicgiflnbaaDoor
