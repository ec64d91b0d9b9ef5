/- digest.Proves: what it returns. -/
import Derived.Test.YtdifbndpgbdkbaaDoorShaPath
import Derived.Test.YtdifbndpgbdkbaaDoorKeptR
import Derived.Test.YtdifbndpgbdkbaaDoorSealKey
import Derived.Deep.MidRow
namespace Go.Proofs.YtdifbndpgbdkbaaDoor
open Go.RowKit
set_option linter.unusedVariables false
set_option linter.unusedSimpArgs false

/-- a list of hashes in memory -/
def Hashes (w : World) (A : Option Addr) (P : List (List UInt8)) : Prop :=
  P ≠ [] → ∃ b off, A = some ⟨b, off, none⟩ ∧ b < w.heap.size ∧ ∀ k, k < P.length → w.rangeAt b (off + k * 32) (bRow (P.getD k [])).toList
theorem Hashes.below {w w' : World} {A : Option Addr} {P : List (List UInt8)} {B : Nat} (h : Hashes w A P) (hb : Below B w w') (hB : w.heap.size ≤ B) : Hashes w' A P := fun hne => by
  obtain ⟨b, off, e, hlt, hc⟩ := h hne
  exact ⟨b, off, e, Nat.lt_of_lt_of_le hlt hb.size, fun k hk j v hj => (hb.cell (p := ⟨b, off + k * 32 + j, none⟩) (Nat.lt_of_lt_of_le hlt hB)).trans (hc k hk j v hj)⟩
/-- a row of one-cell elements that a call has made: its value written out -/
theorem own_row {w : World} {base : Nat} {e : TypeId} {v : Value} {n : Nat} {xs : List Value} (h : w.ownsRow base e 1 v n xs) :
    ∃ A cap, v = .slice A n cap ∧ n ≤ cap ∧ (0 < n → ∃ g, A = some ⟨g, 0, none⟩ ∧ g < w.heap.size ∧ ∀ k, k < n → w.cell? ⟨g, k, none⟩ = xs[k]?) := by
  obtain ⟨hl, ⟨rfl, h0⟩ | ⟨g, cap, cur, rfl, hg, hh, hnc, hcm, hcs, htk⟩⟩ := h
  · subst h0
    exact ⟨none, 0, rfl, Nat.le_refl _, fun h => absurd h (by omega)⟩
  · refine ⟨some ⟨g, 0, none⟩, cap, rfl, by omega, fun _ => ⟨g, rfl, ?_, fun k hk => ?_⟩⟩
    · rcases Nat.lt_or_ge g w.heap.size with h1 | h1
      · exact h1
      · rw [Array.getElem?_eq_none h1] at hh; cases hh
    · rw [cell_of_row w g k cur e (0, 0) hh, ← htk, Nat.mul_one, List.getElem?_take, if_pos hk]
      simp
theorem climb_step (leaf : List UInt8) (W : List Bool) (R : List (List UInt8)) (m k : Nat) (hW : W.length = m) (hR : R.length = m) (hk : k < m) :
    Sha.climb leaf (W.drop (m - (k + 1))) (R.drop (m - (k + 1))) =
      if W.getD (m - 1 - k) false then Sha.sum (1 :: (R.getD (m - 1 - k) [] ++ Sha.climb leaf (W.drop (m - k)) (R.drop (m - k))))
      else Sha.sum (1 :: (Sha.climb leaf (W.drop (m - k)) (R.drop (m - k)) ++ R.getD (m - 1 - k) [])) := by
  have e1 : m - (k + 1) = m - 1 - k := by omega
  have e2 : m - k = m - 1 - k + 1 := by omega
  rw [e1, e2]
  have h1 : m - 1 - k < W.length := by omega
  have h2 : m - 1 - k < R.length := by omega
  rw [List.drop_eq_getElem_cons h1, List.drop_eq_getElem_cons h2]
  simp only [List.getD, List.getElem?_eq_getElem h1, List.getElem?_eq_getElem h2, Option.getD_some]
  cases W[m - 1 - k] <;> simp [Sha.climb]
set_option maxHeartbeats 2000000 in
set_option maxRecDepth 100000 in
theorem Proves_range (root : List UInt8) (n i : Int) (s : ByteArray) (A : Option Addr) (len cap : Nat) (w : World) (h : i < 0 ∨ n ≤ i) :
    Calls Tryd.prog 24 #[.agg (bRow root), .int .i64 n, .int .i64 i, .string s, .slice A len cap] w fun e w' => e = .returned (.bool false) ∧ Below w.heap.size w w' := by
  rcases h with h | h
  · go_enter Tryd.func24, Tryd.ntmps24
    go_wp2_with fail
    go_ret
    exact ⟨rfl, (Below.refl _ _).alloc (Nat.le_refl _) _⟩
  · by_cases h0 : i < 0
    · go_enter Tryd.func24, Tryd.ntmps24
      go_wp2_with fail
      go_ret
      exact ⟨rfl, (Below.refl _ _).alloc (Nat.le_refl _) _⟩
    · have h1 : 0 ≤ i := by omega
      clear h0
      go_enter Tryd.func24, Tryd.ntmps24
      go_wp2_with fail
      go_ret
      exact ⟨rfl, (Below.refl _ _).alloc (Nat.le_refl _) _⟩
set_option maxHeartbeats 4000000 in
set_option maxRecDepth 100000 in
theorem Proves_short (root : List UInt8) (n i : Nat) (s : ByteArray) (A : Option Addr) (len cap : Nat) (w : World) (hn : n ≤ 9223372036854775807) (hi : i < n) (hl : len ≠ (Sha.path n i).length) :
    Calls Tryd.prog 24 #[.agg (bRow root), .int .i64 n, .int .i64 i, .string s, .slice A len cap] w fun e w' => e = .returned (.bool false) ∧ Below w.heap.size w w' := by
  have hlt : (i : Int) < (n : Int) := by omega
  have hne1 : (((Sha.path n i).length : Int) != (len : Int)) = true := by rw [bne_iff_ne]; omega
  have hne2 : ((Sha.path n i).length == len) = false := by rw [beq_eq_false_iff_ne]; omega
  generalize hW : Sha.path n i = W at *
  have HW := Lib.hid hW
  clear hW hl
  go_enter Tryd.func24, Tryd.ntmps24
  go_wp2_with fail
  refine calls_named ?_
  intro w1 hw1
  have hb1 : Below w.heap.size w w1 := by rw [hw1]; exact (Below.refl _ _).alloc (Nat.le_refl _) _
  clear hw1
  refine (path_any n i w1 hn hi).mono ?_
  rw [HW.out]
  rintro e w2 ⟨v, rfl, hown, hb2⟩
  obtain ⟨B, c, rfl, hc, hrow⟩ := own_row hown
  have hb2 := hb1.trans (hb2.mono hb1.size)
  clear hown hrow
  go_wp2_with fail
  go_ret
  exact ⟨rfl, hb2⟩
end Go.Proofs.YtdifbndpgbdkbaaDoor
