/- What later texts need of the earlier layers. -/
import Derived.Test.YtjeooegkfjlejaaDoorEarO
import Derived.Test.YtjeooegkfjlejaaDoorEarS
import Derived.Test.YtjeooegkfjlejaaDoorEarT
import Derived.Test.YtjeooegkfjlejaaDoorEarC
import Derived.Test.YtjeooegkfjlejaaDoorEarA
import Derived.Test.YtjeooegkfjlejaaDoorEarB
import Derived.Test.YtjeooegkfjlejaaDoorIbA
import Derived.Test.YtjeooegkfjlejaaDoorTrMath
/- ---- TrTm ---- -/
/- Turns of the first chain, as plain data. -/
namespace Go.Proofs.YtjeooegkfjlejaaDoor
open Go.RowKit
set_option linter.unusedVariables false
set_option linter.unusedSimpArgs false

namespace Tr
/-- the blocks of a turn, and why there are none -/
def freshE (salt : Int) : Lk → List (List It) → List Lk × Int
  | _, [] => ([], 0)
  | last, its :: r => if (link (next last its salt)).2 = 0 then ((link (next last its salt)).1 :: (freshE salt (link (next last its salt)).1 r).1, (freshE salt (link (next last its salt)).1 r).2) else ([], (link (next last its salt)).2)
theorem freshE_linked (salt : Int) : ∀ (last : Lk) (bs : List (List It)), Linked (last.b.number + 1) last.hash (freshE salt last bs).1
  | _, [] => trivial
  | last, its :: r => by
    unfold freshE
    split
    · next h =>
      refine ⟨rfl, rfl, ?_, freshE_linked salt (link (next last its salt)).1 r⟩
      exact Prod.ext rfl h
    · trivial
theorem freshE_len (salt : Int) : ∀ (last : Lk) (bs : List (List It)), (freshE salt last bs).2 = 0 → (freshE salt last bs).1.length = bs.length
  | _, [], _ => rfl
  | last, its :: r, h => by
    unfold freshE at h ⊢
    split at h
    · next h1 =>
      rw [if_pos h1]
      simp only [List.length_cons]
      rw [freshE_len salt _ r h]
    · next h1 => exact absurd h h1
/-- what is checked first: a chain of n blocks, a turn under so many, of m blocks -/
def tcode (n : Nat) (under : Int) (m : Nat) : Int :=
  if under < 0 then 2 else if (n : Int) - 1 < under then 32 else if (m : Int) ≤ under then 2 else if 4096 < (n : Int) - 1 - under + m then 25 else 0
def stay (n : Nat) (under : Int) : Nat := n - under.toNat
theorem tcode_zero {n m : Nat} {under : Int} (h : tcode n under m = 0) : 0 ≤ under ∧ under ≤ (n : Int) - 1 ∧ under < m ∧ (n : Int) - 1 - under + m ≤ 4096 := by
  unfold tcode at h
  split at h
  · omega
  · split at h
    · omega
    · split at h
      · omega
      · split at h
        · omega
        · omega
def turnF (L : List Lk) (under : Int) (bs : List (List It)) (salt : Int) : List Lk × Int := freshE salt (lastOf zeroL (L.take (stay L.length under))) bs
def turnC (L : List Lk) (under : Int) (bs : List (List It)) (salt : Int) : Int :=
  if tcode L.length under bs.length = 0 then (turnF L under bs salt).2 else tcode L.length under bs.length
def turnL (L : List Lk) (under : Int) (bs : List (List It)) (salt : Int) : List Lk :=
  if turnC L under bs salt = 0 then L.take (stay L.length under) ++ (turnF L under bs salt).1 else L
def turnD (de : Int) (L : List Lk) (under : Int) (bs : List (List It)) (salt : Int) : Int :=
  if turnC L under bs salt = 0 then max de under else de
theorem turnC_zero {L : List Lk} {under : Int} {bs : List (List It)} {salt : Int} (h : turnC L under bs salt = 0) : tcode L.length under bs.length = 0 ∧ (turnF L under bs salt).2 = 0 := by
  unfold turnC at h
  split at h
  · next q => exact ⟨q, h⟩
  · next q => exact absurd h q
/-- a chain as it may be -/
def Good (L : List Lk) : Prop := Linked 0 Tx.zero L ∧ L ≠ [] ∧ L.length ≤ 4097
theorem Good.num {L : List Lk} (h : Good L) {k : Nat} (hk : k < L.length) : L[k].b.number = k ∧ hashE L[k].b = (L[k].hash, 0) := by
  obtain ⟨h1, h2, _⟩ := linked_at hk h.1
  exact ⟨by omega, h2⟩
theorem Good.last {L : List Lk} (h : Good L) : (lastOf zeroL L).b.number = (L.length : Int) - 1 := by
  have hp := List.length_pos_iff.2 h.2.1
  rw [lastOf_get h.2.1, (h.num (by omega)).1]
  omega
theorem Good.take {L : List Lk} (h : Good L) {k : Nat} (hk : 0 < k) : Good (L.take k) :=
  ⟨linked_take k h.1, fun e => by
    have := List.length_pos_iff.2 h.2.1
    have e2 := congrArg List.length e
    rw [List.length_take, List.length_nil] at e2
    omega, by have := h.2.2; rw [List.length_take]; omega⟩
theorem lastOf_any (a b : Lk) : ∀ {L : List Lk}, L ≠ [] → lastOf a L = lastOf b L
  | _ :: _, _ => rfl
theorem Good.append {L M : List Lk} (h : Good L) (hM : Linked ((lastOf zeroL L).b.number + 1) (lastOf zeroL L).hash M) (hl : L.length + M.length ≤ 4097) : Good (L ++ M) := by
  refine ⟨linked_append h.1 ?_, by simp [h.2.1], by rw [List.length_append]; exact hl⟩
  have e := h.last
  rw [e] at hM
  rw [lastOf_any ⟨zeroB, Tx.zero⟩ zeroL h.2.1]
  have e2 : (L.length : Int) - 1 + 1 = 0 + L.length := by omega
  rwa [e2] at hM
theorem stay_pos {n m : Nat} {under : Int} (h : tcode n under m = 0) : 0 < stay n under ∧ stay n under ≤ n ∧ ((stay n under : Nat) : Int) = n - under ∧ n < stay n under + m ∧ stay n under + m ≤ 4097 := by
  have := tcode_zero h
  unfold stay
  omega
theorem Good.turn {L : List Lk} (h : Good L) (under : Int) (bs : List (List It)) (salt : Int) : Good (turnL L under bs salt) := by
  unfold turnL
  split
  · next q =>
    obtain ⟨q1, q2⟩ := turnC_zero q
    obtain ⟨s1, s2, s3, s4, s5⟩ := stay_pos q1
    refine (h.take s1).append (freshE_linked _ _ _) ?_
    have := freshE_len _ _ _ q2
    unfold turnF
    rw [this, List.length_take]
    omega
  · exact h
/-- what is mined -/
def mineC (L : List Lk) (items : List It) (salt : Int) : Int := if 4096 ≤ L.length - 1 then 25 else (link (next (lastOf zeroL L) items salt)).2
def mineL (L : List Lk) (items : List It) (salt : Int) : List Lk := if mineC L items salt = 0 then L ++ [(link (next (lastOf zeroL L) items salt)).1] else L
theorem Good.mine {L : List Lk} (h : Good L) (items : List It) (salt : Int) : Good (mineL L items salt) := by
  unfold mineL
  split
  · next q =>
    unfold mineC at q
    split at q
    · omega
    · next q2 =>
      refine h.append ⟨rfl, rfl, Prod.ext rfl q, trivial⟩ ?_
      have := List.length_pos_iff.2 h.2.1
      rw [List.length_singleton]
      omega
  · exact h
/-- the first blocks, up to a number -/
def uptoL (L : List Lk) (n : Int) : List Lk := L.takeWhile fun x => decide (x.b.number ≤ n)
theorem uptoL_linked {q : Int} {p : T8} : ∀ {L : List Lk} (n : Int), Linked q p L → uptoL L n = L.take (n + 1 - q).toNat
  | [], n, _ => by simp [uptoL]
  | l :: r, n, ⟨h1, h2, h3, h4⟩ => by
    unfold uptoL
    by_cases h : l.b.number ≤ n
    · rw [List.takeWhile_cons_of_pos (by simpa using h)]
      have e := uptoL_linked n h4
      unfold uptoL at e
      rw [e]
      obtain ⟨m, hm⟩ : ∃ m, (n + 1 - q).toNat = m + 1 := ⟨(n - q).toNat, by omega⟩
      rw [hm, List.take_succ_cons]
      congr 2
      omega
    · rw [List.takeWhile_cons_of_neg (by simpa using h), show (n + 1 - q).toNat = 0 by omega]
      rfl
theorem Good.uptoL {L : List Lk} (h : Good L) (n : Int) : Tr.uptoL L n = L.take (n + 1).toNat := by
  rw [uptoL_linked n h.1, Int.sub_zero]
end Tr
end Go.Proofs.YtjeooegkfjlejaaDoor
