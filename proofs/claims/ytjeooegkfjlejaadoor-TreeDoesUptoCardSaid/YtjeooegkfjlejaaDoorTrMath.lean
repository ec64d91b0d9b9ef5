/- What later texts need of the earlier layers. -/
import Derived.Test.YtjeooegkfjlejaaDoorEarO
import Derived.Test.YtjeooegkfjlejaaDoorEarS
import Derived.Test.YtjeooegkfjlejaaDoorEarT
import Derived.Test.YtjeooegkfjlejaaDoorEarC
import Derived.Test.YtjeooegkfjlejaaDoorEarA
import Derived.Test.YtjeooegkfjlejaaDoorEarB
import Derived.Test.YtjeooegkfjlejaaDoorIbA
/- ---- TrMath ---- -/
/- The first chain, as plain data: hashes of blocks, links, what is mined and turned. -/
namespace Go.Proofs.YtjeooegkfjlejaaDoor
open Go.RowKit
set_option linter.unusedVariables false
set_option linter.unusedSimpArgs false

namespace Tr
abbrev T8 := List UInt8
def texts (b : Bk) : List T8 := Oct.num b.number.toNat :: Oct.num b.salt.toNat :: b.parent :: b.items.map fun i => i.textE.1
/-- may a block be? -/
def may (b : Bk) : Bool := Tx.num b.number && (Tx.num b.salt && (decide (b.items.length ≤ 32) && b.items.all It.ok))
/-- a block's hash -/
def hashE (b : Bk) : T8 × Int :=
  if may b = true then (if (Oct.listE (texts b)).2 = 0 then (Sha.sum (Oct.listE (texts b)).1, 0) else (Tx.zero, (Oct.listE (texts b)).2)) else (Tx.zero, 2)
theorem hashE_len (b : Bk) : (hashE b).1.length = 32 := by
  unfold hashE
  split
  · split
    · exact Sha.sum_len _
    · rfl
  · rfl
theorem listE_code (l : List T8) : (Oct.listE l).2 = 0 ∨ (Oct.listE l).2 = 3 := by
  unfold Oct.listE
  split
  · exact .inr rfl
  · split
    · exact .inr rfl
    · exact .inl rfl
theorem may_of {b : Bk} (h : (hashE b).2 = 0) : may b = true := by
  unfold hashE at h
  split at h
  · assumption
  · simp at h
theorem may_iff (b : Bk) : may b = true ↔ (0 ≤ b.number ∧ b.number ≤ 1099511627776) ∧ (0 ≤ b.salt ∧ b.salt ≤ 1099511627776) ∧ b.items.length ≤ 32 ∧ ∀ i ∈ b.items, i.ok = true := by
  unfold may
  simp only [Bool.and_eq_true, decide_eq_true_eq, List.all_eq_true, No.num_iff]
/-- a block of a chain, with its hash -/
structure Lk where
  b : Bk
  hash : T8
/-- the link with these: its hash, or why there is none -/
def link (b : Bk) : Lk × Int := (⟨b, (hashE b).1⟩, (hashE b).2)
def next (last : Lk) (items : List It) (salt : Int) : Bk := ⟨last.b.number + 1, salt, last.hash, items⟩
/-- a link that has a hash has its block's -/
def Lk.Right (l : Lk) : Prop := l.hash.length = 32 ∧ l.b.parent.length = 32 ∧ (l.hash = Tx.zero ∨ hashE l.b = (l.hash, 0))
def zeroB : Bk := ⟨0, 0, Tx.zero, []⟩
def zeroL : Lk := ⟨zeroB, Tx.zero⟩
theorem zeroL_right : zeroL.Right := ⟨rfl, rfl, .inl rfl⟩
/-- each block has its place's number, its hash, and the hash of the one ahead -/
def Linked : Int → T8 → List Lk → Prop
  | _, _, [] => True
  | n, p, l :: r => l.b.number = n ∧ l.b.parent = p ∧ hashE l.b = (l.hash, 0) ∧ Linked (n + 1) l.hash r
def lastOf : Lk → List Lk → Lk
  | l, [] => l
  | _, l :: r => lastOf l r
theorem linked_append {n : Int} {p : T8} : ∀ {L M : List Lk}, Linked n p L → Linked (n + L.length) (lastOf ⟨zeroB, p⟩ L).hash M → Linked n p (L ++ M)
  | [], M, _, h => by simpa [lastOf] using h
  | l :: r, M, ⟨h1, h2, h3, h4⟩, h => by
    refine ⟨h1, h2, h3, linked_append h4 ?_⟩
    have e : (lastOf ⟨zeroB, l.hash⟩ r).hash = (lastOf l r).hash := by cases r <;> rfl
    rw [e]
    have e2 : n + 1 + (r.length : Int) = n + ((l :: r).length : Int) := by simp only [List.length_cons]; omega
    rw [e2]
    exact h
theorem linked_take {n : Int} {p : T8} : ∀ {L : List Lk} (k : Nat), Linked n p L → Linked n p (L.take k)
  | [], k, h => by rw [List.take_nil]; trivial
  | l :: r, 0, h => trivial
  | l :: r, k + 1, ⟨h1, h2, h3, h4⟩ => ⟨h1, h2, h3, linked_take k h4⟩
theorem linked_at {n : Int} {p : T8} : ∀ {L : List Lk} {k : Nat} (hk : k < L.length), Linked n p L → L[k].b.number = n + k ∧ hashE L[k].b = (L[k].hash, 0) ∧ ∀ (h : k + 1 < L.length), L[k + 1].b.parent = L[k].hash
  | l :: r, 0, hk, ⟨h1, h2, h3, h4⟩ => by
    refine ⟨by simpa using h1, h3, fun h => ?_⟩
    cases r with
    | nil => simp at h
    | cons x r => exact h4.2.1
  | l :: r, k + 1, hk, ⟨h1, h2, h3, h4⟩ => by
    obtain ⟨q1, q2, q3⟩ := linked_at (k := k) (by simpa using hk) h4
    refine ⟨?_, by simpa using q2, fun h => ?_⟩
    · simp only [List.getElem_cons_succ]
      rw [q1]; push_cast; omega
    · simpa using q3 (by simpa using h)
theorem lastOf_get {d : Lk} : ∀ {L : List Lk} (h : L ≠ []), lastOf d L = L[L.length - 1]'(by have := List.length_pos_iff.2 h; omega)
  | [l], _ => rfl
  | l :: x :: r, _ => by
    show lastOf l (x :: r) = _
    rw [lastOf_get (d := l) (L := x :: r) (by simp)]
    simp
end Tr
end Go.Proofs.YtjeooegkfjlejaaDoor
