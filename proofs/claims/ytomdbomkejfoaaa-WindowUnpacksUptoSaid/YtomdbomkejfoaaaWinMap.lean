/- Layer 7: the map of the places at which four bytes stood, read as a function. -/
import Derived.Test.YtomdbomkejfoaaaWinFour
import Derived.Maps.RangeWalk
import Derived.Maps.OwnSet
import Derived.Maps.Views
namespace Go.Proofs.Ytomdbomkejfoaaa
open Go.RowKit Go.Maps
set_option linter.unusedVariables false
set_option linter.unusedSimpArgs false

abbrev fourV (x : List UInt8) : Value := four4 (x.getD 0 0) (x.getD 1 0) (x.getD 2 0) (x.getD 3 0)
def litF (x : List UInt8) : Lit := .string (keyBytes [.int .u8 ((x.getD 0 0).toNat : Int), .int .u8 ((x.getD 1 0).toNat : Int), .int .u8 ((x.getD 2 0).toNat : Int), .int .u8 ((x.getD 3 0).toNat : Int)])
theorem keyF (x : List UInt8) : keyOf Try.prog 45 (fourV x) = some (litF x) :=
  key4 (x.getD 0 0) (x.getD 1 0) (x.getD 2 0) (x.getD 3 0)
theorem keyF_is (x : List UInt8) : WideAt.IsKeyLit (litF x) := lawF.key (keyF x)
theorem fourV_inj {x y : List UInt8} (hx : x.length = 4) (hy : y.length = 4) (h : fourV x = fourV y) : x = y := by
  match x, hx, y, hy with
  | [a, b, c, d], _, [a', b', c', d'], _ =>
    simp only [fourV, List.getD_cons_zero, List.getD_cons_succ] at h
    simp at h
    simp [← UInt8.toNat_inj]
    omega
theorem litF_ne {x y : List UInt8} (hx : x.length = 4) (hy : y.length = 4) (h : x ≠ y) : litF x ≠ litF y := by
  intro e
  have h1 := keyF x
  rw [e] at h1
  exact h (fourV_inj hx hy (lawF.inj h1 (keyF y)))
def Reads4 (D : DataW Unit) (f : List UInt8 → Option Nat) : Prop := IsMap D ∧ ∀ x, x.length = 4 → has D (litF x) = (f x).isSome ∧ ∀ c, f x = some c → ∀ z, D.atKey (litF x) z = .lit (.int .i64 (c : Int))
theorem Reads4.empty : Reads4 (.map []) (fun _ => none) := ⟨isMap_empty, fun x _ => ⟨rfl, fun c h => by cases h⟩⟩
theorem Reads4.put {D : DataW Unit} {f : List UInt8 → Option Nat} (h : Reads4 D f) (x : List UInt8) (hx : x.length = 4) (c : Nat) : Reads4 (D.put (litF x) (.lit (.int .i64 (c : Int)))) (fun y => if x = y then some c else f y) := by
  refine ⟨h.1.put _ _, fun y hy => ?_⟩
  by_cases e : x = y
  · subst e
    simp only [↓reduceIte]
    refine ⟨(has_put_same (k := litF x) h.1 (keyF_is x) _).trans rfl, fun c' e z => ?_⟩
    cases e
    exact atKey_put_same (k := litF x) h.1 (keyF_is x) _ _
  · simp only [if_neg e]
    have hne := litF_ne hy hx (fun e2 => e e2.symm)
    refine ⟨(has_put_other hne _).trans (h.2 y hy).1, fun c' e z => ?_⟩
    rw [atKey_put_other hne]
    exact (h.2 y hy).2 c' e z
theorem Reads4.congr {D : DataW Unit} {f g : List UInt8 → Option Nat} (h : Reads4 D f) (e : ∀ x, f x = g x) : Reads4 D g := by
  have : f = g := funext e
  rw [← this]; exact h
/-- one place more is put -/
theorem Reads4.last {D : DataW Unit} {K : List UInt8} {n : Nat} (h : Reads4 D (fun x => Win.lastAt K x n)) (hn : n + 4 ≤ K.length) : Reads4 (D.put (litF (Win.four K n)) (.lit (.int .i64 (n : Int)))) (fun x => Win.lastAt K x (n + 1)) := by
  have hl : (Win.four K n).length = 4 := by unfold Win.four; rw [List.length_take, List.length_drop]; omega
  refine (h.put _ hl n).congr fun x => ?_
  show _ = if n + 4 ≤ K.length ∧ Win.four K n = x then some n else Win.lastAt K x n
  by_cases e : Win.four K n = x
  · rw [if_pos e, if_pos ⟨hn, e⟩]
  · rw [if_neg e, if_neg (fun h2 => e h2.2)]
theorem Reads4.skip {D : DataW Unit} {K : List UInt8} {n : Nat} (h : Reads4 D (fun x => Win.lastAt K x n)) (hn : ¬ n + 4 ≤ K.length) : Reads4 D (fun x => Win.lastAt K x (n + 1)) := by
  refine h.congr fun x => ?_
  show _ = if n + 4 ≤ K.length ∧ Win.four K n = x then some n else Win.lastAt K x n
  rw [if_neg (fun h2 => hn h2.1)]
end Go.Proofs.Ytomdbomkejfoaaa
