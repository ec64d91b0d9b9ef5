/- What later texts need of the earlier layers. -/
/- What later texts need of the earlier layers. -/
import Derived.Test.YtinciddchpccnaaDoorBxO
import Derived.Test.YtinciddchpccnaaDoorBxS
import Derived.Test.YtinciddchpccnaaDoorBxT
import Derived.Test.YtinciddchpccnaaDoorBxC
import Derived.Test.YtinciddchpccnaaDoorBxA
import Derived.Test.YtinciddchpccnaaDoorWinMath
import Derived.Test.YtinciddchpccnaaDoorWinNum
import Derived.Test.YtinciddchpccnaaDoorOwnApp
import Derived.Test.YtinciddchpccnaaDoorWinOwn
import Derived.Test.YtinciddchpccnaaDoorWinOwn8
import Derived.Test.YtinciddchpccnaaDoorWinKey
import Derived.Test.YtinciddchpccnaaDoorWinPack
import Derived.Test.YtinciddchpccnaaDoorWinUn
import Derived.Test.YtinciddchpccnaaDoorWinAgain
import Derived.Test.YtinciddchpccnaaDoorWinUp
import Derived.Test.YtinciddchpccnaaDoorWinFour
import Derived.Maps.RangeWalk
import Derived.Maps.OwnSet
import Derived.Maps.Views
set_option maxRecDepth 100000
/- ---- WinMap ---- -/
/- Layer 7: the map of the places at which four bytes stood, read as a function. -/
namespace Go.Proofs.YtinciddchpccnaaDoor
open Go.RowKit Go.Maps
set_option linter.unusedVariables false
set_option linter.unusedSimpArgs false

abbrev fourV (x : List UInt8) : Value := four4 (x.getD 0 0) (x.getD 1 0) (x.getD 2 0) (x.getD 3 0)
def litF (x : List UInt8) : Lit := .string (keyBytes [.int .u8 ((x.getD 0 0).toNat : Int), .int .u8 ((x.getD 1 0).toNat : Int), .int .u8 ((x.getD 2 0).toNat : Int), .int .u8 ((x.getD 3 0).toNat : Int)])
theorem keyF (x : List UInt8) : keyOf Tryd.prog 141 (fourV x) = some (litF x) :=
  key4 (x.getD 0 0) (x.getD 1 0) (x.getD 2 0) (x.getD 3 0)
theorem keyF_is (x : List UInt8) : WideAt.IsKeyLit (litF x) := lawF.key (keyF x)
theorem fourV_inj {x y : List UInt8} (hx : x.length = 4) (hy : y.length = 4) (h : fourV x = fourV y) : x = y := by
  match x, hx, y, hy with
  | [a, b, c, d], _, [a', b', c', d'], _ =>
    simp only [fourV, List.getD_cons_zero, List.getD_cons_succ] at h
    simp at h
    simp [← UInt8.toNat_inj]
    omega
theorem litF_ne {x y : List UInt8} (hx : x.length = 4) (hy : y.length = 4) (h : x ≠ y) : litF x ≠ litF y := by
  intro e
  have h1 := keyF x
  rw [e] at h1
  exact h (fourV_inj hx hy (lawF.inj h1 (keyF y)))
def Reads4 (D : DataW Unit) (f : List UInt8 → Option Nat) : Prop := IsMap D ∧ ∀ x, x.length = 4 → has D (litF x) = (f x).isSome ∧ ∀ c, f x = some c → ∀ z, D.atKey (litF x) z = .lit (.int .i64 (c : Int))
theorem Reads4.empty : Reads4 (.map []) (fun _ => none) := ⟨isMap_empty, fun x _ => ⟨rfl, fun c h => by cases h⟩⟩
theorem Reads4.put {D : DataW Unit} {f : List UInt8 → Option Nat} (h : Reads4 D f) (x : List UInt8) (hx : x.length = 4) (c : Nat) : Reads4 (D.put (litF x) (.lit (.int .i64 (c : Int)))) (fun y => if x = y then some c else f y) := by
  refine ⟨h.1.put _ _, fun y hy => ?_⟩
  by_cases e : x = y
  · subst e
    simp only [↓reduceIte]
    refine ⟨(has_put_same (k := litF x) h.1 (keyF_is x) _).trans rfl, fun c' e z => ?_⟩
    cases e
    exact atKey_put_same (k := litF x) h.1 (keyF_is x) _ _
  · simp only [if_neg e]
    have hne := litF_ne hy hx (fun e2 => e e2.symm)
    refine ⟨(has_put_other hne _).trans (h.2 y hy).1, fun c' e z => ?_⟩
    rw [atKey_put_other hne]
    exact (h.2 y hy).2 c' e z
theorem Reads4.congr {D : DataW Unit} {f g : List UInt8 → Option Nat} (h : Reads4 D f) (e : ∀ x, f x = g x) : Reads4 D g := by
  have : f = g := funext e
  rw [← this]; exact h
/-- one place more is put -/
theorem Reads4.last {D : DataW Unit} {K : List UInt8} {n : Nat} (h : Reads4 D (fun x => Win.lastAt K x n)) (hn : n + 4 ≤ K.length) : Reads4 (D.put (litF (Win.four K n)) (.lit (.int .i64 (n : Int)))) (fun x => Win.lastAt K x (n + 1)) := by
  have hl : (Win.four K n).length = 4 := by unfold Win.four; rw [List.length_take, List.length_drop]; omega
  refine (h.put _ hl n).congr fun x => ?_
  show _ = if n + 4 ≤ K.length ∧ Win.four K n = x then some n else Win.lastAt K x n
  by_cases e : Win.four K n = x
  · rw [if_pos e, if_pos ⟨hn, e⟩]
  · rw [if_neg e, if_neg (fun h2 => e h2.2)]
theorem Reads4.skip {D : DataW Unit} {K : List UInt8} {n : Nat} (h : Reads4 D (fun x => Win.lastAt K x n)) (hn : ¬ n + 4 ≤ K.length) : Reads4 D (fun x => Win.lastAt K x (n + 1)) := by
  refine h.congr fun x => ?_
  show _ = if n + 4 ≤ K.length ∧ Win.four K n = x then some n else Win.lastAt K x n
  rw [if_neg (fun h2 => hn h2.1)]
end Go.Proofs.YtinciddchpccnaaDoor
set_option maxRecDepth 100000
/- ---- WinLook ---- -/
/- Layer 7: a look into the map of places. -/
namespace Go.Proofs.YtinciddchpccnaaDoor
open Go.RowKit Go.Maps
set_option linter.unusedVariables false
set_option linter.unusedSimpArgs false

theorem zeroI7 (w : World) : (zeroValue 3).run Tryd.prog w = .ok (.int .i64 0) w := by kernel_rfl
theorem plain_int {v : Value} {y : DataW Unit} {ps : List MemPlace} (h : plainElem Tryd.prog 3 v = some (y, ps)) : ∃ a, v = .int .i64 a ∧ y = .lit (.int .i64 a) := by
  unfold plainElem at h
  rw [Tryd.underlying3] at h
  cases v with
  | int q a =>
    simp only at h
    split at h
    · rename_i hc
      injection h with h
      injection h with h1 h2
      exact ⟨a, by rw [hc.1], h1.symm⟩
    · cases h
  | _ => cases h
theorem run_look4 {w : World} {M N : Nat} {D : DataW Unit} {f : List UInt8 → Option Nat} (hown : w.ownsMap Tryd.prog 141 (plainElem Tryd.prog 3) M N D) (hV : Reads4 D f) (x : List UInt8) (hx : x.length = 4) :
    (Instr.lookup 127 (.map (some M)) (fourV x) true).run Tryd.prog w = .ok (.tuple #[.int .i64 (((f x).getD 0 : Nat) : Int), .bool (f x).isSome]) w := by
  obtain ⟨es, clock, hb, F, _, rfl⟩ := hown
  rcases Maps.fit_look true lawF Tryd.underlying127 (zeroI7 w) hb F (keyF x) with ⟨hrun, _, hat⟩ | ⟨e0, y, _, _, hrun, hRv, hat, _⟩
  · rcases hf : f x with _ | c
    · rw [hrun]; rfl
    · have h1 := (hV.2 x hx).2 c hf .nil
      rw [hat] at h1
      cases h1
  · rcases hf : f x with _ | c
    · have h1 := (hV.2 x hx).1
      rw [hf] at h1
      rw [Maps.has_true_of_atKey hat] at h1
      cases h1
    · have h1 := (hV.2 x hx).2 c hf .nil
      rw [hat] at h1
      obtain ⟨a, ha, hy⟩ := plain_int hRv
      rw [hy] at h1
      injection h1 with h1
      injection h1 with _ h1
      rw [hrun, ha, h1]; rfl
end Go.Proofs.YtinciddchpccnaaDoor
