/- Layer 7: a look into the map of places. -/
import Derived.Test.YtomdbomkejfoaaaWinMap
namespace Go.Proofs.Ytomdbomkejfoaaa
open Go.RowKit Go.Maps
set_option linter.unusedVariables false
set_option linter.unusedSimpArgs false

theorem zeroI7 (w : World) : (zeroValue 3).run Try.prog w = .ok (.int .i64 0) w := by kernel_rfl
theorem plain_int {v : Value} {y : DataW Unit} {ps : List MemPlace} (h : plainElem Try.prog 3 v = some (y, ps)) : ∃ a, v = .int .i64 a ∧ y = .lit (.int .i64 a) := by
  unfold plainElem at h
  rw [Try.underlying3] at h
  cases v with
  | int q a =>
    simp only at h
    split at h
    · rename_i hc
      injection h with h
      injection h with h1 h2
      exact ⟨a, by rw [hc.1], h1.symm⟩
    · cases h
  | _ => cases h
theorem run_look4 {w : World} {M N : Nat} {D : DataW Unit} {f : List UInt8 → Option Nat} (hown : w.ownsMap Try.prog 45 (plainElem Try.prog 3) M N D) (hV : Reads4 D f) (x : List UInt8) (hx : x.length = 4) :
    (Instr.lookup 33 (.map (some M)) (fourV x) true).run Try.prog w = .ok (.tuple #[.int .i64 (((f x).getD 0 : Nat) : Int), .bool (f x).isSome]) w := by
  obtain ⟨es, clock, hb, F, _, rfl⟩ := hown
  rcases Maps.fit_look true lawF Try.underlying33 (zeroI7 w) hb F (keyF x) with ⟨hrun, _, hat⟩ | ⟨e0, y, _, _, hrun, hRv, hat, _⟩
  · rcases hf : f x with _ | c
    · rw [hrun]; rfl
    · have h1 := (hV.2 x hx).2 c hf .nil
      rw [hat] at h1
      cases h1
  · rcases hf : f x with _ | c
    · have h1 := (hV.2 x hx).1
      rw [hf] at h1
      rw [Maps.has_true_of_atKey hat] at h1
      cases h1
    · have h1 := (hV.2 x hx).2 c hf .nil
      rw [hat] at h1
      obtain ⟨a, ha, hy⟩ := plain_int hRv
      rw [hy] at h1
      injection h1 with h1
      injection h1 with _ h1
      rw [hrun, ha, h1]; rfl
end Go.Proofs.Ytomdbomkejfoaaa
