/- digest.proof, Proof, cavalcadelaw02.few: what they return. -/
import Derived.Test.YtdifbndpgbdkbaaDoorShaProof
namespace Go.Proofs.YtdifbndpgbdkbaaDoor
open Go.RowKit
set_option linter.unusedVariables false
set_option linter.unusedSimpArgs false

theorem proof_some : ∀ (n : Nat) (L : List (List UInt8)) (b off cap i : Nat) (w : World), L.length = n → Tab w → Lies w w.heap.size b off L → Small L → L.length ≤ cap → L.length ≤ 9223372036854775807 → i < L.length →
    Calls Tryd.prog 42 #[.slice (some ⟨b, off, none⟩) L.length cap, .int .i64 i] w fun e w' => ∃ v, e = .returned v ∧ w'.ownsRow w.heap.size 24 32 v (Sha.proof L i).length (hcells (Sha.proof L i)) ∧ Below w.heap.size w w' := by
  intro n
  induction n using Nat.strongRecOn with
  | ind n ih =>
    intro L b off cap i w hn hT hL hS hc hbig hi
    by_cases h2 : 2 ≤ L.length
    · have hih : ∀ (M : List (List UInt8)) (b off cap i : Nat) (w : World), M.length < L.length → Lies w w.heap.size b off M → Small M → M.length ≤ cap → i < M.length → Tab w →
          Calls Tryd.prog 42 #[.slice (some ⟨b, off, none⟩) M.length cap, .int .i64 i] w fun e w' => ∃ v, e = .returned v ∧ w'.ownsRow w.heap.size 24 32 v (Sha.proof M i).length (hcells (Sha.proof M i)) ∧ Below w.heap.size w w' :=
        fun M b' off' cap' i' w' hM hL' hS' hc' hi' hT' => ih M.length (by omega) M b' off' cap' i' w' rfl hT' hL' hS' hc' (by omega) hi'
      by_cases hik : i < Sha.half L.length
      · exact proof_left_ L b off cap i w hT hL hS h2 hc hbig hi hik hih
      · exact proof_right_ L b off cap i w hT hL hS h2 hc hbig hi hik hih
    · have h1 : L.length = 1 := by omega
      rw [Sha.proof_one L i h2, h1]
      exact proof_end L _ i cap w
theorem Proof_out (L : List (List UInt8)) (A : Option Addr) (i : Int) (cap : Nat) (w : World) (h : i < 0 ∨ (L.length : Int) ≤ i) :
    Calls Tryd.prog 19 #[.slice A L.length cap, .int .i64 i] w fun e w' => e = .returned (.tuple #[.slice none 0 0, .int .i64 4]) ∧ Below w.heap.size w w' := by
  generalize L.length = n at *
  by_cases h0 : i < 0
  · go_enter Tryd.func19, Tryd.ntmps19
    go_wp2_with fail
    go_ret2
    exact ⟨rfl, Below.refl _ _⟩
  · have h1 : 0 ≤ i := by omega
    have h2 : (n : Int) ≤ i := by omega
    clear h0 h
    go_enter Tryd.func19, Tryd.ntmps19
    go_wp2_with fail
    go_ret2
    exact ⟨rfl, Below.refl _ _⟩
theorem Proof_in (L : List (List UInt8)) (b off cap i : Nat) (w : World) (hT : Tab w) (hL : Lies w w.heap.size b off L) (hS : Small L) (hc : L.length ≤ cap) (hbig : L.length ≤ 9223372036854775807) (hi : i < L.length) :
    Calls Tryd.prog 19 #[.slice (some ⟨b, off, none⟩) L.length cap, .int .i64 i] w fun e w' => ∃ v, e = .returned (.tuple #[v, .int .i64 0]) ∧ w'.ownsRow w.heap.size 24 32 v (Sha.proof L i).length (hcells (Sha.proof L i)) ∧ Below w.heap.size w w' := by
  have hp := proof_some L.length L b off cap i w rfl hT hL hS hc hbig hi
  have HP := Lib.hid hp
  have hi2 : (i : Int) < (L.length : Int) := by omega
  clear hp hT hL hS
  go_enter Tryd.func19, Tryd.ntmps19
  go_wp2_with fail
  refine HP.out.mono ?_
  rintro e w1 ⟨v, rfl, hown, hb⟩
  have HO := Lib.hid hown
  clear hown
  go_wp2_with fail
  go_ret2
  exact ⟨v, rfl, HO.out, hb⟩
theorem few_any (A : Option Addr) (n cap : Nat) (w : World) (hc : n ≤ cap) (hn : n ≤ 9223372036854775807) :
    Calls Tryd.prog 18 #[.slice A n cap] w fun e w' => e = .returned (.slice A (min n 100) cap) ∧ w = w' := by
  by_cases h : 100 < n
  · have h1 : (100 : Int) ≤ (cap : Int) := by omega
    rw [show min n 100 = 100 by omega]
    go_enter Tryd.func18, Tryd.ntmps18
    go_wp2_with fail
    go_ret
    exact ⟨rfl, rfl⟩
  · rw [show min n 100 = n by omega]
    go_enter Tryd.func18, Tryd.ntmps18
    go_wp2_with fail
    go_ret
    exact ⟨rfl, rfl⟩
end Go.Proofs.YtdifbndpgbdkbaaDoor
