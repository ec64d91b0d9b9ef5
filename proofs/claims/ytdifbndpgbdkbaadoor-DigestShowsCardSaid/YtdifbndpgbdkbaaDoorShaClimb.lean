/- Ways in a list, and where climbing back with a proof comes to: plain mathematics. -/
import Derived.Test.YtdifbndpgbdkbaaDoorShaRoot
namespace Go.Proofs.YtdifbndpgbdkbaaDoor
set_option linter.unusedVariables false
set_option linter.unusedSimpArgs false
namespace Sha
/-- in which half the text i of n stands, from the whole list inwards; true: the right one -/
def pathF : Nat → Nat → Nat → List Bool
  | 0, _, _ => []
  | f + 1, n, i => if 2 ≤ n then if i < half n then false :: pathF f (half n) i else true :: pathF f (n - half n) (i - half n) else []
def path (n i : Nat) : List Bool := pathF n n i
theorem pathF_any : ∀ f g n i, n ≤ f → n ≤ g → pathF f n i = pathF g n i
  | 0, 0, _, _, _, _ => rfl
  | 0, g + 1, n, i, h, _ => by
    have : ¬ 2 ≤ n := by omega
    simp only [pathF]; rw [if_neg this]
  | f + 1, 0, n, i, _, h => by
    have : ¬ 2 ≤ n := by omega
    simp only [pathF]; rw [if_neg this]
  | f + 1, g + 1, n, i, h1, h2 => by
    simp only [pathF]
    by_cases h : 2 ≤ n
    · have hl := half_lt n h
      have hp := half_pos n
      rw [if_pos h, if_pos h, pathF_any f g (half n) i (by omega) (by omega), pathF_any f g (n - half n) (i - half n) (by omega) (by omega)]
    · rw [if_neg h, if_neg h]
theorem path_one (n i : Nat) (h : ¬ 2 ≤ n) : path n i = [] := by
  unfold path; cases n with
  | zero => rfl
  | succ n => simp only [pathF]; rw [if_neg h]
theorem path_left (n i : Nat) (h : 2 ≤ n) (hi : i < half n) : path n i = false :: path (half n) i := by
  have hl := half_lt n h
  unfold path
  obtain ⟨m, rfl⟩ : ∃ m, n = m + 1 := ⟨n - 1, by omega⟩
  simp only [pathF]
  rw [if_pos h, if_pos hi, pathF_any m (half (m + 1)) _ _ (by omega) (Nat.le_refl _)]
theorem path_right (n i : Nat) (h : 2 ≤ n) (hi : ¬ i < half n) : path n i = true :: path (n - half n) (i - half n) := by
  have hp := half_pos n
  unfold path
  obtain ⟨m, rfl⟩ : ∃ m, n = m + 1 := ⟨n - 1, by omega⟩
  simp only [pathF]
  rw [if_pos h, if_neg hi, pathF_any m (m + 1 - half (m + 1)) _ _ (by omega) (Nat.le_refl _)]
/-- a way is no longer than the list is -/
theorem path_len (n i : Nat) : (path n i).length ≤ n := by
  have : ∀ f n i, n ≤ f → (pathF f n i).length ≤ n := by
    intro f
    induction f with
    | zero => intro n i _; simp [pathF]
    | succ f ih =>
      intro n i h
      simp only [pathF]
      by_cases h2 : 2 ≤ n
      · have hl := half_lt n h2
        have hp := half_pos n
        rw [if_pos h2]
        split
        · have := ih (half n) i (by omega); simp; omega
        · have := ih (n - half n) (i - half n) (by omega); simp; omega
      · rw [if_neg h2]; simp
  exact this n n i (Nat.le_refl _)
/-- what climbing back along a way comes to, with the hashes of the other halves, the outermost first -/
def climb (leaf : List UInt8) : List Bool → List (List UInt8) → List UInt8
  | false :: W, p :: R => sum (1 :: (climb leaf W R ++ p))
  | true :: W, p :: R => sum (1 :: (p ++ climb leaf W R))
  | _, _ => leaf
theorem climb_len (leaf : List UInt8) (hl : leaf.length = 32) : ∀ W R, (climb leaf W R).length = 32
  | [], R => by unfold climb; exact hl
  | true :: W, p :: R => by unfold climb; exact sum_len _
  | false :: W, p :: R => by unfold climb; exact sum_len _
  | true :: W, [] => by unfold climb; exact hl
  | false :: W, [] => by unfold climb; exact hl
/-- the reference's way back: the hashes of the proof, the last first -/
def back (leaf : List UInt8) : Nat → Nat → List (List UInt8) → List UInt8 × Bool
  | n, _, [] => if 2 ≤ n then (List.replicate 32 0, false) else (leaf, true)
  | n, i, p :: R => if 2 ≤ n then if i < half n then (sum (1 :: ((back leaf (half n) i R).1 ++ p)), (back leaf (half n) i R).2)
      else (sum (1 :: (p ++ (back leaf (n - half n) (i - half n) R).1)), (back leaf (n - half n) (i - half n) R).2) else (leaf, false)
theorem back_len (leaf : List UInt8) (hl : leaf.length = 32) : ∀ R n i, (back leaf n i R).1.length = 32
  | [], n, i => by
    unfold back; split
    · simp
    · exact hl
  | p :: R, n, i => by
    unfold back; split
    · split <;> exact sum_len _
    · exact hl
theorem back_ok (leaf : List UInt8) : ∀ R n i, (back leaf n i R).2 = decide ((path n i).length = R.length)
  | [], n, i => by
    unfold back
    by_cases h : 2 ≤ n
    · rw [if_pos h]
      by_cases hi : i < half n
      · rw [path_left n i h hi]; simp
      · rw [path_right n i h hi]; simp
    · rw [if_neg h, path_one n i h]; simp
  | p :: R, n, i => by
    unfold back
    by_cases h : 2 ≤ n
    · rw [if_pos h]
      by_cases hi : i < half n
      · rw [if_pos hi, path_left n i h hi]; simp [back_ok leaf R]
      · rw [if_neg hi, path_right n i h hi]; simp [back_ok leaf R]
    · rw [if_neg h, path_one n i h]; simp
theorem back_climb (leaf : List UInt8) : ∀ R n i, (path n i).length = R.length → (back leaf n i R).1 = climb leaf (path n i) R
  | [], n, i, hl => by
    unfold back
    by_cases h : 2 ≤ n
    · by_cases hi : i < half n
      · rw [path_left n i h hi] at hl; simp at hl
      · rw [path_right n i h hi] at hl; simp at hl
    · rw [if_neg h, path_one n i h]; rfl
  | p :: R, n, i, hl => by
    unfold back
    by_cases h : 2 ≤ n
    · rw [if_pos h]
      by_cases hi : i < half n
      · rw [path_left n i h hi] at hl ⊢
        rw [if_pos hi]
        simp only [climb]
        rw [back_climb leaf R (half n) i (by simpa using hl)]
      · rw [path_right n i h hi] at hl ⊢
        rw [if_neg hi]
        simp only [climb]
        rw [back_climb leaf R _ _ (by simpa using hl)]
    · rw [path_one n i h] at hl; simp at hl
/-- what a proof shows -/
def proves (root : List UInt8) (n i : Nat) (s : List UInt8) (P : List (List UInt8)) : Bool :=
  decide ((path n i).length = P.length) && decide (climb (sum (0 :: s)) (path n i) P.reverse = root)
/-- the proof of text i, the innermost half's hash first -/
def proofF : Nat → List (List UInt8) → Nat → List (List UInt8)
  | 0, _, _ => []
  | f + 1, L, i => if 2 ≤ L.length then if i < half L.length then proofF f (L.take (half L.length)) i ++ [root (L.drop (half L.length))]
      else proofF f (L.drop (half L.length)) (i - half L.length) ++ [root (L.take (half L.length))] else []
def proof (L : List (List UInt8)) (i : Nat) : List (List UInt8) := proofF L.length L i
theorem proofF_any : ∀ f g (L : List (List UInt8)) i, L.length ≤ f → L.length ≤ g → proofF f L i = proofF g L i
  | 0, 0, _, _, _, _ => rfl
  | 0, g + 1, L, i, h, _ => by
    have : ¬ 2 ≤ L.length := by omega
    simp only [proofF]; rw [if_neg this]
  | f + 1, 0, L, i, _, h => by
    have : ¬ 2 ≤ L.length := by omega
    simp only [proofF]; rw [if_neg this]
  | f + 1, g + 1, L, i, h1, h2 => by
    simp only [proofF]
    by_cases h : 2 ≤ L.length
    · have hl := half_lt L.length h
      have hp := half_pos L.length
      rw [if_pos h, if_pos h, proofF_any f g (L.take (half L.length)) i (by rw [List.length_take]; omega) (by rw [List.length_take]; omega),
        proofF_any f g (L.drop (half L.length)) (i - half L.length) (by rw [List.length_drop]; omega) (by rw [List.length_drop]; omega)]
    · rw [if_neg h, if_neg h]
theorem proof_one (L : List (List UInt8)) (i : Nat) (h : ¬ 2 ≤ L.length) : proof L i = [] := by
  unfold proof; cases hn : L.length with
  | zero => rfl
  | succ n => simp only [proofF]; rw [if_neg h]
theorem proof_left (L : List (List UInt8)) (i : Nat) (h : 2 ≤ L.length) (hi : i < half L.length) : proof L i = proof (L.take (half L.length)) i ++ [root (L.drop (half L.length))] := by
  have hl := half_lt L.length h
  have e : proof L i = proofF L.length L i := rfl
  rw [e]
  obtain ⟨m, hm⟩ : ∃ m, L.length = m + 1 := ⟨L.length - 1, by omega⟩
  have e2 : proofF L.length L i = proofF (m + 1) L i := by rw [hm]
  rw [e2]
  simp only [proofF]
  rw [if_pos h, if_pos hi]
  unfold proof
  rw [proofF_any m (L.take (half L.length)).length _ _ (by rw [List.length_take]; omega) (Nat.le_refl _)]
theorem proof_right (L : List (List UInt8)) (i : Nat) (h : 2 ≤ L.length) (hi : ¬ i < half L.length) : proof L i = proof (L.drop (half L.length)) (i - half L.length) ++ [root (L.take (half L.length))] := by
  have hp := half_pos L.length
  have e : proof L i = proofF L.length L i := rfl
  rw [e]
  obtain ⟨m, hm⟩ : ∃ m, L.length = m + 1 := ⟨L.length - 1, by omega⟩
  have e2 : proofF L.length L i = proofF (m + 1) L i := by rw [hm]
  rw [e2]
  simp only [proofF]
  rw [if_pos h, if_neg hi]
  unfold proof
  rw [proofF_any m (L.drop (half L.length)).length _ _ (by rw [List.length_drop]; omega) (Nat.le_refl _)]
theorem proof_len (n : Nat) : ∀ (L : List (List UInt8)) (i : Nat), L.length = n → (proof L i).length = (path n i).length := by
  induction n using Nat.strongRecOn with
  | ind n ih =>
    intro L i hn
    by_cases h : 2 ≤ n
    · have hl := half_lt n h
      have hp := half_pos n
      by_cases hi : i < half n
      · rw [proof_left L i (by omega) (by rw [hn]; exact hi), path_left n i h hi, hn]
        have := ih (half n) hl (L.take (half n)) i (by rw [List.length_take]; omega)
        simp [this]
      · rw [proof_right L i (by omega) (by rw [hn]; exact hi), path_right n i h hi, hn]
        have := ih (n - half n) (by omega) (L.drop (half n)) (i - half n) (by rw [List.length_drop]; omega)
        simp [this]
    · rw [proof_one L i (by omega), path_one n i h]; rfl
theorem proof_all (n : Nat) : ∀ (L : List (List UInt8)) (i : Nat), L.length = n → ∀ p ∈ proof L i, p.length = 32 := by
  induction n using Nat.strongRecOn with
  | ind n ih =>
    intro L i hn p hp
    by_cases h : 2 ≤ n
    · have hl := half_lt n h
      have hpp := half_pos n
      by_cases hi : i < half n
      · rw [proof_left L i (by omega) (by rw [hn]; exact hi), hn] at hp
        rcases List.mem_append.1 hp with h1 | h1
        · exact ih (half n) hl (L.take (half n)) i (by rw [List.length_take]; omega) p h1
        · rw [List.mem_singleton.1 h1]; exact root_len _
      · rw [proof_right L i (by omega) (by rw [hn]; exact hi), hn] at hp
        rcases List.mem_append.1 hp with h1 | h1
        · exact ih (n - half n) (by omega) (L.drop (half n)) (i - half n) (by rw [List.length_drop]; omega) p h1
        · rw [List.mem_singleton.1 h1]; exact root_len _
    · rw [proof_one L i (by omega)] at hp; cases hp
/-- the proof leads back to the root -/
theorem proof_climb (n : Nat) : ∀ (L : List (List UInt8)) (i : Nat), L.length = n → i < n → climb (sum (0 :: L.getD i [])) (path n i) (proof L i).reverse = root L := by
  induction n using Nat.strongRecOn with
  | ind n ih =>
    intro L i hn hin
    by_cases h : 2 ≤ n
    · have hl := half_lt n h
      have hp := half_pos n
      rw [root_more L (by omega), hn]
      by_cases hi : i < half n
      · rw [proof_left L i (by omega) (by rw [hn]; exact hi), path_left n i h hi, hn]
        have h1 := ih (half n) hl (L.take (half n)) i (by rw [List.length_take]; omega) hi
        have e : (L.take (half n)).getD i [] = L.getD i [] := by simp [List.getD, List.getElem?_take, hi]
        rw [e] at h1
        rw [List.reverse_append, List.reverse_singleton, List.singleton_append]
        simp only [climb]
        rw [h1]
      · rw [proof_right L i (by omega) (by rw [hn]; exact hi), path_right n i h hi, hn]
        have h1 := ih (n - half n) (by omega) (L.drop (half n)) (i - half n) (by rw [List.length_drop]; omega) (by omega)
        have e : (L.drop (half n)).getD (i - half n) [] = L.getD i [] := by simp [List.getD, List.getElem?_drop, show half n + (i - half n) = i by omega]
        rw [e] at h1
        rw [List.reverse_append, List.reverse_singleton, List.singleton_append]
        simp only [climb]
        rw [h1]
    · have h1 : n = 1 := by omega
      subst h1
      match L, hn with
      | [l], _ =>
        have : i = 0 := by omega
        subst this
        rw [path_one 1 0 (by omega)]
        rfl
theorem proves_proof (L : List (List UInt8)) (i : Nat) (h : i < L.length) : proves (root L) L.length i (L.getD i []) (proof L i) = true := by
  unfold proves
  rw [proof_climb L.length L i rfl h, proof_len L.length L i rfl]
  simp
theorem proves_long (r : List UInt8) (L : List (List UInt8)) (i : Nat) (s x : List UInt8) : proves r L.length i s (proof L i ++ [x]) = false := by
  unfold proves
  rw [List.length_append, proof_len L.length L i rfl]
  simp
theorem proves_other (r : List UInt8) (L : List (List UInt8)) (i : Nat) (h : i < L.length) (hr : r ≠ root L) : proves r L.length i (L.getD i []) (proof L i) = false := by
  unfold proves
  rw [proof_climb L.length L i rfl h]
  simp [Ne.symm hr]
end Sha
end Go.Proofs.YtdifbndpgbdkbaaDoor
