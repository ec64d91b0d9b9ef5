/- disk: a crash, file by file: plain mathematics. -/
import Derived.Test.YtpphljdnnlfjhaaDoorDiskApp
namespace Go.Proofs.YtpphljdnnlfjhaaDoor
open Go.RowKit Go.Maps
set_option maxRecDepth 100000
set_option linter.unusedVariables false
set_option linter.unusedSimpArgs false

namespace Fl
/-- how much of a file is safe behind a crash -/
def crashS (f : Fl) (k : Int) : Int := f.safe + min (max k 0) ((f.b.length : Int) - f.safe)
def crashF (f : Fl) (k : Int) : Fl := ⟨f.name, f.b.take (crashS f k).toNat, crashS f k⟩
/-- the first k files have been torn -/
def mid (l : List Fl) (ks : List Int) (k : Nat) : List Fl := l.mapIdx fun i f => if i < k then crashF f (ks.getD i 0) else f
def crashL (l : List Fl) (ks : List Int) : List Fl := l.mapIdx fun i f => crashF f (ks.getD i 0)
theorem mid_zero (l : List Fl) (ks : List Int) : mid l ks 0 = l := by
  unfold mid
  apply List.ext_getElem (by simp)
  intro i h1 h2
  simp
theorem mid_all (l : List Fl) (ks : List Int) : mid l ks l.length = crashL l ks := by
  unfold mid crashL
  apply List.ext_getElem (by simp)
  intro i h1 h2
  simp at h1 ⊢
  omega
theorem length_mid (l : List Fl) (ks : List Int) (k : Nat) : (mid l ks k).length = l.length := by simp [mid]
theorem names_mid (l : List Fl) (ks : List Int) (k : Nat) : names (mid l ks k) = names l := by
  unfold names mid
  apply List.ext_getElem (by simp)
  intro i h1 h2
  simp only [List.getElem_map, List.getElem_mapIdx]
  split <;> rfl
theorem sorted_names {l l2 : List Fl} (h : names l = names l2) (hs : Sorted l) : Sorted l2 := by
  have h1 : (names l).Pairwise (· < ·) := by unfold names; rw [List.pairwise_map]; exact hs
  rw [h] at h1
  unfold names at h1
  rw [List.pairwise_map] at h1
  exact h1
theorem Sorted.mid {l : List Fl} (hs : Sorted l) (ks : List Int) (k : Nat) : Sorted (mid l ks k) := sorted_names (names_mid l ks k).symm hs
theorem mid_at (l : List Fl) (ks : List Int) (k : Nat) (h : k < l.length) : (mid l ks k)[k]'(by rw [length_mid]; exact h) = l[k] := by simp [mid]
theorem find_mid {l : List Fl} (hs : Sorted l) (ks : List Int) (k : Nat) (h : k < l.length) : find (mid l ks k) (l[k]).name = some l[k] := by
  have h1 := (hs.mid ks k).find_of_mem (List.getElem_mem (by rw [length_mid]; exact h) : (mid l ks k)[k]'(by rw [length_mid]; exact h) ∈ mid l ks k)
  rw [mid_at l ks k h] at h1
  exact h1
theorem put_set {l : List Fl} (hs : Sorted l) {k : Nat} (h : k < l.length) {f : Fl} (hn : f.name = (l[k]).name) : put l f = l.set k f := by
  induction l generalizing k with
  | nil => simp at h
  | cons x l ih =>
    cases k with
    | zero =>
      simp only [List.getElem_cons_zero] at hn
      unfold put
      rw [if_neg (by rw [hn]; exact nm_irrefl _), if_pos hn.symm]
      rfl
    | succ k =>
      simp only [List.getElem_cons_succ] at hn
      have hk : k < l.length := by simpa using h
      have hlt : x.name < f.name := by rw [hn]; exact hs.head _ (List.getElem_mem hk)
      unfold put
      rw [if_pos hlt, ih hs.tail hk hn]
      rfl
theorem mid_step {l : List Fl} (hs : Sorted l) (ks : List Int) (k : Nat) (h : k < l.length) : put (mid l ks k) (crashF l[k] (ks.getD k 0)) = mid l ks (k + 1) := by
  have hk : k < (mid l ks k).length := by rw [length_mid]; exact h
  rw [put_set (hs.mid ks k) hk (by rw [mid_at l ks k h]; rfl)]
  apply List.ext_getElem?
  intro i
  rw [List.getElem?_set]
  unfold mid
  simp only [List.getElem?_mapIdx, List.length_mapIdx]
  by_cases e : k = i
  · subst e
    simp [h]
  · rw [if_neg e]
    by_cases e2 : i < k
    · simp [e2, show i < k + 1 by omega]
    · simp [e2, show ¬ i < k + 1 by omega]
theorem crashS_le (f : Fl) (k : Int) (h : FileOk f) : f.safe ≤ crashS f k ∧ crashS f k ≤ f.b.length := by
  obtain ⟨h1, h2, _, _⟩ := h
  unfold crashS
  omega
theorem crashF_ok {f : Fl} (k : Int) (h : FileOk f) : FileOk (crashF f k) := by
  have h1 := crashS_le f k h
  obtain ⟨h2, h3, h4, h5⟩ := h
  refine ⟨?_, ?_, ?_, h5⟩
  · show 0 ≤ crashS f k; omega
  · show crashS f k ≤ ((f.b.take (crashS f k).toNat).length : Int)
    rw [List.length_take]; omega
  · show (f.b.take (crashS f k).toNat).length ≤ 1048576
    rw [List.length_take]; omega
end Fl
/-- a slice of the call's own cut short -/
theorem own_cut {w : World} {B n k c : Nat} {e : TypeId} {A : Option Addr} {xs : List Value} (h : w.ownsRow B e 1 (.slice A n c) n xs) (hk : k ≤ n) : w.ownsRow B e 1 (.slice A k c) k (xs.take k) := by
  obtain ⟨h1, h2⟩ := h
  rcases h2 with ⟨hv, h0⟩ | ⟨g, cap, cur, hv, hb, hh, hn, hc, hs, ht⟩
  · have hk0 : k = 0 := by omega
    subst hk0
    injection hv with e1 e2 e3
    subst e1; subst e3
    exact ⟨by simp, .inl ⟨rfl, rfl⟩⟩
  · injection hv with e1 e2 e3
    subst e1; subst e3
    refine ⟨by rw [List.length_take]; omega, .inr ⟨g, c, cur, rfl, hb, hh, by omega, hc, hs, ?_⟩⟩
    rw [← ht, List.take_take]
    congr 1
    omega
theorem own_cap {w : World} {B n c : Nat} {e : TypeId} {A : Option Addr} {xs : List Value} (h : w.ownsRow B e 1 (.slice A n c) n xs) : n ≤ c := by
  rcases h.2 with ⟨hv, h0⟩ | ⟨g, cap, cur, hv, hb, hh, hn, _⟩
  · omega
  · injection hv with e1 e2 e3
    subst e3; exact hn
theorem run_cut9 (A : Option Addr) (n c k : Nat) (hk : k ≤ c) (W : World) : (Instr.slice 65 (.slice A n c) none (some (.int .i64 (k : Int))) none).run Tryd.prog W = .ok (.slice A k c) W := by
  have hz : (sizeOf (Tryd.prog.elem 65)).run Tryd.prog W = .ok 1 W := by kernel_rfl
  have e := run_slice_h (P := Tryd.prog) (w := W) (t := 65) (a := A) (len := n) (cap := c) (by kernel_rfl) (kh := .i64) (h := (k : Int)) (by omega) (by omega)
  rw [hz] at e
  simp only [Result.andThen, Int.toNat_natCast] at e
  rw [e]
  unfold sliced
  have e2 : A.map (·.add (0 * 1)) = A := by cases A <;> simp [Addr.add]
  rw [e2]
  simp
end Go.Proofs.YtpphljdnnlfjhaaDoor
