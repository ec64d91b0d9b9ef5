/- Layer 10: what was synced is there behind any crash: plain mathematics. -/
import Derived.Test.YtpphljdnnlfjhaaDoorJrDisk
namespace Go.Proofs.YtpphljdnnlfjhaaDoor
set_option linter.unusedVariables false
set_option linter.unusedSimpArgs false
namespace Jr
theorem lays_take_le (L : List (List UInt8)) (n : Nat) : (lays 0 (L.take n)).length ≤ (lays 0 L).length := by
  conv => rhs; rw [← List.take_append_drop n L]
  rw [lays_app, List.length_append]; omega
theorem lays_nil {i : Nat} {L : List (List UInt8)} (h : (lays i L).length = 0) : L = [] := by
  cases L with
  | nil => rfl
  | cons r L =>
    have := lay_pos i r
    simp only [lays, List.length_append] at h
    omega
/-- the journal is whole: all were added, of which so many are safe -/
structure Inv (o : Option (List UInt8 × Int)) (j : J) (all : List (List UInt8)) (safe : Nat) : Prop where
  bytes : by_ o = lays 0 all
  safe_in : ((lays 0 (all.take safe)).length : Int) ≤ sf o
  safe0 : 0 ≤ sf o
  safe1 : sf o ≤ (by_ o).length
  big : (by_ o).length ≤ 1048576
  small : ∀ s ∈ all, s.length ≤ 4096
  len : j.len = all.length
  ok : j.broken = false
  safe_le : safe ≤ all.length
/-- the disk is down, or something was too great: the file holds a beginning of them -/
def Done (l : List Fl) (all : List (List UInt8)) (safe : Nat) : Prop :=
  ∃ (o x : Option (List UInt8 × Int)) (n : Nat), l = St o x ∧ n ≤ all.length ∧ by_ o = lays 0 (all.take n) ∧ safe ≤ n ∧ ((lays 0 (all.take safe)).length : Int) ≤ sf o ∧ 0 ≤ sf o ∧ sf o ≤ (by_ o).length ∧ (by_ o).length ≤ 1048576 ∧ ∀ s ∈ all.take n, s.length ≤ 4096
variable {l : List Fl} {o : Option (List UInt8 × Int)} {r : Int} {j : J} {all : List (List UInt8)} {safe : Nat}
theorem Inv.more (h : Inv o j all safe) (x : Option (List UInt8 × Int)) (more : List (List UInt8)) : Done (St o x) (all ++ more) safe := by
  have hs := h.safe_le
  refine ⟨o, x, all.length, rfl, by simp, ?_, hs, ?_, h.safe0, h.safe1, h.big, ?_⟩
  · rw [h.bytes, List.take_left]
  · rw [List.take_append_of_le_length hs]; exact h.safe_in
  · rw [List.take_left]; exact h.small
theorem Inv.done (h : Inv o j all safe) (x : Option (List UInt8 × Int)) : Done (St o x) all safe := by
  have := h.more x []
  rwa [List.append_nil] at this
theorem Inv.add (h : Inv o j all safe) (s : List UInt8) (hs : s.length ≤ 4096) : ((addR (St o none) r j s).2.2.2 = 0 ∧ ∃ o', (addR (St o none) r j s).1 = St o' none ∧ Inv o' (addR (St o none) r j s).2.2.1 (all ++ [s]) safe) ∨ ((addR (St o none) r j s).2.2.2 ≠ 0 ∧ Done (addR (St o none) r j s).1 (all ++ [s]) safe) := by
  have hd := h.more none [s]
  have h2 := h.bytes
  have h1 := h.safe1
  unfold addR
  rw [if_neg (by rw [h.ok]; simp), if_neg (by omega)]
  by_cases hr : r = 0
  · have ha : appendR (St o none) r nj (lay j.len s) = (St o none, r, 8) := by unfold appendR; rw [if_pos hr]
    rw [ha]
    exact .inr ⟨by simp, by simpa using hd⟩
  · by_cases hbig : 1048576 < (by_ o).length + (lay j.len s).length
    · have ha : appendR (St o none) r nj (lay j.len s) = (St o none, r, 3) := by rw [append_j hr, if_pos hbig]
      rw [ha]
      exact .inr ⟨by simp, by simpa using hd⟩
    · have ha : appendR (St o none) r nj (lay j.len s) = (St (some (by_ o ++ lay j.len s, sf o)) none, oneR r, 0) := by rw [append_j hr, if_neg hbig]
      rw [ha]
      refine .inl ⟨by simp, some (by_ o ++ lay j.len s, sf o), by simp, ⟨?_, ?_, h.safe0, ?_, ?_, ?_, ?_, by simp, ?_⟩⟩
      · show by_ o ++ _ = _
        rw [h2, lays_app, h.len]; simp [lays]
      · rw [List.take_append_of_le_length h.safe_le]; exact h.safe_in
      · show sf o ≤ ((by_ o ++ _).length : Nat)
        rw [List.length_append]; omega
      · show (by_ o ++ _).length ≤ _
        rw [List.length_append]; omega
      · intro q hq
        rcases List.mem_append.1 hq with hq | hq
        · exact h.small q hq
        · simp at hq; subst hq; exact hs
      · simp [h.len]
      · have := h.safe_le; rw [List.length_append]; omega
theorem Inv.sync (h : Inv o j all safe) : ((syncJ (St o none) r j).2.2.2 = 0 ∧ ∃ o', (syncJ (St o none) r j).1 = St o' none ∧ Inv o' (syncJ (St o none) r j).2.2.1 all all.length) ∨ ((syncJ (St o none) r j).2.2.2 ≠ 0 ∧ Done (syncJ (St o none) r j).1 all safe) := by
  have hd := h.done none
  have h2 := h.bytes
  unfold syncJ
  rw [if_neg (by rw [h.ok]; simp)]
  by_cases hl : j.len = 0
  · rw [if_pos hl]
    have ha : all = [] := List.eq_nil_of_length_eq_zero (by rw [← h.len]; exact hl)
    subst ha
    exact .inl ⟨rfl, o, rfl, ⟨h.bytes, by simpa [lays] using h.safe0, h.safe0, h.safe1, h.big, h.small, h.len, h.ok, Nat.le_refl _⟩⟩
  · rw [if_neg hl]
    by_cases hr : r = 0
    · have ha : syncR (St o none) r nj = (St o none, r, 8) := by unfold syncR; rw [if_pos hr]
      rw [ha]
      exact .inr ⟨by simp, by simpa using hd⟩
    · cases o with
      | none =>
        exfalso
        have h7 : (lays 0 all).length = 0 := by rw [← h2]; rfl
        have := lays_nil h7
        rw [h.len, this] at hl
        exact hl rfl
      | some p =>
        have ha : syncR (St (some p) none) r nj = (St (some (p.1, (p.1.length : Int))) none, oneR r, 0) := by rw [sync_j hr]
        rw [ha]
        refine .inl ⟨by simp, some (p.1, (p.1.length : Int)), by simp, ⟨h2, ?_, ?_, ?_, h.big, h.small, by simpa using h.len, by simp, Nat.le_refl _⟩⟩
        · rw [List.take_length, ← h2]; exact Int.le_refl _
        · show (0 : Int) ≤ (p.1.length : Int); omega
        · exact Int.le_refl _
theorem replace_St (o : Option (List UInt8 × Int)) (r : Int) (s : List UInt8) : ((replaceR (St o none) r s).2.2 = 0 ∧ (replaceR (St o none) r s).1 = St (some (s, (s.length : Int))) none ∧ s.length ≤ 1048576) ∨ ((replaceR (St o none) r s).2.2 ≠ 0 ∧ ∃ x, (replaceR (St o none) r s).1 = St o x) := by
  unfold replaceR
  by_cases hr : r = 0
  · have ha : appendR (St o none) r nx s = (St o none, r, 8) := by unfold appendR; rw [if_pos hr]
    rw [ha]
    exact .inr ⟨by simp, none, by simp⟩
  · by_cases hbig : 1048576 < s.length
    · have ha : appendR (St o none) r nx s = (St o none, r, 3) := by rw [append_x hr, if_pos (by simpa [by_] using hbig)]
      rw [ha]
      exact .inr ⟨by simp, none, by simp⟩
    · have ha : appendR (St o none) r nx s = (St o (some (s, 0)), oneR r, 0) := by rw [append_x hr, if_neg (by simpa [by_] using hbig)]; rfl
      rw [ha]
      by_cases hr2 : oneR r = 0
      · have hb : syncR (St o (some (s, 0))) (oneR r) nx = (St o (some (s, 0)), oneR r, 8) := by unfold syncR; rw [if_pos hr2]
        simp only [hb]
        exact .inr ⟨by simp, some (s, 0), by simp⟩
      · have hb : syncR (St o (some (s, 0))) (oneR r) nx = (St o (some (s, (s.length : Int))), oneR (oneR r), 0) := by rw [sync_x hr2]
        simp only [hb]
        by_cases hr3 : oneR (oneR r) = 0
        · have hc : renameR (St o (some (s, (s.length : Int)))) (oneR (oneR r)) nx nj = (St o (some (s, (s.length : Int))), oneR (oneR r), 8) := by unfold renameR; rw [if_pos hr3]
          simp only [hc]
          exact .inr ⟨by simp, some (s, (s.length : Int)), by simp⟩
        · have hc : renameR (St o (some (s, (s.length : Int)))) (oneR (oneR r)) nx nj = (St (some (s, (s.length : Int))) none, oneR (oneR (oneR r)), 0) := by rw [rename_x hr3]
          simp only [hc]
          exact .inl ⟨by simp, by simp, by omega⟩
theorem Inv.renew (h : Inv o j all safe) (m : List (List UInt8)) (hm : ∀ s ∈ m, s.length ≤ 4096) : ((renewR (St o none) r j m).2.2.2 = 0 ∧ ∃ o', (renewR (St o none) r j m).1 = St o' none ∧ Inv o' (renewR (St o none) r j m).2.2.1 m m.length) ∨ ((renewR (St o none) r j m).2.2.2 ≠ 0 ∧ Done (renewR (St o none) r j m).1 all safe) := by
  unfold renewR
  rw [if_neg (by rw [h.ok]; simp), if_neg (by simpa using hm)]
  rcases replace_St o r (lays 0 m) with ⟨h0, h1, h2⟩ | ⟨h0, x, h1⟩
  · rw [if_neg (by simpa using h0)]
    refine .inl ⟨rfl, _, h1, ⟨rfl, ?_, ?_, Int.le_refl _, h2, hm, rfl, rfl, Nat.le_refl _⟩⟩
    · rw [List.take_length]; exact Int.le_refl _
    · show (0 : Int) ≤ ((lays 0 m).length : Int); omega
  · rw [if_pos h0]
    refine .inr ⟨h0, ?_⟩
    show Done (replaceR (St o none) r (lays 0 m)).1 all safe
    rw [h1]
    exact h.done x
/-- behind a crash: a beginning of what was added, and all that is safe -/
theorem Done.opens (h : Done l all safe) (ks : List Int) : ∃ (l' : List Fl) (k : Nat), openR (Fl.crashL l ks) (-1) = (l', -1, some (⟨(all.take k).length, (all.take k).length, false⟩, all.take k), 0) ∧ safe ≤ k ∧ k ≤ all.length := by
  obtain ⟨o, x, n, rfl, h1, h2, h3, h4, h5, h6, h7, h8⟩ := h
  obtain ⟨k1, k2, hc⟩ := crash_St o x ks
  rw [hc]
  cases o with
  | none =>
    obtain ⟨o', ho, _, _⟩ := open_up (none : Option (List UInt8 × Int)) (x.map fun p => cut p k2) (by simp [by_])
    have hn : all.take n = [] := lays_nil (i := 0) (by rw [← h2]; rfl)
    have hs0 : safe = 0 := by
      have hz : (lays 0 (all.take safe)).length = 0 := by have : sf (none : Option (List UInt8 × Int)) = 0 := rfl; omega
      have := lays_nil hz
      have h9 : min safe all.length = 0 := by rw [← List.length_take, this]; rfl
      omega
    refine ⟨St o' none, 0, ?_, by omega, Nat.zero_le _⟩
    rw [Option.map_none, ho]
    have hp : (parse (by_ (none : Option (List UInt8 × Int)))).1 = [] := rfl
    rw [hp, List.take_zero]
  | some p =>
    obtain ⟨m, hm, hm1, hm2⟩ := cut_take (p := p) h5 h6 k1
    have hb : by_ (some (p.1.take m, (m : Int))) = (lays 0 (all.take n)).take m := by rw [← h2]; rfl
    obtain ⟨o', ho, _, _⟩ := open_up (some (p.1.take m, (m : Int))) (x.map fun p => cut p k2) (by
      show (p.1.take m).length ≤ _
      have : p.1.length ≤ 1048576 := h7
      rw [List.length_take]; omega)
    obtain ⟨k, hk1, hk2, hk3⟩ := lays_torn (all.take n) m h8
    have hk4 : (all.take n).take k = all.take (min k n) := by rw [List.take_take]
    refine ⟨St o' none, min k n, ?_, ?_, by omega⟩
    · rw [Option.map_some, hm, ho, hb, hk1, hk4]
    · have h9 := hk3 safe (by rw [List.length_take]; omega) (by
        rw [List.take_take, Nat.min_eq_left h3]
        have : sf (some p) = p.2 := rfl
        omega)
      omega
end Jr
end Go.Proofs.YtpphljdnnlfjhaaDoor
