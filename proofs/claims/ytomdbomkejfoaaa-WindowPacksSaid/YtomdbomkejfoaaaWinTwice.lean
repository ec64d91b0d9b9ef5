/- Layer 7: what stands twice takes little more than once. -/
import Derived.Test.YtomdbomkejfoaaaWinUn
namespace Go.Proofs.Ytomdbomkejfoaaa
set_option linter.unusedVariables false
set_option linter.unusedSimpArgs false
namespace Win
theorem same_app (a b t u : List UInt8) (m : Nat) (h : a.length ≤ b.length) : same a b m = min (same (a ++ t) (b ++ u) m) a.length := by
  induction a generalizing b m with
  | nil => simp [same]
  | cons x r ih =>
    cases b with
    | nil => simp at h
    | cons y s =>
      cases m with
      | zero => simp [same]
      | succ m =>
        simp only [List.cons_append]
        unfold same
        simp only [List.length_cons] at h ⊢
        by_cases e : x = y
        · rw [if_pos e, if_pos e, ih s m (by omega)]; omega
        · rw [if_neg e, if_neg e]; omega
theorem at_app {K T : List UInt8} {p d : Nat} (hp : p ≤ K.length) : at_ K p d = min (at_ (K ++ T) p d) (K.length - p) := by
  unfold at_
  rw [List.drop_append_of_le_length hp, List.drop_append_of_le_length (by omega)]
  have h := same_app (K.drop p) (K.drop (p - d)) T T 130 (by rw [List.length_drop, List.length_drop]; omega)
  rw [List.length_drop] at h
  exact h
theorem bestTo_app {K T : List UInt8} {p : Nat} (hp : p ≤ K.length) (d : Nat) : (bestTo K p d).1 = min (bestTo (K ++ T) p d).1 (K.length - p) ∧ ((bestTo (K ++ T) p d).1 ≤ K.length - p → bestTo K p d = bestTo (K ++ T) p d) := by
  induction d with
  | zero => simp [bestTo]
  | succ d ih =>
    have ha := at_app (T := T) (d := d + 1) hp
    obtain ⟨h1, h2⟩ := ih
    rw [bestTo_succ, bestTo_succ]
    generalize at_ K p (d + 1) = A at *
    generalize at_ (K ++ T) p (d + 1) = B at *
    by_cases c1 : (bestTo K p d).1 < A
    · rw [if_pos c1, if_pos (show (bestTo (K ++ T) p d).1 < B by omega)]
      refine ⟨ha, fun h => ?_⟩
      have : A = B := by have h : B ≤ K.length - p := h; omega
      rw [this]
    · rw [if_neg c1]
      by_cases c2 : (bestTo (K ++ T) p d).1 < B
      · rw [if_pos c2]
        exact ⟨by show (bestTo K p d).1 = min B (K.length - p); omega, fun h => by have h : B ≤ K.length - p := h; omega⟩
      · rw [if_neg c2]
        exact ⟨h1, h2⟩
theorem lits_mono {a b : List UInt8} (h : a.length ≤ b.length) : (lits a).length ≤ (lits b).length := by
  rw [lits_len _ a (Nat.le_refl _), lits_len _ b (Nat.le_refl _)]
  have : (a.length + 127) / 128 ≤ (b.length + 127) / 128 := Nat.div_le_div_right (by omega)
  omega
theorem packF_ge (K : List UInt8) (f : Nat) : ∀ (p : Nat) (rest : List UInt8), (lits rest).length ≤ (packF K f p rest).length := by
  induction f with
  | zero => intro p rest; exact Nat.le_refl _
  | succ f ih =>
    intro p rest
    rw [packF_succ]
    by_cases h : K.length ≤ p
    · rw [if_pos h]; exact Nat.le_refl _
    · rw [if_neg h]
      by_cases h1 : (mat K p).1 = 0
      · rw [if_pos h1]
        exact Nat.le_trans (lits_mono (by rw [List.length_append]; omega)) (ih _ _)
      · rw [if_neg h1, List.length_append]; omega
/-- behind the first of the two the match that lies a whole text back is as long as can be -/
theorem tail_at {A s : List UInt8} {q : Nat} (h1 : A.length + s.length ≤ q) (h2 : q ≤ A.length + s.length + s.length) :
    at_ (A ++ s ++ s) q s.length = min (A.length + s.length + s.length - q) 130 := by
  have hle := at_le (A ++ s ++ s) q s.length
  have hl : (A ++ s ++ s).length = A.length + s.length + s.length := by simp only [List.length_append]
  rw [hl] at hle
  have hge : min (A.length + s.length + s.length - q) 130 ≤ at_ (A ++ s ++ s) q s.length := by
    refine same_all _ _ _ _ (by omega) (by rw [List.length_drop, hl]; omega) (by rw [List.length_drop, hl]; omega) (fun k hk => ?_)
    rw [List.getElem?_drop, List.getElem?_drop, List.getElem?_append_right (by simp; omega), List.append_assoc, List.getElem?_append_right (by omega), List.getElem?_append_left (by omega)]
    congr 1
    simp; omega
  omega
theorem tail_best {A s : List UInt8} {q : Nat} (hs : s.length ≤ 32768) (h1 : A.length + s.length ≤ q) (h2 : q < A.length + s.length + s.length) :
    (best (A ++ s ++ s) q).1 = min (A.length + s.length + s.length - q) 130 := by
  have ht := tail_at h1 (Nat.le_of_lt h2)
  have hl : (A ++ s ++ s).length = A.length + s.length + s.length := by simp only [List.length_append]
  have hle := bestTo_le (A ++ s ++ s) q (min q 32768)
  have hge := bestTo_ge (A ++ s ++ s) q (min q 32768) s.length (by omega) (by omega)
  rw [hl] at hle
  show (bestTo _ _ _).1 = _
  omega
theorem mat_of_best (K : List UInt8) (p : Nat) : mat K p = if 4 ≤ (best K p).1 then best K p else (0, 0) := rfl
/-- the second text takes a match for each 130 bytes -/
theorem tail_len (A s : List UInt8) (hs : s.length ≤ 32768) (f : Nat) : ∀ (q : Nat) (rest : List UInt8), A.length + s.length ≤ q → q ≤ A.length + s.length + s.length →
    (packF (A ++ s ++ s) f q rest).length ≤ (lits rest).length + 3 * ((A.length + s.length + s.length - q + 129) / 130) + 1 ∨ f < A.length + s.length + s.length - q := by
  have hl : (A ++ s ++ s).length = A.length + s.length + s.length := by simp only [List.length_append]
  induction f with
  | zero => intro q rest h1 h2; exact .inl (by show (lits rest).length ≤ _; omega)
  | succ f ih =>
    intro q rest h1 h2
    by_cases hf : f + 1 < A.length + s.length + s.length - q
    · exact .inr hf
    refine .inl ?_
    rw [packF_succ]
    by_cases h : (A ++ s ++ s).length ≤ q
    · rw [if_pos h]; omega
    · rw [if_neg h]
      rw [hl] at h
      have hb := tail_best hs h1 (by omega)
      rw [mat_of_best]
      by_cases h4 : 4 ≤ (best (A ++ s ++ s) q).1
      · rw [if_pos h4, if_neg (by omega), List.length_append, List.length_append]
        have h3 : (three (best (A ++ s ++ s) q)).length = 3 := rfl
        have hi := ih (q + (best (A ++ s ++ s) q).1) [] (by omega) (by omega)
        rw [lits_nil, List.length_nil] at hi
        rw [h3]
        rcases hi with hi | hi <;> omega
      · rw [if_neg h4, if_pos rfl]
        have hp := packF_little (A ++ s ++ s) f (q + 1) (rest ++ ((A ++ s ++ s).drop q).take 1) (by omega)
        have e1 : (((A ++ s ++ s).drop q).take 1).length = 1 := by rw [List.length_take, List.length_drop]; omega
        rw [List.length_append, e1, hl] at hp
        rw [lits_len _ rest (Nat.le_refl _)]
        omega
/-- where the two ways part -/
theorem twice_len (A s : List UInt8) (hs : s.length ≤ 32768) (f : Nat) : ∀ (g p : Nat) (rest : List UInt8), p ≤ A.length + s.length → A.length + s.length - p ≤ f → A.length + s.length + s.length - p ≤ g →
    (packF (A ++ s ++ s) g p rest).length ≤ (packF (A ++ s) f p rest).length + 3 * ((s.length + 129) / 130) + 4 := by
  have hl : (A ++ s ++ s).length = A.length + s.length + s.length := by simp only [List.length_append]
  have hl1 : (A ++ s).length = A.length + s.length := by simp
  have stop : ∀ (f g p : Nat) (rest : List UInt8), p = A.length + s.length → A.length + s.length + s.length - p ≤ g → (packF (A ++ s ++ s) g p rest).length ≤ (packF (A ++ s) f p rest).length + 3 * ((s.length + 129) / 130) + 4 := by
    intro f g p rest hp hg
    have h1 := tail_len A s hs g p rest (by omega) (by omega)
    have h2 := packF_ge (A ++ s) f p rest
    have e : A.length + s.length + s.length - p = s.length := by omega
    rw [e] at h1
    rcases h1 with h1 | h1 <;> omega
  induction f with
  | zero => intro g p rest hp hf hg; exact stop 0 g p rest (by omega) hg
  | succ f ih =>
    intro g p rest hp hf hg
    by_cases he : p = A.length + s.length
    · exact stop _ g p rest he hg
    · cases g with
      | zero => omega
      | succ g =>
        have hba := bestTo_app (K := A ++ s) (T := s) (p := p) (by omega) (min p 32768)
        rw [hl1] at hba
        have hb1 : (best (A ++ s) p).1 = min (best (A ++ s ++ s) p).1 (A.length + s.length - p) := hba.1
        have hb2 : (best (A ++ s ++ s) p).1 ≤ A.length + s.length - p → best (A ++ s) p = best (A ++ s ++ s) p := hba.2
        have hle2 : (best (A ++ s ++ s) p).1 ≤ (A ++ s ++ s).length - p := (bestTo_le (A ++ s ++ s) p (min p 32768)).2.1
        rw [hl] at hle2
        have hge := packF_ge (A ++ s) (f + 1) p rest
        rw [packF_succ (A ++ s ++ s), if_neg (show ¬ (A ++ s ++ s).length ≤ p by omega)]
        by_cases h4 : 4 ≤ (best (A ++ s ++ s) p).1
        · by_cases hc : (best (A ++ s ++ s) p).1 ≤ A.length + s.length - p
          · rw [packF_succ (A ++ s), if_neg (show ¬ (A ++ s).length ≤ p by omega), mat_of_best (A ++ s ++ s), mat_of_best (A ++ s), hb2 hc, if_pos h4, if_neg (show ¬ (best (A ++ s ++ s) p).1 = 0 by omega), if_neg (show ¬ (best (A ++ s ++ s) p).1 = 0 by omega)]
            have hi := ih g (p + (best (A ++ s ++ s) p).1) [] (by omega) (by omega) (by omega)
            simp only [List.length_append]
            omega
          · rw [mat_of_best (A ++ s ++ s), if_pos h4, if_neg (by omega), List.length_append, List.length_append]
            have h3 : (three (best (A ++ s ++ s) p)).length = 3 := rfl
            have ht := tail_len A s hs g (p + (best (A ++ s ++ s) p).1) [] (by omega) (by omega)
            rw [lits_nil, List.length_nil] at ht
            rw [h3]
            have hdiv : (A.length + s.length + s.length - (p + (best (A ++ s ++ s) p).1) + 129) / 130 ≤ (s.length + 129) / 130 := Nat.div_le_div_right (by omega)
            rcases ht with ht | ht <;> omega
        · rw [packF_succ (A ++ s), if_neg (show ¬ (A ++ s).length ≤ p by omega), mat_of_best (A ++ s ++ s), mat_of_best (A ++ s), if_neg h4, if_neg (show ¬ 4 ≤ (best (A ++ s) p).1 by omega), if_pos (show ((0, 0) : Nat × Nat).1 = 0 from rfl), if_pos (show ((0, 0) : Nat × Nat).1 = 0 from rfl)]
          have hi := ih g (p + 1) (rest ++ ((A ++ s).drop p).take 1) (by omega) (by omega) (by omega)
          have e : ((A ++ s ++ s).drop p).take 1 = ((A ++ s).drop p).take 1 := by
            rw [List.drop_append_of_le_length (by omega), List.take_append_of_le_length (by rw [List.length_drop]; omega)]
          rw [e]
          exact hi
theorem pack_twice (s : List UInt8) (hs : s.length ≤ 32768) : (pack (s ++ s)).length ≤ (pack s).length + 3 * ((s.length + 129) / 130) + 133 := by
  have h := twice_len static s hs s.length (s ++ s).length 68 [] (by rw [static_len]; omega) (by rw [static_len]; omega) (by rw [static_len, List.length_append]; omega)
  unfold pack
  rw [← List.append_assoc]
  omega
end Win
end Go.Proofs.Ytomdbomkejfoaaa
