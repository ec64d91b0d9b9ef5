/- A bank: what is put can be taken, what is moved can be moved back; sums. -/
import Derived.Test.YtfkejndiobafeaaBankActs
namespace Go.Proofs.Ytfkejndiobafeaa
open Go.RowKit
set_option linter.unusedVariables false
set_option linter.unusedSimpArgs false
namespace Bank
theorem set_back {L : List Int} {k : Nat} {y z : Int} (hk : k < L.length) (hz : z = L.getD k 0) : (L.set k y).set k z = L := by
  rw [List.set_set]
  apply List.ext_getElem
  · rw [List.length_set]
  · intro i h1 h2
    rw [List.getElem_set]
    split
    · next e => subst e; rw [hz]; simp [List.getD, h2]
    · rfl
theorem put_cases (L : List Int) (a n : Int) (h : Ok L) : (∃ L1, put L a n = (0, L1) ∧ take L1 a n = (0, L) ∧ sum L1 = sum L + n ∧ ∀ i : Nat, (i : Int) ≠ a → L1.getD i 0 = L.getD i 0) ∨ (∃ e, e ≠ 0 ∧ put L a n = (e, L)) := by
  by_cases ha : okW a = true
  · by_cases hn : okN n = true
    · have ha' := okW_iff.1 ha
      have hn' := okN_iff.1 hn
      have hk : a.toNat < L.length := by rw [h.1]; omega
      have hx := at_ok h ha
      by_cases hb : 1099511627776 < at_ L a + n
      · refine .inr ⟨3, by decide, ?_⟩
        unfold put
        rw [if_neg (by rw [ha]; decide), if_neg (by rw [hn]; decide), if_pos hb]
      · refine .inl ⟨L.set a.toNat (at_ L a + n), ?_, ?_, ?_, ?_⟩
        · unfold put
          rw [if_neg (by rw [ha]; decide), if_neg (by rw [hn]; decide), if_neg hb]
        · have e : at_ (L.set a.toNat (at_ L a + n)) a = at_ L a + n := getD_set_same hk
          unfold take
          rw [if_neg (by rw [ha]; decide), if_neg (by rw [hn]; decide), e, if_neg (by omega), set_back hk (by unfold at_; omega)]
        · rw [sum_set hk]; unfold at_; omega
        · intro i hi
          exact getD_set_ne (by omega)
    · refine .inr ⟨2, by decide, ?_⟩
      unfold put
      rw [if_neg (by rw [ha]; decide), if_pos (by simpa using hn)]
  · refine .inr ⟨20, by decide, ?_⟩
    unfold put
    rw [if_pos (by simpa using ha)]
theorem take_cases (L : List Int) (a n : Int) (h : Ok L) : (∃ L1, take L a n = (0, L1) ∧ sum L1 = sum L - n ∧ ∀ i : Nat, (i : Int) ≠ a → L1.getD i 0 = L.getD i 0) ∨ (∃ e, e ≠ 0 ∧ take L a n = (e, L)) := by
  by_cases ha : okW a = true
  · by_cases hn : okN n = true
    · have ha' := okW_iff.1 ha
      have hn' := okN_iff.1 hn
      have hk : a.toNat < L.length := by rw [h.1]; omega
      by_cases hb : at_ L a < n
      · refine .inr ⟨28, by decide, ?_⟩
        unfold take
        rw [if_neg (by rw [ha]; decide), if_neg (by rw [hn]; decide), if_pos hb]
      · refine .inl ⟨L.set a.toNat (at_ L a - n), ?_, ?_, ?_⟩
        · unfold take
          rw [if_neg (by rw [ha]; decide), if_neg (by rw [hn]; decide), if_neg hb]
        · rw [sum_set hk]; unfold at_; omega
        · intro i hi
          exact getD_set_ne (by omega)
    · refine .inr ⟨2, by decide, ?_⟩
      unfold take
      rw [if_neg (by rw [ha]; decide), if_pos (by simpa using hn)]
  · refine .inr ⟨20, by decide, ?_⟩
    unfold take
    rw [if_pos (by simpa using ha)]
theorem move_cases (L : List Int) (a b n : Int) (h : Ok L) : (∃ L1, move L a b n = (0, L1) ∧ move L1 b a n = (0, L) ∧ sum L1 = sum L ∧ ∀ i : Nat, (i : Int) ≠ a → (i : Int) ≠ b → L1.getD i 0 = L.getD i 0) ∨ (∃ e, e ≠ 0 ∧ move L a b n = (e, L)) := by
  by_cases hab : okW a = false ∨ okW b = false
  · refine .inr ⟨20, by decide, ?_⟩
    unfold move
    rw [if_pos hab]
  · have hba : ¬ (okW b = false ∨ okW a = false) := fun h => hab h.symm
    have ha : okW a = true := by
      rcases Bool.eq_false_or_eq_true (okW a) with e | e
      · exact e
      · exact absurd (Or.inl e) hab
    have hb : okW b = true := by
      rcases Bool.eq_false_or_eq_true (okW b) with e | e
      · exact e
      · exact absurd (Or.inr e) hab
    by_cases hn : okN n = true
    · have ha' := okW_iff.1 ha
      have hb' := okW_iff.1 hb
      have hn' := okN_iff.1 hn
      have hka : a.toNat < L.length := by rw [h.1]; omega
      have hkb : b.toNat < L.length := by rw [h.1]; omega
      have hx := at_ok h ha
      have hy := at_ok h hb
      by_cases hl : at_ L a < n
      · refine .inr ⟨28, by decide, ?_⟩
        unfold move
        rw [if_neg hab, if_neg (by rw [hn]; decide), if_pos hl]
      · by_cases he : a = b
        · subst he
          have e1 : move L a a n = (0, L) := by
            unfold move
            rw [if_neg hab, if_neg (by rw [hn]; decide), if_neg hl, if_pos rfl]
          exact .inl ⟨L, e1, e1, rfl, fun _ _ _ => rfl⟩
        · by_cases hg : 1099511627776 < at_ L b + n
          · refine .inr ⟨3, by decide, ?_⟩
            unfold move
            rw [if_neg hab, if_neg (by rw [hn]; decide), if_neg hl, if_neg he, if_pos hg]
          · have hne : a.toNat ≠ b.toNat := by omega
            refine .inl ⟨(L.set a.toNat (at_ L a - n)).set b.toNat (at_ L b + n), ?_, ?_, ?_, ?_⟩
            · unfold move
              rw [if_neg hab, if_neg (by rw [hn]; decide), if_neg hl, if_neg he, if_neg hg]
            · have e1 : at_ ((L.set a.toNat (at_ L a - n)).set b.toNat (at_ L b + n)) b = at_ L b + n := getD_set_same (by rw [List.length_set]; exact hkb)
              have e2 : at_ ((L.set a.toNat (at_ L a - n)).set b.toNat (at_ L b + n)) a = at_ L a - n := by
                unfold at_
                rw [getD_set_ne (Ne.symm hne), getD_set_same hka]
              unfold move
              rw [if_neg hba, if_neg (by rw [hn]; decide), e1, e2, if_neg (by omega), if_neg (Ne.symm he), if_neg (by omega)]
              rw [List.set_set, List.set_comm _ _ hne, List.set_set, List.set_comm _ _ (Ne.symm hne)]
              congr 1
              rw [show (at_ L b + n - n) = L.getD b.toNat 0 by unfold at_; omega, show (at_ L a - n + n) = L.getD a.toNat 0 by unfold at_; omega]
              have h1 : L.set a.toNat (L.getD a.toNat 0) = L := by
                have := set_back (y := L.getD a.toNat 0) (z := L.getD a.toNat 0) hka rfl
                rwa [List.set_set] at this
              have h2 : L.set b.toNat (L.getD b.toNat 0) = L := by
                have := set_back (y := L.getD b.toNat 0) (z := L.getD b.toNat 0) hkb rfl
                rwa [List.set_set] at this
              first
                | rw [h1, h2]
                | rw [h2, h1]
            · rw [sum_set (by rw [List.length_set]; exact hkb), getD_set_ne hne, sum_set hka]; unfold at_; omega
            · intro i h1 h2
              rw [getD_set_ne (by omega), getD_set_ne (by omega)]
    · refine .inr ⟨2, by decide, ?_⟩
      unfold move
      rw [if_neg hab, if_pos (by simpa using hn)]
def delta (x : BAct) : Int := if x.kind = 0 ∨ x.kind = 1 then x.n else if x.kind = 2 then -x.n else 0
theorem act_cases (L : List Int) (x : BAct) (h : Ok L) : (∃ L1, act L x = (0, L1) ∧ sum L1 = sum L + delta x ∧ ∀ i : Nat, (i : Int) ≠ x.a → ((i : Int) = x.b → 0 ≤ x.kind ∧ x.kind ≤ 2) → L1.getD i 0 = L.getD i 0) ∨ (∃ e, e ≠ 0 ∧ act L x = (e, L)) := by
  unfold act delta
  by_cases h01 : x.kind = 0 ∨ x.kind = 1
  · rw [if_pos h01, if_pos h01]
    rcases put_cases L x.a x.n h with ⟨L1, e1, _, hs, hi⟩ | ⟨e, he, h1⟩
    · exact .inl ⟨L1, e1, hs, fun i h _ => hi i h⟩
    · exact .inr ⟨e, he, h1⟩
  · rw [if_neg h01, if_neg h01]
    by_cases h2 : x.kind = 2
    · rw [if_pos h2, if_pos h2]
      rcases take_cases L x.a x.n h with ⟨L1, e1, hs, hi⟩ | ⟨e, he, h1⟩
      · exact .inl ⟨L1, e1, by omega, fun i h _ => hi i h⟩
      · exact .inr ⟨e, he, h1⟩
    · rw [if_neg h2, if_neg h2]
      rcases move_cases L x.a x.b x.n h with ⟨L1, e1, _, hs, hi⟩ | ⟨e, he, h1⟩
      · exact .inl ⟨L1, e1, by omega, fun i h hb => hi i h (fun e => by have := hb e; omega)⟩
      · exact .inr ⟨e, he, h1⟩
theorem sum_ok {L : List Int} (h : Ok L) : 0 ≤ sum L ∧ sum L ≤ 70368744177664 := by
  have := sum_bound h 64 (by omega)
  rw [List.take_of_length_le (by rw [h.1]; omega)] at this
  omega
end Bank
theorem acts_ok (l : List BAct) : ∀ k, Bank.Ok (acts (l.take k))
  | 0 => Bank.none_ok
  | k + 1 => by
    by_cases h : k < l.length
    · rw [acts_succ l k h]; exact act_ok (acts_ok l k)
    · have := acts_ok l k
      rw [List.take_of_length_le (by omega)] at this ⊢
      exact this
end Go.Proofs.Ytfkejndiobafeaa
