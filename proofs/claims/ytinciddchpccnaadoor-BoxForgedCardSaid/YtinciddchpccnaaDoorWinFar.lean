/- What later texts need of the earlier layers. -/
import Derived.Test.YtinciddchpccnaaDoorWinMath
import Derived.Test.YtinciddchpccnaaDoorWinNum
import Derived.Test.YtinciddchpccnaaDoorWinSame
set_option maxRecDepth 100000
/- ---- WinFar ---- -/
/- window: how far a search for the longest match has come. -/
namespace Go.Proofs.YtinciddchpccnaaDoor
set_option linter.unusedVariables false
set_option linter.unusedSimpArgs false
namespace Win
/-- the places from i on are looked at: o is the next one, m the longest so far -/
structure Far (K : List UInt8) (p i : Nat) (o : Option Nat) (m : Nat × Nat) : Prop where
  le : i ≤ p
  near : p - i ≤ 32768
  next : lastAt K (four K p) i = o
  best : matTo K p (p - i) = m
theorem Far.start (K : List UInt8) (p : Nat) : Far K p p (lastAt K (four K p) p) (0, 0) := ⟨Nat.le_refl _, by omega, rfl, by rw [Nat.sub_self]; exact matTo_zero K p⟩
section
variable {K : List UInt8} {p i c : Nat} {o : Option Nat} {m : Nat × Nat}
theorem Far.small (h : Far K p i o m) : m.1 ≤ 130 ∧ m.1 ≤ K.length - p ∧ m.2 ≤ p := by
  have hb := bestTo_le K p (p - i)
  have := h.best
  unfold matTo at this
  subst this
  split
  · exact ⟨hb.1, hb.2.1, by omega⟩
  · simp
theorem Far.none_ (h : Far K p i none m) (hp : p + 4 ≤ K.length) : mat K p = m := by
  have hn := lastAt_none h.next
  have h1 := h.le
  have h2 := h.near
  rw [← h.best]
  refine matTo_skips (by omega) (fun j hj1 hj2 => ?_)
  have := hn (p - j) (by omega) (by omega)
  have hf := at_four (K := K) (p := p) (q := p - j) (by omega) hp
  rw [show p - (p - j) = j by omega] at hf
  exact Nat.lt_of_not_le fun h4 => this (hf.1 h4)
theorem Far.far (h : Far K p i (some c) m) (hp : p + 4 ≤ K.length) (hc : 32768 < p - c) : mat K p = m := by
  have hn := lastAt_some h.next
  have h1 := h.le
  have h2 := h.near
  rw [← h.best]
  refine matTo_skips (by omega) (fun j hj1 hj2 => ?_)
  have := hn.2.2.2 (p - j) (by omega) (by omega) (by omega)
  have hf := at_four (K := K) (p := p) (q := p - j) (by omega) hp
  rw [show p - (p - j) = j by omega] at hf
  exact Nat.lt_of_not_le fun h4 => this (hf.1 h4)
theorem Far.full (h : Far K p i o m) (hm : m.1 = min (K.length - p) 130) : mat K p = m := by
  have h1 := h.le
  have h2 := h.near
  have hb := h.best
  rw [← hb]
  exact matTo_full (by omega) (by rw [hb]; exact hm)
theorem same_cap (a b : List UInt8) (m : Nat) : same a b m = same a b (min a.length m) := by
  induction a generalizing b m with
  | nil => simp [same]
  | cons x r ih =>
    cases b with
    | nil => simp [same]
    | cons y s =>
      cases m with
      | zero => simp [same]
      | succ m =>
        have e : min (x :: r).length (m + 1) = min r.length m + 1 := by simp only [List.length_cons]; omega
        rw [e]
        unfold same
        rw [ih]
theorem sameB_more {K : List UInt8} {c p b : Nat} (hc : c < p) (hb : b < min (K.length - p) 130) :
    (b < sameB K c p b (min (K.length - p) 130) ↔ b < at_ K p (p - c)) ∧ (b < sameB K c p b (min (K.length - p) 130) → sameB K c p b (min (K.length - p) 130) = at_ K p (p - c)) := by
  have e : at_ K p (p - c) = same (K.drop p) (K.drop c) (min (K.length - p) 130) := by
    unfold at_
    rw [same_cap, List.length_drop, show p - (p - c) = c by omega]
  unfold sameB
  rw [e]
  by_cases h : K[c + b]? = K[p + b]?
  · rw [if_pos h]; exact ⟨Iff.rfl, fun _ => rfl⟩
  · rw [if_neg h]
    refine ⟨⟨fun h => by omega, fun h2 => absurd ?_ h⟩, fun h => by omega⟩
    have := same_get _ _ _ _ h2
    rw [List.getElem?_drop, List.getElem?_drop] at this
    exact this.symm
theorem Far.go (h : Far K p i (some c) m) (hp : p + 4 ≤ K.length) (hc : p - c ≤ 32768) (hm : m.1 < min (K.length - p) 130) :
    Far K p c (lastAt K (four K c) c) (if m.1 < sameB K c p m.1 (min (K.length - p) 130) then (sameB K c p m.1 (min (K.length - p) 130), p - c) else m) := by
  obtain ⟨hn1, hn2, hn3, hn4⟩ := lastAt_some h.next
  have h1 := h.le
  have h2 := h.near
  have hb := h.best
  have hs := sameB_more (K := K) (c := c) (p := p) (b := m.1) (by omega) hm
  refine ⟨by omega, hc, by rw [hn3], ?_⟩
  have hk : matTo K p (p - c - 1) = m := by
    rw [← hb]
    refine matTo_skips (by omega) (fun j hj1 hj2 => ?_)
    have := hn4 (p - j) (by omega) (by omega) (by omega)
    have hf := at_four (K := K) (p := p) (q := p - j) (by omega) hp
    rw [show p - (p - j) = j by omega] at hf
    exact Nat.lt_of_not_le fun h4 => this (hf.1 h4)
  have h4 : 4 ≤ at_ K p (p - c) := (at_four (K := K) (p := p) (q := c) (by omega) hp).2 hn3
  have e : p - c = p - c - 1 + 1 := by omega
  have hx := matTo_next (K := K) (p := p) (d := p - c - 1) (by rw [← e]; exact h4)
  rw [← e, hk] at hx
  rw [hx]
  by_cases h5 : m.1 < at_ K p (p - c)
  · rw [if_pos h5, if_pos (hs.1.2 h5), hs.2 (hs.1.2 h5)]
  · rw [if_neg h5, if_neg (fun h6 => h5 (hs.1.1 h6))]
end
theorem mat_short {K : List UInt8} {p : Nat} (h : K.length < p + 4) : mat K p = (0, 0) := by
  have hb := bestTo_le K p (min p 32768)
  unfold mat matTo
  rw [if_neg (by omega)]
end Win
end Go.Proofs.YtinciddchpccnaaDoor
