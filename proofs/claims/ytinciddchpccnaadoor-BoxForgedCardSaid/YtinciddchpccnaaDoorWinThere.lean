/- What later texts need of the earlier layers. -/
import Derived.Test.YtinciddchpccnaaDoorWinMath
import Derived.Test.YtinciddchpccnaaDoorWinPack
import Derived.Test.YtinciddchpccnaaDoorWinUn
set_option maxRecDepth 100000
/- ---- WinThere ---- -/
/- Layer 7: what was packed is unpacked as it was; with less room not at all. -/
namespace Go.Proofs.YtinciddchpccnaaDoor
set_option linter.unusedVariables false
set_option linter.unusedSimpArgs false
namespace Win
theorem whatF_fuel (f : Nat) : ∀ (g : Nat) (l K : List UInt8) (room : Nat), l.length ≤ f → l.length ≤ g → whatF f l K room = whatF g l K room := by
  induction f with
  | zero =>
    intro g l K room hf hg
    have : l = [] := List.eq_nil_of_length_eq_zero (by omega)
    subst this
    rw [whatF_nil, whatF_nil]
  | succ f ih =>
    intro g l K room hf hg
    cases g with
    | zero =>
      have : l = [] := List.eq_nil_of_length_eq_zero (by omega)
      subst this
      rw [whatF_nil, whatF_nil]
    | succ g =>
      match l, hf, hg with
      | [], _, _ => rw [whatF_nil, whatF_nil]
      | c :: r, hf, hg =>
        simp only [List.length_cons] at hf hg
        by_cases h5 : c.toNat = 255
        · rw [whatF_255 h5, whatF_255 h5]
        · by_cases hc : c.toNat < 128
          · rw [whatF_lit hc, whatF_lit hc, ih g _ _ _ (by rw [List.length_drop]; omega) (by rw [List.length_drop]; omega)]
          · match r, hf, hg with
            | [], _, _ => rw [whatF_short hc h5 (by simp), whatF_short hc h5 (by simp)]
            | [_], _, _ => rw [whatF_short hc h5 (by simp), whatF_short hc h5 (by simp)]
            | x :: y :: r, hf, hg =>
              simp only [List.length_cons] at hf hg
              rw [whatF_mat hc h5, whatF_mat hc h5, ih g _ _ _ (by omega) (by omega)]
/-- a stretch is read -/
theorem whatF_stretch {g : Nat} {l t K : List UInt8} {room : Nat} (h0 : 0 < l.length) (h1 : l.length ≤ 128) (hg : (UInt8.ofNat (l.length - 1) :: (l ++ t)).length ≤ g) :
    whatF g (UInt8.ofNat (l.length - 1) :: (l ++ t)) K room = if room < l.length then .error 3 else whatF t.length t (K ++ l) (room - l.length) := by
  have hc : (UInt8.ofNat (l.length - 1)).toNat = l.length - 1 := by rw [UInt8.toNat_ofNat']; omega
  have hc1 : (UInt8.ofNat (l.length - 1)).toNat + 1 = l.length := by omega
  simp only [List.length_cons, List.length_append] at hg
  cases g with
  | zero => omega
  | succ g =>
    rw [whatF_lit (by omega), hc1, if_neg (by rw [List.length_append]; omega), List.take_left, List.drop_left, whatF_fuel g t.length t _ _ (by omega) (Nat.le_refl _)]
theorem whatF_lits (n : Nat) : ∀ (g : Nat) (l t K : List UInt8) (room : Nat), l.length ≤ n → (lits l ++ t).length ≤ g →
    whatF g (lits l ++ t) K room = if room < l.length then .error 3 else whatF t.length t (K ++ l) (room - l.length) := by
  induction n with
  | zero =>
    intro g l t K room hl hg
    have : l = [] := List.eq_nil_of_length_eq_zero (by omega)
    subst this
    rw [lits_nil, List.nil_append, List.append_nil, if_neg (by simp)]
    exact whatF_fuel g t.length t _ _ hg (Nat.le_refl _)
  | succ n ih =>
    intro g l t K room hl hg
    by_cases h0 : l.length = 0
    · have : l = [] := List.eq_nil_of_length_eq_zero h0
      subst this
      rw [lits_nil, List.nil_append, List.append_nil, if_neg (by simp)]
      exact whatF_fuel g t.length t _ _ hg (Nat.le_refl _)
    · by_cases h1 : l.length ≤ 128
      · rw [lits_one (by omega) h1] at hg ⊢
        exact whatF_stretch (by omega) h1 hg
      · have e : l = l.take 128 ++ l.drop 128 := (List.take_append_drop 128 l).symm
        have ht : (l.take 128).length = 128 := by rw [List.length_take]; omega
        have hd : (l.drop 128).length = l.length - 128 := List.length_drop
        have hlit : lits l = UInt8.ofNat ((l.take 128).length - 1) :: (l.take 128 ++ lits (l.drop 128)) := by
          have h := lits_more (b := l.drop 128) ht
          rw [← e] at h
          have h7 : UInt8.ofNat (128 - 1) = 127 := by decide
          rw [h, ht, h7]
        have hsub : room - 128 - (l.length - 128) = room - l.length := by omega
        rw [hlit] at hg ⊢
        rw [List.cons_append, List.append_assoc] at hg ⊢
        rw [whatF_stretch (by omega) (by omega) hg, ht, ih _ (l.drop 128) t _ _ (by omega) (Nat.le_refl _), hd]
        by_cases h2 : room < 128
        · rw [if_pos h2, if_pos (by omega)]
        · rw [if_neg h2]
          by_cases h3 : room < l.length
          · rw [if_pos h3, if_pos (by omega)]
          · rw [if_neg h3, if_neg (by omega), List.append_assoc, List.take_append_drop, hsub]
/-- bytes that stand d back, as far as they are the same -/
theorem again_take {K : List UInt8} {p d : Nat} (h1 : 1 ≤ d) (h2 : d ≤ p) (n : Nat) (hn : n ≤ at_ K p d) : again (K.take p) d n = K.take (p + n) := by
  have hle := at_le K p d
  by_cases hp : p ≤ K.length
  · induction n with
    | zero => rfl
    | succ n ih =>
      have hl : (K.take (p + n)).length = p + n := by rw [List.length_take]; omega
      rw [again_succ, ih (by omega), hl, ← Nat.add_assoc, List.take_add_one (l := K) (i := p + n)]
      congr 1
      have hs := same_get (K.drop p) (K.drop (p - d)) 130 n (by show n < at_ K p d; omega)
      rw [List.getElem?_drop, List.getElem?_drop] at hs
      have hi : p + n - d < (K.take (p + n)).length := by omega
      rw [List.drop_eq_getElem_cons hi, List.take_succ_cons, List.take_zero, List.getElem_take, hs, show p - d + n = p + n - d by omega, List.getElem?_eq_getElem (by omega)]
      rfl
  · have : n = 0 := by omega
    subst this; rfl
theorem packF_there (K : List UInt8) (f : Nat) : ∀ (p : Nat) (A rest : List UInt8) (g room : Nat), p ≤ K.length → K.length - p ≤ f → A ++ rest = K.take p → (packF K f p rest).length ≤ g →
    whatF g (packF K f p rest) A room = if room < K.length - A.length then .error 3 else .ok K := by
  have stop : ∀ (p : Nat) (A rest : List UInt8) (g room : Nat), K.length ≤ p → p ≤ K.length → A ++ rest = K.take p → (lits rest).length ≤ g → whatF g (lits rest) A room = if room < K.length - A.length then .error 3 else .ok K := by
    intro p A rest g room hp hp2 hA hg
    have hl := congrArg List.length hA
    rw [List.length_append, List.length_take] at hl
    have h := whatF_lits rest.length g rest [] A room (Nat.le_refl _) (by rw [List.append_nil]; exact hg)
    rw [List.append_nil, whatF_nil, hA, List.take_of_length_le hp] at h
    rw [h, show rest.length = K.length - A.length by omega]
  induction f with
  | zero =>
    intro p A rest g room hp hf hA hg
    exact stop p A rest g room (by omega) hp hA hg
  | succ f ih =>
    intro p A rest g room hp hf hA hg
    rw [packF_succ] at hg ⊢
    by_cases hend : K.length ≤ p
    · rw [if_pos hend] at hg ⊢
      exact stop p A rest g room hend hp hA hg
    · rw [if_neg hend] at hg ⊢
      by_cases hm : (mat K p).1 = 0
      · rw [if_pos hm] at hg ⊢
        have hlt : p < K.length := Nat.lt_of_not_le hend
        have hlt2 : K.length - (p + 1) ≤ f := by omega
        refine ih (p + 1) A _ g room hlt hlt2 ?_ hg
        rw [← List.append_assoc, hA]
        rw [List.take_add_one (l := K) (i := p), List.drop_eq_getElem_cons hlt, List.getElem?_eq_getElem hlt]
        rfl
      · rw [if_neg hm] at hg ⊢
        have hle := mat_le K p
        obtain ⟨h4, hd1, hat⟩ := hle.2.2.2.2 hm
        have hl := congrArg List.length hA
        rw [List.length_append, List.length_take] at hl
        rw [whatF_lits rest.length g rest _ A room (Nat.le_refl _) hg, hA]
        by_cases hr : room < rest.length
        · rw [if_pos hr, if_pos (by omega)]
        · rw [if_neg hr]
          generalize hT : packF K f (p + (mat K p).1) [] = T at *
          have hc : (UInt8.ofNat ((mat K p).1 + 124)).toNat = (mat K p).1 + 124 := by rw [UInt8.toNat_ofNat']; omega
          have hx : (UInt8.ofNat (((mat K p).2 - 1) / 256)).toNat = ((mat K p).2 - 1) / 256 := by rw [UInt8.toNat_ofNat']; omega
          have hy : (UInt8.ofNat (((mat K p).2 - 1) % 256)).toNat = ((mat K p).2 - 1) % 256 := by rw [UInt8.toNat_ofNat']; omega
          have ed : ((mat K p).2 - 1) / 256 * 256 + ((mat K p).2 - 1) % 256 + 1 = (mat K p).2 := by omega
          have e3 : three (mat K p) ++ T = UInt8.ofNat ((mat K p).1 + 124) :: UInt8.ofNat (((mat K p).2 - 1) / 256) :: UInt8.ofNat (((mat K p).2 - 1) % 256) :: T := rfl
          rw [e3]
          have hlen : (UInt8.ofNat ((mat K p).1 + 124) :: UInt8.ofNat (((mat K p).2 - 1) / 256) :: UInt8.ofNat (((mat K p).2 - 1) % 256) :: T).length = (T.length + 2) + 1 := by simp
          have htk : (K.take p).length = p := by rw [List.length_take]; omega
          rw [hlen, whatF_mat (by omega) (by omega), hx, hy, ed, if_neg (by rw [htk]; omega), hc, show (mat K p).1 + 124 - 124 = (mat K p).1 by omega]
          by_cases hr2 : room - rest.length < (mat K p).1
          · rw [if_pos hr2, if_pos (by omega)]
          · rw [if_neg hr2, again_take hd1 hle.2.2.1 _ (by omega)]
            have h := ih (p + (mat K p).1) (K.take (p + (mat K p).1)) [] (T.length + 2) (room - rest.length - (mat K p).1) (by omega) (by omega) (by rw [List.append_nil]) (by rw [hT]; exact Nat.le_add_right _ _)
            rw [hT] at h
            rw [h, List.length_take]
            by_cases hr3 : room < K.length - A.length
            · rw [if_pos hr3, if_pos (by omega)]
            · rw [if_neg hr3, if_neg (by omega)]
theorem what_pack (s : List UInt8) (most : Nat) : what (pack s) most = if most < s.length then .error 3 else .ok (static ++ s) := by
  have h := packF_there (static ++ s) s.length 68 static [] (pack s).length most (by rw [List.length_append, static_len]; omega) (by rw [List.length_append, static_len]; omega) (by rw [List.append_nil, show 68 = static.length from rfl, List.take_left]) (Nat.le_refl _)
  have e : (static ++ s).length - static.length = s.length := by rw [List.length_append]; omega
  rw [e] at h
  exact h
theorem unpack_pack (s : List UInt8) (most : Nat) (h : s.length ≤ most) : unpack (pack s) (most : Int) = (s, 0) := by
  rw [unpack_eq, if_neg (by omega), Int.toNat_natCast, what_pack, if_neg (by omega)]
  show ((static ++ s).drop 68, (0 : Int)) = (s, 0)
  rw [show 68 = static.length from rfl, List.drop_left]
end Win
end Go.Proofs.YtinciddchpccnaaDoor
