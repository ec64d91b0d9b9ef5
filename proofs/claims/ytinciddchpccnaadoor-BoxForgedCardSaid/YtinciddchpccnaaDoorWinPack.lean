/- What later texts need of the earlier layers. -/
import Derived.Test.YtinciddchpccnaaDoorWinMath
set_option maxRecDepth 100000
/- ---- WinPack ---- -/
/- Layer 7: what packing makes, as a plain function; its stretches; how far a walk has come. -/
namespace Go.Proofs.YtinciddchpccnaaDoor
set_option linter.unusedVariables false
set_option linter.unusedSimpArgs false
namespace Win
/-- bytes that stand in no match, in stretches -/
def litsF : Nat → List UInt8 → List UInt8
  | 0, _ => []
  | f + 1, l => if l.length = 0 then [] else UInt8.ofNat (min l.length 128 - 1) :: (l.take 128 ++ litsF f (l.drop 128))
theorem litsF_succ (f : Nat) (l : List UInt8) : litsF (f + 1) l = if l.length = 0 then [] else UInt8.ofNat (min l.length 128 - 1) :: (l.take 128 ++ litsF f (l.drop 128)) := rfl
theorem litsF_fuel (f g : Nat) (l : List UInt8) (hf : l.length ≤ f) (hg : l.length ≤ g) : litsF f l = litsF g l := by
  induction f generalizing g l with
  | zero =>
    cases g with
    | zero => rfl
    | succ g => rw [litsF_succ, if_pos (by omega)]; rfl
  | succ f ih =>
    cases g with
    | zero => rw [litsF_succ, if_pos (by omega)]; rfl
    | succ g =>
      rw [litsF_succ, litsF_succ]
      by_cases h : l.length = 0
      · rw [if_pos h, if_pos h]
      · rw [if_neg h, if_neg h, ih g (l.drop 128) (by rw [List.length_drop]; omega) (by rw [List.length_drop]; omega)]
def lits (l : List UInt8) : List UInt8 := litsF l.length l
theorem lits_nil : lits [] = [] := rfl
theorem lits_one {l : List UInt8} (h0 : 0 < l.length) (h : l.length ≤ 128) : lits l = UInt8.ofNat (l.length - 1) :: l := by
  unfold lits
  obtain ⟨n, hn⟩ : ∃ n, l.length = n + 1 := ⟨l.length - 1, by omega⟩
  rw [hn, litsF_succ, if_neg (by omega), List.take_of_length_le h, List.drop_of_length_le h]
  have e : litsF n [] = [] := by cases n <;> simp [litsF]
  rw [e, List.append_nil, Nat.min_eq_left h, hn]
theorem lits_more {a b : List UInt8} (ha : a.length = 128) : lits (a ++ b) = 127 :: (a ++ lits b) := by
  unfold lits
  have hn : (a ++ b).length = (127 + b.length) + 1 := by rw [List.length_append]; omega
  rw [hn, litsF_succ, if_neg (by omega), List.take_append_of_le_length (by omega), List.take_of_length_le (by omega), List.drop_append_of_le_length (by omega), List.drop_of_length_le (by omega), List.nil_append]
  rw [litsF_fuel (127 + b.length) b.length b (by omega) (by omega)]
  have : min (a ++ b).length 128 - 1 = 127 := by omega
  rw [this]; rfl
theorem lits_len (f : Nat) : ∀ l : List UInt8, l.length ≤ f → (lits l).length = l.length + (l.length + 127) / 128 := by
  induction f with
  | zero => intro l h; have : l = [] := List.eq_nil_of_length_eq_zero (by omega); subst this; rfl
  | succ f ih =>
    intro l h
    by_cases h0 : l.length = 0
    · have : l = [] := List.eq_nil_of_length_eq_zero h0
      subst this; rfl
    · by_cases h1 : l.length ≤ 128
      · rw [lits_one (by omega) h1, List.length_cons]; omega
      · have e : l = l.take 128 ++ l.drop 128 := (List.take_append_drop 128 l).symm
        have hd := ih (l.drop 128) (by rw [List.length_drop]; omega)
        rw [e, lits_more (by rw [List.length_take]; omega), ← e, List.length_cons, List.length_append, hd, List.length_take, List.length_drop]
        omega
/-- a match's three bytes -/
def three (m : Nat × Nat) : List UInt8 := [UInt8.ofNat (m.1 + 124), UInt8.ofNat ((m.2 - 1) / 256), UInt8.ofNat ((m.2 - 1) % 256)]
def packF (K : List UInt8) : Nat → Nat → List UInt8 → List UInt8
  | 0, _, rest => lits rest
  | f + 1, p, rest =>
    if K.length ≤ p then lits rest else
    if (mat K p).1 = 0 then packF K f (p + 1) (rest ++ (K.drop p).take 1)
    else lits rest ++ (three (mat K p) ++ packF K f (p + (mat K p).1) [])
theorem packF_succ (K : List UInt8) (f p : Nat) (rest : List UInt8) : packF K (f + 1) p rest =
    if K.length ≤ p then lits rest else
    if (mat K p).1 = 0 then packF K f (p + 1) (rest ++ (K.drop p).take 1)
    else lits rest ++ (three (mat K p) ++ packF K f (p + (mat K p).1) []) := rfl
/-- a whole stretch goes ahead -/
theorem packF_more (K : List UInt8) (f : Nat) : ∀ (p : Nat) (a b : List UInt8), a.length = 128 → packF K f p (a ++ b) = 127 :: (a ++ packF K f p b) := by
  induction f with
  | zero => intro p a b ha; exact lits_more ha
  | succ f ih =>
    intro p a b ha
    rw [packF_succ, packF_succ]
    by_cases h : K.length ≤ p
    · rw [if_pos h, if_pos h]; exact lits_more ha
    · rw [if_neg h, if_neg h]
      by_cases h1 : (mat K p).1 = 0
      · rw [if_pos h1, if_pos h1, List.append_assoc]; exact ih _ _ _ ha
      · rw [if_neg h1, if_neg h1, lits_more ha]; simp
def static : List UInt8 := [116, 114, 97, 110, 115, 102, 101, 114, 32, 112, 97, 121, 32, 116, 111, 32, 102, 114, 111, 109, 32, 108, 97, 110, 101, 32, 98, 105, 100, 32, 102, 101, 101, 32, 110, 111, 110, 99, 101, 32, 114, 111, 117, 110, 100, 32, 98, 97, 116, 99, 104, 32, 100, 101, 108, 97, 121, 101, 100, 32, 48, 49, 50, 51, 52, 53, 54, 55]
theorem static_len : static.length = 68 := rfl
def pack (s : List UInt8) : List UInt8 := packF (static ++ s) (s.length) 68 []
/-- how far a walk has come: at p, done is packed, rest stands in no piece yet -/
def Up (s : List UInt8) (p : Nat) (done rest : List UInt8) : Prop :=
  68 + rest.length ≤ p ∧ p ≤ (static ++ s).length ∧ ∃ f, (static ++ s).length - p ≤ f ∧ done ++ packF (static ++ s) f p rest = pack s
section
variable {s : List UInt8} {p : Nat} {done rest : List UInt8}
theorem Up.start (s : List UInt8) : Up s 68 [] [] := ⟨by simp, by rw [List.length_append, static_len]; omega, s.length, by rw [List.length_append, static_len]; omega, rfl⟩
theorem Up.stop (h : Up s p done rest) (hp : (static ++ s).length ≤ p) : done ++ lits rest = pack s := by
  obtain ⟨_, _, f, _, h4⟩ := h
  rw [← h4]
  cases f with
  | zero => rfl
  | succ f => rw [packF_succ, if_pos hp]
theorem Up.one (h : Up s p done rest) (hp : p < (static ++ s).length) (hm : (mat (static ++ s) p).1 = 0) : Up s (p + 1) done (rest ++ ((static ++ s).drop p).take 1) := by
  obtain ⟨h1, h2, f, h3, h4⟩ := h
  cases f with
  | zero => omega
  | succ f =>
    rw [packF_succ, if_neg (by omega), if_pos hm] at h4
    have e : (((static ++ s).drop p).take 1).length = 1 := by rw [List.length_take, List.length_drop]; omega
    exact ⟨by rw [List.length_append, e]; omega, by omega, f, by omega, h4⟩
theorem Up.flush (h : Up s p done rest) (hr : rest.length = 128) : Up s p (done ++ UInt8.ofNat 127 :: rest) [] := by
  obtain ⟨h1, h2, f, h3, h4⟩ := h
  refine ⟨by simp; omega, h2, f, h3, ?_⟩
  rw [← h4]
  have := packF_more (static ++ s) f p rest [] hr
  rw [List.append_nil] at this
  rw [this]
  simp
theorem Up.mat (h : Up s p done rest) (hp : p < (static ++ s).length) (hm : (mat (static ++ s) p).1 ≠ 0) : Up s (p + (Win.mat (static ++ s) p).1) (done ++ lits rest ++ three (Win.mat (static ++ s) p)) [] := by
  obtain ⟨h1, h2, f, h3, h4⟩ := h
  have hle := mat_le (static ++ s) p
  cases f with
  | zero => omega
  | succ f =>
    rw [packF_succ, if_neg (by omega), if_neg hm] at h4
    refine ⟨by simp; omega, by omega, f, by omega, ?_⟩
    rw [← h4]; simp
end
/-- not many more bytes than there were -/
theorem packF_little (K : List UInt8) (f : Nat) : ∀ (p : Nat) (rest : List UInt8), p ≤ K.length → (packF K f p rest).length ≤ (rest.length + (K.length - p)) + (rest.length + (K.length - p) + 127) / 128 := by
  induction f with
  | zero =>
    intro p rest hp
    show (lits rest).length ≤ _
    rw [lits_len _ rest (Nat.le_refl _)]; omega
  | succ f ih =>
    intro p rest hp
    rw [packF_succ]
    by_cases h : K.length ≤ p
    · rw [if_pos h, lits_len _ rest (Nat.le_refl _)]; omega
    · rw [if_neg h]
      by_cases h1 : (mat K p).1 = 0
      · rw [if_pos h1]
        have := ih (p + 1) (rest ++ (K.drop p).take 1) (by omega)
        have e : ((K.drop p).take 1).length = 1 := by rw [List.length_take, List.length_drop]; omega
        rw [List.length_append, e] at this
        omega
      · rw [if_neg h1]
        have hle := mat_le K p
        have h4 := (hle.2.2.2.2 h1).1
        have := ih (p + (mat K p).1) [] (by omega)
        rw [List.length_append, List.length_append, lits_len _ rest (Nat.le_refl _)]
        show _ + (3 + _) ≤ _
        simp only [List.length_nil] at this
        omega
theorem pack_little (s : List UInt8) : (pack s).length ≤ s.length + (s.length + 127) / 128 := by
  have := packF_little (static ++ s) s.length 68 [] (by rw [List.length_append, static_len]; omega)
  have e : (static ++ s).length - 68 = s.length := by rw [List.length_append, static_len]; omega
  rw [e] at this
  simp only [List.length_nil, Nat.zero_add] at this
  exact this
theorem Up.len {s : List UInt8} {p : Nat} {done rest : List UInt8} (h : Up s p done rest) : done.length ≤ s.length + (s.length + 127) / 128 := by
  obtain ⟨_, _, f, _, h4⟩ := h
  have := pack_little s
  rw [← h4, List.length_append] at this
  omega
end Win
end Go.Proofs.YtinciddchpccnaaDoor
