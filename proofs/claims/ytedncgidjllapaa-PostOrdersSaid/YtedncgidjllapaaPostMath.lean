/- A poster, as plain functions: what was handed over (at which height), what is due. -/
namespace Go.Proofs.Ytedncgidjllapaa
set_option linter.unusedVariables false
set_option linter.unusedSimpArgs false
namespace Post
abbrev Out := Int → Option Int
def none_ : Out := fun _ => none
def dueB (f : Out) (p n h : Int) : Bool := match f n with | none => true | some c => decide (h < c) || decide (p ≤ h - c)
/-- what is below has landed -/
def trim (f : Out) (landed : Int) : Out := fun x => if x < landed then none else f x
/-- how many are looked at -/
def many (win landed cuts : Int) : Nat := (min win (max (cuts - landed) 0)).toNat
def list (f : Out) (p h landed : Int) : Nat → List Int
  | 0 => []
  | k + 1 => if dueB f p (landed + k) h = true then list f p h landed k ++ [landed + k] else list f p h landed k
def after (f : Out) (p h landed : Int) (m : Nat) : Out := fun x => if landed ≤ x ∧ x < landed + m ∧ dueB f p x h = true then some h else f x
theorem after_zero (f : Out) (p h landed : Int) : after f p h landed 0 = f := by
  funext x; unfold after; rw [if_neg (by omega)]
theorem after_at (f : Out) (p h landed : Int) (k : Nat) : after f p h landed k (landed + k) = f (landed + k) := by
  unfold after; rw [if_neg (by omega)]
theorem due_after (f : Out) (p h landed : Int) (k : Nat) : dueB (after f p h landed k) p (landed + k) h = dueB f p (landed + k) h := by
  unfold dueB; rw [after_at]
theorem after_succ_due (f : Out) (p h landed : Int) (k : Nat) (hd : dueB f p (landed + k) h = true) :
    after f p h landed (k + 1) = fun x => if x = landed + k then some h else after f p h landed k x := by
  funext x
  unfold after
  by_cases hx : x = landed + k
  · subst hx
    rw [if_pos ⟨by omega, by omega, hd⟩, if_pos rfl]
  · rw [if_neg hx]
    by_cases hy : landed ≤ x ∧ x < landed + k ∧ dueB f p x h = true
    · rw [if_pos hy, if_pos ⟨hy.1, by omega, hy.2.2⟩]
    · rw [if_neg hy, if_neg (fun e => hy ⟨e.1, by omega, e.2.2⟩)]
theorem after_succ_not (f : Out) (p h landed : Int) (k : Nat) (hd : dueB f p (landed + k) h = false) :
    after f p h landed (k + 1) = after f p h landed k := by
  funext x
  unfold after
  by_cases hx : x = landed + k
  · subst hx
    rw [if_neg (by rw [hd]; simp), if_neg (by omega)]
  · by_cases hy : landed ≤ x ∧ x < landed + k ∧ dueB f p x h = true
    · rw [if_pos hy, if_pos ⟨hy.1, by omega, hy.2.2⟩]
    · rw [if_neg hy, if_neg (fun e => hy ⟨e.1, by omega, e.2.2⟩)]
theorem list_len (f : Out) (p h landed : Int) : ∀ k, (list f p h landed k).length ≤ k
  | 0 => by simp [list]
  | k + 1 => by
    have := list_len f p h landed k
    unfold list
    split
    · rw [List.length_append, List.length_singleton]; omega
    · omega
/-- what is told rises, from the next one on -/
theorem list_in (f : Out) (p h landed : Int) : ∀ (k i : Nat), i < (list f p h landed k).length → landed ≤ (list f p h landed k).getD i 0 ∧ (list f p h landed k).getD i 0 < landed + k ∧ (0 < i → (list f p h landed k).getD (i - 1) 0 < (list f p h landed k).getD i 0)
  | 0, i, hi => by simp [list] at hi
  | k + 1, i, hi => by
    unfold list at hi ⊢
    split
    · next hd =>
      rw [if_pos hd, List.length_append, List.length_singleton] at hi
      by_cases hik : i < (list f p h landed k).length
      · have := list_in f p h landed k i hik
        have e1 : (list f p h landed k ++ [landed + k]).getD i 0 = (list f p h landed k).getD i 0 := by simp [List.getD, List.getElem?_append, hik]
        have e2 : (list f p h landed k ++ [landed + k]).getD (i - 1) 0 = (list f p h landed k).getD (i - 1) 0 := by simp [List.getD, List.getElem?_append, show i - 1 < (list f p h landed k).length by omega]
        rw [e1, e2]
        exact ⟨this.1, by omega, this.2.2⟩
      · have hie : i = (list f p h landed k).length := by omega
        have e1 : (list f p h landed k ++ [landed + k]).getD i 0 = landed + k := by rw [hie]; simp [List.getD]
        rw [e1]
        refine ⟨by omega, by omega, fun h0 => ?_⟩
        have := list_in f p h landed k (i - 1) (by omega)
        have e2 : (list f p h landed k ++ [landed + k]).getD (i - 1) 0 = (list f p h landed k).getD (i - 1) 0 := by simp [List.getD, List.getElem?_append, show i - 1 < (list f p h landed k).length by omega]
        rw [e2]
        exact this.2.1
    · next hd =>
      rw [if_neg hd] at hi
      have := list_in f p h landed k i hi
      exact ⟨this.1, by omega, this.2.2⟩
/-- a look -/
def bad (h landed cuts : Int) : Bool := decide (h < 0) || (decide (landed < 0) || decide (cuts < 0))
def look (f : Out) (p win h landed cuts : Int) : List Int × Out :=
  if bad h landed cuts = true then ([], f) else (list (trim f landed) p h landed (many win landed cuts), after (trim f landed) p h landed (many win landed cuts))
def Ok (f : Out) : Prop := ∀ x c, f x = some c → 0 ≤ c ∧ c ≤ 9223372036854775807
theorem none_ok : Ok none_ := fun x c h => by cases h
theorem trim_ok {f : Out} (h : Ok f) (l : Int) : Ok (trim f l) := fun x c e => by
  unfold trim at e
  split at e
  · cases e
  · exact h x c e
theorem after_ok {f : Out} (hf : Ok f) (p h landed : Int) (m : Nat) (h0 : 0 ≤ h) (h1 : h ≤ 9223372036854775807) : Ok (after f p h landed m) := fun x c e => by
  unfold after at e
  split at e
  · cases e; exact ⟨h0, h1⟩
  · exact hf x c e
end Post
end Go.Proofs.Ytedncgidjllapaa
