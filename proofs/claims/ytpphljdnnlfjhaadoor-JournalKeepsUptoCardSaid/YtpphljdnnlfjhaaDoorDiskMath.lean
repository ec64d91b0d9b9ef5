/- Files by rising names: plain mathematics. -/
import Derived.Test.YtpphljdnnlfjhaaDoorDiskDrop
namespace Go.Proofs.YtpphljdnnlfjhaaDoor
set_option linter.unusedVariables false
set_option linter.unusedSimpArgs false

namespace Fl
abbrev Nm := List UInt8
theorem nm_tri (a b : Nm) : a < b ∨ a = b ∨ b < a := by
  by_cases h1 : a < b
  · exact .inl h1
  · by_cases h2 : b < a
    · exact .inr (.inr h2)
    · exact .inr (.inl (List.le_antisymm (List.not_lt.1 h2) (List.not_lt.1 h1)))
theorem nm_irrefl (a : Nm) : ¬ a < a := List.lt_irrefl a
theorem nm_trans {a b c : Nm} (h : a < b) (k : b < c) : a < c := List.lt_trans h k
theorem nm_ne {a b : Nm} (h : a < b) : a ≠ b := fun e => nm_irrefl b (e ▸ h)
/-- by rising names -/
def Sorted (l : List Fl) : Prop := l.Pairwise fun a b => a.name < b.name
def names (l : List Fl) : List Nm := l.map (·.name)
/-- the file of a name -/
def find (l : List Fl) (nm : Nm) : Option Fl := l.find? fun f => decide (f.name = nm)
theorem find_nil (nm : Nm) : find [] nm = none := rfl
theorem find_cons (f : Fl) (l : List Fl) (nm : Nm) : find (f :: l) nm = if f.name = nm then some f else find l nm := by
  unfold find
  rw [List.find?_cons]
  by_cases h : f.name = nm <;> simp [h]
theorem find_name {l : List Fl} {nm : Nm} {f : Fl} (h : find l nm = some f) : f.name = nm := by
  have := List.find?_some h
  simpa using this
theorem find_mem {l : List Fl} {nm : Nm} {f : Fl} (h : find l nm = some f) : f ∈ l := List.mem_of_find?_eq_some h
theorem find_none {l : List Fl} {nm : Nm} : find l nm = none ↔ ∀ f ∈ l, f.name ≠ nm := by
  unfold find
  rw [List.find?_eq_none]
  simp
theorem find_some_iff {l : List Fl} {nm : Nm} : (find l nm).isSome = true ↔ nm ∈ names l := by
  unfold find names
  rw [List.find?_isSome]
  simp
theorem Sorted.tail {f : Fl} {l : List Fl} (h : Sorted (f :: l)) : Sorted l := (List.pairwise_cons.1 h).2
theorem Sorted.head {f : Fl} {l : List Fl} (h : Sorted (f :: l)) : ∀ x ∈ l, f.name < x.name := (List.pairwise_cons.1 h).1
theorem Sorted.find_of_mem {l : List Fl} (h : Sorted l) {f : Fl} (hf : f ∈ l) : find l f.name = some f := by
  induction l with
  | nil => cases hf
  | cons x l ih =>
    rw [find_cons]
    rcases List.mem_cons.1 hf with rfl | hm
    · rw [if_pos rfl]
    · rw [if_neg (nm_ne (h.head _ hm)), ih h.tail hm]
theorem Sorted.nodup {l : List Fl} (h : Sorted l) : (names l).Nodup := by
  unfold names
  rw [List.Nodup, List.pairwise_map]
  exact h.imp fun {a b} hab => nm_ne hab
theorem Sorted.names_le {l : List Fl} (h : Sorted l) : (names l).Pairwise fun a b => decide (a ≤ b) = true := by
  unfold names
  rw [List.pairwise_map]
  exact h.imp fun {a b} hab => by simpa using List.le_of_lt hab
/-- a file in its place -/
def put : List Fl → Fl → List Fl
  | [], f => [f]
  | x :: l, f => if x.name < f.name then x :: put l f else if x.name = f.name then f :: l else f :: x :: l
theorem mem_put {l : List Fl} {f x : Fl} (h : x ∈ put l f) : x = f ∨ x ∈ l := by
  induction l with
  | nil => simp [put] at h; exact .inl h
  | cons y l ih =>
    unfold put at h
    split at h
    · rcases List.mem_cons.1 h with rfl | h
      · exact .inr (by simp)
      · rcases ih h with h | h
        · exact .inl h
        · exact .inr (by simp [h])
    · split at h
      · rcases List.mem_cons.1 h with rfl | h
        · exact .inl rfl
        · exact .inr (by simp [h])
      · rcases List.mem_cons.1 h with rfl | h
        · exact .inl rfl
        · exact .inr h
theorem find_put {l : List Fl} (hs : Sorted l) (f : Fl) (nm : Nm) : find (put l f) nm = if f.name = nm then some f else find l nm := by
  induction l with
  | nil => simp [put, find_cons, find_nil]
  | cons x l ih =>
    unfold put
    split
    · next hlt =>
      rw [find_cons, ih hs.tail, find_cons]
      by_cases h1 : x.name = nm
      · have : f.name ≠ nm := fun e => nm_ne hlt (h1.trans e.symm)
        simp [h1, this]
      · simp [h1]
    · split
      · next heq =>
        rw [find_cons, find_cons]
        by_cases h1 : f.name = nm
        · simp [h1]
        · have : x.name ≠ nm := fun e => h1 (heq.symm.trans e)
          simp [h1, this]
      · rw [find_cons]
theorem Sorted.put {l : List Fl} (hs : Sorted l) (f : Fl) : Sorted (put l f) := by
  induction l with
  | nil => exact List.pairwise_singleton _ _
  | cons x l ih =>
    unfold Fl.put
    split
    · next hlt =>
      refine List.pairwise_cons.2 ⟨fun y hy => ?_, ih hs.tail⟩
      rcases mem_put hy with rfl | hy
      · exact hlt
      · exact hs.head _ hy
    · split
      · next heq => exact List.pairwise_cons.2 ⟨fun y hy => heq ▸ hs.head _ hy, hs.tail⟩
      · next hn hne =>
        have hfx : f.name < x.name := by
          rcases nm_tri x.name f.name with h | h | h
          · exact absurd h hn
          · exact absurd h hne
          · exact h
        refine List.pairwise_cons.2 ⟨fun y hy => ?_, hs⟩
        rcases List.mem_cons.1 hy with rfl | hy
        · exact hfx
        · exact nm_trans hfx (hs.head _ hy)
theorem length_put (l : List Fl) (hs : Sorted l) (f : Fl) : (put l f).length = l.length + if (find l f.name).isSome then 0 else 1 := by
  induction l with
  | nil => simp [put, find_nil]
  | cons x l ih =>
    unfold put
    rw [find_cons]
    split
    · next hlt => simp [nm_ne hlt, ih hs.tail]; omega
    · split
      · next heq => simp [heq]
      · next hn hne =>
        have hfx : f.name < x.name := by
          rcases nm_tri x.name f.name with h | h | h
          · exact absurd h hn
          · exact absurd h hne
          · exact h
        have hnone : find l f.name = none := find_none.2 fun y hy e => nm_ne (nm_trans hfx (hs.head _ hy)) e.symm
        simp [hne, hnone]
theorem mem_put_of_find {l : List Fl} (hs : Sorted l) {f x : Fl} (h : x ∈ put l f) : x = f ∨ (x ∈ l ∧ x.name ≠ f.name) := by
  have h2 := (hs.put f).find_of_mem h
  rw [find_put hs] at h2
  by_cases e : f.name = x.name
  · rw [if_pos e] at h2; injection h2 with h2; exact .inl h2.symm
  · rw [if_neg e] at h2; exact .inr ⟨find_mem h2, fun e2 => e e2.symm⟩
theorem find_drop (l : List Fl) (nm n2 : Nm) : find (drop l nm) n2 = if n2 = nm then none else find l n2 := by
  induction l with
  | nil => simp [drop, find_nil]
  | cons x l ih =>
    have e : drop (x :: l) nm = if x.name = nm then drop l nm else x :: drop l nm := by
      unfold drop; by_cases h : x.name = nm <;> simp [h]
    rw [e, find_cons]
    by_cases h : x.name = nm
    · rw [if_pos h, ih]
      by_cases h2 : n2 = nm
      · simp [h2]
      · rw [if_neg h2, if_neg h2, if_neg (fun e2 => h2 (e2.symm.trans h))]
    · rw [if_neg h, find_cons, ih]
      by_cases h2 : n2 = nm
      · subst h2; simp [h]
      · simp [h2]
theorem Sorted.drop {l : List Fl} (hs : Sorted l) (nm : Nm) : Sorted (drop l nm) := List.Pairwise.filter _ hs
theorem mem_drop {l : List Fl} {nm : Nm} {x : Fl} : x ∈ drop l nm ↔ x ∈ l ∧ x.name ≠ nm := by simp [drop, List.mem_filter]
theorem length_drop (l : List Fl) (nm : Nm) : (drop l nm).length ≤ l.length := List.length_filter_le _ _
theorem length_drop_of_mem {l : List Fl} (hs : Sorted l) {nm : Nm} (h : (find l nm).isSome = true) : (drop l nm).length + 1 = l.length := by
  induction l with
  | nil => simp [find_nil] at h
  | cons x l ih =>
    have e : drop (x :: l) nm = if x.name = nm then drop l nm else x :: drop l nm := by
      unfold drop; by_cases h : x.name = nm <;> simp [h]
    rw [e]
    by_cases hx : x.name = nm
    · rw [if_pos hx]
      have : drop l nm = l := List.filter_eq_self.2 fun y hy => by
        have := nm_ne (hs.head _ hy)
        simp only [decide_eq_true_eq]; intro e; exact this (hx.trans e.symm)
      rw [this]; rfl
    · rw [find_cons, if_neg hx] at h
      rw [if_neg hx, List.length_cons, ih hs.tail h]; rfl
/-- the loop of the reference's put, step by step -/
def step (f : Fl) (s : List Fl × Bool) (x : Fl) : List Fl × Bool :=
  let s1 : List Fl × Bool := if s.2 = false ∧ f.name ≤ x.name then (s.1 ++ [f], true) else s
  if x.name = f.name then s1 else (s1.1 ++ [x], s1.2)
theorem fold_done (f : Fl) (l : List Fl) (h : ∀ x ∈ l, f.name < x.name) (o : List Fl) : l.foldl (step f) (o, true) = (o ++ l, true) := by
  induction l generalizing o with
  | nil => simp
  | cons x l ih =>
    have hx := h x (by simp)
    have e : step f (o, true) x = (o ++ [x], true) := by
      unfold step
      simp [(nm_ne hx).symm]
    rw [List.foldl_cons, e, ih (fun y hy => h y (by simp [hy]))]
    simp
theorem fold_put (f : Fl) (l : List Fl) (hs : Sorted l) (o : List Fl) :
    (if (l.foldl (step f) (o, false)).2 = true then (l.foldl (step f) (o, false)).1 else (l.foldl (step f) (o, false)).1 ++ [f]) = o ++ put l f := by
  induction l generalizing o with
  | nil => simp [put]
  | cons x l ih =>
    rw [List.foldl_cons]
    unfold put
    by_cases hlt : x.name < f.name
    · have e : step f (o, false) x = (o ++ [x], false) := by
        unfold step
        have h1 : ¬ f.name ≤ x.name := List.not_le.2 hlt
        simp [h1, nm_ne hlt]
      rw [e, ih hs.tail, if_pos hlt]
      simp
    · have hle : f.name ≤ x.name := List.not_lt.1 hlt
      rw [if_neg hlt]
      by_cases heq : x.name = f.name
      · have e : step f (o, false) x = (o ++ [f], true) := by
          unfold step
          simp [heq]
        rw [e, fold_done f l (fun y hy => heq ▸ hs.head _ hy), if_pos heq]
        simp
      · have hfx : f.name < x.name := by
          rcases nm_tri x.name f.name with h | h | h
          · exact absurd h hlt
          · exact absurd h heq
          · exact h
        have e : step f (o, false) x = (o ++ [f] ++ [x], true) := by
          unfold step
          simp [hle, heq]
        rw [e, fold_done f l (fun y hy => nm_trans hfx (hs.head _ hy)), if_neg heq]
        simp
theorem fold_len (f : Fl) (l : List Fl) (o : List Fl) (d : Bool) : (l.foldl (step f) (o, d)).1.length ≤ o.length + 2 * l.length := by
  induction l generalizing o d with
  | nil => simp
  | cons x l ih =>
    rw [List.foldl_cons]
    have h2 : (step f (o, d) x).1.length ≤ o.length + 2 := by
      unfold step
      split <;> split <;> simp
    have := ih (step f (o, d) x).1 (step f (o, d) x).2
    have e : ((step f (o, d) x).1, (step f (o, d) x).2) = step f (o, d) x := rfl
    rw [e] at this
    simp only [List.length_cons]
    omega
/-- sorted names are what a sort makes of them -/
theorem Sorted.mergeSort {l : List Fl} (hs : Sorted l) {ss : List Nm} (hp : ss.Perm (names l)) : (ss.mergeSort fun x y => decide (x ≤ y)) = names l := by
  have tr : ∀ a b c : Nm, decide (a ≤ b) = true → decide (b ≤ c) = true → decide (a ≤ c) = true := fun a b c h1 h2 => by simp only [decide_eq_true_eq] at *; exact List.le_trans h1 h2
  have to : ∀ a b : Nm, (decide (a ≤ b) || decide (b ≤ a)) = true := fun a b => by simp only [Bool.or_eq_true, decide_eq_true_eq]; exact List.le_total a b
  refine List.Perm.eq_of_pairwise (le := fun a b => decide (a ≤ b) = true) (fun a b _ _ h1 h2 => ?_) (List.pairwise_mergeSort tr to ss) hs.names_le ((List.mergeSort_perm ss _).trans hp)
  simp only [decide_eq_true_eq] at h1 h2
  exact List.le_antisymm h1 h2
end Fl
end Go.Proofs.YtpphljdnnlfjhaaDoor
