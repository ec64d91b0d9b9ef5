/- Layer 10: records as plain functions of lists of bytes. -/
import Derived.Test.YtpphljdnnlfjhaaDoorCrcMath
namespace Go.Proofs.YtpphljdnnlfjhaaDoor
set_option linter.unusedVariables false
set_option linter.unusedSimpArgs false
namespace Jr
def sumB (i : Nat) (s : List UInt8) : List UInt8 := Cr.four (Cr.sum (Oct.num i ++ s))
/-- the record with the number i -/
def lay (i : Nat) (s : List UInt8) : List UInt8 := Oct.num s.length ++ (sumB i s ++ s)
theorem sumB_len (i : Nat) (s : List UInt8) : (sumB i s).length = 4 := rfl
theorem lay_len (i : Nat) (s : List UInt8) : (lay i s).length = (Oct.num s.length).length + 4 + s.length := by
  unfold lay
  simp only [List.length_append, sumB_len]; omega
theorem lay_pos (i : Nat) (s : List UInt8) : 5 ≤ (lay i s).length := by
  have := Oct.num_length_pos s.length
  rw [lay_len]; omega
theorem lay_le (i : Nat) (s : List UInt8) : (lay i s).length ≤ s.length + 13 := by
  have := Oct.num_length_le s.length
  rw [lay_len]; omega
/-- the record that stands at p, if one with the number i does, and the place behind it -/
def rd (s : List UInt8) (p i : Nat) : Option (List UInt8 × Nat) :=
  if (Oct.rdNum s p).2.2 ≠ 0 then none else
  if 4096 < (Oct.rdNum s p).1 then none else
  if (s.length : Int) - (Oct.rdNum s p).2.1 < 4 + (Oct.rdNum s p).1 then none else
  if (s.drop (Oct.rdNum s p).2.1.toNat).take 4 ≠ sumB i ((s.drop ((Oct.rdNum s p).2.1.toNat + 4)).take (Oct.rdNum s p).1.toNat) then none else
  some ((s.drop ((Oct.rdNum s p).2.1.toNat + 4)).take (Oct.rdNum s p).1.toNat, (Oct.rdNum s p).2.1.toNat + 4 + (Oct.rdNum s p).1.toNat)
/-- what is read stood there -/
theorem rd_some {s r : List UInt8} {p i b : Nat} (h : rd s p i = some (r, b)) : s.drop p = lay i r ++ s.drop b ∧ b = p + (lay i r).length ∧ b ≤ s.length ∧ r.length ≤ 4096 := by
  unfold rd at h
  rcases hn : Oct.rdNum s p with ⟨n, q, e⟩
  rw [hn] at h
  simp only at h
  split at h
  · cases h
  rename_i he
  split at h
  · cases h
  rename_i hbig
  split at h
  · cases h
  rename_i hsh
  split at h
  · cases h
  rename_i hs
  rcases Oct.rdNum_ok hn with hbad | ⟨_, hp, hn0, hn1, hq, hql, htk⟩
  · exact absurd hbad.1 he
  obtain ⟨N, rfl⟩ : ∃ N : Nat, n = (N : Int) := ⟨n.toNat, by omega⟩
  obtain ⟨Q, rfl⟩ : ∃ Q : Nat, q = (Q : Int) := ⟨q.toNat, by omega⟩
  simp only [Int.toNat_natCast] at h hs htk
  have hs' : (s.drop Q).take 4 = sumB i ((s.drop (Q + 4)).take N) := Classical.not_not.1 hs
  injection h with h
  injection h with h1 h2
  have hrl : r.length = N := by rw [← h1, List.length_take, List.length_drop]; omega
  have hpq : (((Q : Int) - (p : Int)).toNat) = Q - p := by omega
  rw [hpq] at htk
  have hnl : (Oct.num N).length = Q - p := by rw [← htk, List.length_take, List.length_drop]; omega
  have e1 : s.drop p = Oct.num N ++ s.drop Q := by
    have := (List.take_append_drop (Q - p) (s.drop p)).symm
    rw [htk, List.drop_drop, show p + (Q - p) = Q by omega] at this
    exact this
  have e2 : s.drop Q = sumB i r ++ s.drop (Q + 4) := by
    have := (List.take_append_drop 4 (s.drop Q)).symm
    rw [hs', List.drop_drop, h1] at this
    exact this
  have e3 : s.drop (Q + 4) = r ++ s.drop b := by
    have := (List.take_append_drop N (s.drop (Q + 4))).symm
    rw [h1, List.drop_drop, h2] at this
    exact this
  refine ⟨?_, ?_, by omega, by omega⟩
  · unfold lay
    rw [e1, e2, e3, hrl]; simp
  · rw [lay_len, hrl, hnl]; omega
theorem rd_lay (a x r : List UInt8) (i : Nat) (hr : r.length ≤ 4096) : rd (a ++ lay i r ++ x) a.length i = some (r, a.length + (lay i r).length) := by
  have hn := Oct.rdNum_num a (sumB i r ++ r ++ x) r.length (by omega)
  have e1 : a ++ Oct.num r.length ++ (sumB i r ++ r ++ x) = a ++ lay i r ++ x := by unfold lay; simp
  rw [e1] at hn
  have hd1 : (a ++ lay i r ++ x).drop (a.length + (Oct.num r.length).length) = sumB i r ++ r ++ x := by
    rw [← e1, ← List.length_append, List.drop_left]
  have hd2 : (a ++ lay i r ++ x).drop (a.length + (Oct.num r.length).length + 4) = r ++ x := by
    rw [← List.drop_drop, hd1, List.append_assoc, show (4 : Nat) = (sumB i r).length from rfl, List.drop_left]
  have hlen : (a ++ lay i r ++ x).length = a.length + (Oct.num r.length).length + 4 + r.length + x.length := by
    rw [List.length_append, List.length_append, lay_len]; omega
  unfold rd
  rw [hn]
  simp only
  rw [if_neg (by simp), if_neg (by omega), if_neg (by rw [hlen]; omega), Int.toNat_natCast, Int.toNat_natCast, hd1, hd2, List.take_left, if_neg (by
    rw [List.append_assoc, List.take_append_of_le_length (by rw [sumB_len]; omega), List.take_of_length_le (by rw [sumB_len]; omega)]; simp)]
  rw [lay_len]
  congr 1
  congr 1
  omega
/-- a part of a record that is not all of it is none -/
theorem rdNum_torn (a t : List UInt8) (n : Nat) (ht : t <+: Oct.num n) (hlt : t.length < (Oct.num n).length) : (Oct.rdNum (a ++ t) a.length).2.2 ≠ 0 := by
  obtain ⟨u, hu⟩ := ht
  have hl := Oct.bigs_len 8 n
  unfold Oct.rdNum
  rw [if_neg (by simp; omega), Int.toNat_natCast, List.drop_left]
  match t, hu with
  | [], _ => simp
  | k :: r, hu =>
    unfold Oct.num at hu
    injection hu with h1 h2
    have hk : k.toNat = (Oct.bigs 8 n).length := by rw [h1, UInt8.toNat_ofNat']; omega
    have hrl : r.length < k.toNat := by
      rw [Oct.num_length] at hlt
      simp only [List.length_cons] at hlt
      omega
    simp only
    rw [if_neg (by omega), if_pos hrl]
    simp
theorem rd_torn (a t r : List UInt8) (i j : Nat) (hr : r.length ≤ 4096) (ht : t <+: lay i r) (hlt : t.length < (lay i r).length) : rd (a ++ t) a.length j = none := by
  by_cases hc : t.length < (Oct.num r.length).length
  · have hp : t <+: Oct.num r.length := by
      unfold lay at ht
      exact List.prefix_of_prefix_length_le ht (List.prefix_append _ _) (by omega)
    have := rdNum_torn a t r.length hp hc
    unfold rd
    rw [if_pos this]
  · have hp : Oct.num r.length <+: t := by
      unfold lay at ht
      exact List.prefix_of_prefix_length_le (List.prefix_append _ _) ht (by omega)
    obtain ⟨u, hu⟩ := hp
    have hn := Oct.rdNum_num a u r.length (by omega)
    rw [List.append_assoc, hu] at hn
    have hul : u.length < 4 + r.length := by
      rw [lay_len] at hlt
      have := congrArg List.length hu
      rw [List.length_append] at this
      omega
    unfold rd
    rw [hn]
    simp only
    rw [if_neg (by simp), if_neg (by omega), if_pos (by
      have := congrArg List.length hu
      rw [List.length_append] at this ⊢
      omega)]
/-- records one behind the other -/
def parseF (s : List UInt8) : Nat → Nat → List (List UInt8) → List (List UInt8) × Nat
  | 0, p, acc => (acc, p)
  | f + 1, p, acc =>
    match rd s p acc.length with
    | none => (acc, p)
    | some (r, b) => parseF s f b (acc ++ [r])
def parse (s : List UInt8) : List (List UInt8) × Nat := parseF s s.length 0 []
/-- how far reading has come -/
def Upto (s : List UInt8) (p : Nat) (acc : List (List UInt8)) : Prop := p ≤ s.length ∧ ∃ f, s.length - p ≤ f ∧ parseF s f p acc = parse s
theorem Upto.start (s : List UInt8) : Upto s 0 [] := ⟨Nat.zero_le _, s.length, by omega, rfl⟩
theorem Upto.stop {s : List UInt8} {p : Nat} {acc : List (List UInt8)} (h : Upto s p acc) (hr : rd s p acc.length = none) : parse s = (acc, p) := by
  obtain ⟨_, f, _, h2⟩ := h
  rw [← h2]
  cases f with
  | zero => rfl
  | succ f =>
    unfold parseF
    rw [hr]
theorem Upto.go {s : List UInt8} {p b : Nat} {acc : List (List UInt8)} {r : List UInt8} (h : Upto s p acc) (hr : rd s p acc.length = some (r, b)) : Upto s b (acc ++ [r]) ∧ p < b ∧ b ≤ s.length := by
  obtain ⟨h1, f, h3, h2⟩ := h
  obtain ⟨_, hb, hbl, _⟩ := rd_some hr
  have := lay_pos acc.length r
  refine ⟨⟨hbl, ?_⟩, by omega, hbl⟩
  cases f with
  | zero => omega
  | succ f =>
    refine ⟨f, by omega, ?_⟩
    rw [← h2]
    conv => rhs; unfold parseF
    rw [hr]
/-- the records from the number i on -/
def lays (i : Nat) : List (List UInt8) → List UInt8
  | [] => []
  | r :: l => lay i r ++ lays (i + 1) l
theorem lays_app (i : Nat) (a b : List (List UInt8)) : lays i (a ++ b) = lays i a ++ lays (i + a.length) b := by
  induction a generalizing i with
  | nil => simp [lays]
  | cons r a ih => simp [lays, ih, Nat.add_assoc, Nat.add_comm 1]
theorem Upto.all {s : List UInt8} (L : List (List UInt8)) (hL : ∀ r ∈ L, r.length ≤ 4096) : ∀ (a x : List UInt8) (acc : List (List UInt8)), s = a ++ lays acc.length L ++ x → Upto s a.length acc → Upto s (a ++ lays acc.length L).length (acc ++ L) := by
  induction L with
  | nil => intro a x acc hs h; simpa [lays] using h
  | cons r L ih =>
    intro a x acc hs h
    have hr : rd s a.length acc.length = some (r, a.length + (lay acc.length r).length) := by
      have := rd_lay a (lays (acc.length + 1) L ++ x) r acc.length (hL r (by simp))
      rw [hs]
      simp only [lays] at *
      simpa [List.append_assoc] using this
    have h2 := (h.go hr).1
    have h3 := ih (fun q hq => hL q (by simp [hq])) (a ++ lay acc.length r) x (acc ++ [r]) (by rw [hs]; simp [lays]) (by rw [List.length_append]; exact h2)
    simp only [lays, List.length_append, List.length_cons, List.length_nil] at h3 ⊢
    simpa [List.append_assoc, Nat.add_assoc] using h3
/-- records and a part of a record behind them -/
theorem parse_lays (L : List (List UInt8)) (t r : List UInt8) (j : Nat) (hL : ∀ r ∈ L, r.length ≤ 4096) (hr : r.length ≤ 4096) (ht : t <+: lay j r) (hlt : t.length < (lay j r).length) : parse (lays 0 L ++ t) = (L, (lays 0 L).length) := by
  have h := Upto.all (s := lays 0 L ++ t) L hL [] t [] (by simp) (Upto.start _)
  simp only [List.nil_append, List.length_nil] at h
  exact h.stop (rd_torn _ t r j _ hr ht hlt)
theorem parse_all (L : List (List UInt8)) (hL : ∀ r ∈ L, r.length ≤ 4096) : parse (lays 0 L) = (L, (lays 0 L).length) := by
  have h := parse_lays L [] [] 0 hL (by simp) (List.nil_prefix) (by have := lay_pos 0 []; simp; omega)
  rw [List.append_nil] at h
  exact h
theorem lays_len_le (i : Nat) (L : List (List UInt8)) (hL : ∀ r ∈ L, r.length ≤ 4096) : (lays i L).length ≤ 4109 * L.length := by
  induction L generalizing i with
  | nil => simp [lays]
  | cons r L ih =>
    have h1 := lay_le i r
    have h2 := hL r (by simp)
    have h3 := ih (i + 1) (fun q hq => hL q (by simp [hq]))
    simp only [lays, List.length_append, List.length_cons]
    omega
/-- what is read is what the bytes begin with -/
theorem parse_is (s : List UInt8) : s.take (parse s).2 = lays 0 (parse s).1 ∧ (parse s).2 ≤ s.length ∧ ∀ r ∈ (parse s).1, r.length ≤ 4096 := by
  have key : ∀ (f p : Nat) (acc : List (List UInt8)), p ≤ s.length → s.take p = lays 0 acc → (∀ r ∈ acc, r.length ≤ 4096) → s.take (parseF s f p acc).2 = lays 0 (parseF s f p acc).1 ∧ (parseF s f p acc).2 ≤ s.length ∧ ∀ r ∈ (parseF s f p acc).1, r.length ≤ 4096 := by
    intro f
    induction f with
    | zero => intro p acc hp h hr; exact ⟨h, hp, hr⟩
    | succ f ih =>
      intro p acc hp h hr
      unfold parseF
      rcases hx : rd s p acc.length with _ | ⟨r, b⟩
      · exact ⟨h, hp, hr⟩
      · obtain ⟨h1, h2, h3, h4⟩ := rd_some hx
        refine ih b (acc ++ [r]) h3 ?_ ?_
        · rw [lays_app, ← h, h2, List.take_add]
          congr 1
          rw [h1, show lays (0 + acc.length) [r] = lay acc.length r by simp [lays], List.take_left]
        · intro q hq
          rcases List.mem_append.1 hq with hq | hq
          · exact hr q hq
          · simp at hq; subst hq; exact h4
  exact key s.length 0 [] (Nat.zero_le _) rfl (by simp)
end Jr
end Go.Proofs.YtpphljdnnlfjhaaDoor
