/- Numbers, texts and lists as bytes: plain mathematics over lists of bytes. It imports nothing. -/
namespace Go.Proofs.YtpphljdnnlfjhaaDoor
set_option linter.unusedVariables false
set_option linter.unusedSimpArgs false
namespace Oct

def bigs : Nat → Nat → List UInt8
  | 0, _ => []
  | f + 1, n => if n = 0 then [] else bigs f (n / 256) ++ [UInt8.ofNat (n % 256)]

def val (l : List UInt8) : Nat := l.foldl (fun a b => a * 256 + b.toNat) 0

def num (n : Nat) : List UInt8 := UInt8.ofNat (bigs 8 n).length :: bigs 8 n
def text (s : List UInt8) : List UInt8 := num s.length ++ s

theorem val_snoc (l : List UInt8) (b : UInt8) : val (l ++ [b]) = val l * 256 + b.toNat := by
  simp [val, List.foldl_append]

theorem val_nil : val [] = 0 := rfl

theorem u8_toNat_ofNat_mod (n : Nat) : (UInt8.ofNat (n % 256)).toNat = n % 256 := by
  simp

theorem bigs_len (f n : Nat) : (bigs f n).length ≤ f := by
  induction f generalizing n with
  | zero => simp [bigs]
  | succ f ih =>
    unfold bigs
    split
    · simp
    · have := ih (n / 256)
      simp; omega

theorem val_bigs (f n : Nat) (h : n < 256 ^ f) : val (bigs f n) = n := by
  induction f generalizing n with
  | zero => simp at h; subst h; rfl
  | succ f ih =>
    unfold bigs
    split
    · next h0 => rw [h0]; rfl
    · rw [val_snoc, ih (n / 256) (by rw [Nat.div_lt_iff_lt_mul (by decide)]; rw [Nat.pow_succ] at h; exact h), u8_toNat_ofNat_mod]
      omega

theorem bigs_head (f n : Nat) (h : n < 256 ^ f) : (bigs f n).head? ≠ some 0 := by
  induction f generalizing n with
  | zero => simp [bigs]
  | succ f ih =>
    unfold bigs
    split
    · simp
    · next h0 =>
      have hd : n / 256 < 256 ^ f := by rw [Nat.div_lt_iff_lt_mul (by decide)]; rw [Nat.pow_succ] at h; exact h
      have := ih (n / 256) hd
      cases hb : bigs f (n / 256) with
      | nil =>
        have hv := val_bigs f (n / 256) hd
        rw [hb, val_nil] at hv
        simp only [List.nil_append, List.head?_cons]
        intro he
        have he' : UInt8.ofNat (n % 256) = 0 := by simpa using he
        have := congrArg UInt8.toNat he'
        rw [u8_toNat_ofNat_mod] at this
        simp at this; omega
      | cons c r => rw [hb] at this; simpa using this

theorem val_lt (l : List UInt8) : val l < 256 ^ l.length := by
  induction hl : l.length generalizing l with
  | zero => have : l = [] := List.length_eq_zero_iff.1 hl; subst this; simp [val_nil]
  | succ k ih =>
    rcases List.eq_nil_or_concat l with h | ⟨r, b, h⟩
    · subst h; simp at hl
    · subst h
      simp at hl
      rw [List.concat_eq_append, val_snoc]
      have := ih r hl
      have hb := b.toNat_lt
      rw [Nat.pow_succ]; omega

/-- what has no zero ahead is its value's bytes -/
theorem bigs_val (f : Nat) (l : List UInt8) (hl : l.length ≤ f) (h0 : l.head? ≠ some 0) : bigs f (val l) = l := by
  induction f generalizing l with
  | zero => have : l = [] := List.length_eq_zero_iff.1 (by omega); subst this; rfl
  | succ f ih =>
    rcases List.eq_nil_or_concat l with h | ⟨r, b, h⟩
    · subst h; rfl
    · subst h
      rw [List.concat_eq_append] at *
      have hb := b.toNat_lt
      have hr0 : r.head? ≠ some 0 := by
        cases r with
        | nil => simp
        | cons c r => simpa using h0
      have hr := ih r (by simp at hl; omega) hr0
      rw [val_snoc]
      unfold bigs
      have hd : (val r * 256 + b.toNat) / 256 = val r := by omega
      have hm : (val r * 256 + b.toNat) % 256 = b.toNat := by omega
      rw [hd, hm, hr]
      split
      · next hz =>
        exfalso
        have hv : val r = 0 := by omega
        have hbz : b.toNat = 0 := by omega
        have hrn : r = [] := by
          rw [← hr, hv]
          cases f <;> simp [bigs]
        subst hrn
        apply h0
        simp
        exact UInt8.toNat_inj.1 (by simpa using hbz)
      · simp

theorem num_length (n : Nat) : (num n).length = (bigs 8 n).length + 1 := by simp [num]
theorem num_length_le (n : Nat) : (num n).length ≤ 9 := by have := bigs_len 8 n; rw [num_length]; omega
theorem num_length_pos (n : Nat) : 1 ≤ (num n).length := by rw [num_length]; omega

def numE (n : Int) : List UInt8 × Int := if n < 0 then ([], 2) else (num n.toNat, 0)
def textE (s : List UInt8) : List UInt8 × Int := if 65536 < s.length then ([], 3) else (text s, 0)

/-- the texts of a list, one behind the other: none where they are more than 'left' bytes -/
def listGo : Nat → List (List UInt8) → Option (List UInt8)
  | _, [] => some []
  | left, s :: r => if left < s.length then none else (listGo (left - s.length) r).map (text s ++ ·)
def listE (l : List (List UInt8)) : List UInt8 × Int :=
  if 1024 < l.length then ([], 3) else
    match listGo 65536 l with
    | none => ([], 3)
    | some b => (num l.length ++ b, 0)

def rdNum (s : List UInt8) (p : Int) : Int × Int × Int :=
  if p < 0 ∨ (s.length : Int) < p then (0, 0, 4) else
    match s.drop p.toNat with
    | [] => (0, 0, 5)
    | k :: r =>
      if 8 < k.toNat then (0, 0, 6) else
      if r.length < k.toNat then (0, 0, 5) else
      if (r.take k.toNat).head? = some 0 ∨ 2 ^ 63 ≤ val (r.take k.toNat) then (0, 0, 6) else
        (val (r.take k.toNat), p + 1 + k.toNat, 0)

def rdText (s : List UInt8) (p : Int) : List UInt8 × Int × Int :=
  match rdNum s p with
  | (n, q, e) =>
    if e ≠ 0 then ([], 0, e) else
    if 65536 < n then ([], 0, 3) else
    if (s.length : Int) - q < n then ([], 0, 5) else
      ((s.drop q.toNat).take n.toNat, q + n, 0)

def rdGo (s : List UInt8) : Nat → Nat → Int → Except Int (List (List UInt8) × Int)
  | 0, _, q => .ok ([], q)
  | n + 1, left, q =>
    match rdText s q with
    | (t, b, e) =>
      if e ≠ 0 then .error e else
      if left < t.length then .error 3 else
        match rdGo s n (left - t.length) b with
        | .error e => .error e
        | .ok (l, q') => .ok (t :: l, q')

def rdList (s : List UInt8) (p : Int) : List (List UInt8) × Int × Int :=
  match rdNum s p with
  | (n, q, e) =>
    if e ≠ 0 then ([], 0, e) else
    if 1024 < n then ([], 0, 3) else
      match rdGo s n.toNat 65536 q with
      | .error e => ([], 0, e)
      | .ok (l, q') => (l, q', 0)

/-- the ways of a number that is read -/
theorem rdNum_ok {s : List UInt8} {p n q e : Int} (h : rdNum s p = (n, q, e)) :
    (e ≠ 0 ∧ n = 0 ∧ q = 0) ∨ (e = 0 ∧ 0 ≤ p ∧ 0 ≤ n ∧ n < 2 ^ 63 ∧ p < q ∧ q ≤ s.length ∧ (s.drop p.toNat).take (q - p).toNat = num n.toNat) := by
  unfold rdNum at h
  split at h
  · left; simp at h; omega
  next hp =>
  have hp0 : 0 ≤ p ∧ p ≤ s.length := by omega
  cases hd : s.drop p.toNat with
  | nil => rw [hd] at h; left; simp at h; omega
  | cons k r =>
    rw [hd] at h
    simp only at h
    split at h
    · left; simp at h; omega
    split at h
    · left; simp at h; omega
    split at h
    · left; simp at h; omega
    next h8 hr hz =>
    right
    simp only [Prod.mk.injEq] at h
    obtain ⟨rfl, rfl, rfl⟩ := h
    have hlen : s.length - p.toNat = r.length + 1 := by
      have := congrArg List.length hd; simpa using this
    have hv : val (r.take k.toNat) < 2 ^ 63 := by
      have : ¬ (2 ^ 63 ≤ val (r.take k.toNat)) := fun x => hz (Or.inr x)
      omega
    have h0 : (r.take k.toNat).head? ≠ some 0 := fun x => hz (Or.inl x)
    have hl : (r.take k.toNat).length = k.toNat := by simp; omega
    refine ⟨rfl, by omega, by omega, by omega, by omega, by omega, ?_⟩
    have e1 : (p + 1 + (k.toNat : Int) - p).toNat = k.toNat + 1 := by omega
    rw [e1, List.take_succ_cons, Int.toNat_natCast]
    unfold num
    rw [bigs_val 8 _ (by omega) h0, hl]
    congr 1
    exact UInt8.toNat_inj.1 (by have := k.toNat_lt; simp)

theorem drop_append_len (a b : List UInt8) : (a ++ b).drop a.length = b := by simp

theorem pow63 : (2 : Nat) ^ 63 < 256 ^ 8 := by decide

theorem rdNum_num (a x : List UInt8) (n : Nat) (h : n < 2 ^ 63) :
    rdNum (a ++ num n ++ x) a.length = ((n : Int), ((a.length + (num n).length : Nat) : Int), 0) := by
  have h8 : n < 256 ^ 8 := Nat.lt_trans h pow63
  have hl := bigs_len 8 n
  unfold rdNum
  rw [if_neg (by simp; omega), Int.toNat_natCast, List.append_assoc, drop_append_len]
  have hk : (UInt8.ofNat (bigs 8 n).length).toNat = (bigs 8 n).length := by
    simp; omega
  simp only [num, List.cons_append]
  rw [hk, if_neg (by omega), if_neg (by simp)]
  have ht : (bigs 8 n ++ x).take (bigs 8 n).length = bigs 8 n := by simp
  rw [ht, val_bigs 8 n h8, if_neg (by
    rintro (h1 | h1)
    · exact bigs_head 8 n h8 h1
    · omega)]
  simp; omega

theorem rdText_text (a x t : List UInt8) (h : t.length ≤ 65536) :
    rdText (a ++ text t ++ x) a.length = (t, ((a.length + (text t).length : Nat) : Int), 0) := by
  unfold rdText
  have e : a ++ text t ++ x = a ++ num t.length ++ (t ++ x) := by simp [text]
  have hn := rdNum_num a (t ++ x) t.length (by omega)
  rw [e, hn]
  simp only
  rw [if_neg (by simp), if_neg (by omega), if_neg (by simp; omega)]
  simp only [Prod.mk.injEq, and_true]
  refine ⟨?_, ?_⟩
  · have e2 : a ++ num t.length ++ (t ++ x) = (a ++ num t.length) ++ (t ++ x) := rfl
    have e3 : a.length + (num t.length).length = (a ++ num t.length).length := by simp
    rw [Int.toNat_natCast, Int.toNat_natCast, e3, List.drop_append]; simp
  · simp [text]; omega

def total (l : List (List UInt8)) : Nat := (l.map List.length).foldr (· + ·) 0

theorem listGo_some {left : Nat} {l : List (List UInt8)} {b : List UInt8} (h : listGo left l = some b) :
    total l ≤ left ∧ b = (l.map text).flatten := by
  induction l generalizing left b with
  | nil => simp [listGo] at h; subst h; simp [total]
  | cons s r ih =>
    unfold listGo at h
    split at h
    · simp at h
    · cases hr : listGo (left - s.length) r with
      | none => rw [hr] at h; simp at h
      | some b' =>
        rw [hr] at h; simp at h
        obtain ⟨h1, h2⟩ := ih hr
        subst h2; subst h
        refine ⟨?_, by simp⟩
        simp [total] at h1 ⊢; omega

theorem listGo_mk (left : Nat) (l : List (List UInt8)) (h : total l ≤ left) : listGo left l = some (l.map text).flatten := by
  induction l generalizing left with
  | nil => rfl
  | cons s r ih =>
    simp [total] at h
    unfold listGo
    rw [if_neg (by omega), ih (left - s.length) (by simp [total]; omega)]
    simp

theorem rdGo_list (a x : List UInt8) (l : List (List UInt8)) (left : Nat) (h : total l ≤ left) (h2 : left ≤ 65536) :
    rdGo (a ++ (l.map text).flatten ++ x) l.length left a.length = .ok (l, ((a.length + ((l.map text).flatten).length : Nat) : Int)) := by
  induction l generalizing a left with
  | nil => simp [rdGo]
  | cons s r ih =>
    simp [total] at h
    have e : a ++ ((s :: r).map text).flatten ++ x = a ++ text s ++ ((r.map text).flatten ++ x) := by simp
    have ht := rdText_text a ((r.map text).flatten ++ x) s (by omega)
    rw [List.length_cons]
    unfold rdGo
    rw [e, ht]
    simp only
    rw [if_neg (by simp), if_neg (by omega)]
    have e2 : a ++ text s ++ ((r.map text).flatten ++ x) = (a ++ text s) ++ (r.map text).flatten ++ x := by simp
    have e3 : a.length + (text s).length = (a ++ text s).length := by simp
    rw [e2, e3, ih (a ++ text s) (left - s.length) (by simp [total]; omega) (by omega)]
    simp; omega

theorem rdList_list (a x : List UInt8) (l : List (List UInt8)) (b : List UInt8) (h : listE l = (b, 0)) :
    rdList (a ++ b ++ x) a.length = (l, ((a.length + b.length : Nat) : Int), 0) := by
  unfold listE at h
  split at h
  · simp at h
  next hl =>
  cases hg : listGo 65536 l with
  | none => rw [hg] at h; simp at h
  | some c =>
    rw [hg] at h
    simp only [Prod.mk.injEq, and_true] at h
    obtain ⟨h1, h2⟩ := listGo_some hg
    subst h2
    subst h
    unfold rdList
    have e : a ++ (num l.length ++ (l.map text).flatten) ++ x = a ++ num l.length ++ ((l.map text).flatten ++ x) := by simp
    rw [e, rdNum_num a _ l.length (by omega)]
    simp only
    rw [if_neg (by simp), if_neg (by omega), Int.toNat_natCast]
    have e2 : a ++ num l.length ++ ((l.map text).flatten ++ x) = (a ++ num l.length) ++ (l.map text).flatten ++ x := by simp
    have e3 : a.length + (num l.length).length = (a ++ num l.length).length := by simp
    rw [e2, e3, rdGo_list (a ++ num l.length) x l 65536 h1 (Nat.le_refl _)]
    simp; omega

theorem listE_err {l : List (List UInt8)} {b : List UInt8} {e : Int} (h : listE l = (b, e)) : (e = 0) ∨ (b = [] ∧ e = 3) := by
  unfold listE at h
  split at h
  · simp at h; right; exact ⟨h.1, by omega⟩
  · split at h
    · simp at h; right; exact ⟨h.1, by omega⟩
    · simp at h; left; omega

theorem rdText_ok {s t : List UInt8} {p q e : Int} (h : rdText s p = (t, q, e)) :
    (e ≠ 0 ∧ t = [] ∧ q = 0) ∨ (e = 0 ∧ 0 ≤ p ∧ t.length ≤ 65536 ∧ p < q ∧ q ≤ s.length ∧ (s.drop p.toNat).take (q - p).toNat = text t) := by
  unfold rdText at h
  rcases hn : rdNum s p with ⟨n, m, f⟩
  rw [hn] at h
  simp only at h
  split at h
  · next hf => simp only [Prod.mk.injEq] at h; obtain ⟨rfl, rfl, rfl⟩ := h; left; exact ⟨hf, rfl, rfl⟩
  next hf =>
  split at h
  · simp only [Prod.mk.injEq] at h; obtain ⟨rfl, rfl, rfl⟩ := h; left; exact ⟨by decide, rfl, rfl⟩
  split at h
  · simp only [Prod.mk.injEq] at h; obtain ⟨rfl, rfl, rfl⟩ := h; left; exact ⟨by decide, rfl, rfl⟩
  next hb hs =>
  right
  simp only [Prod.mk.injEq] at h
  obtain ⟨rfl, rfl, rfl⟩ := h
  rcases rdNum_ok hn with h1 | ⟨_, hp, hn0, hn1, hpm, hm, hnum⟩
  · exact absurd h1.1 hf
  have hlen : ((s.drop m.toNat).take n.toNat).length = n.toNat := by simp; omega
  refine ⟨rfl, hp, by omega, by omega, by omega, ?_⟩
  unfold text
  rw [hlen, ← hnum]
  have e1 : (m + n - p).toNat = (m - p).toNat + n.toNat := by omega
  rw [e1, List.take_add, List.drop_drop]
  have e2 : p.toNat + (m - p).toNat = m.toNat := by omega
  rw [e2]

theorem rdGo_ok {s : List UInt8} {n left : Nat} {q q' : Int} {l : List (List UInt8)} (h : rdGo s n left q = .ok (l, q')) (hq0 : 0 ≤ q) (hq : q ≤ s.length) :
    l.length = n ∧ total l ≤ left ∧ q ≤ q' ∧ q' ≤ s.length ∧ (s.drop q.toNat).take (q' - q).toNat = (l.map text).flatten := by
  induction n generalizing left q l q' with
  | zero =>
    simp only [rdGo, Except.ok.injEq, Prod.mk.injEq] at h
    obtain ⟨rfl, rfl⟩ := h
    simp [total, hq]
  | succ n ih =>
    unfold rdGo at h
    rcases ht : rdText s q with ⟨t, b, e⟩
    rw [ht] at h
    simp only at h
    split at h
    · simp at h
    split at h
    · simp at h
    next he hl =>
    cases hr : rdGo s n (left - t.length) b with
    | error e => rw [hr] at h; simp at h
    | ok v =>
      obtain ⟨r, q2⟩ := v
      rw [hr] at h
      simp only [Except.ok.injEq, Prod.mk.injEq] at h
      obtain ⟨rfl, rfl⟩ := h
      rcases rdText_ok ht with h1 | ⟨_, hp, hn0, hqb, hb, htx⟩
      · exact absurd h1.1 he
      obtain ⟨i1, i2, i3, i4, i5⟩ := ih hr (by omega) hb
      refine ⟨by simp [i1], by simp [total] at i2 ⊢; omega, by omega, i4, ?_⟩
      have e1 : (q2 - q).toNat = (b - q).toNat + (q2 - b).toNat := by omega
      rw [e1, List.take_add, List.drop_drop]
      have e2 : q.toNat + (b - q).toNat = b.toNat := by omega
      rw [e2, htx, i5]; simp

theorem rdList_ok {s : List UInt8} {p q e : Int} {l : List (List UInt8)} (h : rdList s p = (l, q, e)) :
    (e ≠ 0 ∧ l = [] ∧ q = 0) ∨ (e = 0 ∧ 0 ≤ p ∧ p ≤ q ∧ q ≤ s.length ∧ listE l = ((s.drop p.toNat).take (q - p).toNat, 0)) := by
  unfold rdList at h
  rcases hn : rdNum s p with ⟨n, m, f⟩
  rw [hn] at h
  simp only at h
  split at h
  · next hf => simp only [Prod.mk.injEq] at h; obtain ⟨rfl, rfl, rfl⟩ := h; left; exact ⟨hf, rfl, rfl⟩
  next hf =>
  rcases rdNum_ok hn with h1 | ⟨_, hp, hn0, hn1, hpm, hm, hnum⟩
  · exact absurd h1.1 hf
  split at h
  · simp only [Prod.mk.injEq] at h; obtain ⟨rfl, rfl, rfl⟩ := h; left; exact ⟨by decide, rfl, rfl⟩
  next hb =>
  cases hr : rdGo s n.toNat 65536 m with
  | error e' =>
    rw [hr] at h
    simp only [Prod.mk.injEq] at h
    obtain ⟨rfl, rfl, rfl⟩ := h
    left
    refine ⟨?_, rfl, rfl⟩
    suffices H : ∀ (k left : Nat) (q : Int) (e : Int), rdGo s k left q = .error e → e ≠ 0 from H _ _ _ _ hr
    intro k
    induction k with
    | zero => intro left q e h; simp [rdGo] at h
    | succ k ih =>
      intro left q e h
      unfold rdGo at h
      rcases ht : rdText s q with ⟨t, b, e2⟩
      rw [ht] at h
      simp only at h
      split at h
      · next h3 => simp only [Except.error.injEq] at h; subst h; exact h3
      split at h
      · simp only [Except.error.injEq] at h; subst h; decide
      cases hr2 : rdGo s k (left - t.length) b with
      | error e3 => rw [hr2] at h; simp only [Except.error.injEq] at h; subst h; exact ih _ _ _ hr2
      | ok v => rw [hr2] at h; simp at h
  | ok v =>
    obtain ⟨r, q2⟩ := v
    rw [hr] at h
    simp only [Prod.mk.injEq] at h
    obtain ⟨rfl, rfl, rfl⟩ := h
    obtain ⟨i1, i2, i3, i4, i5⟩ := rdGo_ok hr (by omega) hm
    right
    refine ⟨rfl, hp, by omega, i4, ?_⟩
    unfold listE
    rw [if_neg (by omega), listGo_mk _ _ i2]
    simp only [Prod.mk.injEq, and_true]
    have e1 : (q2 - p).toNat = (m - p).toNat + (q2 - m).toNat := by omega
    have e2 : p.toNat + (m - p).toNat = m.toNat := by omega
    rw [e1, List.take_add, List.drop_drop, e2, hnum, i5, i1]

theorem rdNum_behind (s more : List UInt8) (p : Int) (h : (rdNum s p).2.2 ≠ 5 ∧ (rdNum s p).2.2 ≠ 4) : rdNum (s ++ more) p = rdNum s p := by
  unfold rdNum at h
  split at h
  · simp at h
  next hp =>
  have hp0 : 0 ≤ p ∧ p ≤ s.length := by omega
  cases hd : s.drop p.toNat with
  | nil => rw [hd] at h; simp at h
  | cons k r =>
    rw [hd] at h
    simp only at h
    have hd2 : (s ++ more).drop p.toNat = k :: (r ++ more) := by
      rw [List.drop_append_of_le_length (by omega), hd]; rfl
    unfold rdNum
    rw [if_neg hp, if_neg (by simp; omega), hd, hd2]
    simp only
    by_cases h8 : 8 < k.toNat
    · rw [if_pos h8, if_pos h8]
    rw [if_neg h8] at h
    rw [if_neg h8, if_neg h8]
    by_cases hr : r.length < k.toNat
    · rw [if_pos hr] at h; simp at h
    rw [if_neg hr, if_neg (by simp; omega), List.take_append_of_le_length (by omega)]

theorem rdText_behind (s more : List UInt8) (p : Int) (h : (rdText s p).2.2 ≠ 5 ∧ (rdText s p).2.2 ≠ 4) : rdText (s ++ more) p = rdText s p := by
  rcases hn : rdNum s p with ⟨n, m, f⟩
  have hok := rdNum_ok hn
  unfold rdText at h
  rw [hn] at h
  simp only at h
  have hb : rdNum (s ++ more) p = (n, m, f) := by
    rw [← hn]; apply rdNum_behind
    rw [hn]
    by_cases hf : f = 0
    · subst hf; simp
    · rw [if_pos hf] at h; exact h
  unfold rdText
  rw [hn, hb]
  simp only
  by_cases hf : f ≠ 0
  · rw [if_pos hf, if_pos hf]
  rw [if_neg hf] at h
  rw [if_neg hf, if_neg hf]
  by_cases h6 : 65536 < n
  · rw [if_pos h6, if_pos h6]
  rw [if_neg h6] at h
  rw [if_neg h6, if_neg h6]
  by_cases h7 : (s.length : Int) - m < n
  · rw [if_pos h7] at h; simp at h
  rcases hok with h1 | ⟨_, hp, hn0, hn1, hpm, hm, hnum⟩
  · exact absurd h1.1 hf
  rw [if_neg h7, if_neg (by simp; omega)]
  rw [List.drop_append_of_le_length (by omega), List.take_append_of_le_length (by simp; omega)]

theorem rdGo_behind (s more : List UInt8) (n left : Nat) (q : Int) (h : rdGo s n left q ≠ .error 5 ∧ rdGo s n left q ≠ .error 4) : rdGo (s ++ more) n left q = rdGo s n left q := by
  induction n generalizing left q with
  | zero => rfl
  | succ n ih =>
    rcases ht : rdText s q with ⟨t, b, e⟩
    unfold rdGo at h
    rw [ht] at h
    simp only at h
    have hb : rdText (s ++ more) q = (t, b, e) := by
      rw [← ht]; apply rdText_behind
      rw [ht]
      by_cases hf : e = 0
      · subst hf; simp
      · rw [if_pos hf] at h; simpa using h
    unfold rdGo
    rw [ht, hb]
    simp only
    by_cases hf : e ≠ 0
    · rw [if_pos hf, if_pos hf]
    rw [if_neg hf] at h
    rw [if_neg hf, if_neg hf]
    by_cases h6 : left < t.length
    · rw [if_pos h6, if_pos h6]
    rw [if_neg h6] at h
    rw [if_neg h6, if_neg h6]
    rw [ih]
    constructor
    · intro hx; rw [hx] at h; simp at h
    · intro hx; rw [hx] at h; simp at h

theorem rdList_behind (s more : List UInt8) (p : Int) (h : (rdList s p).2.2 ≠ 5 ∧ (rdList s p).2.2 ≠ 4) : rdList (s ++ more) p = rdList s p := by
  rcases hn : rdNum s p with ⟨n, m, f⟩
  unfold rdList at h
  rw [hn] at h
  simp only at h
  have hb : rdNum (s ++ more) p = (n, m, f) := by
    rw [← hn]; apply rdNum_behind
    rw [hn]
    by_cases hf : f = 0
    · subst hf; simp
    · rw [if_pos hf] at h; exact h
  unfold rdList
  rw [hn, hb]
  simp only
  by_cases hf : f ≠ 0
  · rw [if_pos hf, if_pos hf]
  rw [if_neg hf] at h
  rw [if_neg hf, if_neg hf]
  by_cases h6 : 1024 < n
  · rw [if_pos h6, if_pos h6]
  rw [if_neg h6] at h
  rw [if_neg h6, if_neg h6, rdGo_behind]
  constructor
  · intro hx; rw [hx] at h; simp at h
  · intro hx; rw [hx] at h; simp at h

end Oct
end Go.Proofs.YtpphljdnnlfjhaaDoor
