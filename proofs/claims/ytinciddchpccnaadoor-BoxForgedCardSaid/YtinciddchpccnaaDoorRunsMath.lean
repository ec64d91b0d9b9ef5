/- What later texts need of the earlier layers. -/

/- ---- RunsMath ---- -/
/- Packing of runs, as plain functions of lists of bytes. -/
namespace Go.Proofs.YtinciddchpccnaaDoor.Rn
set_option linter.unusedVariables false
set_option linter.unusedSimpArgs false
namespace Runs
/-- how many c's stand ahead, k at most -/
def lead (c : UInt8) : List UInt8 → Nat → Nat
  | x :: r, k + 1 => if x = c then lead c r k + 1 else 0
  | _, _ => 0
def isRun : List UInt8 → Bool
  | a :: b :: c :: _ => a == b && b == c
  | _ => false
/-- how many bytes stand ahead of the next run, k at most -/
def still : List UInt8 → Nat → Nat
  | x :: r, k + 1 => if isRun (x :: r) then 0 else still r k + 1
  | _, _ => 0
def packF : Nat → List UInt8 → List UInt8
  | 0, _ => []
  | _ + 1, [] => []
  | f + 1, x :: r =>
    if isRun (x :: r) then UInt8.ofNat (125 + lead x (x :: r) 130) :: x :: packF f ((x :: r).drop (lead x (x :: r) 130))
    else UInt8.ofNat (still (x :: r) 128 - 1) :: ((x :: r).take (still (x :: r) 128) ++ packF f ((x :: r).drop (still (x :: r) 128)))
def pack (l : List UInt8) : List UInt8 := packF l.length l
def unpackF : Nat → List UInt8 → Nat → Except Int (List UInt8)
  | 0, _, _ => .ok []
  | _ + 1, [], _ => .ok []
  | f + 1, c :: r, room =>
    if c.toNat < 128 then
      if r.length < c.toNat + 1 then .error 5 else
      if room < c.toNat + 1 then .error 3 else
        match unpackF f (r.drop (c.toNat + 1)) (room - (c.toNat + 1)) with
        | .error e => .error e
        | .ok t => .ok (r.take (c.toNat + 1) ++ t)
    else match r with
      | [] => .error 5
      | x :: r' =>
        if room < c.toNat - 125 then .error 3 else
        match unpackF f r' (room - (c.toNat - 125)) with
        | .error e => .error e
        | .ok t => .ok (List.replicate (c.toNat - 125) x ++ t)
def unpack (l : List UInt8) (most : Int) : List UInt8 × Int :=
  if most < 0 then ([], 2) else
    match unpackF l.length l most.toNat with
    | .error e => ([], e)
    | .ok t => (t, 0)
theorem lead_le (c : UInt8) (l : List UInt8) (k : Nat) : lead c l k ≤ k ∧ lead c l k ≤ l.length := by
  induction l generalizing k with
  | nil => simp [lead]
  | cons x r ih =>
    cases k with
    | zero => simp [lead]
    | succ k =>
      unfold lead
      have := ih k
      split <;> simp <;> omega
theorem lead_take (c : UInt8) (l : List UInt8) (k : Nat) : l.take (lead c l k) = List.replicate (lead c l k) c := by
  induction l generalizing k with
  | nil => simp [lead]
  | cons x r ih =>
    cases k with
    | zero => simp [lead]
    | succ k =>
      unfold lead
      split
      · next h => rw [List.take_succ_cons, ih k, List.replicate_succ, h]
      · simp
theorem lead_run {x : UInt8} {r : List UInt8} (h : isRun (x :: r) = true) : 3 ≤ lead x (x :: r) 130 := by
  match r, h with
  | a :: b :: r', h =>
    simp [isRun] at h
    obtain ⟨rfl, rfl⟩ := h
    simp [lead]
theorem still_le (l : List UInt8) (k : Nat) : still l k ≤ k ∧ still l k ≤ l.length := by
  induction l generalizing k with
  | nil => simp [still]
  | cons x r ih =>
    cases k with
    | zero => simp [still]
    | succ k =>
      unfold still
      have := ih k
      split <;> simp <;> omega
theorem still_pos {x : UInt8} {r : List UInt8} (h : ¬ isRun (x :: r) = true) : 1 ≤ still (x :: r) 128 := by
  unfold still; rw [if_neg h]; omega
/-- a stretch that is not the longest ends at the end or at a run -/
theorem still_end (l : List UInt8) (k : Nat) (h : still l k < k) : l.drop (still l k) = [] ∨ isRun (l.drop (still l k)) = true := by
  induction l generalizing k with
  | nil => simp
  | cons x r ih =>
    cases k with
    | zero => omega
    | succ k =>
      unfold still at h ⊢
      split
      · next hr => right; simpa using hr
      · next hr =>
        rw [if_neg hr] at h
        rw [List.drop_succ_cons]
        exact ih k (by omega)
theorem unpackF_fuel : ∀ (g g' : Nat) (l : List UInt8) (room : Nat), l.length ≤ g → l.length ≤ g' → unpackF g l room = unpackF g' l room := by
  intro g
  induction g with
  | zero =>
    intro g' l room h _
    have : l = [] := List.length_eq_zero_iff.1 (by omega)
    subst this
    cases g' <;> rfl
  | succ g ih =>
    intro g' l room h h'
    cases l with
    | nil => cases g' <;> rfl
    | cons c r =>
      cases g' with
      | zero => simp at h'
      | succ g' =>
        simp at h h'
        simp only [unpackF]
        by_cases hc : c.toNat < 128
        · rw [if_pos hc, if_pos hc]
          rw [ih g' (r.drop (c.toNat + 1)) _ (by simp; omega) (by simp; omega)]
        · rw [if_neg hc, if_neg hc]
          cases r with
          | nil => rfl
          | cons x r' =>
            simp at h h'
            simp only
            rw [ih g' r' _ (by omega) (by omega)]
/-- what bytes are, in so much room -/
def what (l : List UInt8) (room : Nat) : Except Int (List UInt8) := unpackF l.length l room
def front (a : List UInt8) : Except Int (List UInt8) → Except Int (List UInt8)
  | .error e => .error e
  | .ok t => .ok (a ++ t)
theorem front_front (a b : List UInt8) (x : Except Int (List UInt8)) : front a (front b x) = front (a ++ b) x := by
  cases x <;> simp [front]
theorem front_nil (x : Except Int (List UInt8)) : front [] x = x := by cases x <;> rfl
theorem what_nil (room : Nat) : what [] room = .ok [] := rfl
theorem what_lit {c : UInt8} {r : List UInt8} {room : Nat} (hc : c.toNat < 128) :
    what (c :: r) room = if r.length < c.toNat + 1 then .error 5 else if room < c.toNat + 1 then .error 3 else front (r.take (c.toNat + 1)) (what (r.drop (c.toNat + 1)) (room - (c.toNat + 1))) := by
  unfold what
  rw [List.length_cons]
  simp only [unpackF]
  rw [if_pos hc, unpackF_fuel r.length (r.drop (c.toNat + 1)).length _ _ (by simp) (Nat.le_refl _)]
  split
  · rfl
  · split
    · rfl
    · cases unpackF (r.drop (c.toNat + 1)).length (r.drop (c.toNat + 1)) (room - (c.toNat + 1)) <;> rfl
theorem what_run_nil {c : UInt8} {room : Nat} (hc : ¬ c.toNat < 128) : what [c] room = .error 5 := by
  unfold what
  simp only [List.length_cons, List.length_nil, unpackF]
  rw [if_neg hc]
theorem what_run {c x : UInt8} {r : List UInt8} {room : Nat} (hc : ¬ c.toNat < 128) :
    what (c :: x :: r) room = if room < c.toNat - 125 then .error 3 else front (List.replicate (c.toNat - 125) x) (what r (room - (c.toNat - 125))) := by
  unfold what
  rw [List.length_cons]
  simp only [unpackF]
  rw [if_neg hc]
  rw [unpackF_fuel (x :: r).length r.length _ _ (by simp) (Nat.le_refl _)]
  split
  · rfl
  · cases unpackF r.length r (room - (c.toNat - 125)) <;> rfl
theorem unpack_eq (l : List UInt8) (most : Int) : unpack l most = if most < 0 then ([], 2) else match what l most.toNat with | .error e => ([], e) | .ok t => (t, 0) := rfl
theorem packF_run {f : Nat} {x : UInt8} {r : List UInt8} (h : isRun (x :: r) = true) :
    packF (f + 1) (x :: r) = UInt8.ofNat (125 + lead x (x :: r) 130) :: x :: packF f ((x :: r).drop (lead x (x :: r) 130)) := by
  simp only [packF]; rw [if_pos h]
theorem packF_lit {f : Nat} {x : UInt8} {r : List UInt8} (h : ¬ isRun (x :: r) = true) :
    packF (f + 1) (x :: r) = UInt8.ofNat (still (x :: r) 128 - 1) :: ((x :: r).take (still (x :: r) 128) ++ packF f ((x :: r).drop (still (x :: r) 128))) := by
  simp only [packF]; rw [if_neg h]
/-- unpacking what was packed, and then what stands behind -/
theorem what_pack (f : Nat) : ∀ (l t : List UInt8) (room : Nat), l.length ≤ f →
    what (packF f l ++ t) room = if room < l.length then .error 3 else front l (what t (room - l.length)) := by
  induction f with
  | zero =>
    intro l t room h
    have : l = [] := List.length_eq_zero_iff.1 (by omega)
    subst this
    simp [packF, front_nil]
  | succ f ih =>
    intro l t room h
    cases l with
    | nil => simp [packF, front_nil]
    | cons x r =>
      by_cases hr : isRun (x :: r) = true
      · rw [packF_run hr]
        have h3 := lead_run hr
        have hle := lead_le x (x :: r) 130
        have htk := lead_take x (x :: r) 130
        generalize lead x (x :: r) 130 = n at *
        have hc : (UInt8.ofNat (125 + n)).toNat = 125 + n := by simp; omega
        have hn : ¬ (UInt8.ofNat (125 + n)).toNat < 128 := by rw [hc]; omega
        rw [List.cons_append, List.cons_append, what_run hn, hc, ih _ t _ (by simp at h ⊢; omega)]
        have e : 125 + n - 125 = n := by omega
        rw [e, List.length_drop]
        by_cases h1 : room < n
        · rw [if_pos h1, if_pos (by omega)]
        · rw [if_neg h1]
          by_cases h2 : room < (x :: r).length
          · rw [if_pos h2, if_pos (by omega)]; rfl
          · rw [if_neg h2, if_neg (by omega), front_front, ← htk, List.take_append_drop]
            have e2 : room - n - ((x :: r).length - n) = room - (x :: r).length := by omega
            rw [e2]
      · rw [packF_lit hr]
        have h1 := still_pos hr
        have hle := still_le (x :: r) 128
        generalize still (x :: r) 128 = n at *
        have hc : (UInt8.ofNat (n - 1)).toNat = n - 1 := by simp; omega
        have hn : (UInt8.ofNat (n - 1)).toNat < 128 := by rw [hc]; omega
        have e : n - 1 + 1 = n := by omega
        have hlen : ((x :: r).take n).length = n := by rw [List.length_take]; omega
        rw [List.cons_append, what_lit hn, hc, e, List.append_assoc, if_neg (by rw [List.length_append, hlen]; omega)]
        rw [List.take_append_of_le_length (by omega), List.take_of_length_le (by omega), List.drop_append_of_le_length (by omega), List.drop_of_length_le (by omega), List.nil_append]
        rw [ih _ t _ (by simp at h ⊢; omega), List.length_drop]
        by_cases h2 : room < n
        · rw [if_pos h2, if_pos (by omega)]
        · rw [if_neg h2]
          by_cases h3 : room < (x :: r).length
          · rw [if_pos h3, if_pos (by omega)]; rfl
          · rw [if_neg h3, if_neg (by omega), front_front, List.take_append_drop]
            have e2 : room - n - ((x :: r).length - n) = room - (x :: r).length := by omega
            rw [e2]
/-- packed there is little more at most -/
theorem pack_little (f : Nat) : ∀ (l : List UInt8), l.length ≤ f → (packF f l).length ≤ l.length + (l.length + 127) / 128 := by
  induction f using Nat.strongRecOn with
  | ind f ih =>
    intro l h
    cases l with
    | nil => cases f <;> simp [packF]
    | cons x r =>
      cases f with
      | zero => simp at h
      | succ f =>
        by_cases hr : isRun (x :: r) = true
        · rw [packF_run hr]
          have h3 := lead_run hr
          have hle := lead_le x (x :: r) 130
          generalize lead x (x :: r) 130 = n at *
          have hi := ih f (by omega) ((x :: r).drop n) (by simp at h ⊢; omega)
          rw [List.length_drop] at hi
          simp only [List.length_cons] at *
          omega
        · rw [packF_lit hr]
          have h1 := still_pos hr
          have hle := still_le (x :: r) 128
          have hend := still_end (x :: r) 128
          generalize still (x :: r) 128 = n at *
          have hlen : ((x :: r).take n).length = n := by rw [List.length_take]; omega
          rw [List.length_cons, List.length_append, hlen]
          by_cases hn : n < 128
          · rcases hend hn with hd | hd
            · rw [hd]
              have : (x :: r).length ≤ n := by
                have := congrArg List.length hd
                rw [List.length_drop] at this
                simp only [List.length_nil] at this
                omega
              cases f <;> simp only [packF, List.length_nil] <;> omega
            · cases hdd : (x :: r).drop n with
              | nil => rw [hdd] at hd; simp [isRun] at hd
              | cons y r2 =>
                rw [hdd] at hd
                have hl2 : (y :: r2).length = (x :: r).length - n := by rw [← hdd, List.length_drop]
                cases f with
                | zero =>
                  have h4 : 1 ≤ (y :: r2).length := by simp
                  omega
                | succ f =>
                  rw [packF_run hd]
                  have h3 := lead_run hd
                  have hle2 := lead_le y (y :: r2) 130
                  generalize lead y (y :: r2) 130 = m at *
                  have hi := ih f (by omega) ((y :: r2).drop m) (by rw [List.length_drop]; omega)
                  rw [List.length_drop] at hi
                  rw [List.length_cons, List.length_cons]
                  omega
          · have hi := ih f (by omega) ((x :: r).drop n) (by simp at h ⊢; omega)
            rw [List.length_drop] at hi
            omega
theorem unpack_pack (l : List UInt8) : unpack (pack l) l.length = (l, 0) := by
  rw [unpack_eq, if_neg (by omega), Int.toNat_natCast]
  have h := what_pack l.length l [] l.length (Nat.le_refl _)
  rw [List.append_nil, if_neg (by omega), what_nil] at h
  unfold pack
  rw [h]
  simp [front]
end Runs
end Go.Proofs.YtinciddchpccnaaDoor.Rn
