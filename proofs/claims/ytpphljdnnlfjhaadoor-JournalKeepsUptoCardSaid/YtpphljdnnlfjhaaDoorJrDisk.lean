/- Layer 10: a journal on a disk, as plain functions. -/
import Derived.Test.YtpphljdnnlfjhaaDoorJrMath
import Derived.Test.YtpphljdnnlfjhaaDoorDiskMid
namespace Go.Proofs.YtpphljdnnlfjhaaDoor
set_option linter.unusedVariables false
set_option linter.unusedSimpArgs false
namespace Jr
abbrev nj : List UInt8 := [106]
abbrev nx : List UInt8 := [106, 120]
/-- the journal's file, and the one that is laid anew -/
def St (o x : Option (List UInt8 × Int)) : List Fl := (match o with | none => [] | some p => [⟨nj, p.1, p.2⟩]) ++ (match x with | none => [] | some p => [⟨nx, p.1, p.2⟩])
def by_ (o : Option (List UInt8 × Int)) : List UInt8 := match o with | none => [] | some p => p.1
def sf (o : Option (List UInt8 × Int)) : Int := match o with | none => 0 | some p => p.2
theorem lt_jx : nj < nx := by decide
theorem ne_jx : ¬ nj = nx := by decide
theorem ne_xj : ¬ nx = nj := by decide
theorem word_j : Disk.word nj = true := by decide
theorem word_x : Disk.word nx = true := by decide
theorem not_xj : ¬ nx < nj := by decide
theorem find_j (o x : Option (List UInt8 × Int)) : Fl.find (St o x) nj = o.map fun p => ⟨nj, p.1, p.2⟩ := by
  cases o <;> cases x <;> simp [St, Fl.find_cons, Fl.find_nil]
theorem find_x (o x : Option (List UInt8 × Int)) : Fl.find (St o x) nx = x.map fun p => ⟨nx, p.1, p.2⟩ := by
  cases o <;> cases x <;> simp [St, Fl.find_cons, Fl.find_nil]
theorem put_j (o x : Option (List UInt8 × Int)) (b : List UInt8) (s : Int) : Fl.put (St o x) ⟨nj, b, s⟩ = St (some (b, s)) x := by
  cases o <;> cases x <;> simp [St, Fl.put, not_xj, Fl.nm_irrefl]
theorem put_x (o x : Option (List UInt8 × Int)) (b : List UInt8) (s : Int) : Fl.put (St o x) ⟨nx, b, s⟩ = St o (some (b, s)) := by
  have := lt_jx
  cases o <;> cases x <;> simp [St, Fl.put, Fl.nm_irrefl, this]
theorem drop_x (o x : Option (List UInt8 × Int)) : Fl.drop (St o x) nx = St o none := by
  cases o <;> cases x <;> simp [St, Fl.drop]
theorem bytes_j (o x : Option (List UInt8 × Int)) {r : Int} (hr : r ≠ 0) : bytesR (St o x) r nj = by_ o := by
  unfold bytesR; rw [if_neg hr, find_j]; cases o <;> rfl
theorem bytes_x (o x : Option (List UInt8 × Int)) {r : Int} (hr : r ≠ 0) : bytesR (St o x) r nx = by_ x := by
  unfold bytesR; rw [if_neg hr, find_x]; cases x <;> rfl
theorem safe_j (o x : Option (List UInt8 × Int)) {r : Int} (hr : r ≠ 0) : safeR (St o x) r nj = sf o := by
  unfold safeR; rw [if_neg hr, find_j]; cases o <;> rfl
theorem safe_x (o x : Option (List UInt8 × Int)) {r : Int} (hr : r ≠ 0) : safeR (St o x) r nx = sf x := by
  unfold safeR; rw [if_neg hr, find_x]; cases x <;> rfl
theorem code_j (o x : Option (List UInt8 × Int)) {r : Int} (hr : r ≠ 0) : codeR (St o x) r nj = if o.isSome = true then 0 else 34 := by
  unfold codeR; rw [if_neg hr, find_j]; cases o <;> rfl
theorem St_len (o x : Option (List UInt8 × Int)) : (St o x).length ≤ 2 := by cases o <;> cases x <;> simp [St]
theorem append_j {o x : Option (List UInt8 × Int)} {r : Int} {s : List UInt8} (hr : r ≠ 0) : appendR (St o x) r nj s = if 1048576 < (by_ o).length + s.length then (St o x, r, 3) else (St (some (by_ o ++ s, sf o)) x, oneR r, 0) := by
  have := St_len o x
  unfold appendR
  rw [if_neg hr, word_j, if_neg (by simp), bytes_j _ _ hr, safe_j _ _ hr, put_j]
  split
  · rfl
  · rw [if_neg (by omega)]
theorem append_x {o x : Option (List UInt8 × Int)} {r : Int} {s : List UInt8} (hr : r ≠ 0) : appendR (St o x) r nx s = if 1048576 < (by_ x).length + s.length then (St o x, r, 3) else (St o (some (by_ x ++ s, sf x)), oneR r, 0) := by
  have := St_len o x
  unfold appendR
  rw [if_neg hr, word_x, if_neg (by simp), bytes_x _ _ hr, safe_x _ _ hr, put_x]
  split
  · rfl
  · rw [if_neg (by omega)]
theorem sync_j {o x : Option (List UInt8 × Int)} {r : Int} (hr : r ≠ 0) : syncR (St o x) r nj = match o with | none => (St o x, r, 34) | some p => (St (some (p.1, p.1.length)) x, oneR r, 0) := by
  unfold syncR
  rw [if_neg hr, find_j]
  cases o with
  | none => rfl
  | some p => simp only [Option.map_some]; rw [put_j]
theorem sync_x {o x : Option (List UInt8 × Int)} {r : Int} (hr : r ≠ 0) : syncR (St o x) r nx = match x with | none => (St o x, r, 34) | some p => (St o (some (p.1, p.1.length)), oneR r, 0) := by
  unfold syncR
  rw [if_neg hr, find_x]
  cases x with
  | none => rfl
  | some p => simp only [Option.map_some]; rw [put_x]
theorem remove_x {o x : Option (List UInt8 × Int)} {r : Int} (hr : r ≠ 0) : removeR (St o x) r nx = match x with | none => (St o none, r, 34) | some _ => (St o none, oneR r, 0) := by
  unfold removeR
  rw [if_neg hr, find_x]
  cases x with
  | none => rfl
  | some p => simp only [Option.map_some]; rw [drop_x]
theorem rename_x {o x : Option (List UInt8 × Int)} {r : Int} (hr : r ≠ 0) : renameR (St o x) r nx nj = match x with | none => (St o x, r, 34) | some p => (St (some p) none, oneR r, 0) := by
  unfold renameR
  rw [if_neg hr, find_x]
  cases x with
  | none => rfl
  | some p => simp only [Option.map_some]; rw [word_j, if_pos rfl, drop_x, put_j]
/-- what is left of a file behind a crash -/
def cut (p : List UInt8 × Int) (k : Int) : List UInt8 × Int := (p.1.take (p.2 + min (max k 0) ((p.1.length : Int) - p.2)).toNat, p.2 + min (max k 0) ((p.1.length : Int) - p.2))
theorem crash_St (o x : Option (List UInt8 × Int)) (ks : List Int) : ∃ k1 k2 : Int, Fl.crashL (St o x) ks = St (o.map fun p => cut p k1) (x.map fun p => cut p k2) := by
  cases o with
  | none =>
    cases x with
    | none => exact ⟨0, 0, rfl⟩
    | some q => exact ⟨0, ks.getD 0 0, rfl⟩
  | some p =>
    cases x with
    | none => exact ⟨ks.getD 0 0, 0, rfl⟩
    | some q => exact ⟨ks.getD 0 0, ks.getD 1 0, rfl⟩
theorem cut_take {p : List UInt8 × Int} (h0 : 0 ≤ p.2) (h1 : p.2 ≤ p.1.length) (k : Int) : ∃ m : Nat, cut p k = (p.1.take m, (m : Int)) ∧ p.2 ≤ m ∧ m ≤ p.1.length := by
  unfold cut
  refine ⟨(p.2 + min (max k 0) ((p.1.length : Int) - p.2)).toNat, ?_, by omega, by omega⟩
  congr 1
  omega

/-- the journal's calls -/
structure J where
  len : Nat
  synced : Nat
  broken : Bool
def replaceR (l : List Fl) (r : Int) (s : List UInt8) : List Fl × Int × Int :=
  if (appendR l r nx s).2.2 ≠ 0 then appendR l r nx s else
  if (syncR (appendR l r nx s).1 (appendR l r nx s).2.1 nx).2.2 ≠ 0 then syncR (appendR l r nx s).1 (appendR l r nx s).2.1 nx else
  renameR (syncR (appendR l r nx s).1 (appendR l r nx s).2.1 nx).1 (syncR (appendR l r nx s).1 (appendR l r nx s).2.1 nx).2.1 nx nj
def addR (l : List Fl) (r : Int) (j : J) (s : List UInt8) : List Fl × Int × J × Int :=
  if j.broken = true then (l, r, j, 8) else if 4096 < s.length then (l, r, j, 3) else
  if (appendR l r nj (lay j.len s)).2.2 ≠ 0 then ((appendR l r nj (lay j.len s)).1, (appendR l r nj (lay j.len s)).2.1, ⟨j.len, j.synced, true⟩, (appendR l r nj (lay j.len s)).2.2)
  else ((appendR l r nj (lay j.len s)).1, (appendR l r nj (lay j.len s)).2.1, ⟨j.len + 1, j.synced, false⟩, 0)
def syncJ (l : List Fl) (r : Int) (j : J) : List Fl × Int × J × Int :=
  if j.broken = true then (l, r, j, 8) else if j.len = 0 then (l, r, j, 0) else
  if (syncR l r nj).2.2 ≠ 0 then ((syncR l r nj).1, (syncR l r nj).2.1, ⟨j.len, j.synced, true⟩, (syncR l r nj).2.2)
  else ((syncR l r nj).1, (syncR l r nj).2.1, ⟨j.len, j.len, false⟩, 0)
def renewR (l : List Fl) (r : Int) (j : J) (L : List (List UInt8)) : List Fl × Int × J × Int :=
  if j.broken = true then (l, r, j, 8) else if ¬ (∀ s ∈ L, s.length ≤ 4096) then (l, r, j, 3) else
  if (replaceR l r (lays 0 L)).2.2 ≠ 0 then ((replaceR l r (lays 0 L)).1, (replaceR l r (lays 0 L)).2.1, ⟨j.len, j.synced, true⟩, (replaceR l r (lays 0 L)).2.2)
  else ((replaceR l r (lays 0 L)).1, (replaceR l r (lays 0 L)).2.1, ⟨L.length, L.length, false⟩, 0)
/-- Open: the files, the journal if there is one, its records, the code -/
def openR (l0 : List Fl) (r0 : Int) : List Fl × Int × Option (J × List (List UInt8)) × Int :=
  if (removeR l0 r0 nx).2.2 ≠ 0 ∧ (removeR l0 r0 nx).2.2 ≠ 34 then ((removeR l0 r0 nx).1, (removeR l0 r0 nx).2.1, none, (removeR l0 r0 nx).2.2) else
  let l := (removeR l0 r0 nx).1
  let r := (removeR l0 r0 nx).2.1
  if codeR l r nj = 34 then (l, r, some (⟨0, 0, false⟩, []), 0) else
  if codeR l r nj ≠ 0 then (l, r, none, codeR l r nj) else
  let L := (parse (bytesR l r nj)).1
  if (parse (bytesR l r nj)).2 < (bytesR l r nj).length then
    (if (renewR l r ⟨0, 0, false⟩ L).2.2.2 ≠ 0 then ((renewR l r ⟨0, 0, false⟩ L).1, (renewR l r ⟨0, 0, false⟩ L).2.1, none, (renewR l r ⟨0, 0, false⟩ L).2.2.2)
     else ((renewR l r ⟨0, 0, false⟩ L).1, (renewR l r ⟨0, 0, false⟩ L).2.1, some (⟨L.length, L.length, false⟩, L), 0))
  else
    (if (syncR l r nj).2.2 ≠ 0 then ((syncR l r nj).1, (syncR l r nj).2.1, none, (syncR l r nj).2.2)
     else ((syncR l r nj).1, (syncR l r nj).2.1, some (⟨L.length, L.length, false⟩, L), 0))
theorem oneR_up : oneR (-1) = -1 := rfl
theorem replace_up (o : Option (List UInt8 × Int)) (s : List UInt8) (hs : s.length ≤ 1048576) : replaceR (St o none) (-1) s = (St (some (s, s.length)) none, -1, 0) := by
  have h1 : appendR (St o none) (-1) nx s = (St o (some (s, 0)), -1, 0) := by
    rw [append_x (by omega), if_neg (by simp [by_]; omega)]; simp [by_, sf, oneR_up]
  have h2 : syncR (St o (some (s, 0))) (-1) nx = (St o (some (s, s.length)), -1, 0) := by rw [sync_x (by omega)]; rfl
  have h3 : renameR (St o (some (s, s.length))) (-1) nx nj = (St (some (s, s.length)) none, -1, 0) := by rw [rename_x (by omega)]; rfl
  unfold replaceR
  rw [h1, if_neg (by simp), h2, if_neg (by simp), h3]
/-- a disk that is up is opened, whatever stands there -/
theorem open_up (o x : Option (List UInt8 × Int)) (ho : (by_ o).length ≤ 1048576) : ∃ o' : Option (List UInt8 × Int), openR (St o x) (-1) = (St o' none, -1, some (⟨(parse (by_ o)).1.length, (parse (by_ o)).1.length, false⟩, (parse (by_ o)).1), 0) ∧
    (o.isSome = true → o' = some (lays 0 (parse (by_ o)).1, ((lays 0 (parse (by_ o)).1).length : Int))) ∧ (o = none → o' = none) := by
  have hrem : (removeR (St o x) (-1) nx).1 = St o none ∧ (removeR (St o x) (-1) nx).2.1 = -1 ∧ ((removeR (St o x) (-1) nx).2.2 = 0 ∨ (removeR (St o x) (-1) nx).2.2 = 34) := by
    rw [remove_x (by omega)]
    cases x <;> simp [oneR_up]
  obtain ⟨h1, h2, h3⟩ := hrem
  unfold openR
  rw [if_neg (by omega)]
  simp only [h1, h2]
  rw [code_j _ _ (by omega), bytes_j _ _ (by omega)]
  cases o with
  | none => exact ⟨none, by simp [by_, parse, parseF], by simp, fun _ => rfl⟩
  | some p =>
    obtain ⟨b, sfe⟩ := p
    have hb : by_ (some (b, sfe)) = b := rfl
    rw [hb] at ho ⊢
    obtain ⟨hp1, hp2, hp3⟩ := parse_is b
    have hlen : (lays 0 (parse b).1).length = (parse b).2 := by rw [← hp1, List.length_take]; omega
    rw [if_neg (by simp), if_neg (by simp)]
    by_cases hlt : (parse b).2 < b.length
    · rw [if_pos hlt]
      have hrp := replace_up (some (b, sfe)) (lays 0 (parse b).1) (by omega)
      have hrn : renewR (St (some (b, sfe)) none) (-1) ⟨0, 0, false⟩ (parse b).1 = (St (some (lays 0 (parse b).1, ((lays 0 (parse b).1).length : Int))) none, -1, ⟨(parse b).1.length, (parse b).1.length, false⟩, 0) := by
        unfold renewR
        rw [if_neg (by simp), if_neg (by simpa using hp3), hrp, if_neg (by simp)]
      rw [hrn, if_neg (by simp)]
      exact ⟨_, rfl, fun _ => rfl, by simp⟩
    · rw [if_neg hlt, sync_j (by omega)]
      have he : lays 0 (parse b).1 = b := by rw [← hp1, List.take_of_length_le (by omega)]
      refine ⟨some (b, b.length), by simp [oneR_up], fun _ => by rw [he], by simp⟩
/-- a file of records, torn: its records are the first ones of them -/
theorem lays_torn (L : List (List UInt8)) (m : Nat) (hL : ∀ r ∈ L, r.length ≤ 4096) : ∃ k, (parse ((lays 0 L).take m)).1 = L.take k ∧ k ≤ L.length ∧ ∀ n ≤ L.length, (lays 0 (L.take n)).length ≤ m → n ≤ k := by
  have key : ∀ (L : List (List UInt8)) (i m : Nat), (∀ r ∈ L, r.length ≤ 4096) → ∃ (k : Nat) (t r : List UInt8) (j : Nat), (lays i L).take m = lays i (L.take k) ++ t ∧ k ≤ L.length ∧ t <+: lay j r ∧ t.length < (lay j r).length ∧ r.length ≤ 4096 ∧ ∀ n ≤ L.length, (lays i (L.take n)).length ≤ m → n ≤ k := by
    intro L
    induction L with
    | nil =>
      intro i m hL
      exact ⟨0, [], [], 0, by simp [lays], by simp, List.nil_prefix, by have := lay_pos 0 []; simp; omega, by simp, fun n hn _ => hn⟩
    | cons q L ih =>
      intro i m hL
      by_cases hm : m < (lay i q).length
      · refine ⟨0, (lay i q).take m, q, i, ?_, by simp, List.take_prefix _ _, by rw [List.length_take]; omega, hL q (by simp), fun n hn hl => ?_⟩
        · simp only [lays, List.take_zero, List.nil_append]
          rw [List.take_append_of_le_length (by omega)]
        · match n, hl with
          | 0, _ => exact Nat.le_refl _
          | n + 1, hl =>
            simp only [List.take_succ_cons, lays, List.length_append] at hl
            omega
      · obtain ⟨k, t, r, j, h1, h2, h3, h4, h5, h6⟩ := ih (i + 1) (m - (lay i q).length) (fun r hr => hL r (by simp [hr]))
        refine ⟨k + 1, t, r, j, ?_, by simpa using h2, h3, h4, h5, fun n hn hl => ?_⟩
        · simp only [lays, List.take_succ_cons]
          rw [List.take_append, List.take_of_length_le (by omega), h1, List.append_assoc]
        · match n, hn, hl with
          | 0, _, _ => exact Nat.zero_le _
          | n + 1, hn, hl =>
            simp only [List.take_succ_cons, lays, List.length_append] at hl
            have := h6 n (by simpa using hn) (by omega)
            omega
  obtain ⟨k, t, r, j, h1, h2, h3, h4, h5, h6⟩ := key L 0 m hL
  refine ⟨k, ?_, h2, h6⟩
  rw [h1, parse_lays (L.take k) t r j (fun q hq => hL q (List.mem_of_mem_take hq)) h5 h3 h4]
end Jr
end Go.Proofs.YtpphljdnnlfjhaaDoor
