/- What later texts need of the earlier layers. -/
import Derived.Test.YtalfnadejpmjnaaGreatDoorNSlO
import Derived.Test.YtalfnadejpmjnaaGreatDoorNSlS
import Derived.Test.YtalfnadejpmjnaaGreatDoorNSlT
import Derived.Test.YtalfnadejpmjnaaGreatDoorNDkA
import Derived.Test.YtalfnadejpmjnaaGreatDoorNDkB
import Derived.Test.YtalfnadejpmjnaaGreatDoorNDkC
import Derived.Test.YtalfnadejpmjnaaGreatDoorNDkD
import Derived.Deep.AppendSrc
import Derived.Deep.DeepAppendWide
import Derived.OwnWalk
import Derived.Below
import Derived.WalkKit
import Derived.Shelf.Sort.Plain
import Derived.Shelf.Slices.In.SortNone
import Derived.Test.YtalfnadejpmjnaaGreatDoorChecked
import Derived.Lib.Hide
import Derived.LoopTactic
import Derived.Outline
import Derived.BigQuiet
import Derived.Deep.QuietTactic
import Derived.OneCell
import Derived.Lib.AppendStr
import Derived.Laws.BytesArg
import Derived.Laws.BitsAllLaws
import Derived.Laws.BitsLemmas
import Derived.IntWalk
import Derived.Deep.RegionWith
import Derived.Laws.MakeOwn
import Derived.Lib.BufferWrite
import Derived.Laws.CopyOwn
/- ---- CrcMath ---- -/
/- CRC-32 as a plain function of lists of bytes. -/
namespace Go.Proofs.YtalfnadejpmjnaaGreatDoor.Jn
set_option maxRecDepth 100000
set_option linter.unusedVariables false
set_option linter.unusedSimpArgs false
namespace Cr
def shift (x : Nat) : Nat := if x % 2 = 0 then x / 2 else x / 2 ^^^ 3988292384
def shifts : Nat → Nat → Nat
  | 0, x => x
  | k + 1, x => shift (shifts k x)
def byte (x : Nat) (b : UInt8) : Nat := shifts 8 (x ^^^ b.toNat)
def regs (x : Nat) (l : List UInt8) : Nat := l.foldl byte x
def sum (l : List UInt8) : Nat := 4294967295 - regs 4294967295 l
def four (x : Nat) : List UInt8 := [UInt8.ofNat (x / 16777216 % 256), UInt8.ofNat (x / 65536 % 256), UInt8.ofNat (x / 256 % 256), UInt8.ofNat (x % 256)]
theorem xor_lt {a b : Nat} (ha : a < 4294967296) (hb : b < 4294967296) : a ^^^ b < 4294967296 := Nat.xor_lt_two_pow (n := 32) ha hb
theorem shift_lt {x : Nat} (h : x < 4294967296) : shift x < 4294967296 := by
  unfold shift
  split
  · omega
  · exact xor_lt (by omega) (by omega)
theorem shifts_lt {x : Nat} (h : x < 4294967296) (k : Nat) : shifts k x < 4294967296 := by
  induction k with
  | zero => exact h
  | succ k ih => exact shift_lt ih
theorem byte_lt {x : Nat} (h : x < 4294967296) (b : UInt8) : byte x b < 4294967296 := shifts_lt (xor_lt h (by have := b.toNat_lt; omega)) 8
theorem regs_lt {x : Nat} (h : x < 4294967296) (l : List UInt8) : regs x l < 4294967296 := by
  induction l generalizing x with
  | nil => exact h
  | cons b r ih => exact ih (byte_lt h b)
theorem sum_lt (l : List UInt8) : sum l < 4294967296 := by unfold sum; omega
theorem regs_app (x : Nat) (a b : List UInt8) : regs x (a ++ b) = regs (regs x a) b := List.foldl_append
end Cr
end Go.Proofs.YtalfnadejpmjnaaGreatDoor.Jn

/- ---- JrMath ---- -/
/- Layer 10: records as plain functions of lists of bytes. -/
namespace Go.Proofs.YtalfnadejpmjnaaGreatDoor.Jn
set_option maxRecDepth 100000
set_option linter.unusedVariables false
set_option linter.unusedSimpArgs false
namespace Jr
def sumB (i : Nat) (s : List UInt8) : List UInt8 := Cr.four (Cr.sum (Oct.num i ++ s))
/-- the record with the number i -/
def lay (i : Nat) (s : List UInt8) : List UInt8 := Oct.num s.length ++ (sumB i s ++ s)
theorem sumB_len (i : Nat) (s : List UInt8) : (sumB i s).length = 4 := rfl
theorem lay_len (i : Nat) (s : List UInt8) : (lay i s).length = (Oct.num s.length).length + 4 + s.length := by
  unfold lay
  simp only [List.length_append, sumB_len]; omega
theorem lay_pos (i : Nat) (s : List UInt8) : 5 ≤ (lay i s).length := by
  have := Oct.num_length_pos s.length
  rw [lay_len]; omega
theorem lay_le (i : Nat) (s : List UInt8) : (lay i s).length ≤ s.length + 13 := by
  have := Oct.num_length_le s.length
  rw [lay_len]; omega
/-- the record that stands at p, if one with the number i does, and the place behind it -/
def rd (s : List UInt8) (p i : Nat) : Option (List UInt8 × Nat) :=
  if (Oct.rdNum s p).2.2 ≠ 0 then none else
  if 4096 < (Oct.rdNum s p).1 then none else
  if (s.length : Int) - (Oct.rdNum s p).2.1 < 4 + (Oct.rdNum s p).1 then none else
  if (s.drop (Oct.rdNum s p).2.1.toNat).take 4 ≠ sumB i ((s.drop ((Oct.rdNum s p).2.1.toNat + 4)).take (Oct.rdNum s p).1.toNat) then none else
  some ((s.drop ((Oct.rdNum s p).2.1.toNat + 4)).take (Oct.rdNum s p).1.toNat, (Oct.rdNum s p).2.1.toNat + 4 + (Oct.rdNum s p).1.toNat)
/-- what is read stood there -/
theorem rd_some {s r : List UInt8} {p i b : Nat} (h : rd s p i = some (r, b)) : s.drop p = lay i r ++ s.drop b ∧ b = p + (lay i r).length ∧ b ≤ s.length ∧ r.length ≤ 4096 := by
  unfold rd at h
  rcases hn : Oct.rdNum s p with ⟨n, q, e⟩
  rw [hn] at h
  simp only at h
  split at h
  · cases h
  rename_i he
  split at h
  · cases h
  rename_i hbig
  split at h
  · cases h
  rename_i hsh
  split at h
  · cases h
  rename_i hs
  rcases Oct.rdNum_ok hn with hbad | ⟨_, hp, hn0, hn1, hq, hql, htk⟩
  · exact absurd hbad.1 he
  obtain ⟨N, rfl⟩ : ∃ N : Nat, n = (N : Int) := ⟨n.toNat, by omega⟩
  obtain ⟨Q, rfl⟩ : ∃ Q : Nat, q = (Q : Int) := ⟨q.toNat, by omega⟩
  simp only [Int.toNat_natCast] at h hs htk
  have hs' : (s.drop Q).take 4 = sumB i ((s.drop (Q + 4)).take N) := Classical.not_not.1 hs
  injection h with h
  injection h with h1 h2
  have hrl : r.length = N := by rw [← h1, List.length_take, List.length_drop]; omega
  have hpq : (((Q : Int) - (p : Int)).toNat) = Q - p := by omega
  rw [hpq] at htk
  have hnl : (Oct.num N).length = Q - p := by rw [← htk, List.length_take, List.length_drop]; omega
  have e1 : s.drop p = Oct.num N ++ s.drop Q := by
    have := (List.take_append_drop (Q - p) (s.drop p)).symm
    rw [htk, List.drop_drop, show p + (Q - p) = Q by omega] at this
    exact this
  have e2 : s.drop Q = sumB i r ++ s.drop (Q + 4) := by
    have := (List.take_append_drop 4 (s.drop Q)).symm
    rw [hs', List.drop_drop, h1] at this
    exact this
  have e3 : s.drop (Q + 4) = r ++ s.drop b := by
    have := (List.take_append_drop N (s.drop (Q + 4))).symm
    rw [h1, List.drop_drop, h2] at this
    exact this
  refine ⟨?_, ?_, by omega, by omega⟩
  · unfold lay
    rw [e1, e2, e3, hrl]; simp
  · rw [lay_len, hrl, hnl]; omega
theorem rd_lay (a x r : List UInt8) (i : Nat) (hr : r.length ≤ 4096) : rd (a ++ lay i r ++ x) a.length i = some (r, a.length + (lay i r).length) := by
  have hn := Oct.rdNum_num a (sumB i r ++ r ++ x) r.length (by omega)
  have e1 : a ++ Oct.num r.length ++ (sumB i r ++ r ++ x) = a ++ lay i r ++ x := by unfold lay; simp
  rw [e1] at hn
  have hd1 : (a ++ lay i r ++ x).drop (a.length + (Oct.num r.length).length) = sumB i r ++ r ++ x := by
    rw [← e1, ← List.length_append, List.drop_left]
  have hd2 : (a ++ lay i r ++ x).drop (a.length + (Oct.num r.length).length + 4) = r ++ x := by
    rw [← List.drop_drop, hd1, List.append_assoc, show (4 : Nat) = (sumB i r).length from rfl, List.drop_left]
  have hlen : (a ++ lay i r ++ x).length = a.length + (Oct.num r.length).length + 4 + r.length + x.length := by
    rw [List.length_append, List.length_append, lay_len]; omega
  unfold rd
  rw [hn]
  simp only
  rw [if_neg (by simp), if_neg (by omega), if_neg (by rw [hlen]; omega), Int.toNat_natCast, Int.toNat_natCast, hd1, hd2, List.take_left, if_neg (by
    rw [List.append_assoc, List.take_append_of_le_length (by rw [sumB_len]; omega), List.take_of_length_le (by rw [sumB_len]; omega)]; simp)]
  rw [lay_len]
  congr 1
  congr 1
  omega
/-- records one behind the other -/
def parseF (s : List UInt8) : Nat → Nat → List (List UInt8) → List (List UInt8) × Nat
  | 0, p, acc => (acc, p)
  | f + 1, p, acc =>
    match rd s p acc.length with
    | none => (acc, p)
    | some (r, b) => parseF s f b (acc ++ [r])
def parse (s : List UInt8) : List (List UInt8) × Nat := parseF s s.length 0 []
/-- how far reading has come -/
def Upto (s : List UInt8) (p : Nat) (acc : List (List UInt8)) : Prop := p ≤ s.length ∧ ∃ f, s.length - p ≤ f ∧ parseF s f p acc = parse s
theorem Upto.start (s : List UInt8) : Upto s 0 [] := ⟨Nat.zero_le _, s.length, by omega, rfl⟩
theorem Upto.stop {s : List UInt8} {p : Nat} {acc : List (List UInt8)} (h : Upto s p acc) (hr : rd s p acc.length = none) : parse s = (acc, p) := by
  obtain ⟨_, f, _, h2⟩ := h
  rw [← h2]
  cases f with
  | zero => rfl
  | succ f =>
    unfold parseF
    rw [hr]
theorem Upto.go {s : List UInt8} {p b : Nat} {acc : List (List UInt8)} {r : List UInt8} (h : Upto s p acc) (hr : rd s p acc.length = some (r, b)) : Upto s b (acc ++ [r]) ∧ p < b ∧ b ≤ s.length := by
  obtain ⟨h1, f, h3, h2⟩ := h
  obtain ⟨_, hb, hbl, _⟩ := rd_some hr
  have := lay_pos acc.length r
  refine ⟨⟨hbl, ?_⟩, by omega, hbl⟩
  cases f with
  | zero => omega
  | succ f =>
    refine ⟨f, by omega, ?_⟩
    rw [← h2]
    conv => rhs; unfold parseF
    rw [hr]
/-- the records from the number i on -/
def lays (i : Nat) : List (List UInt8) → List UInt8
  | [] => []
  | r :: l => lay i r ++ lays (i + 1) l
theorem lays_app (i : Nat) (a b : List (List UInt8)) : lays i (a ++ b) = lays i a ++ lays (i + a.length) b := by
  induction a generalizing i with
  | nil => simp [lays]
  | cons r a ih => simp [lays, ih, Nat.add_assoc, Nat.add_comm 1]
theorem Upto.all {s : List UInt8} (L : List (List UInt8)) (hL : ∀ r ∈ L, r.length ≤ 4096) : ∀ (a x : List UInt8) (acc : List (List UInt8)), s = a ++ lays acc.length L ++ x → Upto s a.length acc → Upto s (a ++ lays acc.length L).length (acc ++ L) := by
  induction L with
  | nil => intro a x acc hs h; simpa [lays] using h
  | cons r L ih =>
    intro a x acc hs h
    have hr : rd s a.length acc.length = some (r, a.length + (lay acc.length r).length) := by
      have := rd_lay a (lays (acc.length + 1) L ++ x) r acc.length (hL r (by simp))
      rw [hs]
      simp only [lays] at *
      simpa [List.append_assoc] using this
    have h2 := (h.go hr).1
    have h3 := ih (fun q hq => hL q (by simp [hq])) (a ++ lay acc.length r) x (acc ++ [r]) (by rw [hs]; simp [lays]) (by rw [List.length_append]; exact h2)
    simp only [lays, List.length_append, List.length_cons, List.length_nil] at h3 ⊢
    simpa [List.append_assoc, Nat.add_assoc] using h3
theorem lays_len_le (i : Nat) (L : List (List UInt8)) (hL : ∀ r ∈ L, r.length ≤ 4096) : (lays i L).length ≤ 4109 * L.length := by
  induction L generalizing i with
  | nil => simp [lays]
  | cons r L ih =>
    have h1 := lay_le i r
    have h2 := hL r (by simp)
    have h3 := ih (i + 1) (fun q hq => hL q (by simp [hq]))
    simp only [lays, List.length_append, List.length_cons]
    omega
/-- what is read is what the bytes begin with -/
theorem parse_is (s : List UInt8) : s.take (parse s).2 = lays 0 (parse s).1 ∧ (parse s).2 ≤ s.length ∧ ∀ r ∈ (parse s).1, r.length ≤ 4096 := by
  have key : ∀ (f p : Nat) (acc : List (List UInt8)), p ≤ s.length → s.take p = lays 0 acc → (∀ r ∈ acc, r.length ≤ 4096) → s.take (parseF s f p acc).2 = lays 0 (parseF s f p acc).1 ∧ (parseF s f p acc).2 ≤ s.length ∧ ∀ r ∈ (parseF s f p acc).1, r.length ≤ 4096 := by
    intro f
    induction f with
    | zero => intro p acc hp h hr; exact ⟨h, hp, hr⟩
    | succ f ih =>
      intro p acc hp h hr
      unfold parseF
      rcases hx : rd s p acc.length with _ | ⟨r, b⟩
      · exact ⟨h, hp, hr⟩
      · obtain ⟨h1, h2, h3, h4⟩ := rd_some hx
        refine ih b (acc ++ [r]) h3 ?_ ?_
        · rw [lays_app, ← h, h2, List.take_add]
          congr 1
          rw [h1, show lays (0 + acc.length) [r] = lay acc.length r by simp [lays], List.take_left]
        · intro q hq
          rcases List.mem_append.1 hq with hq | hq
          · exact hr q hq
          · simp at hq; subst hq; exact h4
  exact key s.length 0 [] (Nat.zero_le _) rfl (by simp)
end Jr
end Go.Proofs.YtalfnadejpmjnaaGreatDoor.Jn

/- ---- JrDisk ---- -/
/- Layer 10: a journal on a disk, as plain functions. -/
namespace Go.Proofs.YtalfnadejpmjnaaGreatDoor.Jn
set_option maxRecDepth 100000
set_option linter.unusedVariables false
set_option linter.unusedSimpArgs false
namespace Jr
abbrev nj : List UInt8 := [108, 111, 103]
abbrev nx : List UInt8 := [108, 111, 103, 120]
/-- the journal's file, and the one that is laid anew -/
def St (o x : Option (List UInt8 × Int)) : List Fl := (match o with | none => [] | some p => [⟨nj, p.1, p.2⟩]) ++ (match x with | none => [] | some p => [⟨nx, p.1, p.2⟩])
def by_ (o : Option (List UInt8 × Int)) : List UInt8 := match o with | none => [] | some p => p.1
def sf (o : Option (List UInt8 × Int)) : Int := match o with | none => 0 | some p => p.2
theorem lt_jx : nj < nx := by decide
theorem word_j : Disk.word nj = true := by decide
theorem word_x : Disk.word nx = true := by decide
theorem not_xj : ¬ nx < nj := by decide
theorem find_j (o x : Option (List UInt8 × Int)) : Fl.find (St o x) nj = o.map fun p => ⟨nj, p.1, p.2⟩ := by
  cases o <;> cases x <;> simp [St, Fl.find_cons, Fl.find_nil]
theorem find_x (o x : Option (List UInt8 × Int)) : Fl.find (St o x) nx = x.map fun p => ⟨nx, p.1, p.2⟩ := by
  cases o <;> cases x <;> simp [St, Fl.find_cons, Fl.find_nil]
theorem put_j (o x : Option (List UInt8 × Int)) (b : List UInt8) (s : Int) : Fl.put (St o x) ⟨nj, b, s⟩ = St (some (b, s)) x := by
  cases o <;> cases x <;> simp [St, Fl.put, not_xj, Fl.nm_irrefl]
theorem put_x (o x : Option (List UInt8 × Int)) (b : List UInt8) (s : Int) : Fl.put (St o x) ⟨nx, b, s⟩ = St o (some (b, s)) := by
  have := lt_jx
  cases o <;> cases x <;> simp [St, Fl.put, Fl.nm_irrefl, this]
theorem drop_x (o x : Option (List UInt8 × Int)) : Fl.drop (St o x) nx = St o none := by
  cases o <;> cases x <;> simp [St, Fl.drop]
theorem bytes_j (o x : Option (List UInt8 × Int)) {r : Int} (hr : r ≠ 0) : bytesR (St o x) r nj = by_ o := by
  unfold bytesR; rw [if_neg hr, find_j]; cases o <;> rfl
theorem bytes_x (o x : Option (List UInt8 × Int)) {r : Int} (hr : r ≠ 0) : bytesR (St o x) r nx = by_ x := by
  unfold bytesR; rw [if_neg hr, find_x]; cases x <;> rfl
theorem safe_j (o x : Option (List UInt8 × Int)) {r : Int} (hr : r ≠ 0) : safeR (St o x) r nj = sf o := by
  unfold safeR; rw [if_neg hr, find_j]; cases o <;> rfl
theorem safe_x (o x : Option (List UInt8 × Int)) {r : Int} (hr : r ≠ 0) : safeR (St o x) r nx = sf x := by
  unfold safeR; rw [if_neg hr, find_x]; cases x <;> rfl
theorem code_j (o x : Option (List UInt8 × Int)) {r : Int} (hr : r ≠ 0) : codeR (St o x) r nj = if o.isSome = true then 0 else 34 := by
  unfold codeR; rw [if_neg hr, find_j]; cases o <;> rfl
theorem St_len (o x : Option (List UInt8 × Int)) : (St o x).length ≤ 2 := by cases o <;> cases x <;> simp [St]
theorem append_j {o x : Option (List UInt8 × Int)} {r : Int} {s : List UInt8} (hr : r ≠ 0) : appendR (St o x) r nj s = if 1048576 < (by_ o).length + s.length then (St o x, r, 3) else (St (some (by_ o ++ s, sf o)) x, oneR r, 0) := by
  have := St_len o x
  unfold appendR
  rw [if_neg hr, word_j, if_neg (by simp), bytes_j _ _ hr, safe_j _ _ hr, put_j]
  split
  · rfl
  · rw [if_neg (by omega)]
theorem append_x {o x : Option (List UInt8 × Int)} {r : Int} {s : List UInt8} (hr : r ≠ 0) : appendR (St o x) r nx s = if 1048576 < (by_ x).length + s.length then (St o x, r, 3) else (St o (some (by_ x ++ s, sf x)), oneR r, 0) := by
  have := St_len o x
  unfold appendR
  rw [if_neg hr, word_x, if_neg (by simp), bytes_x _ _ hr, safe_x _ _ hr, put_x]
  split
  · rfl
  · rw [if_neg (by omega)]
theorem sync_j {o x : Option (List UInt8 × Int)} {r : Int} (hr : r ≠ 0) : syncR (St o x) r nj = match o with | none => (St o x, r, 34) | some p => (St (some (p.1, p.1.length)) x, oneR r, 0) := by
  unfold syncR
  rw [if_neg hr, find_j]
  cases o with
  | none => rfl
  | some p => simp only [Option.map_some]; rw [put_j]
theorem sync_x {o x : Option (List UInt8 × Int)} {r : Int} (hr : r ≠ 0) : syncR (St o x) r nx = match x with | none => (St o x, r, 34) | some p => (St o (some (p.1, p.1.length)), oneR r, 0) := by
  unfold syncR
  rw [if_neg hr, find_x]
  cases x with
  | none => rfl
  | some p => simp only [Option.map_some]; rw [put_x]
theorem remove_x {o x : Option (List UInt8 × Int)} {r : Int} (hr : r ≠ 0) : removeR (St o x) r nx = match x with | none => (St o none, r, 34) | some _ => (St o none, oneR r, 0) := by
  unfold removeR
  rw [if_neg hr, find_x]
  cases x with
  | none => rfl
  | some p => simp only [Option.map_some]; rw [drop_x]
theorem rename_x {o x : Option (List UInt8 × Int)} {r : Int} (hr : r ≠ 0) : renameR (St o x) r nx nj = match x with | none => (St o x, r, 34) | some p => (St (some p) none, oneR r, 0) := by
  unfold renameR
  rw [if_neg hr, find_x]
  cases x with
  | none => rfl
  | some p => simp only [Option.map_some]; rw [word_j, if_pos rfl, drop_x, put_j]
/-- the journal's calls -/
structure J where
  len : Nat
  synced : Nat
  broken : Bool
def replaceR (l : List Fl) (r : Int) (s : List UInt8) : List Fl × Int × Int :=
  if (appendR l r nx s).2.2 ≠ 0 then appendR l r nx s else
  if (syncR (appendR l r nx s).1 (appendR l r nx s).2.1 nx).2.2 ≠ 0 then syncR (appendR l r nx s).1 (appendR l r nx s).2.1 nx else
  renameR (syncR (appendR l r nx s).1 (appendR l r nx s).2.1 nx).1 (syncR (appendR l r nx s).1 (appendR l r nx s).2.1 nx).2.1 nx nj
def addR (l : List Fl) (r : Int) (j : J) (s : List UInt8) : List Fl × Int × J × Int :=
  if j.broken = true then (l, r, j, 8) else if 4096 < s.length then (l, r, j, 3) else
  if (appendR l r nj (lay j.len s)).2.2 ≠ 0 then ((appendR l r nj (lay j.len s)).1, (appendR l r nj (lay j.len s)).2.1, ⟨j.len, j.synced, true⟩, (appendR l r nj (lay j.len s)).2.2)
  else ((appendR l r nj (lay j.len s)).1, (appendR l r nj (lay j.len s)).2.1, ⟨j.len + 1, j.synced, false⟩, 0)
def syncJ (l : List Fl) (r : Int) (j : J) : List Fl × Int × J × Int :=
  if j.broken = true then (l, r, j, 8) else if j.len = 0 then (l, r, j, 0) else
  if (syncR l r nj).2.2 ≠ 0 then ((syncR l r nj).1, (syncR l r nj).2.1, ⟨j.len, j.synced, true⟩, (syncR l r nj).2.2)
  else ((syncR l r nj).1, (syncR l r nj).2.1, ⟨j.len, j.len, false⟩, 0)
def renewR (l : List Fl) (r : Int) (j : J) (L : List (List UInt8)) : List Fl × Int × J × Int :=
  if j.broken = true then (l, r, j, 8) else if ¬ (∀ s ∈ L, s.length ≤ 4096) then (l, r, j, 3) else
  if (replaceR l r (lays 0 L)).2.2 ≠ 0 then ((replaceR l r (lays 0 L)).1, (replaceR l r (lays 0 L)).2.1, ⟨j.len, j.synced, true⟩, (replaceR l r (lays 0 L)).2.2)
  else ((replaceR l r (lays 0 L)).1, (replaceR l r (lays 0 L)).2.1, ⟨L.length, L.length, false⟩, 0)
theorem oneR_up : oneR (-1) = -1 := rfl
theorem replace_up (o : Option (List UInt8 × Int)) (s : List UInt8) (hs : s.length ≤ 1048576) : replaceR (St o none) (-1) s = (St (some (s, s.length)) none, -1, 0) := by
  have h1 : appendR (St o none) (-1) nx s = (St o (some (s, 0)), -1, 0) := by
    rw [append_x (by omega), if_neg (by simp [by_]; omega)]; simp [by_, sf, oneR_up]
  have h2 : syncR (St o (some (s, 0))) (-1) nx = (St o (some (s, s.length)), -1, 0) := by rw [sync_x (by omega)]; rfl
  have h3 : renameR (St o (some (s, s.length))) (-1) nx nj = (St (some (s, s.length)) none, -1, 0) := by rw [rename_x (by omega)]; rfl
  unfold replaceR
  rw [h1, if_neg (by simp), h2, if_neg (by simp), h3]
end Jr
end Go.Proofs.YtalfnadejpmjnaaGreatDoor.Jn

/- ---- JrOwn ---- -/
/- Layer 7: rows of bytes of the call's own. -/
namespace Go.Proofs.YtalfnadejpmjnaaGreatDoor.Jn
set_option maxRecDepth 100000
open Go.RowKit
set_option linter.unusedVariables false
set_option linter.unusedSimpArgs false

abbrev S (l : List UInt8) : Value := .string ⟨l.toArray⟩
theorem extract_list (s : ByteArray) (k m : Nat) : s.extract k (k + m) = ⟨((s.data.toList.drop k).take m).toArray⟩ := by
  have h := ByteArray.extract_mk s.data.toList k (k + m)
  rw [Nat.add_sub_cancel_left] at h
  exact h
theorem cut_run {P : Program} (t : TypeId) (ht : P.underlying t = some .string) (s : ByteArray) (k m : Nat) (h : k + m ≤ s.size) (W : World) :
    (Instr.slice t (.string s) (some (.int .i64 (k : Int))) (some (.int .i64 ((k : Int) + (m : Int)))) none).run P W = .ok (S ((s.data.toList.drop k).take m)) W := by
  rw [run_slice_string W t s .i64 .i64 _ _ ht (by omega) (by omega) (by omega)]
  have e : ((k : Int) + (m : Int)).toNat = k + m := by omega
  rw [e, Int.toNat_natCast, extract_list]
theorem bel_drewN {B : Nat} {a w : World} (h : Below B a w) (n : Nat) : Below B a (w.drewN n) := by
  exact ⟨h.os, h.tape, h.output, h.size, h.block⟩
theorem cells_one (w : World) (x : Value) (e : TypeId) : ∀ (j : Nat) (u : Value), [x][j]? = some u → (w.alloc (.cells #[x] e)).cell? ((⟨w.heap.size, 0, none⟩ : Addr).add j) = some u := by
  intro j u hj
  match j, hj with
  | 0, hj => simp at hj; subst hj; simp [Addr.add]
end Go.Proofs.YtalfnadejpmjnaaGreatDoor.Jn

/- ---- CrSum ---- -/
/- crate.Sum and the reference's: what they return. -/
namespace Go.Proofs.YtalfnadejpmjnaaGreatDoor.Jn
set_option maxRecDepth 100000
open Go.RowKit
set_option linter.unusedVariables false
set_option linter.unusedSimpArgs false

theorem toNat_ofInt32 (a : Nat) (ha : a < 4294967296) : (BitVec.ofInt 32 (a : Int)).toNat = a := by
  simp only [BitVec.ofInt_natCast, BitVec.toNat_ofNat]
  exact Nat.mod_eq_of_lt (by omega)
theorem wrap32u (a : Nat) (ha : a < 4294967296) : IntKind.u32.wrap (a : Int) = (a : Int) := by rw [IntKind.wrap_u32]; omega
theorem xor32 {a b : Nat} (ha : a < 4294967296) (hb : b < 4294967296) : bits .xor .u32 (a : Int) (b : Int) = ((a ^^^ b : Nat) : Int) := by
  show IntKind.u32.wrap ((BitVec.ofInt 32 (a : Int) ^^^ BitVec.ofInt 32 (b : Int)).toNat : Int) = _
  rw [BitVec.toNat_xor, toNat_ofInt32 a ha, toNat_ofInt32 b hb, wrap32u _ (Cr.xor_lt ha hb)]
theorem and32_1 {a : Nat} (ha : a < 4294967296) : bits .and .u32 (a : Int) 1 = ((a % 2 : Nat) : Int) := by
  show IntKind.u32.wrap ((BitVec.ofInt 32 (a : Int) &&& BitVec.ofInt 32 ((1 : Nat) : Int)).toNat : Int) = _
  rw [BitVec.toNat_and, toNat_ofInt32 a ha, toNat_ofInt32 1 (by omega), Nat.and_one_is_mod, wrap32u _ (by omega)]
theorem not32 (e : Nat) (he : e < 4294967296) : bits .xor .u32 (if IntKind.u32.signed = true then -1 else IntKind.u32.max) (e : Int) = ((4294967295 - e : Nat) : Int) := by
  have h1 : (if IntKind.u32.signed = true then -1 else IntKind.u32.max : Int) = 4294967295 := by decide
  rw [h1]
  show IntKind.u32.wrap ((BitVec.ofInt 32 4294967295 ^^^ BitVec.ofInt 32 (e : Int)).toNat : Int) = _
  have h2 : BitVec.ofInt 32 4294967295 = BitVec.allOnes 32 := by decide
  rw [h2, BitVec.allOnes_xor, BitVec.toNat_not, toNat_ofInt32 e he, wrap32u _ (by omega)]
theorem Cr.regs_next (s : ByteArray) (i : Nat) (h : i < s.size) (x : Nat) : Cr.regs x (s.data.toList.take (i + 1)) = Cr.byte (Cr.regs x (s.data.toList.take i)) s[i] := by
  have hl : i < s.data.toList.length := h
  rw [List.take_succ_eq_append_getElem hl, Cr.regs_app]
  rfl
set_option maxHeartbeats 800000 in
theorem crSum_any (s : ByteArray) (w : World) (hs : s.size ≤ 9223372036854775806) :
    Calls Tryz.prog 126 #[.string s] w fun e w' => e = .returned (.int .u32 (Cr.sum s.data.toList : Int)) ∧ w = w' := by
  have hlen : s.data.toList.length = s.size := rfl
  have Hlen := Lib.hid hlen
  clear hlen
  go_enter Tryz.func126, Tryz.ntmps126
  go_wp2_with fail
  go_loopw [3, 8] (fun x c wr => ∃ i : Nat, i ≤ s.size ∧ c = .int .i64 (i : Int) ∧ x = .int .u32 (Cr.regs 4294967295 (s.data.toList.take i) : Int) ∧ w = wr) (fun _ c _ => s.size - (intOf c).toNat)
  case atStart => exact ⟨0, by omega, rfl, rfl, rfl⟩
  case round =>
    obtain ⟨i, hi, rfl, rfl, rfl⟩ := hrel
    have hx := Cr.regs_lt (x := 4294967295) (by omega) (s.data.toList.take i)
    obtain ⟨x, hxe⟩ : ∃ x, Cr.regs 4294967295 (s.data.toList.take i) = x := ⟨_, rfl⟩
    rw [hxe] at hx ⊢
    have Hxe := Lib.hid hxe
    clear hxe
    by_cases hlt : i < s.size
    · have d1 : decide ((i : Int) < (s.size : Int)) = true := by simp only [decide_eq_true_eq]; omega
      have d1' : decide (i < s.size) = true := by simp only [decide_eq_true_eq]; omega
      have hlt' : (i : Int) < (s.size : Int) := by omega
      have hb := s[i].toNat_lt
      have hxor := xor32 (a := x) (b := s[i].toNat) hx (by omega)
      have hxl := Cr.xor_lt (a := x) (b := s[i].toNat) hx (by omega)
      obtain ⟨b, hbe⟩ : ∃ b, s[i] = b := ⟨_, rfl⟩
      rw [hbe] at hb hxor hxl
      obtain ⟨y, hy⟩ : ∃ y, x ^^^ b.toNat = y := ⟨_, rfl⟩
      rw [hy] at hxor hxl
      have Hy := Lib.hid hy
      clear hy
      go_wp2_with fail
      go_step3
      go_wp2_with fail
      go_step3
      go_wp2_with fail
      go_loopw [3, 17] (fun v c wr => ∃ k : Nat, k ≤ 8 ∧ c = .int .i64 (k : Int) ∧ v = .int .u32 (Cr.shifts k y : Int) ∧ w = wr) (fun _ c _ => 8 - (intOf c).toNat)
      case atStart => exact ⟨0, by omega, rfl, rfl, rfl⟩
      case round =>
        obtain ⟨k, hk, rfl, rfl, rfl⟩ := hrel
        have hz := Cr.shifts_lt hxl k
        obtain ⟨z, hze⟩ : ∃ z, Cr.shifts k y = z := ⟨_, rfl⟩
        have hstep : Cr.shifts (k + 1) y = Cr.shift z := by rw [← hze]; rfl
        rw [hze] at hz ⊢
        have Hstep := Lib.hid hstep
        have Hz8 := Lib.hid hze
        clear hze hstep
        by_cases hk8 : k < 8
        · have d3 : decide ((k : Int) < 8) = true := by simp only [decide_eq_true_eq]; omega
          have d3' : decide (k < 8) = true := by simp only [decide_eq_true_eq]; omega
          obtain ⟨h, hh⟩ : ∃ h, z / 2 = h := ⟨_, rfl⟩
          have eh : (z : Int) / 2 = (h : Int) := by omega
          have hhl : h < 4294967296 := by omega
          have hand := and32_1 hz
          by_cases hpar : z % 2 = 0
          · rw [hpar] at hand
            have hand' : bits .and .u32 (z : Int) 1 = 0 := hand
            have hsh : Cr.shift z = h := by unfold Cr.shift; rw [if_pos hpar, hh]
            have Hsh := Lib.hid hsh
            clear hand hpar hh hsh
            go_wp2_with fail
            refine ⟨⟨k + 1, by omega, by go_num, by rw [Hstep.out, Hsh.out], trivial⟩, by simp [intOf]; omega⟩
          · rw [show z % 2 = 1 by omega] at hand
            have hand' : bits .and .u32 (z : Int) 1 = 1 := hand
            have hsh : Cr.shift z = h ^^^ 3988292384 := by unfold Cr.shift; rw [if_neg hpar, hh]
            have hx2 : bits .xor .u32 (h : Int) 3988292384 = ((h ^^^ 3988292384 : Nat) : Int) := xor32 hhl (by decide)
            rw [← hsh] at hx2
            clear hand hpar hh hsh
            go_wp2_with fail
            refine ⟨⟨k + 1, by omega, by go_num, by rw [Hstep.out], trivial⟩, by simp [intOf]; omega⟩
        · obtain rfl : k = 8 := by omega
          go_wp2_with fail
          simp only [Exit.noGoto]
          go_wp2_with fail
          refine ⟨⟨i + 1, by omega, by go_num, ?_, trivial⟩, by simp [intOf]; omega⟩
          have hb2 := hbe
          rw [Cr.regs_next s i hlt, hbe, Hxe.out]
          unfold Cr.byte
          rw [Hy.out, Hz8.out]
    · obtain rfl : i = s.size := by omega
      have d1 : decide ((s.size : Int) < (s.size : Int)) = false := by simp only [decide_eq_false_iff_not]; omega
      rw [← Hlen.out, List.take_length] at Hxe
      have hnot := not32 x hx
      go_wp2_with fail
      go_ret
      refine ⟨?_, rfl⟩
      unfold Cr.sum
      rw [Hxe.out]
      rfl
end Go.Proofs.YtalfnadejpmjnaaGreatDoor.Jn

/- ---- CrNum ---- -/
/- octets.Number and the reference's Number, ReadNumber: what they return. -/
namespace Go.Proofs.YtalfnadejpmjnaaGreatDoor.Jn
set_option maxRecDepth 100000
open Go.RowKit
set_option linter.unusedVariables false
set_option linter.unusedSimpArgs false

def two (l : List UInt8) (e : Int) : Value := .tuple #[S l, .int .i64 e]
set_option maxHeartbeats 400000 in
theorem Number_any (n : Int) (w : World) (h1 : n ≤ 9223372036854775807) :
    Calls Tryz.prog 90 #[.int .i64 n] w fun e w' => e = .returned (two (Oct.numE n).1 (Oct.numE n).2) ∧ Below w.heap.size w w' := by
  by_cases h0 : n < 0
  · have e : Oct.numE n = ([], 2) := by unfold Oct.numE; rw [if_pos h0]
    rw [e]
    go_enter Tryz.func90, Tryz.ntmps90
    go_wp2_with fail
    go_ret2
    exact ⟨rfl, Below.refl _ _⟩
  · have e : Oct.numE n = (Oct.num n.toNat, 0) := by unfold Oct.numE; rw [if_neg h0]
    rw [e]
    go_enter Tryz.func90, Tryz.ntmps90
    go_wp2_with (go_at_call 125; refine (number_any n _ (by omega) h1).mono ?_; rintro e w1 ⟨rfl, hb1⟩)
    go_ret2
    exact ⟨rfl, hb1⟩
end Go.Proofs.YtalfnadejpmjnaaGreatDoor.Jn
