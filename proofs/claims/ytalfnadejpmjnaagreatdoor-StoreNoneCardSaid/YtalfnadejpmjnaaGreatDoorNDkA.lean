/- What later texts need of the earlier layers. -/
import Derived.Test.YtalfnadejpmjnaaGreatDoorNSlO
import Derived.Test.YtalfnadejpmjnaaGreatDoorNSlS
import Derived.Test.YtalfnadejpmjnaaGreatDoorNSlT
import Derived.Deep.DeepAppendWide
/- ---- DiskWord ---- -/
/- disk: what a name is; the reference's Word. -/
namespace Go.Proofs.YtalfnadejpmjnaaGreatDoor.Jn
set_option maxRecDepth 100000
open Go.RowKit
set_option linter.unusedVariables false
set_option linter.unusedSimpArgs false

namespace Disk
/-- a byte that a name may have -/
def okn (x : Nat) : Bool := (decide (97 ≤ x) && decide (x ≤ 122)) || ((decide (48 ≤ x) && decide (x ≤ 57)) || decide (x = 46))
def okc (c : UInt8) : Bool := okn c.toNat
def word (l : List UInt8) : Bool := l.all okc && (decide (1 ≤ l.length) && decide (l.length ≤ 16))
theorem all_snoc {l : List UInt8} {k : Nat} (hk : k < l.length) (h : (l.take k).all okc = true) (h2 : okc l[k] = true) : (l.take (k + 1)).all okc = true := by
  rw [List.take_succ_eq_append_getElem hk, List.all_append, h, List.all_cons, h2]; rfl
theorem all_bad {l : List UInt8} {k : Nat} (hk : k < l.length) (h2 : okc l[k] = false) : word l = false := by
  unfold word
  have : l.all okc = false := by
    rw [Bool.eq_false_iff]
    intro h
    have := List.all_eq_true.1 h _ (List.getElem_mem hk)
    rw [h2] at this
    cases this
  rw [this]; rfl
end Disk
set_option maxRecDepth 20000 in
set_option maxHeartbeats 1600000 in
theorem isName_any (s : ByteArray) (w : World) (hs : s.size ≤ 140737488351232) :
    Calls Tryz.prog 89 #[.string s] w fun e w' => e = .returned (.bool (Disk.word s.data.toList)) ∧ w = w' := by
  have hl : s.data.toList.length = s.size := rfl
  have hg : ∀ k (h : k < s.size), s.data.toList[k]'h = s[k]'h := fun k h => rfl
  have HL := Lib.hid hl
  have HG := Lib.hid hg
  obtain ⟨R, hR⟩ : ∃ R, R = Disk.word s.data.toList := ⟨_, rfl⟩
  rw [← hR]
  have HR := Lib.hid hR
  clear hl hg hR
  go_enter Tryz.func89, Tryz.ntmps89
  go_wp2_with fail
  go_loopw [7] (fun i wr => ∃ k : Nat, k ≤ s.size ∧ i = .int .i64 k ∧ (s.data.toList.take k).all Disk.okc = true ∧ w = wr) (fun i _ => s.size - (intOf i).toNat)
  case atStart => exact ⟨0, Nat.zero_le _, rfl, rfl, rfl⟩
  case round =>
    obtain ⟨k, hk, rfl, hall, rfl⟩ := hrel
    have Hall := Lib.hid hall
    clear hall
    by_cases hlt : k < s.size
    · have hki : (k : Int) < (s.size : Int) := by omega
      have Hgood := Lib.hid (fun (h : Disk.okn (s[k]'hlt).toNat = true) => Disk.all_snoc (l := s.data.toList) (k := k) hlt Hall.out (by rw [HG.out k hlt]; exact h))
      have Hbad := Lib.hid (fun (h : Disk.okn (s[k]'hlt).toNat = false) => Disk.all_bad (l := s.data.toList) (k := k) hlt (by rw [HG.out k hlt]; exact h))
      by_cases h1 : 97 ≤ (s[k]'hlt).toNat <;> by_cases h2 : (s[k]'hlt).toNat ≤ 122 <;> by_cases h3 : 48 ≤ (s[k]'hlt).toNat <;> by_cases h4 : (s[k]'hlt).toNat ≤ 57
      · omega
      · skip
        have b0 : decide ((97 : Int) ≤ ((s[k]'hlt).toNat : Int)) = true := by simp; omega
        have b1 : decide (((s[k]'hlt).toNat : Int) ≤ 122) = true := by simp; omega
        have b2 : decide ((48 : Int) ≤ ((s[k]'hlt).toNat : Int)) = true := by simp; omega
        have b3 : decide (((s[k]'hlt).toNat : Int) ≤ 57) = false := by simp; omega
        have b4 : (((s[k]'hlt).toNat : Int) == 46) = false := by simp; omega
        have b5 : (((s[k]'hlt).toNat : Int) != 46) = true := by simp; omega
        have ho : Disk.okn (s[k]'hlt).toNat = true := by unfold Disk.okn; simp; omega
        have Ho := Lib.hid (Hgood.out ho)
        clear ho Hgood Hbad h1 h2 h3 h4
        go_wp2_with fail
        exact ⟨⟨k + 1, hlt, by go_num, Ho.out, by trivial⟩, by simp [intOf]; omega⟩
      · omega
      · omega
      · omega
      · skip
        have b0 : decide ((97 : Int) ≤ ((s[k]'hlt).toNat : Int)) = true := by simp; omega
        have b1 : decide (((s[k]'hlt).toNat : Int) ≤ 122) = false := by simp; omega
        have b2 : decide ((48 : Int) ≤ ((s[k]'hlt).toNat : Int)) = true := by simp; omega
        have b3 : decide (((s[k]'hlt).toNat : Int) ≤ 57) = false := by simp; omega
        have b4 : (((s[k]'hlt).toNat : Int) == 46) = false := by simp; omega
        have b5 : (((s[k]'hlt).toNat : Int) != 46) = true := by simp; omega
        have ho : Disk.okn (s[k]'hlt).toNat = false := by unfold Disk.okn; simp; omega
        have Ho := Lib.hid (HR.out.trans (Hbad.out ho))
        clear ho Hgood Hbad h1 h2 h3 h4
        go_wp2_with fail
        go_ret
        exact ⟨by rw [Ho.out]; rfl, rfl⟩
      · omega
      · omega
      · skip
        have b0 : decide ((97 : Int) ≤ ((s[k]'hlt).toNat : Int)) = false := by simp; omega
        have b1 : decide (((s[k]'hlt).toNat : Int) ≤ 122) = true := by simp; omega
        have b2 : decide ((48 : Int) ≤ ((s[k]'hlt).toNat : Int)) = true := by simp; omega
        have b3 : decide (((s[k]'hlt).toNat : Int) ≤ 57) = true := by simp; omega
        have b4 : (((s[k]'hlt).toNat : Int) == 46) = false := by simp; omega
        have b5 : (((s[k]'hlt).toNat : Int) != 46) = true := by simp; omega
        have ho : Disk.okn (s[k]'hlt).toNat = true := by unfold Disk.okn; simp; omega
        have Ho := Lib.hid (Hgood.out ho)
        clear ho Hgood Hbad h1 h2 h3 h4
        go_wp2_with fail
        exact ⟨⟨k + 1, hlt, by go_num, Ho.out, by trivial⟩, by simp [intOf]; omega⟩
      · skip
        have b0 : decide ((97 : Int) ≤ ((s[k]'hlt).toNat : Int)) = false := by simp; omega
        have b1 : decide (((s[k]'hlt).toNat : Int) ≤ 122) = true := by simp; omega
        have b2 : decide ((48 : Int) ≤ ((s[k]'hlt).toNat : Int)) = true := by simp; omega
        have b3 : decide (((s[k]'hlt).toNat : Int) ≤ 57) = false := by simp; omega
        have b4 : (((s[k]'hlt).toNat : Int) == 46) = false := by simp; omega
        have b5 : (((s[k]'hlt).toNat : Int) != 46) = true := by simp; omega
        have ho : Disk.okn (s[k]'hlt).toNat = false := by unfold Disk.okn; simp; omega
        have Ho := Lib.hid (HR.out.trans (Hbad.out ho))
        clear ho Hgood Hbad h1 h2 h3 h4
        go_wp2_with fail
        go_ret
        exact ⟨by rw [Ho.out]; rfl, rfl⟩
      · by_cases h5 : (s[k]'hlt).toNat = 46
        · skip
          have b0 : decide ((97 : Int) ≤ ((s[k]'hlt).toNat : Int)) = false := by simp; omega
          have b1 : decide (((s[k]'hlt).toNat : Int) ≤ 122) = true := by simp; omega
          have b2 : decide ((48 : Int) ≤ ((s[k]'hlt).toNat : Int)) = false := by simp; omega
          have b3 : decide (((s[k]'hlt).toNat : Int) ≤ 57) = true := by simp; omega
          have b4 : (((s[k]'hlt).toNat : Int) == 46) = true := by simp; omega
          have b5 : (((s[k]'hlt).toNat : Int) != 46) = false := by simp; omega
          have ho : Disk.okn (s[k]'hlt).toNat = true := by unfold Disk.okn; simp; omega
          have Ho := Lib.hid (Hgood.out ho)
          clear ho Hgood Hbad h1 h2 h3 h4 h5
          go_wp2_with fail
          exact ⟨⟨k + 1, hlt, by go_num, Ho.out, by trivial⟩, by simp [intOf]; omega⟩
        · skip
          have b0 : decide ((97 : Int) ≤ ((s[k]'hlt).toNat : Int)) = false := by simp; omega
          have b1 : decide (((s[k]'hlt).toNat : Int) ≤ 122) = true := by simp; omega
          have b2 : decide ((48 : Int) ≤ ((s[k]'hlt).toNat : Int)) = false := by simp; omega
          have b3 : decide (((s[k]'hlt).toNat : Int) ≤ 57) = true := by simp; omega
          have b4 : (((s[k]'hlt).toNat : Int) == 46) = false := by simp; omega
          have b5 : (((s[k]'hlt).toNat : Int) != 46) = true := by simp; omega
          have ho : Disk.okn (s[k]'hlt).toNat = false := by unfold Disk.okn; simp; omega
          have Ho := Lib.hid (HR.out.trans (Hbad.out ho))
          clear ho Hgood Hbad h1 h2 h3 h4 h5
          go_wp2_with fail
          go_ret
          exact ⟨by rw [Ho.out]; rfl, rfl⟩
      · omega
      · omega
      · omega
      · omega
      · omega
    · have hki : (s.size : Int) ≤ (k : Int) := by omega
      obtain rfl : k = s.size := by omega
      have hw : R = (decide ((1 : Int) ≤ (s.size : Int)) && decide ((s.size : Int) ≤ 16)) := by
        have h := Hall.out
        rw [List.take_of_length_le (by rw [HL.out]; exact Nat.le_refl _)] at h
        rw [HR.out]
        unfold Disk.word
        rw [h, HL.out, Bool.true_and, Bool.eq_iff_iff]
        simp
        omega
      have HW := Lib.hid hw
      clear hw
      by_cases h1 : 1 ≤ s.size
      · have i1 : (1 : Int) ≤ (s.size : Int) := by omega
        have e1 : decide ((1 : Int) ≤ (s.size : Int)) = true := by simpa using i1
        have E1 := Lib.hid e1
        clear e1
        go_wp2_with fail
        go_ret
        exact ⟨by rw [HW.out, E1.out]; rfl, rfl⟩
      · have i1 : (s.size : Int) < 1 := by omega
        have e1 : decide ((1 : Int) ≤ (s.size : Int)) = false := by simp; omega
        have E1 := Lib.hid e1
        clear e1
        go_wp2_with fail
        go_ret
        exact ⟨by rw [HW.out, E1.out]; rfl, rfl⟩
end Go.Proofs.YtalfnadejpmjnaaGreatDoor.Jn

/- ---- DiskOps ---- -/
/- disk: wrong, Down, done, Arm; the reference's Down, one, Arm. -/
namespace Go.Proofs.YtalfnadejpmjnaaGreatDoor.Jn
set_option maxRecDepth 100000
open Go.RowKit
set_option linter.unusedVariables false
set_option linter.unusedSimpArgs false

/-- a disk's state beside its files -/
structure Dk where
  armed : Bool
  left : Int
  down : Bool
def Dk.cells (m : Value) (s : Dk) : List Value := [m, .bool s.armed, .int .i64 s.left, .bool s.down]
/-- a disk in memory -/
def DkAt (W : World) (g : Nat) (m : Value) (s : Dk) : Prop := Row W g 73 (s.cells m)
theorem DkAt.box {W : World} {g : Nat} {m : Value} {s : Dk} (h : DkAt W g m s) : W.cell? ⟨g, 0, none⟩ = some m ∧ W.cell? ⟨g, 1, none⟩ = some (.bool s.armed) ∧ W.cell? ⟨g, 2, none⟩ = some (.int .i64 s.left) ∧ W.cell? ⟨g, 3, none⟩ = some (.bool s.down) :=
  ⟨Row.cell h 0 (by simp [Dk.cells]), Row.cell h 1 (by simp [Dk.cells]), Row.cell h 2 (by simp [Dk.cells]), Row.cell h 3 (by simp [Dk.cells])⟩
theorem wrong_nil (w : World) : Calls Tryz.prog 35 #[.pointer none] w fun e w' => e = .returned (.int .i64 1) ∧ w = w' := by
  go_enter Tryz.func35, Tryz.ntmps35
  go_wp2_with fail
  go_ret
  exact ⟨rfl, rfl⟩
theorem wrong_at {w : World} {g : Nat} {m : Value} {s : Dk} (h : DkAt w g m s) : Calls Tryz.prog 35 #[.pointer (some ⟨g, 0, none⟩)] w fun e w' => e = .returned (.int .i64 (if s.down = true then 8 else 0)) ∧ w = w' := by
  obtain ⟨c0, c1, c2, c3⟩ := h.box
  obtain ⟨a, l, d⟩ := s
  simp only at c0 c1 c2 c3
  clear h
  cases d
  · go_enter Tryz.func35, Tryz.ntmps35
    go_wp2_with fail
    go_ret
    exact ⟨rfl, rfl⟩
  · go_enter Tryz.func35, Tryz.ntmps35
    go_wp2_with fail
    go_ret
    exact ⟨rfl, rfl⟩
/-- an operation is counted -/
def Dk.one (s : Dk) : Dk := if s.armed = true then ⟨true, s.left - 1, decide (s.left - 1 = 0)⟩ else s
theorem done_at {w : World} {g : Nat} {m : Value} {s : Dk} (h : DkAt w g m s) (hf : s.armed = true → 1 ≤ s.left ∧ s.left ≤ 9223372036854775807) : Calls Tryz.prog 84 #[.pointer (some ⟨g, 0, none⟩)] w fun e w' => e = .returned (.int .i64 0) ∧ DkAt w' g m s.one ∧ w.grownBy w' (some g) := by
  obtain ⟨a, l, d⟩ := s
  cases a
  · obtain ⟨c0, c1, c2, c3⟩ := h.box
    have H := Lib.hid h
    simp only at c0 c1 c2 c3
    clear h hf
    go_enter Tryz.func84, Tryz.ntmps84
    go_wp2_with fail
    go_ret
    exact ⟨rfl, H.out, grownBy_refl _ _⟩
  · obtain ⟨c0, c1, c2, c3⟩ := h.box
    simp only at c0 c1 c2 c3
    have hb := hf rfl
    simp only at hb
    have f2 := Row.free h 2
    have f3 := Row.free h 3
    have s1 := Row.set h 2 (.int .i64 (l - 1)) (by simp [Dk.cells])
    have s2 := Row.set s1 3 (.bool (decide (l - 1 = 0))) (by simp [Dk.cells])
    have d2 := Row.cell s1 2 (by simp [Dk.cells])
    have g3 := Row.free s1 3
    simp only [Dk.cells, List.set_cons_succ, List.set_cons_zero, List.getElem_cons_succ, List.getElem_cons_zero] at d2
    have H2 := Lib.hid s2
    have hg1 := grownBy_set w g 2 (.int .i64 (l - 1))
    have hg2 := grownBy_set (w.setCell ⟨g, 2, none⟩ (.int .i64 (l - 1))) g 3 (.bool (decide (l - 1 = 0)))
    have HG := Lib.hid (World.grownBy.trans hg1 hg2)
    have hw : IntKind.i64.wrap (l - 1) = l - 1 := IntWalk.i64_in _ (by omega)
    clear h hf s1 s2 hg1 hg2
    go_enter Tryz.func84, Tryz.ntmps84
    go_wp2_with fail
    go_ret
    exact ⟨rfl, H2.out, HG.out⟩
end Go.Proofs.YtalfnadejpmjnaaGreatDoor.Jn

/- ---- DiskRef ---- -/
/- The reference of layer 9: files by rising names; where a name stands. -/
namespace Go.Proofs.YtalfnadejpmjnaaGreatDoor.Jn
set_option maxRecDepth 100000
open Go.RowKit
set_option linter.unusedVariables false
set_option linter.unusedSimpArgs false

abbrev Sb (l : List UInt8) : Value := .string ⟨l.toArray⟩
/-- a file of the reference -/
structure Fl where
  name : List UInt8
  b : List UInt8
  safe : Int
namespace Fl
def cells (f : Fl) : List Value := [Sb f.name, Sb f.b, .int .i64 f.safe]
def flat (l : List Fl) : List Value := l.flatMap cells
/-- without a name -/
def drop (l : List Fl) (nm : List UInt8) : List Fl := l.filter fun f => decide (f.name ≠ nm)
end Fl
end Go.Proofs.YtalfnadejpmjnaaGreatDoor.Jn

/- ---- DiskMath ---- -/
/- Files by rising names: plain mathematics. -/
namespace Go.Proofs.YtalfnadejpmjnaaGreatDoor.Jn
set_option maxRecDepth 100000
set_option linter.unusedVariables false
set_option linter.unusedSimpArgs false

namespace Fl
abbrev Nm := List UInt8
theorem nm_tri (a b : Nm) : a < b ∨ a = b ∨ b < a := by
  by_cases h1 : a < b
  · exact .inl h1
  · by_cases h2 : b < a
    · exact .inr (.inr h2)
    · exact .inr (.inl (List.le_antisymm (List.not_lt.1 h2) (List.not_lt.1 h1)))
theorem nm_irrefl (a : Nm) : ¬ a < a := List.lt_irrefl a
theorem nm_trans {a b c : Nm} (h : a < b) (k : b < c) : a < c := List.lt_trans h k
theorem nm_ne {a b : Nm} (h : a < b) : a ≠ b := fun e => nm_irrefl b (e ▸ h)
/-- by rising names -/
def Sorted (l : List Fl) : Prop := l.Pairwise fun a b => a.name < b.name
def names (l : List Fl) : List Nm := l.map (·.name)
/-- the file of a name -/
def find (l : List Fl) (nm : Nm) : Option Fl := l.find? fun f => decide (f.name = nm)
theorem find_nil (nm : Nm) : find [] nm = none := rfl
theorem find_cons (f : Fl) (l : List Fl) (nm : Nm) : find (f :: l) nm = if f.name = nm then some f else find l nm := by
  unfold find
  rw [List.find?_cons]
  by_cases h : f.name = nm <;> simp [h]
theorem find_name {l : List Fl} {nm : Nm} {f : Fl} (h : find l nm = some f) : f.name = nm := by
  have := List.find?_some h
  simpa using this
theorem find_mem {l : List Fl} {nm : Nm} {f : Fl} (h : find l nm = some f) : f ∈ l := List.mem_of_find?_eq_some h
theorem find_none {l : List Fl} {nm : Nm} : find l nm = none ↔ ∀ f ∈ l, f.name ≠ nm := by
  unfold find
  rw [List.find?_eq_none]
  simp
theorem find_some_iff {l : List Fl} {nm : Nm} : (find l nm).isSome = true ↔ nm ∈ names l := by
  unfold find names
  rw [List.find?_isSome]
  simp
theorem Sorted.tail {f : Fl} {l : List Fl} (h : Sorted (f :: l)) : Sorted l := (List.pairwise_cons.1 h).2
theorem Sorted.head {f : Fl} {l : List Fl} (h : Sorted (f :: l)) : ∀ x ∈ l, f.name < x.name := (List.pairwise_cons.1 h).1
theorem Sorted.find_of_mem {l : List Fl} (h : Sorted l) {f : Fl} (hf : f ∈ l) : find l f.name = some f := by
  induction l with
  | nil => cases hf
  | cons x l ih =>
    rw [find_cons]
    rcases List.mem_cons.1 hf with rfl | hm
    · rw [if_pos rfl]
    · rw [if_neg (nm_ne (h.head _ hm)), ih h.tail hm]
theorem Sorted.nodup {l : List Fl} (h : Sorted l) : (names l).Nodup := by
  unfold names
  rw [List.Nodup, List.pairwise_map]
  exact h.imp fun {a b} hab => nm_ne hab
/-- a file in its place -/
def put : List Fl → Fl → List Fl
  | [], f => [f]
  | x :: l, f => if x.name < f.name then x :: put l f else if x.name = f.name then f :: l else f :: x :: l
theorem mem_put {l : List Fl} {f x : Fl} (h : x ∈ put l f) : x = f ∨ x ∈ l := by
  induction l with
  | nil => simp [put] at h; exact .inl h
  | cons y l ih =>
    unfold put at h
    split at h
    · rcases List.mem_cons.1 h with rfl | h
      · exact .inr (by simp)
      · rcases ih h with h | h
        · exact .inl h
        · exact .inr (by simp [h])
    · split at h
      · rcases List.mem_cons.1 h with rfl | h
        · exact .inl rfl
        · exact .inr (by simp [h])
      · rcases List.mem_cons.1 h with rfl | h
        · exact .inl rfl
        · exact .inr h
theorem find_put {l : List Fl} (hs : Sorted l) (f : Fl) (nm : Nm) : find (put l f) nm = if f.name = nm then some f else find l nm := by
  induction l with
  | nil => simp [put, find_cons, find_nil]
  | cons x l ih =>
    unfold put
    split
    · next hlt =>
      rw [find_cons, ih hs.tail, find_cons]
      by_cases h1 : x.name = nm
      · have : f.name ≠ nm := fun e => nm_ne hlt (h1.trans e.symm)
        simp [h1, this]
      · simp [h1]
    · split
      · next heq =>
        rw [find_cons, find_cons]
        by_cases h1 : f.name = nm
        · simp [h1]
        · have : x.name ≠ nm := fun e => h1 (heq.symm.trans e)
          simp [h1, this]
      · rw [find_cons]
theorem Sorted.put {l : List Fl} (hs : Sorted l) (f : Fl) : Sorted (put l f) := by
  induction l with
  | nil => exact List.pairwise_singleton _ _
  | cons x l ih =>
    unfold Fl.put
    split
    · next hlt =>
      refine List.pairwise_cons.2 ⟨fun y hy => ?_, ih hs.tail⟩
      rcases mem_put hy with rfl | hy
      · exact hlt
      · exact hs.head _ hy
    · split
      · next heq => exact List.pairwise_cons.2 ⟨fun y hy => heq ▸ hs.head _ hy, hs.tail⟩
      · next hn hne =>
        have hfx : f.name < x.name := by
          rcases nm_tri x.name f.name with h | h | h
          · exact absurd h hn
          · exact absurd h hne
          · exact h
        refine List.pairwise_cons.2 ⟨fun y hy => ?_, hs⟩
        rcases List.mem_cons.1 hy with rfl | hy
        · exact hfx
        · exact nm_trans hfx (hs.head _ hy)
theorem length_put (l : List Fl) (hs : Sorted l) (f : Fl) : (put l f).length = l.length + if (find l f.name).isSome then 0 else 1 := by
  induction l with
  | nil => simp [put, find_nil]
  | cons x l ih =>
    unfold put
    rw [find_cons]
    split
    · next hlt => simp [nm_ne hlt, ih hs.tail]; omega
    · split
      · next heq => simp [heq]
      · next hn hne =>
        have hfx : f.name < x.name := by
          rcases nm_tri x.name f.name with h | h | h
          · exact absurd h hn
          · exact absurd h hne
          · exact h
        have hnone : find l f.name = none := find_none.2 fun y hy e => nm_ne (nm_trans hfx (hs.head _ hy)) e.symm
        simp [hne, hnone]
theorem mem_put_of_find {l : List Fl} (hs : Sorted l) {f x : Fl} (h : x ∈ put l f) : x = f ∨ (x ∈ l ∧ x.name ≠ f.name) := by
  have h2 := (hs.put f).find_of_mem h
  rw [find_put hs] at h2
  by_cases e : f.name = x.name
  · rw [if_pos e] at h2; injection h2 with h2; exact .inl h2.symm
  · rw [if_neg e] at h2; exact .inr ⟨find_mem h2, fun e2 => e e2.symm⟩
theorem find_drop (l : List Fl) (nm n2 : Nm) : find (drop l nm) n2 = if n2 = nm then none else find l n2 := by
  induction l with
  | nil => simp [drop, find_nil]
  | cons x l ih =>
    have e : drop (x :: l) nm = if x.name = nm then drop l nm else x :: drop l nm := by
      unfold drop; by_cases h : x.name = nm <;> simp [h]
    rw [e, find_cons]
    by_cases h : x.name = nm
    · rw [if_pos h, ih]
      by_cases h2 : n2 = nm
      · simp [h2]
      · rw [if_neg h2, if_neg h2, if_neg (fun e2 => h2 (e2.symm.trans h))]
    · rw [if_neg h, find_cons, ih]
      by_cases h2 : n2 = nm
      · subst h2; simp [h]
      · simp [h2]
theorem Sorted.drop {l : List Fl} (hs : Sorted l) (nm : Nm) : Sorted (drop l nm) := List.Pairwise.filter _ hs
theorem mem_drop {l : List Fl} {nm : Nm} {x : Fl} : x ∈ drop l nm ↔ x ∈ l ∧ x.name ≠ nm := by simp [drop, List.mem_filter]
theorem length_drop (l : List Fl) (nm : Nm) : (drop l nm).length ≤ l.length := List.length_filter_le _ _
theorem length_drop_of_mem {l : List Fl} (hs : Sorted l) {nm : Nm} (h : (find l nm).isSome = true) : (drop l nm).length + 1 = l.length := by
  induction l with
  | nil => simp [find_nil] at h
  | cons x l ih =>
    have e : drop (x :: l) nm = if x.name = nm then drop l nm else x :: drop l nm := by
      unfold drop; by_cases h : x.name = nm <;> simp [h]
    rw [e]
    by_cases hx : x.name = nm
    · rw [if_pos hx]
      have : drop l nm = l := List.filter_eq_self.2 fun y hy => by
        have := nm_ne (hs.head _ hy)
        simp only [decide_eq_true_eq]; intro e; exact this (hx.trans e.symm)
      rw [this]; rfl
    · rw [find_cons, if_neg hx] at h
      rw [if_neg hx, List.length_cons, ih hs.tail h]; rfl
end Fl
end Go.Proofs.YtalfnadejpmjnaaGreatDoor.Jn
