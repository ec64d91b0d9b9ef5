/- disk: what a name is; the reference's Word. -/
import Derived.Test.YtpphljdnnlfjhaaDoorRow
namespace Go.Proofs.YtpphljdnnlfjhaaDoor
open Go.RowKit
set_option linter.unusedVariables false
set_option linter.unusedSimpArgs false

namespace Disk
/-- a byte that a name may have -/
def okn (x : Nat) : Bool := (decide (97 ≤ x) && decide (x ≤ 122)) || ((decide (48 ≤ x) && decide (x ≤ 57)) || decide (x = 46))
def okc (c : UInt8) : Bool := okn c.toNat
def word (l : List UInt8) : Bool := l.all okc && (decide (1 ≤ l.length) && decide (l.length ≤ 16))
theorem all_snoc {l : List UInt8} {k : Nat} (hk : k < l.length) (h : (l.take k).all okc = true) (h2 : okc l[k] = true) : (l.take (k + 1)).all okc = true := by
  rw [List.take_succ_eq_append_getElem hk, List.all_append, h, List.all_cons, h2]; rfl
theorem all_bad {l : List UInt8} {k : Nat} (hk : k < l.length) (h2 : okc l[k] = false) : word l = false := by
  unfold word
  have : l.all okc = false := by
    rw [Bool.eq_false_iff]
    intro h
    have := List.all_eq_true.1 h _ (List.getElem_mem hk)
    rw [h2] at this
    cases this
  rw [this]; rfl
end Disk
set_option maxRecDepth 20000 in
set_option maxHeartbeats 1600000 in
theorem isName_any (s : ByteArray) (w : World) (hs : s.size ≤ 140737488351232) :
    Calls Tryd.prog 40 #[.string s] w fun e w' => e = .returned (.bool (Disk.word s.data.toList)) ∧ w = w' := by
  have hl : s.data.toList.length = s.size := rfl
  have hg : ∀ k (h : k < s.size), s.data.toList[k]'h = s[k]'h := fun k h => rfl
  have HL := Lib.hid hl
  have HG := Lib.hid hg
  obtain ⟨R, hR⟩ : ∃ R, R = Disk.word s.data.toList := ⟨_, rfl⟩
  rw [← hR]
  have HR := Lib.hid hR
  clear hl hg hR
  go_enter Tryd.func40, Tryd.ntmps40
  go_wp2_with fail
  go_loopw [7] (fun i wr => ∃ k : Nat, k ≤ s.size ∧ i = .int .i64 k ∧ (s.data.toList.take k).all Disk.okc = true ∧ w = wr) (fun i _ => s.size - (intOf i).toNat)
  case atStart => exact ⟨0, Nat.zero_le _, rfl, rfl, rfl⟩
  case round =>
    obtain ⟨k, hk, rfl, hall, rfl⟩ := hrel
    have Hall := Lib.hid hall
    clear hall
    by_cases hlt : k < s.size
    · have hki : (k : Int) < (s.size : Int) := by omega
      have Hgood := Lib.hid (fun (h : Disk.okn (s[k]'hlt).toNat = true) => Disk.all_snoc (l := s.data.toList) (k := k) hlt Hall.out (by rw [HG.out k hlt]; exact h))
      have Hbad := Lib.hid (fun (h : Disk.okn (s[k]'hlt).toNat = false) => Disk.all_bad (l := s.data.toList) (k := k) hlt (by rw [HG.out k hlt]; exact h))
      by_cases h1 : 97 ≤ (s[k]'hlt).toNat <;> by_cases h2 : (s[k]'hlt).toNat ≤ 122 <;> by_cases h3 : 48 ≤ (s[k]'hlt).toNat <;> by_cases h4 : (s[k]'hlt).toNat ≤ 57
      · omega
      · skip
        have b0 : decide ((97 : Int) ≤ ((s[k]'hlt).toNat : Int)) = true := by simp; omega
        have b1 : decide (((s[k]'hlt).toNat : Int) ≤ 122) = true := by simp; omega
        have b2 : decide ((48 : Int) ≤ ((s[k]'hlt).toNat : Int)) = true := by simp; omega
        have b3 : decide (((s[k]'hlt).toNat : Int) ≤ 57) = false := by simp; omega
        have b4 : (((s[k]'hlt).toNat : Int) == 46) = false := by simp; omega
        have b5 : (((s[k]'hlt).toNat : Int) != 46) = true := by simp; omega
        have ho : Disk.okn (s[k]'hlt).toNat = true := by unfold Disk.okn; simp; omega
        have Ho := Lib.hid (Hgood.out ho)
        clear ho Hgood Hbad h1 h2 h3 h4
        go_wp2_with fail
        exact ⟨⟨k + 1, hlt, by go_num, Ho.out, by trivial⟩, by simp [intOf]; omega⟩
      · omega
      · omega
      · omega
      · skip
        have b0 : decide ((97 : Int) ≤ ((s[k]'hlt).toNat : Int)) = true := by simp; omega
        have b1 : decide (((s[k]'hlt).toNat : Int) ≤ 122) = false := by simp; omega
        have b2 : decide ((48 : Int) ≤ ((s[k]'hlt).toNat : Int)) = true := by simp; omega
        have b3 : decide (((s[k]'hlt).toNat : Int) ≤ 57) = false := by simp; omega
        have b4 : (((s[k]'hlt).toNat : Int) == 46) = false := by simp; omega
        have b5 : (((s[k]'hlt).toNat : Int) != 46) = true := by simp; omega
        have ho : Disk.okn (s[k]'hlt).toNat = false := by unfold Disk.okn; simp; omega
        have Ho := Lib.hid (HR.out.trans (Hbad.out ho))
        clear ho Hgood Hbad h1 h2 h3 h4
        go_wp2_with fail
        go_ret
        exact ⟨by rw [Ho.out]; rfl, rfl⟩
      · omega
      · omega
      · skip
        have b0 : decide ((97 : Int) ≤ ((s[k]'hlt).toNat : Int)) = false := by simp; omega
        have b1 : decide (((s[k]'hlt).toNat : Int) ≤ 122) = true := by simp; omega
        have b2 : decide ((48 : Int) ≤ ((s[k]'hlt).toNat : Int)) = true := by simp; omega
        have b3 : decide (((s[k]'hlt).toNat : Int) ≤ 57) = true := by simp; omega
        have b4 : (((s[k]'hlt).toNat : Int) == 46) = false := by simp; omega
        have b5 : (((s[k]'hlt).toNat : Int) != 46) = true := by simp; omega
        have ho : Disk.okn (s[k]'hlt).toNat = true := by unfold Disk.okn; simp; omega
        have Ho := Lib.hid (Hgood.out ho)
        clear ho Hgood Hbad h1 h2 h3 h4
        go_wp2_with fail
        exact ⟨⟨k + 1, hlt, by go_num, Ho.out, by trivial⟩, by simp [intOf]; omega⟩
      · skip
        have b0 : decide ((97 : Int) ≤ ((s[k]'hlt).toNat : Int)) = false := by simp; omega
        have b1 : decide (((s[k]'hlt).toNat : Int) ≤ 122) = true := by simp; omega
        have b2 : decide ((48 : Int) ≤ ((s[k]'hlt).toNat : Int)) = true := by simp; omega
        have b3 : decide (((s[k]'hlt).toNat : Int) ≤ 57) = false := by simp; omega
        have b4 : (((s[k]'hlt).toNat : Int) == 46) = false := by simp; omega
        have b5 : (((s[k]'hlt).toNat : Int) != 46) = true := by simp; omega
        have ho : Disk.okn (s[k]'hlt).toNat = false := by unfold Disk.okn; simp; omega
        have Ho := Lib.hid (HR.out.trans (Hbad.out ho))
        clear ho Hgood Hbad h1 h2 h3 h4
        go_wp2_with fail
        go_ret
        exact ⟨by rw [Ho.out]; rfl, rfl⟩
      · by_cases h5 : (s[k]'hlt).toNat = 46
        · skip
          have b0 : decide ((97 : Int) ≤ ((s[k]'hlt).toNat : Int)) = false := by simp; omega
          have b1 : decide (((s[k]'hlt).toNat : Int) ≤ 122) = true := by simp; omega
          have b2 : decide ((48 : Int) ≤ ((s[k]'hlt).toNat : Int)) = false := by simp; omega
          have b3 : decide (((s[k]'hlt).toNat : Int) ≤ 57) = true := by simp; omega
          have b4 : (((s[k]'hlt).toNat : Int) == 46) = true := by simp; omega
          have b5 : (((s[k]'hlt).toNat : Int) != 46) = false := by simp; omega
          have ho : Disk.okn (s[k]'hlt).toNat = true := by unfold Disk.okn; simp; omega
          have Ho := Lib.hid (Hgood.out ho)
          clear ho Hgood Hbad h1 h2 h3 h4 h5
          go_wp2_with fail
          exact ⟨⟨k + 1, hlt, by go_num, Ho.out, by trivial⟩, by simp [intOf]; omega⟩
        · skip
          have b0 : decide ((97 : Int) ≤ ((s[k]'hlt).toNat : Int)) = false := by simp; omega
          have b1 : decide (((s[k]'hlt).toNat : Int) ≤ 122) = true := by simp; omega
          have b2 : decide ((48 : Int) ≤ ((s[k]'hlt).toNat : Int)) = false := by simp; omega
          have b3 : decide (((s[k]'hlt).toNat : Int) ≤ 57) = true := by simp; omega
          have b4 : (((s[k]'hlt).toNat : Int) == 46) = false := by simp; omega
          have b5 : (((s[k]'hlt).toNat : Int) != 46) = true := by simp; omega
          have ho : Disk.okn (s[k]'hlt).toNat = false := by unfold Disk.okn; simp; omega
          have Ho := Lib.hid (HR.out.trans (Hbad.out ho))
          clear ho Hgood Hbad h1 h2 h3 h4 h5
          go_wp2_with fail
          go_ret
          exact ⟨by rw [Ho.out]; rfl, rfl⟩
      · omega
      · omega
      · omega
      · omega
      · omega
    · have hki : (s.size : Int) ≤ (k : Int) := by omega
      obtain rfl : k = s.size := by omega
      have hw : R = (decide ((1 : Int) ≤ (s.size : Int)) && decide ((s.size : Int) ≤ 16)) := by
        have h := Hall.out
        rw [List.take_of_length_le (by rw [HL.out]; exact Nat.le_refl _)] at h
        rw [HR.out]
        unfold Disk.word
        rw [h, HL.out, Bool.true_and, Bool.eq_iff_iff]
        simp
        omega
      have HW := Lib.hid hw
      clear hw
      by_cases h1 : 1 ≤ s.size
      · have i1 : (1 : Int) ≤ (s.size : Int) := by omega
        have e1 : decide ((1 : Int) ≤ (s.size : Int)) = true := by simpa using i1
        have E1 := Lib.hid e1
        clear e1
        go_wp2_with fail
        go_ret
        exact ⟨by rw [HW.out, E1.out]; rfl, rfl⟩
      · have i1 : (s.size : Int) < 1 := by omega
        have e1 : decide ((1 : Int) ≤ (s.size : Int)) = false := by simp; omega
        have E1 := Lib.hid e1
        clear e1
        go_wp2_with fail
        go_ret
        exact ⟨by rw [HW.out, E1.out]; rfl, rfl⟩
end Go.Proofs.YtpphljdnnlfjhaaDoor
