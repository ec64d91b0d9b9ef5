/- inbox.Reach and the reference's: what they return. -/
import Derived.Test.YtjeooegkfjlejaaDoorInbMem
import Derived.Test.YtjeooegkfjlejaaDoorInbReach
namespace Go.Proofs.YtjeooegkfjlejaaDoor
open Go.RowKit
set_option linter.unusedVariables false
set_option linter.unusedSimpArgs false

/-- what the entries' blocks are -/
def blks (l : List En) : List Int := l.map En.block
/-- the first k are low enough -/
def LowTo (l : List En) (B : Int) (k : Nat) : Prop := ∀ i (h : i < l.length), i < k → l[i].block ≤ B
theorem LowTo.zero (l : List En) (B : Int) : LowTo l B 0 := fun _ _ h => absurd h (Nat.not_lt_zero _)
theorem LowTo.next {l : List En} {B : Int} {k : Nat} (h : LowTo l B k) (hk : k < l.length) (h2 : l[k].block ≤ B) : LowTo l B (k + 1) := fun i hi hik => by
  by_cases e : i = k
  · subst e; exact h2
  · exact h i hi (by omega)
theorem LowTo.at_ {l : List En} {B : Int} {k m : Nat} (h : LowTo l B k) (hm : k < m) (hk : k < l.length) (h2 : B < l[k].block) : Inb.low B ((blks l).take m) = k :=
  Inb.low_at hm (by simpa [blks] using hk) (fun i hi hik => by simpa [blks] using h i (by simpa [blks] using hi) hik) (by simpa [blks] using h2)
theorem LowTo.all {l : List En} {B : Int} {m : Nat} (h : LowTo l B (min m l.length)) : Inb.low B ((blks l).take m) = min m l.length := by
  have := Inb.low_all (B := B) (l := blks l) (m := m) (fun i hi hik => by
    have hi' : i < l.length := by simpa [blks] using hi
    simpa [blks] using h i hi' (by omega))
  simpa [blks] using this
theorem en_block {w : World} {b o : Nat} {e : En} (h : EnR w b o e) : w.cell? ⟨b, o + 2, none⟩ = some (.int .i64 e.block) := h 2 _ rfl
set_option maxRecDepth 20000 in
set_option maxHeartbeats 800000 in
theorem reach_any (A : Option Addr) (c : Nat) (l : List En) (n a wt : Int) (hn : -9223372036854775808 ≤ n ∧ n ≤ 9223372036854775807) (ha : -9223372036854775808 ≤ a ∧ a ≤ 9223372036854775807) (hw : -9223372036854775808 ≤ wt ∧ wt ≤ 9223372036854775807)
    (w : World) (hE : ListAt 35 EnR w w.heap.size A l) (hl : l.length ≤ 9223372036854775807) :
    Calls Tryd.prog 42 #[.slice A l.length c, .int .i64 n, .int .i64 a, .int .i64 wt] w fun e w' => e = .returned (.int .i64 (Inb.reach (blks l) n a wt)) ∧ w = w' := by
  obtain ⟨R, hR⟩ : ∃ R, R = Inb.reach (blks l) n a wt := ⟨_, rfl⟩
  rw [← hR]
  obtain ⟨m, hm⟩ : ∃ m, m = l.length := ⟨_, rfl⟩
  rw [← hm]
  have HR := Lib.hid hR
  have HM := Lib.hid hm
  have HE := Lib.hid hE
  rw [← hm] at hl
  by_cases h0 : n < 0
  · have : R = 0 := by rw [hR]; unfold Inb.reach; rw [if_pos (.inl h0)]
    subst this
    have d0 : decide (n < 0) = true := by simpa using h0
    clear hR hm hE
    go_enter Tryd.func42, Tryd.ntmps42
    go_wp2_with fail
    go_ret
    exact ⟨rfl, rfl⟩
  by_cases h1 : wt < 0
  · have : R = 0 := by rw [hR]; unfold Inb.reach; rw [if_pos (.inr (.inl h1))]
    subst this
    have d0 : decide (n < 0) = false := by simpa using h0
    have d1 : decide (wt < 0) = true := by simpa using h1
    clear hR hm hE
    go_enter Tryd.func42, Tryd.ntmps42
    go_wp2_with fail
    go_ret
    exact ⟨rfl, rfl⟩
  by_cases h2 : a < -9223372036854775808 + wt
  · have : R = 0 := by rw [hR]; unfold Inb.reach; rw [if_pos (.inr (.inr h2))]
    subst this
    have d0 : decide (n < 0) = false := by simpa using h0
    have d1 : decide (wt < 0) = false := by simpa using h1
    have d2 : decide (a < -9223372036854775808 + wt) = true := by simpa using h2
    clear hR hm hE
    go_enter Tryd.func42, Tryd.ntmps42
    go_wp2_with fail
    go_ret
    exact ⟨rfl, rfl⟩
  have d0 : decide (n < 0) = false := by simpa using h0
  have d1 : decide (wt < 0) = false := by simpa using h1
  have d2 : decide (a < -9223372036854775808 + wt) = false := by simpa using h2
  obtain ⟨mo, hmo⟩ : ∃ mo : Nat, (mo : Int) = min n (m : Int) := ⟨(min n (m : Int)).toNat, by omega⟩
  have hmol : mo ≤ m := by omega
  have HRR : Hid (R = (Inb.low (a - wt) ((blks l).take n.toNat) : Int)) := by refine Lib.hid ?_; rw [hR]; unfold Inb.reach; rw [if_neg (by omega)]
  have hmon : (mo : Int) ≤ n := by omega
  have HMO : Hid (mo = min n.toNat l.length) := by rw [← hm]; show mo = _; omega
  have hb3 : -9223372036854775808 ≤ a - wt := by omega
  have hb4 : a - wt ≤ 9223372036854775807 := by omega
  clear hR hm hE
  by_cases hnm : n ≤ (m : Int)
  all_goals
    have emin : min n (m : Int) = (mo : Int) := by omega
    have e1 : (mo : Int) = n ∨ (mo : Int) = (m : Int) := by omega
    have Hmin := Lib.hid hmo
    clear hmo
    have Hnm := Lib.hid hnm
    clear e1
    go_enter Tryd.func42, Tryd.ntmps42
    go_wp2_with fail
    go_loop [28] (fun i => ∃ k : Nat, k ≤ mo ∧ i = .int .i64 k ∧ LowTo l (a - wt) k) (fun i => mo - (intOf i).toNat)
    case atStart => exact ⟨0, Nat.zero_le _, rfl, LowTo.zero _ _⟩
    case round =>
      obtain ⟨k, hk, rfl, hlow⟩ := hrel
      have HL := Lib.hid hlow
      clear hlow
      by_cases hlt : k < mo
      · have hki : (k : Int) < (mo : Int) := by omega
        have hkm : k < m := by omega
        have hkl : k < l.length := by rw [← HM.out]; exact hkm
        obtain ⟨b, off, rfl, hb, hat⟩ := HE.out (by intro e; rw [e] at hkl; simp at hkl)
        have hc := en_block (hat k hkl)
        clear hat
        by_cases hbl : a - wt < l[k].block
        · have hd : decide (a - wt < l[k].block) = true := by simpa using hbl
          have HV := Lib.hid (HRR.out.trans (congrArg (Nat.cast (R := Int)) (HL.out.at_ (by have := HMO.out; omega) hkl hbl)))
          generalize l[k].block = x at *
          go_wp2_with fail
          go_ret
          exact ⟨by rw [HV.out]; rfl, rfl⟩
        · have hd : decide (a - wt < l[k].block) = false := by simpa using hbl
          have HLn := Lib.hid (HL.out.next hkl (by omega))
          generalize l[k].block = x at *
          go_wp2_with fail
          exact ⟨⟨k + 1, hlt, by go_num, HLn.out⟩, by simp [intOf]; omega⟩
      · have hki : (mo : Int) ≤ (k : Int) := by omega
        have hke : k = mo := by omega
        have HV : Hid (R = (mo : Int)) := Lib.hid (by
          have h1 := HL.out
          rw [hke, HMO.out] at h1
          rw [HRR.out, h1.all, ← HMO.out])
        clear hke
        go_wp2_with fail
        go_ret
        exact ⟨by rw [HV.out]; rfl, rfl⟩
set_option maxRecDepth 20000 in
set_option maxHeartbeats 800000 in
theorem rreach_any (A : Option Addr) (c : Nat) (l : List En) (n a wt : Int) (hn : -9223372036854775808 ≤ n ∧ n ≤ 9223372036854775807) (ha : -9223372036854775808 ≤ a ∧ a ≤ 9223372036854775807) (hw : -9223372036854775808 ≤ wt ∧ wt ≤ 9223372036854775807)
    (w : World) (hE : ListAt 35 EnR w w.heap.size A l) (hl : l.length ≤ 9223372036854775807) :
    Calls Tryd.prog 43 #[.slice A l.length c, .int .i64 n, .int .i64 a, .int .i64 wt] w fun e w' => e = .returned (.int .i64 (Inb.reach (blks l) n a wt)) ∧ w = w' := by
  obtain ⟨R, hR⟩ : ∃ R, R = Inb.reach (blks l) n a wt := ⟨_, rfl⟩
  rw [← hR]
  obtain ⟨m, hm⟩ : ∃ m, m = l.length := ⟨_, rfl⟩
  rw [← hm]
  have HR := Lib.hid hR
  have HM := Lib.hid hm
  have HE := Lib.hid hE
  rw [← hm] at hl
  by_cases h1 : wt < 0
  · have : R = 0 := by rw [hR]; unfold Inb.reach; rw [if_pos (.inr (.inl h1))]
    subst this
    have d1 : decide (wt < 0) = true := by simpa using h1
    clear hR hm hE
    go_enter Tryd.func43, Tryd.ntmps43
    go_wp2_with fail
    go_ret
    exact ⟨rfl, rfl⟩
  by_cases h2 : a < -9223372036854775808 + wt
  · have : R = 0 := by rw [hR]; unfold Inb.reach; rw [if_pos (.inr (.inr h2))]
    subst this
    have d1 : decide (wt < 0) = false := by simpa using h1
    have d2 : decide (-9223372036854775808 + wt ≤ a) = false := by simpa using h2
    clear hR hm hE
    go_enter Tryd.func43, Tryd.ntmps43
    go_wp2_with fail
    go_ret
    exact ⟨rfl, rfl⟩
  have d1 : decide (wt < 0) = false := by simpa using h1
  have d2 : decide (-9223372036854775808 + wt ≤ a) = true := by simp; omega
  obtain ⟨mo, hmo⟩ : ∃ mo : Nat, mo = min n.toNat m := ⟨_, rfl⟩
  have hmol : mo ≤ m := by omega
  have HRR : Hid (R = (Inb.low (a - wt) ((blks l).take n.toNat) : Int)) := by
    refine Lib.hid ?_
    rw [hR]; unfold Inb.reach
    by_cases h0 : n < 0
    · rw [if_pos (.inl h0), show n.toNat = 0 by omega]; rfl
    · rw [if_neg (by omega)]
  have HMO : Hid (mo = min n.toNat l.length) := by rw [← hm]; exact hmo
  have hb3 : -9223372036854775808 ≤ a - wt := by omega
  have hb4 : a - wt ≤ 9223372036854775807 := by omega
  have Hmo := Lib.hid hmo
  clear hR hm hE hmo
  go_enter Tryd.func43, Tryd.ntmps43
  go_wp2_with fail
  go_loop [10] (fun i => ∃ k : Nat, k ≤ mo ∧ i = .int .i64 k ∧ LowTo l (a - wt) k) (fun i => mo - (intOf i).toNat)
  case atStart => exact ⟨0, Nat.zero_le _, rfl, LowTo.zero _ _⟩
  case round =>
    obtain ⟨k, hk, rfl, hlow⟩ := hrel
    have HL := Lib.hid hlow
    clear hlow
    by_cases hlt : k < mo
    · have hkm : k < m := by omega
      have hki : (k : Int) < (m : Int) := by omega
      have hkn : (k : Int) < n := by have := Hmo.out; omega
      have hkl : k < l.length := by rw [← HM.out]; exact hkm
      have g1 : decide (k < m) = true := by simpa using hkm
      have g2 : decide ((k : Int) < n) = true := by simpa using hkn
      obtain ⟨b, off, rfl, hb, hat⟩ := HE.out (by intro e; rw [e] at hkl; simp at hkl)
      have hc := en_block (hat k hkl)
      clear hat
      by_cases hbl : a - wt < l[k].block
      · have hd : decide (l[k].block ≤ a - wt) = false := by simpa using hbl
        have HV := Lib.hid (HRR.out.trans (congrArg (Nat.cast (R := Int)) (HL.out.at_ (by have := HMO.out; omega) hkl hbl)))
        generalize l[k].block = x at *
        go_wp2_with fail
        go_ret
        exact ⟨by rw [HV.out]; rfl, rfl⟩
      · have hd : decide (l[k].block ≤ a - wt) = true := by simp; omega
        have HLn := Lib.hid (HL.out.next hkl (by omega))
        generalize l[k].block = x at *
        go_wp2_with fail
        exact ⟨⟨k + 1, hlt, by go_num, HLn.out⟩, by simp [intOf]; omega⟩
    · have hke : k = mo := by omega
      have HV : Hid (R = (k : Int)) := Lib.hid (by
        have h1 := HL.out
        rw [hke, HMO.out] at h1
        rw [HRR.out, h1.all, ← HMO.out, hke])
      by_cases hkm : k < m
      · have g1 : decide (k < m) = true := by simpa using hkm
        have hki : (k : Int) < (m : Int) := by omega
        have g2 : decide ((k : Int) < n) = false := by have := Hmo.out; simp; omega
        clear hke
        go_wp2_with fail
        go_ret
        exact ⟨by rw [HV.out]; rfl, rfl⟩
      · have g1 : decide (k < m) = false := by simpa using hkm
        have hki : (m : Int) ≤ (k : Int) := by omega
        clear hke
        go_wp2_with fail
        go_ret
        exact ⟨by rw [HV.out]; rfl, rfl⟩
end Go.Proofs.YtjeooegkfjlejaaDoor
