/- journal: awake. -/
import Derived.Test.YtpphljdnnlfjhaaDoorJrOpen
import Derived.Test.YtpphljdnnlfjhaaDoorJrAdd
import Derived.Test.YtpphljdnnlfjhaaDoorJrAw
namespace Go.Proofs.YtpphljdnnlfjhaaDoor
open Go.RowKit
set_option maxRecDepth 100000
set_option linter.unusedVariables false
set_option linter.unusedSimpArgs false

theorem chg_below {S0 : Nat → Prop} {w0 w w' : World} (h : Chg S0 w w') (hS : ∀ k, S0 k → w0.heap.size ≤ k) (hb : Below w0.heap.size w0 w) : Below w0.heap.size w0 w' :=
  hb.trans ⟨h.os, h.tape, h.output, h.size, fun i hi => h.block i (Nat.lt_of_lt_of_le hi hb.size) (fun hs => by have := hS i hs; omega)⟩
theorem JTo.all {w0 w w' : World} {B : Nat} {S0 : Nat → Prop} {g q : Nat} {l : List Fl} {r : Int} {j : Jr.J} (h : JTo w w' B S0 g q l r j) (hb : Below w0.heap.size w0 w) (hS : ∀ k, S0 k → w0.heap.size ≤ k) (hq : w0.heap.size ≤ q) :
    ∃ S1, JS w' B S1 g q l r j ∧ (∀ k, S1 k → w0.heap.size ≤ k) ∧ Below w0.heap.size w0 w' := by
  obtain ⟨S1, h1, h2, h3⟩ := h
  refine ⟨S1, h1, fun k hk => ?_, chg_below h3 (fun k hk => ?_) hb⟩
  · rcases h2 k hk with h | h
    · exact hS k h
    · have := hb.size; omega
  · rcases hk with h | h
    · exact hS k h
    · omega
set_option maxHeartbeats 1600000 in
theorem awake10 (w : World) : Calls Tryd.prog 10 #[] w fun e w' => e = .returned (.bool true) ∧ Below w.heap.size w w' := by
  go_enter Tryd.func10, Tryd.ntmps10
  go_wp2_with fail
  refine (new9 w w.heap.size (Nat.le_refl _)).mono ?_
  rintro _ w1 ⟨rfl, hd1, hb1, hs1⟩
  obtain ⟨g, hg⟩ : ∃ g, g = w.heap.size + 1 := ⟨_, rfl⟩
  rw [← hg] at hd1 ⊢
  have hS1 : ∀ k, Plus (fun _ => False) w w1 k → w.heap.size ≤ k := fun k hk => by
    rcases hk with h | h
    · exact absurd h id
    · exact h.1
  generalize Plus (fun _ => False) w w1 = S1 at *
  have Hd1 := Lib.hid hd1
  have Hb1 := Lib.hid hb1
  have HS1 := Lib.hid hS1
  clear hd1 hb1 hs1 hg hS1
  go_wp2_with fail
  refine (jopen_up (o := none) (x := none) Hd1.out (by simp [Jr.by_])).mono ?_
  rintro _ w2 ⟨q, v, S2, rfl, hJ2, hq, _, hP2, hC2, _⟩
  have Hb2 := Lib.hid (chg_below hC2 HS1.out Hb1.out)
  have HS2 : Hid (∀ k, S2 k → w.heap.size ≤ k) := Lib.hid fun k hk => by
    rcases hP2 k hk with h | h
    · exact HS1.out k h
    · have := Hb1.out.size; omega
  have hq0 : w.heap.size ≤ q := by have := Hb1.out.size; omega
  have hJ2' : JS w2 w.heap.size S2 g q (Jr.St none none) (-1) ⟨0, 0, false⟩ := hJ2
  have HJ2 := Lib.hid hJ2'
  clear hJ2 hJ2' hP2 hC2 hq
  go_wp2_with fail
  refine (jadd_at HJ2.out [97] (by simp) (by simp)).mono ?_
  rintro _ w3 ⟨rfl, t⟩
  rw [Jr.aw_1] at t ⊢
  obtain ⟨S3, hJ3, hS3, hb3⟩ := t.all Hb2.out HS2.out hq0
  have HJ3 := Lib.hid hJ3
  have HS3 := Lib.hid hS3
  have Hb3 := Lib.hid hb3
  clear t hJ3 hS3 hb3
  go_wp2_with fail
  refine (jadd_at HJ3.out [98] (by simp) (by simp)).mono ?_
  rintro _ w4 ⟨rfl, t⟩
  rw [Jr.aw_2] at t ⊢
  obtain ⟨S4, hJ4, hS4, hb4⟩ := t.all Hb3.out HS3.out hq0
  have HJ4 := Lib.hid hJ4
  have HS4 := Lib.hid hS4
  have Hb4 := Lib.hid hb4
  clear t hJ4 hS4 hb4
  go_wp2_with fail
  refine (jsync_at HJ4.out).mono ?_
  rintro _ w5 ⟨rfl, t⟩
  rw [Jr.aw_3] at t ⊢
  obtain ⟨S5, hJ5, hS5, hb5⟩ := t.all Hb4.out HS4.out hq0
  have HJ5 := Lib.hid hJ5
  have HS5 := Lib.hid hS5
  have Hb5 := Lib.hid hb5
  clear t hJ5 hS5 hb5
  go_wp2_with fail
  refine (jadd_at HJ5.out [99] (by simp) (by simp)).mono ?_
  rintro _ w6 ⟨rfl, t⟩
  rw [Jr.aw_4] at t ⊢
  obtain ⟨S6, hJ6, hS6, hb6⟩ := t.all Hb5.out HS5.out hq0
  have hkv : KeepV (w6.alloc (.cells #[.int .i64 3] 3)) (.slice (some ⟨w6.heap.size, 0, none⟩) 1 1) [3] := ⟨_, 1, rfl, fun _ => ⟨_, _, rfl, by simp, fun i hi => by
    have hi0 : i = 0 := by simpa using hi
    subst hi0
    exact Row.cell (Row.new w6 3 [.int .i64 3]) 0 (by simp)⟩⟩
  have hka : KeepA (.slice (some ⟨w6.heap.size, 0, none⟩) 1 1) S6 := by
    intro b off n c e hp hb
    injection e with e1
    injection e1 with e1
    injection e1 with e1
    subst e1
    have := (hJ6.disk.1 _ hb).2
    omega
  have hba := hb6.alloc hb6.size (.cells #[.int .i64 3] 3)
  have hJa := hJ6.below (Below.alloc (Below.refl _ _) (Nat.le_refl _) (.cells #[.int .i64 3] 3))
  have HC := Lib.hid (crash_S (.slice (some ⟨w6.heap.size, 0, none⟩) 1 1) [3] hJa.disk hkv hka)
  have HJa := Lib.hid hJa
  have HS6 := Lib.hid hS6
  have Hba := Lib.hid hba
  clear t hJ6 hb6 hkv hka hJa hS6 hba
  go_wp2_with fail
  refine HC.out.mono ?_
  rintro _ w7 ⟨rfl, hd7, hc7⟩
  rw [Jr.aw_5] at hd7
  have t : JTo _ w7 w.heap.size S6 g q _ (-1) _ := HJa.out.diskTo hd7 hc7
  obtain ⟨S7, hJ7, hS7, hb7⟩ := t.all Hba.out HS6.out hq0
  have HJ7 := Lib.hid hJ7
  have HS7 := Lib.hid hS7
  have Hb7 := Lib.hid hb7
  clear t hJ7 hS7 hb7 hd7 hc7
  go_wp2_with fail
  refine (jopen_up HJ7.out.disk Jr.aw_7).mono ?_
  rintro _ w8 ⟨q2, v2, S8, rfl, hJ8, hq2, _, hP8, hC8, hl8⟩
  rw [Jr.aw_6] at hl8
  have Hb8 := Lib.hid (chg_below hC8 HS7.out Hb7.out)
  have hrow : JAt w8 q g ⟨3, 2, false⟩ := hC8.row HJ7.out.row HJ7.out.out
  obtain ⟨A, c, rfl, hr⟩ := hl8
  obtain ⟨b, rfl, _, _, _, _, hc⟩ := hr (by simp)
  have hcell : w8.cell? ⟨b, 1, none⟩ = some (.string ⟨#[98]⟩) := hc 1 (by simp)
  have k1 := jlen_at hrow
  have k2 := jsynced_at hrow
  have K1 := Lib.hid k1
  have K2 := Lib.hid k2
  clear hJ8 hP8 hC8 hr hc hrow k1 k2
  have hlen2 : ([[97], [98]] : List (List UInt8)).length = 2 := rfl
  rw [hlen2]
  clear hlen2
  go_wp2_with fail
  refine K1.out.mono ?_
  rintro _ w9 ⟨rfl, rfl⟩
  go_wp2_with fail
  refine K2.out.mono ?_
  rintro _ w9 ⟨rfl, rfl⟩
  go_wp2_with fail
  go_ret
  exact ⟨rfl, Hb8.out⟩
end Go.Proofs.YtpphljdnnlfjhaaDoor
