/- mayBe. -/
import Derived.Test.YtoicpidiejhjeaaPlMem
namespace Go.Proofs.Ytoicpidiejhjeaa
open Go.RowKit
set_option linter.unusedVariables false
set_option linter.unusedSimpArgs false
set_option maxRecDepth 100000

theorem number18_any (n : Int) (W : World) : Calls Try.prog 38 #[.int .i64 n] W fun e w' => e = .returned (.bool (decide (Pl.small n))) ∧ W = w' := by
  obtain ⟨r, hr⟩ : ∃ r, decide (Pl.small n) = r := ⟨_, rfl⟩
  rw [hr]
  by_cases h1 : 0 ≤ n
  · have d1 : decide (n < 0) = false := decide_eq_false (by omega)
    have d1' : decide (0 ≤ n) = true := decide_eq_true h1
    by_cases h2 : n ≤ 1099511627776
    · have d2 : decide (n ≤ 1099511627776) = true := decide_eq_true h2
      have hr' : r = true := by rw [← hr]; exact decide_eq_true ⟨h1, h2⟩
      subst hr'
      clear hr h1 h2
      go_enter Try.func38, Try.ntmps38
      go_wp2_with fail
      go_ret
      exact ⟨rfl, rfl⟩
    · have d2 : decide (n ≤ 1099511627776) = false := decide_eq_false h2
      have hr' : r = false := by rw [← hr]; exact decide_eq_false (fun q => by have := q.1; have := q.2; omega)
      subst hr'
      clear hr h1 h2
      go_enter Try.func38, Try.ntmps38
      go_wp2_with fail
      go_ret
      exact ⟨rfl, rfl⟩
  · have d1 : decide (n < 0) = true := decide_eq_true (by omega)
    have d1' : decide (0 ≤ n) = false := decide_eq_false h1
    have hr' : r = false := by rw [← hr]; exact decide_eq_false (fun q => by have := q.1; have := q.2; omega)
    subst hr'
    clear hr h1
    go_enter Try.func38, Try.ntmps38
    go_wp2_with fail
    go_ret
    exact ⟨rfl, rfl⟩
theorem within18_any (n : Int) (W : World) : Calls Try.prog 31 #[.int .i64 n] W fun e w' => e = .returned (.bool (decide (Pl.small n))) ∧ W = w' := by
  obtain ⟨r, hr⟩ : ∃ r, decide (Pl.small n) = r := ⟨_, rfl⟩
  rw [hr]
  by_cases h1 : 0 ≤ n
  · have d1 : decide (n < 0) = false := decide_eq_false (by omega)
    have d1' : decide (0 ≤ n) = true := decide_eq_true h1
    by_cases h2 : n ≤ 1099511627776
    · have d2 : decide (n ≤ 1099511627776) = true := decide_eq_true h2
      have hr' : r = true := by rw [← hr]; exact decide_eq_true ⟨h1, h2⟩
      subst hr'
      clear hr h1 h2
      go_enter Try.func31, Try.ntmps31
      go_wp2_with fail
      go_ret
      exact ⟨rfl, rfl⟩
    · have d2 : decide (n ≤ 1099511627776) = false := decide_eq_false h2
      have hr' : r = false := by rw [← hr]; exact decide_eq_false (fun q => by have := q.1; have := q.2; omega)
      subst hr'
      clear hr h1 h2
      go_enter Try.func31, Try.ntmps31
      go_wp2_with fail
      go_ret
      exact ⟨rfl, rfl⟩
  · have d1 : decide (n < 0) = true := decide_eq_true (by omega)
    have d1' : decide (0 ≤ n) = false := decide_eq_false h1
    have hr' : r = false := by rw [← hr]; exact decide_eq_false (fun q => by have := q.1; have := q.2; omega)
    subst hr'
    clear hr h1
    go_enter Try.func31, Try.ntmps31
    go_wp2_with fail
    go_ret
    exact ⟨rfl, rfl⟩
set_option maxHeartbeats 3200000 in
theorem mayBe_any (w : Wt) (hw : w.Ok) (W : World) : Calls Try.prog 25 #[.agg w.cells.toArray] W fun e w' => e = .returned (.bool (decide (Pl.May w))) ∧ Below W.heap.size W w' := by
  have HB := Lib.hid ((Below.refl W.heap.size W).alloc (Nat.le_refl _) (.cells w.cells.toArray 38))
  have HR := Lib.hid (Row.new W 38 w.cells)
  have HTx := Lib.hid (Wt.tx_range hw (row_range HR.out))
  have HBx := Lib.hid (fun w1 (hr : Row w1 W.heap.size 38 w.cells) => WBox.row hw hr)
  have CK := Lib.hid (fun W1 => check4_any w.tx hw.tx W1)
  have NM := Lib.hid (fun n W1 => number18_any n W1)
  have HT72 := Lib.hid (Tx.cells_length hw.tx)
  have hM : Pl.May w ↔ (w.tx.err = 0 ∧ Pl.small w.ix ∧ Pl.small w.till ∧ Pl.small w.at_ ∧ Pl.small w.place) := Iff.rfl
  obtain ⟨r, hr⟩ : ∃ r, decide (Pl.May w) = r := ⟨_, rfl⟩
  rw [hr]
  have hv : w.tx.v = .agg w.tx.cells.toArray := rfl
  rw [hv] at CK
  clear hw hv
  generalize w.tx.cells = CT at *
  generalize w.cells = C at *
  generalize w.tx.err = en at *
  generalize w.tx.frm = nf at *
  generalize w.tx.nonce = nn at *
  generalize w.tx.fee = ne at *
  generalize w.ix = nix at *
  generalize w.till = ntl at *
  generalize w.at_ = nat at *
  generalize w.place = npl at *
  by_cases h0 : en = 0
  rotate_left
  · have s0x : (en == 0) = false := by simpa using h0
    have hr' : r = false := by rw [← hr, decide_eq_false_iff_not, hM]; exact fun q => h0 q.1
    subst hr'
    clear hr hM h0
    go_enter Try.func25, Try.ntmps25
    go_wp2_with ((with_reducible show wpList _ _ _ (⟨_, .load 36 (.tmp 3), _, _, _, _⟩ :: _) _ _); refine wpList_load_tx rfl 36 (.tmp 3) rfl W.heap.size 0 (rfl) CT _ (HTx.out) Try.underlying36 rfl (by rw [tx_info, HT72.out]) ?_)
    refine (CK.out _).mono ?_
    rintro _ w1 ⟨rfl, hb1⟩
    have HB1 := Lib.hid (two_below' HB.out hb1)
    obtain ⟨_, _, _, c72, c73, c74, c75⟩ := HBx.out w1 (HR.out.below hb1)
    clear hb1
    go_wp2_with fail
    go_ret
    exact ⟨rfl, HB1.out⟩
  have s0x : (en == 0) = true := by simpa using h0
  by_cases h1 : Pl.small nix
  rotate_left
  · have s0 : decide (Pl.small nix) = false := decide_eq_false h1
    have hr' : r = false := by rw [← hr, decide_eq_false_iff_not, hM]; exact fun q => h1 q.2.1
    subst hr'
    clear hr hM h0 h1
    go_enter Try.func25, Try.ntmps25
    go_wp2_with ((with_reducible show wpList _ _ _ (⟨_, .load 36 (.tmp 3), _, _, _, _⟩ :: _) _ _); refine wpList_load_tx rfl 36 (.tmp 3) rfl W.heap.size 0 (rfl) CT _ (HTx.out) Try.underlying36 rfl (by rw [tx_info, HT72.out]) ?_)
    refine (CK.out _).mono ?_
    rintro _ w1 ⟨rfl, hb1⟩
    have HB1 := Lib.hid (two_below' HB.out hb1)
    obtain ⟨_, _, _, c72, c73, c74, c75⟩ := HBx.out w1 (HR.out.below hb1)
    clear hb1
    go_wp2_with fail
    refine (NM.out nix _).mono ?_
    rintro _ w2 ⟨rfl, rfl⟩
    rw [s0]
    go_wp2_with fail
    go_ret
    exact ⟨rfl, HB1.out⟩
  have s0 : decide (Pl.small nix) = true := decide_eq_true h1
  by_cases h2 : Pl.small ntl
  rotate_left
  · have s1 : decide (Pl.small ntl) = false := decide_eq_false h2
    have hr' : r = false := by rw [← hr, decide_eq_false_iff_not, hM]; exact fun q => h2 q.2.2.1
    subst hr'
    clear hr hM h0 h1 h2
    go_enter Try.func25, Try.ntmps25
    go_wp2_with ((with_reducible show wpList _ _ _ (⟨_, .load 36 (.tmp 3), _, _, _, _⟩ :: _) _ _); refine wpList_load_tx rfl 36 (.tmp 3) rfl W.heap.size 0 (rfl) CT _ (HTx.out) Try.underlying36 rfl (by rw [tx_info, HT72.out]) ?_)
    refine (CK.out _).mono ?_
    rintro _ w1 ⟨rfl, hb1⟩
    have HB1 := Lib.hid (two_below' HB.out hb1)
    obtain ⟨_, _, _, c72, c73, c74, c75⟩ := HBx.out w1 (HR.out.below hb1)
    clear hb1
    go_wp2_with fail
    refine (NM.out nix _).mono ?_
    rintro _ w2 ⟨rfl, rfl⟩
    rw [s0]
    go_wp2_with fail
    refine (NM.out ntl _).mono ?_
    rintro _ w2 ⟨rfl, rfl⟩
    rw [s1]
    go_wp2_with fail
    go_ret
    exact ⟨rfl, HB1.out⟩
  have s1 : decide (Pl.small ntl) = true := decide_eq_true h2
  by_cases h3 : Pl.small nat
  rotate_left
  · have s2 : decide (Pl.small nat) = false := decide_eq_false h3
    have hr' : r = false := by rw [← hr, decide_eq_false_iff_not, hM]; exact fun q => h3 q.2.2.2.1
    subst hr'
    clear hr hM h0 h1 h2 h3
    go_enter Try.func25, Try.ntmps25
    go_wp2_with ((with_reducible show wpList _ _ _ (⟨_, .load 36 (.tmp 3), _, _, _, _⟩ :: _) _ _); refine wpList_load_tx rfl 36 (.tmp 3) rfl W.heap.size 0 (rfl) CT _ (HTx.out) Try.underlying36 rfl (by rw [tx_info, HT72.out]) ?_)
    refine (CK.out _).mono ?_
    rintro _ w1 ⟨rfl, hb1⟩
    have HB1 := Lib.hid (two_below' HB.out hb1)
    obtain ⟨_, _, _, c72, c73, c74, c75⟩ := HBx.out w1 (HR.out.below hb1)
    clear hb1
    go_wp2_with fail
    refine (NM.out nix _).mono ?_
    rintro _ w2 ⟨rfl, rfl⟩
    rw [s0]
    go_wp2_with fail
    refine (NM.out ntl _).mono ?_
    rintro _ w2 ⟨rfl, rfl⟩
    rw [s1]
    go_wp2_with fail
    refine (NM.out nat _).mono ?_
    rintro _ w2 ⟨rfl, rfl⟩
    rw [s2]
    go_wp2_with fail
    go_ret
    exact ⟨rfl, HB1.out⟩
  have s2 : decide (Pl.small nat) = true := decide_eq_true h3
  by_cases h4 : Pl.small npl
  rotate_left
  · have s3 : decide (Pl.small npl) = false := decide_eq_false h4
    have hr' : r = false := by rw [← hr, decide_eq_false_iff_not, hM]; exact fun q => h4 q.2.2.2.2
    subst hr'
    clear hr hM h0 h1 h2 h3 h4
    go_enter Try.func25, Try.ntmps25
    go_wp2_with ((with_reducible show wpList _ _ _ (⟨_, .load 36 (.tmp 3), _, _, _, _⟩ :: _) _ _); refine wpList_load_tx rfl 36 (.tmp 3) rfl W.heap.size 0 (rfl) CT _ (HTx.out) Try.underlying36 rfl (by rw [tx_info, HT72.out]) ?_)
    refine (CK.out _).mono ?_
    rintro _ w1 ⟨rfl, hb1⟩
    have HB1 := Lib.hid (two_below' HB.out hb1)
    obtain ⟨_, _, _, c72, c73, c74, c75⟩ := HBx.out w1 (HR.out.below hb1)
    clear hb1
    go_wp2_with fail
    refine (NM.out nix _).mono ?_
    rintro _ w2 ⟨rfl, rfl⟩
    rw [s0]
    go_wp2_with fail
    refine (NM.out ntl _).mono ?_
    rintro _ w2 ⟨rfl, rfl⟩
    rw [s1]
    go_wp2_with fail
    refine (NM.out nat _).mono ?_
    rintro _ w2 ⟨rfl, rfl⟩
    rw [s2]
    go_wp2_with fail
    refine (NM.out npl _).mono ?_
    rintro _ w2 ⟨rfl, rfl⟩
    rw [s3]
    go_wp2_with fail
    go_ret
    exact ⟨rfl, HB1.out⟩
  have s3 : decide (Pl.small npl) = true := decide_eq_true h4
  have hr' : r = true := by rw [← hr, decide_eq_true_eq, hM]; exact ⟨h0, h1, h2, h3, h4⟩
  subst hr'
  clear hr hM h0 h1 h2 h3 h4
  go_enter Try.func25, Try.ntmps25
  go_wp2_with ((with_reducible show wpList _ _ _ (⟨_, .load 36 (.tmp 3), _, _, _, _⟩ :: _) _ _); refine wpList_load_tx rfl 36 (.tmp 3) rfl W.heap.size 0 (rfl) CT _ (HTx.out) Try.underlying36 rfl (by rw [tx_info, HT72.out]) ?_)
  refine (CK.out _).mono ?_
  rintro _ w1 ⟨rfl, hb1⟩
  have HB1 := Lib.hid (two_below' HB.out hb1)
  obtain ⟨_, _, _, c72, c73, c74, c75⟩ := HBx.out w1 (HR.out.below hb1)
  clear hb1
  go_wp2_with fail
  refine (NM.out nix _).mono ?_
  rintro _ w2 ⟨rfl, rfl⟩
  rw [s0]
  go_wp2_with fail
  refine (NM.out ntl _).mono ?_
  rintro _ w2 ⟨rfl, rfl⟩
  rw [s1]
  go_wp2_with fail
  refine (NM.out nat _).mono ?_
  rintro _ w2 ⟨rfl, rfl⟩
  rw [s2]
  go_wp2_with fail
  refine (NM.out npl _).mono ?_
  rintro _ w2 ⟨rfl, rfl⟩
  rw [s3]
  go_wp2_with fail
  go_ret
  exact ⟨rfl, HB1.out⟩
end Go.Proofs.Ytoicpidiejhjeaa
