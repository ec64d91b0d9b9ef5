/- The law TxBack: what its function returns. -/
import Derived.Test.YtdekcicgiflnbaaDoorTxAwk
namespace Go.Proofs.YtdekcicgiflnbaaDoor
open Go.RowKit
set_option linter.unusedVariables false
set_option linter.unusedSimpArgs false

theorem text_tup {t : Tx} (ht : t.Ok) (W : World) : Calls Tryd.prog 16 #[.agg t.cells.toArray] W fun e w' => e = .returned (.tuple #[S t.textE.1, .int .i64 t.textE.2]) ∧ Below W.heap.size W w' := text4_any t ht W
theorem read_no {s : List UInt8} (hs : s.length ≤ 9223372036854775807) (h : Tx.read s = none) (W : World) : Calls Tryd.prog 29 #[S s] W fun e w' => ∃ n : Int, (n != 0) = true ∧ e = .returned (.tuple #[.agg Tx.none.cells.toArray, .int .i64 n]) ∧ Below W.heap.size W w' := by
  have h' := read4_any ⟨s.toArray⟩ W hs
  rw [show (⟨s.toArray⟩ : ByteArray).data.toList = s from rfl, h] at h'
  exact h'.mono fun e w' ⟨⟨n, h1, h2⟩, h3⟩ => ⟨n, h1, h2, h3⟩
theorem zero_same (W : World) : (Op.equalIn 10000 25 (.agg Tx.none.cells.toArray) (.agg Tx.none.arr)).run Tryd.prog W = .ok true W := tx_same W Tx.none_ok
set_option maxRecDepth 20000 in
set_option maxHeartbeats 3200000 in
theorem txBack_any (t : Tx) (ht : t.Ok) (s : List UInt8) (hs : s.length ≤ 9223372036854775807) (w : World) (hT : Tab w) :
    Calls Tryd.prog 5 #[t.v, S s] w fun e w' => e = .returned (.bool true) ∧ Below w.heap.size w w' := by
  have hrng := tx_range (Row.new w 25 t.cells)
  have TX := Lib.hid (text_tup ht)
  have RD : Hid (t.textE.2 = 0 → ∀ W, Calls Tryd.prog 29 #[S t.textE.1] W fun e w' => e = .returned (.tuple #[.agg t.cells.toArray, .int .i64 0]) ∧ Below W.heap.size W w') := fun h => read_call ht (by rw [← h])
  have heq := fun W => tx_same W ht
  have hz := zero_same
  have HD72 := Lib.hid (Tx.cells_length ht)
  have HD1 := Lib.hid (Tx.cells_one ht)
  have HZ72 := Lib.hid (Tx.cells_length Tx.none_ok)
  have HZ1 := Lib.hid (Tx.cells_one Tx.none_ok)
  have hzv := tx_zv
  have HT := Lib.hid hT
  have Hpos := Lib.hid hT.pos
  have Hrng := Lib.hid hrng
  show Calls _ _ #[.agg t.cells.toArray, S s] _ _
  generalize t.cells = C at *
  generalize t.textE = TE at *
  obtain ⟨a, e⟩ := TE
  simp only at RD TX
  clear hT ht hrng
  cases hR : Tx.read s with
  | none =>
    have RS := Lib.hid (read_no hs hR)
    clear hR hs
    by_cases he : e = 0
    · subst he
      have RD' : Hid (∀ W, Calls Tryd.prog 29 #[S a] W fun e w' => e = .returned (.tuple #[.agg C.toArray, .int .i64 0]) ∧ Below W.heap.size W w') := RD.out rfl
      clear RD
      go_enter Tryd.func5, Tryd.ntmps5
      go_wp2_with (with_reducible show wpList _ _ _ (⟨_, .load 25 _, _, _, _, _⟩ :: _) _ _; refine wpList_load_tx rfl 25 (.tmp 2) rfl w.heap.size 0 rfl C _ Hrng.out Tryd.underlying25 rfl (by rw [tx_info, HD72.out]) ?_)
      refine calls_named ?_
      intro w1 hw1
      have hq1 : Row w1 w.heap.size 25 C := by rw [hw1]; exact Row.new w 25 C
      have hb1 : Below w.heap.size w w1 := by rw [hw1]; exact (Below.refl w.heap.size w).alloc (Nat.le_refl _) _
      clear hw1
      refine (TX.out w1).mono ?_
      rintro _ w2 ⟨rfl, hb2⟩
      have Hq2 := Lib.hid (hq1.kept (grownBy_of_below hb2 none) (by simp))
      have Hb2 := Lib.hid (two_below' hb1 hb2)
      clear hb1 hb2 hq1
      go_wp2_with fail
      refine (awake4_any w2 (HT.out.below Hb2.out Hpos.out)).mono ?_
      rintro _ w3 ⟨rfl, hb3⟩
      have Hq3 := Lib.hid (Hq2.out.kept (grownBy_of_below hb3 none) (by simp))
      have Hb3 := Lib.hid (two_below' Hb2.out hb3)
      clear hb3
      go_wp2_with fail
      refine (RD'.out w3).mono ?_
      rintro _ w4 ⟨rfl, hb4⟩
      have hq4 := Hq3.out.kept (grownBy_of_below hb4 none) (by simp)
      have hne4 : w.heap.size ≠ w4.heap.size := by have := hq4.lt; omega
      have Hq4 := Lib.hid hq4
      have Hb4 := Lib.hid (two_below' Hb3.out hb4)
      clear hb4 hq4
      go_wp2_with (first
        | (with_reducible show wpList _ _ _ (⟨_, .store 25 _ _, _, _, _, _⟩ :: _) _ _
           refine wpList_store_at rfl 25 (.tmp 7) (.tmp 25) rfl w4.heap.size 0 C _ _ rfl rfl (Row.new w4 25 Tx.none.cells) (by have := HZ72.out; have := HD72.out; omega) (by rw [tx_info, HD72.out]) HD1.out ?_
           intro w5 hr5 hg5
           rw [splice_all (HD72.out.trans HZ72.out.symm)] at hr5
           have Hp5 := Lib.hid hr5
           have Hq5 := Lib.hid ((Hq4.out.kept (grownBy_alloc w4 _ none) (by simp)).kept hg5 (by simpa using hne4))
           have Hb5 := Lib.hid (below_own (Hb4.out.alloc Hb4.out.size _) hg5 (fun k hk => by cases hk; exact Hb4.out.size))
           clear hr5 hg5)
        | (with_reducible show wpList _ _ _ (⟨_, .load 25 (.tmp 7), _, _, _, _⟩ :: _) _ _; refine wpList_load_tx rfl 25 (.tmp 7) rfl w4.heap.size 0 rfl C _ (row_range Hp5.out) Tryd.underlying25 rfl (by rw [tx_info, HD72.out]) ?_)
        | (with_reducible show wpList _ _ _ (⟨_, .load 25 (.tmp 2), _, _, _, _⟩ :: _) _ _; refine wpList_load_tx rfl 25 (.tmp 2) rfl w.heap.size 0 rfl C _ (row_range Hq5.out) Tryd.underlying25 rfl (by rw [tx_info, HD72.out]) ?_))
      refine (RS.out w5).mono ?_
      rintro _ w6 ⟨n, hn, rfl, hb6⟩
      have Hn := Lib.hid hn
      have Hb6 := Lib.hid (two_below' Hb5.out hb6)
      clear hb6
      go_wp2_with (first
        | (with_reducible show wpList _ _ _ (⟨_, .store 25 _ _, _, _, _, _⟩ :: _) _ _
           refine wpList_store_at rfl 25 (.tmp 9) (.tmp 37) rfl w6.heap.size 0 Tx.none.cells _ _ rfl rfl (Row.new w6 25 Tx.none.cells) (by have := HZ72.out; have := HZ72.out; omega) (by rw [tx_info, HZ72.out]) HZ1.out ?_
           intro w7 hr7 hg7
           rw [splice_all (HZ72.out.trans HZ72.out.symm)] at hr7
           have Hp7 := Lib.hid hr7
           have Hb7 := Lib.hid (below_own (Hb6.out.alloc Hb6.out.size _) hg7 (fun k hk => by cases hk; exact Hb6.out.size))
           clear hr7 hg7)
        | (with_reducible show wpList _ _ _ (⟨_, .load 25 (.tmp 9), _, _, _, _⟩ :: _) _ _; refine wpList_load_tx rfl 25 (.tmp 9) rfl w6.heap.size 0 rfl Tx.none.cells _ (row_range Hp7.out) Tryd.underlying25 rfl (by rw [tx_info, HZ72.out]) ?_))
      go_ret
      exact ⟨rfl, Hb7.out⟩
    · have hed : (e == 0) = false := by simpa using he
      clear he RD
      go_enter Tryd.func5, Tryd.ntmps5
      go_wp2_with (with_reducible show wpList _ _ _ (⟨_, .load 25 _, _, _, _, _⟩ :: _) _ _; refine wpList_load_tx rfl 25 (.tmp 2) rfl w.heap.size 0 rfl C _ Hrng.out Tryd.underlying25 rfl (by rw [tx_info, HD72.out]) ?_)
      refine calls_named ?_
      intro w1 hw1
      have hq1 : Row w1 w.heap.size 25 C := by rw [hw1]; exact Row.new w 25 C
      have hb1 : Below w.heap.size w w1 := by rw [hw1]; exact (Below.refl w.heap.size w).alloc (Nat.le_refl _) _
      clear hw1
      refine (TX.out w1).mono ?_
      rintro _ w2 ⟨rfl, hb2⟩
      have Hq2 := Lib.hid (hq1.kept (grownBy_of_below hb2 none) (by simp))
      have Hb2 := Lib.hid (two_below' hb1 hb2)
      clear hb1 hb2 hq1
      go_wp2_with fail
      refine (awake4_any w2 (HT.out.below Hb2.out Hpos.out)).mono ?_
      rintro _ w3 ⟨rfl, hb3⟩
      have Hq3 := Lib.hid (Hq2.out.kept (grownBy_of_below hb3 none) (by simp))
      have Hb3 := Lib.hid (two_below' Hb2.out hb3)
      clear hb3
      go_wp2_with fail
      refine (RS.out w3).mono ?_
      rintro _ w6 ⟨n, hn, rfl, hb6⟩
      have Hn := Lib.hid hn
      have Hb6 := Lib.hid (two_below' Hb3.out hb6)
      clear hb6
      go_wp2_with (first
        | (with_reducible show wpList _ _ _ (⟨_, .store 25 _ _, _, _, _, _⟩ :: _) _ _
           refine wpList_store_at rfl 25 (.tmp 9) (.tmp 37) rfl w6.heap.size 0 Tx.none.cells _ _ rfl rfl (Row.new w6 25 Tx.none.cells) (by have := HZ72.out; have := HZ72.out; omega) (by rw [tx_info, HZ72.out]) HZ1.out ?_
           intro w7 hr7 hg7
           rw [splice_all (HZ72.out.trans HZ72.out.symm)] at hr7
           have Hp7 := Lib.hid hr7
           have Hb7 := Lib.hid (below_own (Hb6.out.alloc Hb6.out.size _) hg7 (fun k hk => by cases hk; exact Hb6.out.size))
           clear hr7 hg7)
        | (with_reducible show wpList _ _ _ (⟨_, .load 25 (.tmp 9), _, _, _, _⟩ :: _) _ _; refine wpList_load_tx rfl 25 (.tmp 9) rfl w6.heap.size 0 rfl Tx.none.cells _ (row_range Hp7.out) Tryd.underlying25 rfl (by rw [tx_info, HZ72.out]) ?_))
      go_ret
      exact ⟨rfl, Hb7.out⟩
  | some v =>
    obtain ⟨hvo, hvt⟩ := Tx.text_read hR
    have RS := Lib.hid (read_call hvo hvt)
    have TV := Lib.hid (text_call hvo hvt)
    have HV72 := Lib.hid (Tx.cells_length hvo)
    have HV1 := Lib.hid (Tx.cells_one hvo)
    generalize v.cells = V at *
    clear hR hs hvo hvt
    by_cases he : e = 0
    · subst he
      have RD' : Hid (∀ W, Calls Tryd.prog 29 #[S a] W fun e w' => e = .returned (.tuple #[.agg C.toArray, .int .i64 0]) ∧ Below W.heap.size W w') := RD.out rfl
      clear RD
      go_enter Tryd.func5, Tryd.ntmps5
      go_wp2_with (with_reducible show wpList _ _ _ (⟨_, .load 25 _, _, _, _, _⟩ :: _) _ _; refine wpList_load_tx rfl 25 (.tmp 2) rfl w.heap.size 0 rfl C _ Hrng.out Tryd.underlying25 rfl (by rw [tx_info, HD72.out]) ?_)
      refine calls_named ?_
      intro w1 hw1
      have hq1 : Row w1 w.heap.size 25 C := by rw [hw1]; exact Row.new w 25 C
      have hb1 : Below w.heap.size w w1 := by rw [hw1]; exact (Below.refl w.heap.size w).alloc (Nat.le_refl _) _
      clear hw1
      refine (TX.out w1).mono ?_
      rintro _ w2 ⟨rfl, hb2⟩
      have Hq2 := Lib.hid (hq1.kept (grownBy_of_below hb2 none) (by simp))
      have Hb2 := Lib.hid (two_below' hb1 hb2)
      clear hb1 hb2 hq1
      go_wp2_with fail
      refine (awake4_any w2 (HT.out.below Hb2.out Hpos.out)).mono ?_
      rintro _ w3 ⟨rfl, hb3⟩
      have Hq3 := Lib.hid (Hq2.out.kept (grownBy_of_below hb3 none) (by simp))
      have Hb3 := Lib.hid (two_below' Hb2.out hb3)
      clear hb3
      go_wp2_with fail
      refine (RD'.out w3).mono ?_
      rintro _ w4 ⟨rfl, hb4⟩
      have hq4 := Hq3.out.kept (grownBy_of_below hb4 none) (by simp)
      have hne4 : w.heap.size ≠ w4.heap.size := by have := hq4.lt; omega
      have Hq4 := Lib.hid hq4
      have Hb4 := Lib.hid (two_below' Hb3.out hb4)
      clear hb4 hq4
      go_wp2_with (first
        | (with_reducible show wpList _ _ _ (⟨_, .store 25 _ _, _, _, _, _⟩ :: _) _ _
           refine wpList_store_at rfl 25 (.tmp 7) (.tmp 25) rfl w4.heap.size 0 C _ _ rfl rfl (Row.new w4 25 Tx.none.cells) (by have := HZ72.out; have := HD72.out; omega) (by rw [tx_info, HD72.out]) HD1.out ?_
           intro w5 hr5 hg5
           rw [splice_all (HD72.out.trans HZ72.out.symm)] at hr5
           have Hp5 := Lib.hid hr5
           have Hq5 := Lib.hid ((Hq4.out.kept (grownBy_alloc w4 _ none) (by simp)).kept hg5 (by simpa using hne4))
           have Hb5 := Lib.hid (below_own (Hb4.out.alloc Hb4.out.size _) hg5 (fun k hk => by cases hk; exact Hb4.out.size))
           clear hr5 hg5)
        | (with_reducible show wpList _ _ _ (⟨_, .load 25 (.tmp 7), _, _, _, _⟩ :: _) _ _; refine wpList_load_tx rfl 25 (.tmp 7) rfl w4.heap.size 0 rfl C _ (row_range Hp5.out) Tryd.underlying25 rfl (by rw [tx_info, HD72.out]) ?_)
        | (with_reducible show wpList _ _ _ (⟨_, .load 25 (.tmp 2), _, _, _, _⟩ :: _) _ _; refine wpList_load_tx rfl 25 (.tmp 2) rfl w.heap.size 0 rfl C _ (row_range Hq5.out) Tryd.underlying25 rfl (by rw [tx_info, HD72.out]) ?_))
      refine (RS.out w5).mono ?_
      rintro _ w6 ⟨rfl, hb6⟩
      have Hb6 := Lib.hid (two_below' Hb5.out hb6)
      clear hb6
      go_wp2_with (first
        | (with_reducible show wpList _ _ _ (⟨_, .store 25 _ _, _, _, _, _⟩ :: _) _ _
           refine wpList_store_at rfl 25 (.tmp 9) (.tmp 37) rfl w6.heap.size 0 V _ _ rfl rfl (Row.new w6 25 Tx.none.cells) (by have := HZ72.out; have := HV72.out; omega) (by rw [tx_info, HV72.out]) HV1.out ?_
           intro w7 hr7 hg7
           rw [splice_all (HV72.out.trans HZ72.out.symm)] at hr7
           have Hp7 := Lib.hid hr7
           have Hb7 := Lib.hid (below_own (Hb6.out.alloc Hb6.out.size _) hg7 (fun k hk => by cases hk; exact Hb6.out.size))
           clear hr7 hg7)
        | (with_reducible show wpList _ _ _ (⟨_, .load 25 (.tmp 9), _, _, _, _⟩ :: _) _ _; refine wpList_load_tx rfl 25 (.tmp 9) rfl w6.heap.size 0 rfl V _ (row_range Hp7.out) Tryd.underlying25 rfl (by rw [tx_info, HV72.out]) ?_))
      refine (TV.out w7).mono ?_
      rintro _ w8 ⟨rfl, hb8⟩
      have Hb8 := Lib.hid (two_below' Hb7.out hb8)
      clear hb8
      go_wp2_with fail
      go_ret
      exact ⟨rfl, Hb8.out⟩
    · have hed : (e == 0) = false := by simpa using he
      clear he RD
      go_enter Tryd.func5, Tryd.ntmps5
      go_wp2_with (with_reducible show wpList _ _ _ (⟨_, .load 25 _, _, _, _, _⟩ :: _) _ _; refine wpList_load_tx rfl 25 (.tmp 2) rfl w.heap.size 0 rfl C _ Hrng.out Tryd.underlying25 rfl (by rw [tx_info, HD72.out]) ?_)
      refine calls_named ?_
      intro w1 hw1
      have hq1 : Row w1 w.heap.size 25 C := by rw [hw1]; exact Row.new w 25 C
      have hb1 : Below w.heap.size w w1 := by rw [hw1]; exact (Below.refl w.heap.size w).alloc (Nat.le_refl _) _
      clear hw1
      refine (TX.out w1).mono ?_
      rintro _ w2 ⟨rfl, hb2⟩
      have Hq2 := Lib.hid (hq1.kept (grownBy_of_below hb2 none) (by simp))
      have Hb2 := Lib.hid (two_below' hb1 hb2)
      clear hb1 hb2 hq1
      go_wp2_with fail
      refine (awake4_any w2 (HT.out.below Hb2.out Hpos.out)).mono ?_
      rintro _ w3 ⟨rfl, hb3⟩
      have Hq3 := Lib.hid (Hq2.out.kept (grownBy_of_below hb3 none) (by simp))
      have Hb3 := Lib.hid (two_below' Hb2.out hb3)
      clear hb3
      go_wp2_with fail
      refine (RS.out w3).mono ?_
      rintro _ w6 ⟨rfl, hb6⟩
      have Hb6 := Lib.hid (two_below' Hb3.out hb6)
      clear hb6
      go_wp2_with (first
        | (with_reducible show wpList _ _ _ (⟨_, .store 25 _ _, _, _, _, _⟩ :: _) _ _
           refine wpList_store_at rfl 25 (.tmp 9) (.tmp 37) rfl w6.heap.size 0 V _ _ rfl rfl (Row.new w6 25 Tx.none.cells) (by have := HZ72.out; have := HV72.out; omega) (by rw [tx_info, HV72.out]) HV1.out ?_
           intro w7 hr7 hg7
           rw [splice_all (HV72.out.trans HZ72.out.symm)] at hr7
           have Hp7 := Lib.hid hr7
           have Hb7 := Lib.hid (below_own (Hb6.out.alloc Hb6.out.size _) hg7 (fun k hk => by cases hk; exact Hb6.out.size))
           clear hr7 hg7)
        | (with_reducible show wpList _ _ _ (⟨_, .load 25 (.tmp 9), _, _, _, _⟩ :: _) _ _; refine wpList_load_tx rfl 25 (.tmp 9) rfl w6.heap.size 0 rfl V _ (row_range Hp7.out) Tryd.underlying25 rfl (by rw [tx_info, HV72.out]) ?_))
      refine (TV.out w7).mono ?_
      rintro _ w8 ⟨rfl, hb8⟩
      have Hb8 := Lib.hid (two_below' Hb7.out hb8)
      clear hb8
      go_wp2_with fail
      go_ret
      exact ⟨rfl, Hb8.out⟩
end Go.Proofs.YtdekcicgiflnbaaDoor
