/- The law TxStays: what its function returns. -/
import Derived.Test.YtdekcicgiflnbaaDoorTxLaw1
namespace Go.Proofs.YtdekcicgiflnbaaDoor
open Go.RowKit
set_option linter.unusedVariables false
set_option linter.unusedSimpArgs false

theorem check_tup {t : Tx} (ht : t.Ok) (h : t.err = 0) (W : World) : Calls Tryd.prog 21 #[.agg t.cells.toArray] W fun e w' => e = .returned (.int .i64 0) ∧ Below W.heap.size W w' := by
  have h' := check4_any t ht W
  rw [h] at h'
  exact h'
theorem sign_tup {t u : Tx} {n : Int} (ht : t.Ok) (h : t.signE = (u, n)) (W : World) (hW : Tab W) : Calls Tryd.prog 23 #[.agg t.cells.toArray] W fun e w' => e = .returned (.tuple #[.agg u.cells.toArray, .int .i64 n]) ∧ Below W.heap.size W w' := by
  have h' := sign4_any t ht W hW
  rw [h] at h'
  exact h'
theorem hand_tup {t u : Tx} {n who : Int} (ht : t.Ok) (h : t.handE who = (u, n)) (W : World) (hW : Tab W) : Calls Tryd.prog 25 #[.agg t.cells.toArray, .int .i64 who] W fun e w' => e = .returned (.tuple #[.agg u.cells.toArray, .int .i64 n]) ∧ Below W.heap.size W w' := by
  have h' := hand4_any t ht who W hW
  rw [h] at h'
  exact h'
theorem hash_same (R : List UInt8) (h : R.length = 32) (W : World) : (Op.equalIn 10000 23 (.agg (bRow R)) (.agg (bRow R))).run Tryd.prog W = .ok true W := (hash_eq W R R h h).trans (by rw [decide_eq_true rfl])
theorem Tx.hand_cases {u : Tx} (hu : u.Ok) (hb : u.bodyE.2 = 0) (hs : u.signedE = 0) (who : Int) : (∃ n : Int, (n != 0) = true ∧ u.handE who = (Tx.none, n)) ∨ ∃ v : Tx, v.Ok ∧ u.handE who = (v, 0) ∧ v.signedE = 0 ∧ v.err = 0 ∧ v.tag = u.tag := by
  unfold Tx.handE
  rw [if_neg (by simp [hb])]
  rcases Bool.eq_false_or_eq_true (Tx.acct who) with ha | ha
  · rw [if_neg (by rw [ha]; simp)]
    rcases Bool.eq_false_or_eq_true u.lane with hl | hl
    · rw [if_neg (by rw [hl]; simp)]
      refine .inr ⟨u.hand who, Tx.hand_ok hu who, ?_, ?_, ?_, rfl⟩
      · exact congrArg (fun n => (u.hand who, n)) (hand_err0 ha)
      · rw [Tx.hand_signed who hl]; exact hs
      · rw [Tx.hand_err who hl]; exact Tx.body_err hb
    · rw [if_pos hl]
      exact .inl ⟨2, rfl, rfl⟩
  · rw [if_pos ha]
    exact .inl ⟨20, rfl, rfl⟩
set_option maxRecDepth 20000 in
set_option maxHeartbeats 3200000 in
theorem txStays_any (t : Tx) (ht : t.Ok) (who : Int) (w : World) (hT : Tab w) :
    Calls Tryd.prog 6 #[t.v, .int .i64 who] w fun e w' => e = .returned (.bool true) ∧ Below w.heap.size w w' := by
  have hrng := tx_range (Row.new w 25 t.cells)
  have hz := zero_same
  have HD72 := Lib.hid (Tx.cells_length ht)
  have HZ72 := Lib.hid (Tx.cells_length Tx.none_ok)
  have HZ1 := Lib.hid (Tx.cells_one Tx.none_ok)
  have hzv := tx_zv
  have HT := Lib.hid hT
  have Hpos := Lib.hid hT.pos
  have Hrng := Lib.hid hrng
  clear hT hrng
  show Calls _ _ #[.agg t.cells.toArray, .int .i64 who] _ _
  by_cases hb : t.bodyE.2 = 0
  · obtain ⟨u, hu⟩ : ∃ u, u = t.sign := ⟨_, rfl⟩
    have hsg : t.signE = (u, 0) := by rw [hu]; exact (if_pos hb).trans (congrArg (fun n => (t.sign, n)) (sign_err0 hb))
    have huo : u.Ok := by rw [hu]; exact Tx.sign_ok ht
    have hub : u.bodyE.2 = 0 := by rw [hu, Tx.sign_body]; exact hb
    have hus : u.signedE = 0 := by rw [hu]; exact Tx.sign_signed hb
    have hue : u.err = 0 := Tx.body_err hub
    have SG := Lib.hid (sign_tup ht hsg)
    have SU := Lib.hid (signed_call huo hus)
    have CU := Lib.hid (check_tup huo hue)
    have HU72 := Lib.hid (Tx.cells_length huo)
    have HU1 := Lib.hid (Tx.cells_one huo)
    have HUT := Lib.hid (fun (W : World) (g : Nat) (h : Row W g 25 u.cells) => (tx_hash_at huo h).2)
    have hutl := huo.tag
    rcases Tx.hand_cases huo hub hus who with ⟨n, hn, hh⟩ | ⟨v, hvo, hh, hvs, hve, hvt⟩
    · have HA := Lib.hid (hand_tup huo hh)
      generalize t.cells = C at *
      generalize u.cells = U at *
      clear hsg huo hub hus hue hb ht hh hu hutl HUT
      have Hn := Lib.hid hn
      go_enter Tryd.func6, Tryd.ntmps6
      go_wp2_with (with_reducible show wpList _ _ _ (⟨_, .load 25 _, _, _, _, _⟩ :: _) _ _; refine wpList_load_tx rfl 25 (.tmp 2) rfl w.heap.size 0 rfl C _ Hrng.out Tryd.underlying25 rfl (by rw [tx_info, HD72.out]) ?_)
      refine calls_named ?_
      intro w1 hw1
      have hb1 : Below w.heap.size w w1 := by rw [hw1]; exact (Below.refl w.heap.size w).alloc (Nat.le_refl _) _
      clear hw1
      refine (SG.out w1 (HT.out.below hb1 Hpos.out)).mono ?_
      rintro _ w2 ⟨rfl, hb2⟩
      have Hb2 := Lib.hid (two_below' hb1 hb2)
      clear hb1 hb2
      go_wp2_with (first
        | (with_reducible show wpList _ _ _ (⟨_, .store 25 _ _, _, _, _, _⟩ :: _) _ _
           refine wpList_store_at rfl 25 (.tmp 5) (.tmp 12) rfl w2.heap.size 0 U _ _ rfl rfl (Row.new w2 25 Tx.none.cells) (by have := HZ72.out; have := HU72.out; omega) (by rw [tx_info, HU72.out]) HU1.out ?_
           intro w3 hr3 hg3
           rw [splice_all (HU72.out.trans HZ72.out.symm)] at hr3
           have Hp3 := Lib.hid hr3
           have Hb3 := Lib.hid (below_own (Hb2.out.alloc Hb2.out.size _) hg3 (fun k hk => by cases hk; exact Hb2.out.size))
           clear hr3 hg3))
      refine (awake4_any w3 (HT.out.below Hb3.out Hpos.out)).mono ?_
      rintro _ w4 ⟨rfl, hb4⟩
      have Hp4 := Lib.hid (Hp3.out.kept (grownBy_of_below hb4 none) (by simp))
      have Hb4 := Lib.hid (two_below' Hb3.out hb4)
      clear hb4
      have Hu4 := Hp4
      go_wp2_with (with_reducible show wpList _ _ _ (⟨_, .load 25 (.tmp 5), _, _, _, _⟩ :: _) _ _; refine wpList_load_tx rfl 25 (.tmp 5) rfl w2.heap.size 0 rfl U _ (row_range Hp4.out) Tryd.underlying25 rfl (by rw [tx_info, HU72.out]) ?_)
      refine (HA.out w4 (HT.out.below Hb4.out Hpos.out)).mono ?_
      rintro _ w5 ⟨rfl, hb5⟩
      have Hu5 := Lib.hid (Hu4.out.kept (grownBy_of_below hb5 none) (by simp))
      have Hb5 := Lib.hid (two_below' Hb4.out hb5)
      clear hb5
      have hne5 : w2.heap.size ≠ w5.heap.size := by have := Hu5.out.lt; omega
      go_wp2_with (first
        | (with_reducible show wpList _ _ _ (⟨_, .store 25 _ _, _, _, _, _⟩ :: _) _ _
           refine wpList_store_at rfl 25 (.tmp 7) (.tmp 30) rfl w5.heap.size 0 Tx.none.cells _ _ rfl rfl (Row.new w5 25 Tx.none.cells) (by have := HZ72.out; have := HZ72.out; omega) (by rw [tx_info, HZ72.out]) HZ1.out ?_
           intro w6 hr6 hg6
           rw [splice_all (HZ72.out.trans HZ72.out.symm)] at hr6
           have Hp6 := Lib.hid hr6
           have Hu6 := Lib.hid ((Hu5.out.kept (grownBy_alloc w5 _ none) (by simp)).kept hg6 (by simpa using hne5))
           have Hb6 := Lib.hid (below_own (Hb5.out.alloc Hb5.out.size _) hg6 (fun k hk => by cases hk; exact Hb5.out.size))
           clear hr6 hg6)
        | (with_reducible show wpList _ _ _ (⟨_, .load 25 (.tmp 5), _, _, _, _⟩ :: _) _ _; refine wpList_load_tx rfl 25 (.tmp 5) rfl w2.heap.size 0 rfl U _ (row_range Hu6.out) Tryd.underlying25 rfl (by rw [tx_info, HU72.out]) ?_))
      refine (SU.out w6 (HT.out.below Hb6.out Hpos.out)).mono ?_
      rintro _ w7 ⟨rfl, hb7⟩
      have Hu7 := Lib.hid (Hu6.out.kept (grownBy_of_below hb7 none) (by simp))
      have Hp7 := Lib.hid (Hp6.out.kept (grownBy_of_below hb7 none) (by simp))
      have Hb7 := Lib.hid (two_below' Hb6.out hb7)
      clear hb7
      go_wp2_with (with_reducible show wpList _ _ _ (⟨_, .load 25 (.tmp 5), _, _, _, _⟩ :: _) _ _; refine wpList_load_tx rfl 25 (.tmp 5) rfl w2.heap.size 0 rfl U _ (row_range Hu7.out) Tryd.underlying25 rfl (by rw [tx_info, HU72.out]) ?_)
      refine (CU.out w7).mono ?_
      rintro _ w8 ⟨rfl, hb8⟩
      have Hu8 := Lib.hid (Hu7.out.kept (grownBy_of_below hb8 none) (by simp))
      have Hp8 := Lib.hid (Hp7.out.kept (grownBy_of_below hb8 none) (by simp))
      have Hb8 := Lib.hid (two_below' Hb7.out hb8)
      clear hb8
      go_wp2_with (with_reducible show wpList _ _ _ (⟨_, .load 25 (.tmp 7), _, _, _, _⟩ :: _) _ _; refine wpList_load_tx rfl 25 (.tmp 7) rfl w5.heap.size 0 rfl Tx.none.cells _ (row_range Hp8.out) Tryd.underlying25 rfl (by rw [tx_info, HZ72.out]) ?_)
      go_ret
      exact ⟨rfl, Hb8.out⟩
    · have HA := Lib.hid (hand_tup huo hh)
      have SV := Lib.hid (signed_call hvo hvs)
      have CV := Lib.hid (check_tup hvo hve)
      have HV72 := Lib.hid (Tx.cells_length hvo)
      have HV1 := Lib.hid (Tx.cells_one hvo)
      have HVT := Lib.hid (fun (W : World) (g : Nat) (h : Row W g 25 v.cells) => (tx_hash_at hvo h).2)
      rw [hvt] at HVT
      have hhs := hash_same u.tag hutl
      have HB32 := Lib.hid (Tx.bRow_len u.tag hutl)
      generalize t.cells = C at *
      generalize u.cells = U at *
      generalize v.cells = V at *
      generalize u.tag = R at *
      clear hsg huo hub hus hue hb ht hh hu hutl hvo hvs hve hvt
      go_enter Tryd.func6, Tryd.ntmps6
      go_wp2_with (with_reducible show wpList _ _ _ (⟨_, .load 25 _, _, _, _, _⟩ :: _) _ _; refine wpList_load_tx rfl 25 (.tmp 2) rfl w.heap.size 0 rfl C _ Hrng.out Tryd.underlying25 rfl (by rw [tx_info, HD72.out]) ?_)
      refine calls_named ?_
      intro w1 hw1
      have hb1 : Below w.heap.size w w1 := by rw [hw1]; exact (Below.refl w.heap.size w).alloc (Nat.le_refl _) _
      clear hw1
      refine (SG.out w1 (HT.out.below hb1 Hpos.out)).mono ?_
      rintro _ w2 ⟨rfl, hb2⟩
      have Hb2 := Lib.hid (two_below' hb1 hb2)
      clear hb1 hb2
      go_wp2_with (first
        | (with_reducible show wpList _ _ _ (⟨_, .store 25 _ _, _, _, _, _⟩ :: _) _ _
           refine wpList_store_at rfl 25 (.tmp 5) (.tmp 12) rfl w2.heap.size 0 U _ _ rfl rfl (Row.new w2 25 Tx.none.cells) (by have := HZ72.out; have := HU72.out; omega) (by rw [tx_info, HU72.out]) HU1.out ?_
           intro w3 hr3 hg3
           rw [splice_all (HU72.out.trans HZ72.out.symm)] at hr3
           have Hp3 := Lib.hid hr3
           have Hb3 := Lib.hid (below_own (Hb2.out.alloc Hb2.out.size _) hg3 (fun k hk => by cases hk; exact Hb2.out.size))
           clear hr3 hg3))
      refine (awake4_any w3 (HT.out.below Hb3.out Hpos.out)).mono ?_
      rintro _ w4 ⟨rfl, hb4⟩
      have Hp4 := Lib.hid (Hp3.out.kept (grownBy_of_below hb4 none) (by simp))
      have Hb4 := Lib.hid (two_below' Hb3.out hb4)
      clear hb4
      have Hu4 := Hp4
      go_wp2_with (with_reducible show wpList _ _ _ (⟨_, .load 25 (.tmp 5), _, _, _, _⟩ :: _) _ _; refine wpList_load_tx rfl 25 (.tmp 5) rfl w2.heap.size 0 rfl U _ (row_range Hp4.out) Tryd.underlying25 rfl (by rw [tx_info, HU72.out]) ?_)
      refine (HA.out w4 (HT.out.below Hb4.out Hpos.out)).mono ?_
      rintro _ w5 ⟨rfl, hb5⟩
      have Hu5 := Lib.hid (Hu4.out.kept (grownBy_of_below hb5 none) (by simp))
      have Hb5 := Lib.hid (two_below' Hb4.out hb5)
      clear hb5
      have hne5 : w2.heap.size ≠ w5.heap.size := by have := Hu5.out.lt; omega
      go_wp2_with (first
        | (with_reducible show wpList _ _ _ (⟨_, .store 25 _ _, _, _, _, _⟩ :: _) _ _
           refine wpList_store_at rfl 25 (.tmp 7) (.tmp 30) rfl w5.heap.size 0 V _ _ rfl rfl (Row.new w5 25 Tx.none.cells) (by have := HZ72.out; have := HV72.out; omega) (by rw [tx_info, HV72.out]) HV1.out ?_
           intro w6 hr6 hg6
           rw [splice_all (HV72.out.trans HZ72.out.symm)] at hr6
           have Hp6 := Lib.hid hr6
           have Hu6 := Lib.hid ((Hu5.out.kept (grownBy_alloc w5 _ none) (by simp)).kept hg6 (by simpa using hne5))
           have Hb6 := Lib.hid (below_own (Hb5.out.alloc Hb5.out.size _) hg6 (fun k hk => by cases hk; exact Hb5.out.size))
           clear hr6 hg6)
        | (with_reducible show wpList _ _ _ (⟨_, .load 25 (.tmp 5), _, _, _, _⟩ :: _) _ _; refine wpList_load_tx rfl 25 (.tmp 5) rfl w2.heap.size 0 rfl U _ (row_range Hu6.out) Tryd.underlying25 rfl (by rw [tx_info, HU72.out]) ?_))
      refine (SU.out w6 (HT.out.below Hb6.out Hpos.out)).mono ?_
      rintro _ w7 ⟨rfl, hb7⟩
      have Hu7 := Lib.hid (Hu6.out.kept (grownBy_of_below hb7 none) (by simp))
      have Hp7 := Lib.hid (Hp6.out.kept (grownBy_of_below hb7 none) (by simp))
      have Hb7 := Lib.hid (two_below' Hb6.out hb7)
      clear hb7
      go_wp2_with (with_reducible show wpList _ _ _ (⟨_, .load 25 (.tmp 7), _, _, _, _⟩ :: _) _ _; refine wpList_load_tx rfl 25 (.tmp 7) rfl w5.heap.size 0 rfl V _ (row_range Hp7.out) Tryd.underlying25 rfl (by rw [tx_info, HV72.out]) ?_)
      refine (SV.out w7 (HT.out.below Hb7.out Hpos.out)).mono ?_
      rintro _ w8 ⟨rfl, hb8⟩
      have Hu8 := Lib.hid (Hu7.out.kept (grownBy_of_below hb8 none) (by simp))
      have Hp8 := Lib.hid (Hp7.out.kept (grownBy_of_below hb8 none) (by simp))
      have Hb8 := Lib.hid (two_below' Hb7.out hb8)
      clear hb8
      go_wp2_with (first
        | (with_reducible show wpList _ _ _ (⟨_, .load 23 (.tmp 56), _, _, _, _⟩ :: _) _ _; refine wpList_load_tx rfl 23 (.tmp 56) rfl w5.heap.size 40 rfl (bRow R).toList _ (HVT.out _ _ Hp8.out) Tryd.underlying23 rfl (by rw [hash_info, HB32.out]) ?_)
        | (with_reducible show wpList _ _ _ (⟨_, .load 23 (.tmp 58), _, _, _, _⟩ :: _) _ _; refine wpList_load_tx rfl 23 (.tmp 58) rfl w2.heap.size 40 rfl (bRow R).toList _ (HUT.out _ _ Hu8.out) Tryd.underlying23 rfl (by rw [hash_info, HB32.out]) ?_)
        | (with_reducible show wpList _ _ _ (⟨_, .load 25 (.tmp 7), _, _, _, _⟩ :: _) _ _; refine wpList_load_tx rfl 25 (.tmp 7) rfl w5.heap.size 0 rfl V _ (row_range Hp8.out) Tryd.underlying25 rfl (by rw [tx_info, HV72.out]) ?_))
      refine (CV.out w8).mono ?_
      rintro _ w9 ⟨rfl, hb9⟩
      have Hu9 := Lib.hid (Hu8.out.kept (grownBy_of_below hb9 none) (by simp))
      have Hp9 := Lib.hid (Hp8.out.kept (grownBy_of_below hb9 none) (by simp))
      have Hb9 := Lib.hid (two_below' Hb8.out hb9)
      clear hb9
      go_wp2_with fail
      go_ret
      exact ⟨rfl, Hb9.out⟩
  · obtain ⟨n, hne⟩ : ∃ n, n = t.bodyE.2 := ⟨_, rfl⟩
    have hsg : t.signE = (Tx.none, n) := by rw [hne]; exact if_neg hb
    have SG := Lib.hid (sign_tup ht hsg)
    have hn : (n != 0) = true := by rw [hne]; simpa using hb
    generalize t.cells = C at *
    clear hsg hne hb ht
    have Hn := Lib.hid hn
    go_enter Tryd.func6, Tryd.ntmps6
    go_wp2_with (with_reducible show wpList _ _ _ (⟨_, .load 25 _, _, _, _, _⟩ :: _) _ _; refine wpList_load_tx rfl 25 (.tmp 2) rfl w.heap.size 0 rfl C _ Hrng.out Tryd.underlying25 rfl (by rw [tx_info, HD72.out]) ?_)
    refine calls_named ?_
    intro w1 hw1
    have hb1 : Below w.heap.size w w1 := by rw [hw1]; exact (Below.refl w.heap.size w).alloc (Nat.le_refl _) _
    clear hw1
    refine (SG.out w1 (HT.out.below hb1 Hpos.out)).mono ?_
    rintro _ w2 ⟨rfl, hb2⟩
    have Hb2 := Lib.hid (two_below' hb1 hb2)
    clear hb1 hb2
    go_wp2_with (first
      | (with_reducible show wpList _ _ _ (⟨_, .store 25 _ _, _, _, _, _⟩ :: _) _ _
         refine wpList_store_at rfl 25 (.tmp 5) (.tmp 12) rfl w2.heap.size 0 Tx.none.cells _ _ rfl rfl (Row.new w2 25 Tx.none.cells) (by have := HZ72.out; have := HZ72.out; omega) (by rw [tx_info, HZ72.out]) HZ1.out ?_
         intro w3 hr3 hg3
         rw [splice_all (HZ72.out.trans HZ72.out.symm)] at hr3
         have Hp3 := Lib.hid hr3
         have Hb3 := Lib.hid (below_own (Hb2.out.alloc Hb2.out.size _) hg3 (fun k hk => by cases hk; exact Hb2.out.size))
         clear hr3 hg3))
    refine (awake4_any w3 (HT.out.below Hb3.out Hpos.out)).mono ?_
    rintro _ w4 ⟨rfl, hb4⟩
    have Hp4 := Lib.hid (Hp3.out.kept (grownBy_of_below hb4 none) (by simp))
    have Hb4 := Lib.hid (two_below' Hb3.out hb4)
    clear hb4
    go_wp2_with fail
    refine (awake4_any w4 (HT.out.below Hb4.out Hpos.out)).mono ?_
    rintro _ w5 ⟨rfl, hb5⟩
    have Hp5 := Lib.hid (Hp4.out.kept (grownBy_of_below hb5 none) (by simp))
    have Hb5 := Lib.hid (two_below' Hb4.out hb5)
    clear hb5
    go_wp2_with (with_reducible show wpList _ _ _ (⟨_, .load 25 (.tmp 5), _, _, _, _⟩ :: _) _ _; refine wpList_load_tx rfl 25 (.tmp 5) rfl w2.heap.size 0 rfl Tx.none.cells _ (row_range Hp5.out) Tryd.underlying25 rfl (by rw [tx_info, HZ72.out]) ?_)
    go_ret
    exact ⟨rfl, Hb5.out⟩
theorem txBack_str (t : Tx) (ht : t.Ok) (s : ByteArray) (hs : s.size ≤ 9223372036854775807) (w : World) (hT : Tab w) :
    Calls Tryd.prog 5 #[t.v, .string s] w fun e w' => e = .returned (.bool true) ∧ Below w.heap.size w w' := by
  have h := txBack_any t ht s.data.toList hs w hT
  rw [show S s.data.toList = Value.string s from congrArg Value.string (Tx.data_eq s)] at h
  exact h
end Go.Proofs.YtdekcicgiflnbaaDoor
