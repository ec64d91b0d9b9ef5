/- The laws BoxReads and BoxWrites. -/
import Derived.Test.YtinciddchpccnaaDoorPoC
import Derived.Test.YtinciddchpccnaaDoorShaRefSum
namespace Go.Proofs.YtinciddchpccnaaDoor
open Go.RowKit
set_option linter.unusedVariables false
set_option linter.unusedSimpArgs false

theorem batches_pf {o : Option Bt} {C1 C2 : List Value} {q1 q2 : Int} {l1 l2 : Nat} (hok : ∀ u, o = some u → u.ok = true) (W : World) (h1 : PfOf o C1 q1 l1 W) (h2 : PfOf o C2 q2 l2 W) :
    Calls Tryd.prog 15 #[.agg C1.toArray, .agg C2.toArray] W fun e w' => e = .returned (.bool true) ∧ Below W.heap.size W w' := by
  match o, h1, h2, hok with
  | some u, ⟨A, c, e1, _, p1, _⟩, ⟨A2, c2, e2, _, p2, _⟩, hok =>
    rw [e1, e2]
    have hk := (Bt.ok_iff u).1 (hok u rfl)
    refine batches5_same u (fun p hp => ?_) hk.2.1 A A2 c c2 W p1.at p2.at
    have := List.all_eq_true.1 hk.2.2 p hp
    unfold Pt.ok at this
    simp only [Bool.and_eq_true, decide_eq_true_eq] at this
    omega
  | none, ⟨e1, _⟩, ⟨e2, _⟩, _ =>
    rw [e1, e2]
    exact batches5_same Bt.zero (fun p hp => by cases hp) (by decide) none none 0 0 W (fun h => absurd rfl h) (fun h => absurd rfl h)
set_option maxRecDepth 20000 in
set_option maxHeartbeats 3200000 in
theorem boxReads_any (hRS : RefSum) (s : ByteArray) (w : World) (hs : s.size ≤ 140737488351232) (hT : Tab w) :
    Calls Tryd.prog 4 #[.string s] w fun e w' => e = .returned (.bool true) ∧ Below w.heap.size w w' := by
  have hzb := bt_zv
  have HRd : Hid (∀ W, Tab W → Calls Tryd.prog 13 #[.string s] W fun e w' => RdEnds (Po.read s.data.toList) W.heap.size e w' ∧ Below W.heap.size W w') := Lib.hid (fun W h => boxRead_any s W hs h)
  have HRr : Hid (∀ W, Calls Tryd.prog 14 #[.string s] W fun e w' => RdEnds (Po.read s.data.toList) W.heap.size e w' ∧ Below W.heap.size W w') := Lib.hid (fun W => rboxRead_any hRS s W hs)
  have HOk : Hid (∀ u, (Po.read s.data.toList).2 = some u → u.ok = true) := Lib.hid (fun u h => (Po.read_ok (e := (Po.read s.data.toList).1) (Prod.ext rfl h)).2)
  have HAw : Hid (∀ W, Tab W → Calls Tryd.prog 10 #[] W fun e w' => e = .returned (.bool true) ∧ Below W.heap.size W w') := Lib.hid awake13_any
  have HT := Lib.hid hT
  have HBL : Hid (Bt.zeroC.length = 4) := Lib.hid rfl
  obtain ⟨ZC, hZC⟩ : ∃ ZC, ZC = Bt.zeroC := ⟨_, rfl⟩
  simp only [← hZC] at hzb HBL
  generalize Po.read s.data.toList = R at *
  obtain ⟨er, o⟩ := R
  clear hT hZC hs
  go_enter Tryd.func4, Tryd.ntmps4
  go_wp2_with fail
  refine (HRd.out _ HT.out).mono ?_
  rintro e w1 ⟨hrd, hb1⟩
  obtain ⟨C1, q1, rfl, hp1⟩ := hrd.of
  obtain ⟨h1l, h11, _⟩ := hp1.cells
  have HB1 := Lib.hid hb1
  have HP1 := Lib.hid hp1
  have H1L := Lib.hid h1l
  have H11 := Lib.hid h11
  have HN1 := Lib.hid (Row.new w1 24 ZC)
  clear hrd hb1 hp1 h1l h11
  go_wp2_with (with_reducible show wpList _ _ _ (⟨_, .store 24 _ _, _, _, _, _⟩ :: _) _ _
               refine wpList_store_at rfl 24 (.tmp 3) (.tmp 10) rfl w1.heap.size 0 C1 _ _ rfl rfl HN1.out (by rw [HBL.out, H1L.out]; decide) (by rw [bt_size, H1L.out]) H11.out ?_
               intro w2 hr2 hg2
               rw [splice_all (H1L.out.trans HBL.out.symm)] at hr2
               have hbs := below_own ((Below.refl w1.heap.size w1).alloc (Nat.le_refl _) (.cells ZC.toArray 24)) hg2 (fun k hk => by cases hk; exact Nat.le_refl _)
               have HR2 := Lib.hid hr2
               have HP2 := Lib.hid (HP1.out.grown (grownBy_of_below hbs none) (fun k hk => by cases hk))
               have HB2 := Lib.hid (two_below' HB1.out hbs)
               clear hr2 hg2 hbs)
  refine (HRr.out _).mono ?_
  rintro e w3 ⟨hrd, hb3⟩
  obtain ⟨C2, q2, rfl, hp2⟩ := hrd.of
  obtain ⟨h2l, h21, _⟩ := hp2.cells
  have HB3 := Lib.hid (two_below' HB2.out hb3)
  have HR3 := Lib.hid (HR2.out.below hb3)
  have HP3 := Lib.hid (HP2.out.grown (grownBy_of_below hb3 none) (fun k hk => by cases hk))
  have HQ3 := Lib.hid hp2
  have H2L := Lib.hid h2l
  have H21 := Lib.hid h21
  have HN3 := Lib.hid (Row.new w3 24 ZC)
  clear hrd hb3 hp2 h2l h21
  go_wp2_with (with_reducible show wpList _ _ _ (⟨_, .store 24 _ _, _, _, _, _⟩ :: _) _ _
               refine wpList_store_at rfl 24 (.tmp 5) (.tmp 15) rfl w3.heap.size 0 C2 _ _ rfl rfl HN3.out (by rw [HBL.out, H2L.out]; decide) (by rw [bt_size, H2L.out]) H21.out ?_
               intro w4 hr4 hg4
               rw [splice_all (H2L.out.trans HBL.out.symm)] at hr4
               have hbs := below_own ((Below.refl w3.heap.size w3).alloc (Nat.le_refl _) (.cells ZC.toArray 24)) hg4 (fun k hk => by cases hk; exact Nat.le_refl _)
               have HS4 := Lib.hid hr4
               have HR4 := Lib.hid (HR3.out.below hbs)
               have HP4 := Lib.hid (HP3.out.grown (grownBy_of_below hbs none) (fun k hk => by cases hk))
               have HQ4 := Lib.hid (HQ3.out.grown (grownBy_of_below hbs none) (fun k hk => by cases hk))
               have HB4 := Lib.hid (two_below' HB3.out hbs)
               clear hr4 hg4 hbs)
  refine (HAw.out _ (HT.out.below HB4.out HT.out.pos)).mono ?_
  rintro _ w5 ⟨rfl, hb5⟩
  have HB5 := Lib.hid (two_below' HB4.out hb5)
  have HR5 := Lib.hid (HR4.out.below hb5)
  have HS5 := Lib.hid (HS4.out.below hb5)
  have HP5 := Lib.hid (HP4.out.grown (grownBy_of_below hb5 none) (fun k hk => by cases hk))
  have HQ5 := Lib.hid (HQ4.out.grown (grownBy_of_below hb5 none) (fun k hk => by cases hk))
  have HBa := Lib.hid (batches_pf HOk.out w5 HP5.out HQ5.out)
  clear hb5
  go_wp2_with (first
  | ((with_reducible show wpList _ _ _ (⟨_, .load 24 (.tmp 3), _, _, _, _⟩ :: _) _ _); refine wpList_load_tx rfl 24 (.tmp 3) rfl w1.heap.size 0 rfl C1 _ (row_range HR5.out) Tryd.underlying24 rfl (by rw [bt_size, H1L.out]) ?_)
  | ((with_reducible show wpList _ _ _ (⟨_, .load 24 (.tmp 5), _, _, _, _⟩ :: _) _ _); refine wpList_load_tx rfl 24 (.tmp 5) rfl w3.heap.size 0 rfl C2 _ (row_range HS5.out) Tryd.underlying24 rfl (by rw [bt_size, H2L.out]) ?_))
  refine HBa.out.mono ?_
  rintro _ w6 ⟨rfl, hb6⟩
  have HB6 := Lib.hid (two_below' HB5.out hb6)
  clear hb6
  go_wp2_with fail
  go_ret
  exact ⟨rfl, HB6.out⟩
end Go.Proofs.YtinciddchpccnaaDoor
