/- notes: SignBid, CheckBid. -/
import Derived.Test.YtdekcicgiflnbaaDoorNoBid
import Derived.Test.YtdekcicgiflnbaaDoorNoItemR
namespace Go.Proofs.YtdekcicgiflnbaaDoor
open Go.RowKit
set_option linter.unusedVariables false
set_option linter.unusedSimpArgs false

namespace Bd
theorem put_tag {b : Bd} (h : b.tag.length = 32) (R : List UInt8) (hR : R.length = 32) : b.cells.take 4 ++ ((bRow R).toList ++ b.cells.drop (4 + (bRow R).toList.length)) = Bd.cells { b with tag := R } := by
  rw [List.drop_of_length_le (by rw [cells_len h, Tx.bRow_len R hR]; omega), List.append_nil]
  rfl
theorem body_len (b : Bd) : b.body.length ≤ 100000 := listE_len _
def pairV (x : Bd × Int) : Value := .tuple #[.agg x.1.cells.toArray, .int .i64 x.2]
end Bd
theorem Bd.zero_built0 : Tryd.prog.built 41 [] = some Bd.zero.cells.toArray := by kernel_rfl
/-- the numbers' list -/
theorem bodyL {b : Bd} {W : World} {base : Nat} {v : Value} (h : W.ownsRow base 9 1 v 4 ((b.numsL.map fun x => Oct.num x.toNat).map S)) :
    Calls Tryd.prog 56 #[v] W fun e w' => ∃ n : Int, e = .returned (.tuple #[S b.body, .int .i64 n]) ∧ Below W.heap.size W w' :=
  (list_owned (k := 3) _ rfl h rfl).mono fun e w' ⟨h1, h2⟩ => ⟨_, h1, h2⟩
set_option maxRecDepth 20000 in
set_option maxHeartbeats 1600000 in
theorem signBid_any (b : Bd) (hf : b.tag.length = 32) (w : World) (hT : Tab w) :
    Calls Tryd.prog 32 #[.agg b.cells.toArray] w fun e w' => e = .returned (Bd.pairV b.signE) ∧ Below w.heap.size w w' := by
  have MB := Lib.hid (fun W => bidMayBe_any b W)
  have HZL := Lib.hid (Bd.cells_len (b := Bd.zero) rfl)
  have HZ1 := Lib.hid (Bd.cells_one (b := Bd.zero) rfl)
  have HL := Lib.hid (Bd.cells_len hf)
  have Hrow0 := Lib.hid (Row.new w 41 b.cells)
  have HTab := Lib.hid hT
  have Hp := Lib.hid hT.pos
  have hbl := b.body_len
  have TG : Hid (∀ W, Tab W → Calls Tryd.prog 66 #[.int .i64 b.who, .int .i64 3, S b.body] W fun e w' => e = .returned (.tuple #[.agg (bRow (Seal.tag b.who 3 b.body).1), .int .i64 (Seal.tag b.who 3 b.body).2]) ∧ Below W.heap.size W w') := fun W hW => Tag_any b.who 3 ⟨b.body.toArray⟩ W hW (by show b.body.length ≤ _; omega)
  have BX : Hid (∀ (W : World) (g : Nat) (T : TypeId), Row W g T b.cells → W.cell? ⟨g, 1, none⟩ = some (.int .i64 b.who)) := fun W g T h => (bid_box h).2.1
  have Hcl := Lib.hid (Bd.put_tag hf (Seal.tag b.who 3 b.body).1 (Seal.tag_len _ _ _))
  have hce : Bd.cells { b with tag := (Seal.tag b.who 3 b.body).1 } = b.sign.cells := rfl
  rw [hce] at Hcl
  have htl := Seal.tag_len b.who 3 b.body
  have HDL := Lib.hid (Bd.cells_len (b := b.sign) htl)
  have HD1 := Lib.hid (Bd.cells_one (b := b.sign) htl)
  have HR := Lib.hid htl
  have HB32 := Lib.hid (Tx.bRow_len _ htl)
  have hzv : ∀ W : World, (zeroValue 41).run Tryd.prog W = .ok (.agg Bd.zero.cells.toArray) W := fun W => by kernel_rfl
  rcases Bool.eq_false_or_eq_true b.ok with hk | hk
  · have he : Bd.pairV b.signE = .tuple #[.agg b.sign.cells.toArray, .int .i64 0] := by unfold Bd.signE; rw [if_pos hk]; rfl
    rw [he]
    have BN := Lib.hid (fun W => bidNumbers_any b W hk)
    have BL : Hid (∀ (W : World) (base : Nat) (v : Value), W.ownsRow base 9 1 v 4 ((b.numsL.map fun x => Oct.num x.toNat).map S) → Calls Tryd.prog 56 #[v] W fun e w' => ∃ n : Int, e = .returned (.tuple #[S b.body, .int .i64 n]) ∧ Below W.heap.size W w') := fun W base v h => bodyL h
    rw [hk] at MB
    generalize (b.numsL.map fun x => Oct.num x.toNat).map S = NS at *
    generalize b.sign.cells = D at *
    generalize (Seal.tag b.who 3 b.body).2 = tn at *
    generalize (Seal.tag b.who 3 b.body).1 = R at *
    generalize b.body = bs at *
    generalize b.cells = C at *
    clear hT hf hk he hce htl hbl
    go_enter Tryd.func32, Tryd.ntmps32
    go_wp2_with (with_reducible show wpList _ _ _ (⟨_, .load 41 _, _, _, _, _⟩ :: _) _ _; refine wpList_load_tx rfl 41 (.tmp 1) rfl w.heap.size 0 rfl C _ (World.rangeAt_alloc (row_range Hrow0.out) _) Tryd.underlying41 rfl (by rw [bid_info, HL.out]) ?_)
    refine calls_named ?_
    intro w1 hw1
    have hb1 : Below w.heap.size w w1 := by rw [hw1]; exact (row_two w C.toArray Bd.zero.cells.toArray 41 41).2.1
    have hr1 : Row w1 (w.heap.size + 1) 41 Bd.zero.cells := by rw [hw1]; exact (row_two w C.toArray Bd.zero.cells.toArray 41 41).1
    have hq1 : Row w1 w.heap.size 41 C := by rw [hw1]; exact (row_two w C.toArray Bd.zero.cells.toArray 41 41).2.2
    clear hw1 hzv
    refine (MB.out w1).mono ?_
    rintro _ w2 ⟨rfl, hb2⟩
    have hg2 := grownBy_of_below hb2 none
    have Hr2 := Lib.hid (hr1.kept hg2 (by simp))
    have Hq2 := Lib.hid (hq1.kept hg2 (by simp))
    have Hb2 := Lib.hid (two_below' hb1 hb2)
    clear hb1 hr1 hq1 hb2 hg2
    go_wp2_with (with_reducible show wpList _ _ _ (⟨_, .load 41 _, _, _, _, _⟩ :: _) _ _; refine wpList_load_tx rfl 41 (.tmp 1) rfl w.heap.size 0 rfl C _ (row_range Hq2.out) Tryd.underlying41 rfl (by rw [bid_info, HL.out]) ?_)
    refine (BN.out w2).mono ?_
    rintro _ w3 ⟨v, rfl, hown, hb3⟩
    have hg3 := grownBy_of_below hb3 none
    have Hr3 := Lib.hid (Hr2.out.kept hg3 (by simp))
    have Hq3 := Lib.hid (Hq2.out.kept hg3 (by simp))
    have Hb3 := Lib.hid (two_below' Hb2.out hb3)
    have Hown := Lib.hid hown
    clear hb3 hg3 hown
    go_wp2_with fail
    refine (BL.out w3 _ v Hown.out).mono ?_
    rintro _ w4 ⟨n, rfl, hb4⟩
    have hg4 := grownBy_of_below hb4 none
    have Hr4 := Lib.hid (Hr3.out.kept hg4 (by simp))
    have Hq4 := Lib.hid (Hq3.out.kept hg4 (by simp))
    have Hb4 := Lib.hid (two_below' Hb3.out hb4)
    have c1 := BX.out _ _ _ Hq4.out
    clear hb4 hg4
    go_wp2_with fail
    refine (TG.out w4 (HTab.out.below Hb4.out Hp.out)).mono ?_
    rintro _ w5 ⟨rfl, hb5⟩
    have hg5 := grownBy_of_below hb5 none
    have Hr5 := Lib.hid (Hr4.out.kept hg5 (by simp))
    have Hq5 := Lib.hid (Hq4.out.kept hg5 (by simp))
    have Hb5 := Lib.hid (two_below' Hb4.out hb5)
    have hlt5 := Hr5.out.lt
    clear hb5 hg5 c1
    go_wp2_with (first
      | (with_reducible show wpList _ _ _ (⟨_, .store 23 _ _, _, _, _, _⟩ :: _) _ _
         refine wpList_store_at rfl 23 (.tmp 23) (.tmp 21) rfl w.heap.size 4 (bRow R).toList _ _ rfl rfl Hq5.out (by rw [HB32.out, HL.out]; decide) (by rw [hash_info, HB32.out]) (hash_one R HR.out) ?_
         intro w6 hr6 hg6
         rw [Hcl.out] at hr6
         have Hq6 := Lib.hid hr6
         have Hr6 := Lib.hid (Hr5.out.kept hg6 (by simp))
         have Hb6 := Lib.hid (below_own Hb5.out hg6 (fun k hk => by cases hk; exact Nat.le_refl _))
         clear hr6 hg6)
      | (with_reducible show wpList _ _ _ (⟨_, .load 41 _, _, _, _, _⟩ :: _) _ _; refine wpList_load_tx rfl 41 (.tmp 1) rfl w.heap.size 0 rfl D _ (row_range Hq6.out) Tryd.underlying41 rfl (by rw [bid_info, HDL.out]) ?_)
      | (with_reducible show wpList _ _ _ (⟨_, .store 41 _ _, _, _, _, _⟩ :: _) _ _
         refine wpList_store_at rfl 41 (.tmp 2) (.tmp 24) rfl (w.heap.size + 1) 0 D _ _ rfl rfl Hr6.out (by have := HZL.out; have := HDL.out; omega) (by rw [bid_info, HDL.out]) HD1.out ?_
         intro w8 hr8 hg8
         rw [splice_all (HDL.out.trans HZL.out.symm)] at hr8
         have Hr8 := Lib.hid hr8
         have Hb8 := Lib.hid (below_own Hb6.out hg8 (fun k hk => by cases hk; omega))
         clear hr8 hg8))
    refine bodyPost_ret (results_rowL rfl _ _ (w.heap.size + 1) 41 _ _ rfl Hr8.out Tryd.underlying41 rfl (by rw [bid_info, List.size_toArray, HDL.out]) _ rfl) rfl ⟨rfl, Hb8.out⟩
  · have he : Bd.pairV b.signE = .tuple #[.agg Bd.zero.cells.toArray, .int .i64 2] := by unfold Bd.signE; rw [if_neg (by rw [hk]; simp)]; rfl
    have He := Lib.hid he
    rw [hk] at MB
    generalize Bd.pairV b.signE = NE at *
    generalize b.cells = C at *
    clear hT hf hk he hce htl hbl TG HD1 HDL HB32 HR Hcl
    go_enter Tryd.func32, Tryd.ntmps32
    go_wp2_with (with_reducible show wpList _ _ _ (⟨_, .load 41 _, _, _, _, _⟩ :: _) _ _; refine wpList_load_tx rfl 41 (.tmp 1) rfl w.heap.size 0 rfl C _ (World.rangeAt_alloc (row_range Hrow0.out) _) Tryd.underlying41 rfl (by rw [bid_info, HL.out]) ?_)
    refine calls_named ?_
    intro w1 hw1
    have hb1 : Below w.heap.size w w1 := by rw [hw1]; exact (row_two w C.toArray Bd.zero.cells.toArray 41 41).2.1
    have hr1 : Row w1 (w.heap.size + 1) 41 Bd.zero.cells := by rw [hw1]; exact (row_two w C.toArray Bd.zero.cells.toArray 41 41).1
    clear hw1 hzv
    refine (MB.out w1).mono ?_
    rintro _ w2 ⟨rfl, hb2⟩
    have hg2 := grownBy_of_below hb2 none
    have Hr2 := Lib.hid (hr1.kept hg2 (by simp))
    have Hb2 := Lib.hid (two_below' hb1 hb2)
    clear hb1 hr1 hb2 hg2
    go_wp2_with (first
      | (with_reducible show wpList _ _ _ (⟨_, .build 41 _, _, _, _, _⟩ :: _) _ _; refine wpList_buildL rfl 41 [] rfl (some 9) rfl _ rfl _ Bd.zero_built0 ?_)
      | (with_reducible show wpList _ _ _ (⟨_, .store 41 _ _, _, _, _, _⟩ :: _) _ _
         refine wpList_store_at rfl 41 (.tmp 2) (.tmp 9) rfl (w.heap.size + 1) 0 Bd.zero.cells _ _ rfl rfl Hr2.out (by have := HZL.out; omega) (by rw [bid_info, HZL.out]) HZ1.out ?_
         intro wZ hrZ hgZ
         rw [splice_all rfl] at hrZ
         have HrZ := Lib.hid hrZ
         have HbZ := Lib.hid (below_own Hb2.out hgZ (fun k hk => by cases hk; omega))
         clear hrZ hgZ))
    refine bodyPost_ret (results_rowL rfl _ _ (w.heap.size + 1) 41 _ _ rfl HrZ.out Tryd.underlying41 rfl (by rw [bid_info, List.size_toArray, HZL.out]) _ rfl) rfl ⟨?_, HbZ.out⟩
    rw [He.out]
    exact rfl
set_option maxRecDepth 20000 in
set_option maxHeartbeats 1600000 in
theorem checkBid_any (b : Bd) (hf : b.tag.length = 32) (w : World) (hT : Tab w) :
    Calls Tryd.prog 35 #[.agg b.cells.toArray] w fun e w' => e = .returned (.int .i64 b.check) ∧ Below w.heap.size w w' := by
  have MB := Lib.hid (fun W => bidMayBe_any b W)
  have HL := Lib.hid (Bd.cells_len hf)
  have Hrow0 := Lib.hid (Row.new w 41 b.cells)
  have HTab := Lib.hid hT
  have Hp := Lib.hid hT.pos
  have hbl := b.body_len
  have CK : Hid (∀ W, Tab W → Calls Tryd.prog 68 #[.int .i64 b.who, .int .i64 3, S b.body, .agg (bRow b.tag)] W fun e w' => e = .returned (.int .i64 (Seal.check2 b.who 3 b.body b.tag)) ∧ Below W.heap.size W w') := fun W hW => Check_any b.who 3 ⟨b.body.toArray⟩ b.tag W hW hf (by show b.body.length ≤ _; omega)
  have BX : Hid (∀ (W : World) (g : Nat) (T : TypeId), Row W g T b.cells → W.cell? ⟨g, 1, none⟩ = some (.int .i64 b.who) ∧ W.rangeAt g 4 (bRow b.tag).toList) := fun W g T h => ⟨(bid_box h).2.1, bid_tag h⟩
  have HB32 := Lib.hid (Tx.bRow_len _ hf)
  rcases Bool.eq_false_or_eq_true b.ok with hk | hk
  · have he : b.check = Seal.check2 b.who 3 b.body b.tag := by unfold Bd.check; rw [if_pos hk]
    rw [he]
    have BN := Lib.hid (fun W => bidNumbers_any b W hk)
    have BL : Hid (∀ (W : World) (base : Nat) (v : Value), W.ownsRow base 9 1 v 4 ((b.numsL.map fun x => Oct.num x.toNat).map S) → Calls Tryd.prog 56 #[v] W fun e w' => ∃ n : Int, e = .returned (.tuple #[S b.body, .int .i64 n]) ∧ Below W.heap.size W w') := fun W base v h => bodyL h
    rw [hk] at MB
    generalize (b.numsL.map fun x => Oct.num x.toNat).map S = NS at *
    generalize Seal.check2 b.who 3 b.body b.tag = tn at *
    generalize b.body = bs at *
    generalize b.cells = C at *
    clear hT hf hk he hbl
    go_enter Tryd.func35, Tryd.ntmps35
    go_wp2_with (with_reducible show wpList _ _ _ (⟨_, .load 41 _, _, _, _, _⟩ :: _) _ _; refine wpList_load_tx rfl 41 (.tmp 1) rfl w.heap.size 0 rfl C _ (row_range Hrow0.out) Tryd.underlying41 rfl (by rw [bid_info, HL.out]) ?_)
    refine (MB.out _).mono ?_
    rintro _ w2 ⟨rfl, hb2⟩
    have hg2 := grownBy_of_below hb2 none
    have Hq2 := Lib.hid (Hrow0.out.kept hg2 (by simp))
    have Hb2 := Lib.hid (tx_below hg2)
    clear hb2 hg2
    go_wp2_with (with_reducible show wpList _ _ _ (⟨_, .load 41 _, _, _, _, _⟩ :: _) _ _; refine wpList_load_tx rfl 41 (.tmp 1) rfl w.heap.size 0 rfl C _ (row_range Hq2.out) Tryd.underlying41 rfl (by rw [bid_info, HL.out]) ?_)
    refine (BN.out w2).mono ?_
    rintro _ w3 ⟨v, rfl, hown, hb3⟩
    have hg3 := grownBy_of_below hb3 none
    have Hq3 := Lib.hid (Hq2.out.kept hg3 (by simp))
    have Hb3 := Lib.hid (two_below' Hb2.out hb3)
    have Hown := Lib.hid hown
    clear hb3 hg3 hown
    go_wp2_with fail
    refine (BL.out w3 _ v Hown.out).mono ?_
    rintro _ w4 ⟨n, rfl, hb4⟩
    have hg4 := grownBy_of_below hb4 none
    obtain ⟨c1, rt⟩ := BX.out _ _ _ (Hq3.out.kept hg4 (by simp))
    have Hb4 := Lib.hid (two_below' Hb3.out hb4)
    have Hrt := Lib.hid rt
    clear hb4 hg4 rt
    go_wp2_with (with_reducible show wpList _ _ _ (⟨_, .load 23 _, _, _, _, _⟩ :: _) _ _; refine wpList_load_tx rfl 23 (.tmp 17) rfl w.heap.size 4 rfl (bRow b.tag).toList _ Hrt.out Tryd.underlying23 rfl (by rw [hash_info, HB32.out]) ?_)
    refine (CK.out w4 (HTab.out.below Hb4.out Hp.out)).mono ?_
    rintro _ w5 ⟨rfl, hb5⟩
    have Hb5 := Lib.hid (two_below' Hb4.out hb5)
    clear hb5 c1
    go_wp2_with fail
    go_ret
    exact ⟨rfl, Hb5.out⟩
  · have he : b.check = 2 := by unfold Bd.check; rw [if_neg (by rw [hk]; simp)]
    rw [he]
    rw [hk] at MB
    generalize b.cells = C at *
    clear hT hf hk he hbl CK
    go_enter Tryd.func35, Tryd.ntmps35
    go_wp2_with (with_reducible show wpList _ _ _ (⟨_, .load 41 _, _, _, _, _⟩ :: _) _ _; refine wpList_load_tx rfl 41 (.tmp 1) rfl w.heap.size 0 rfl C _ (row_range Hrow0.out) Tryd.underlying41 rfl (by rw [bid_info, HL.out]) ?_)
    refine (MB.out _).mono ?_
    rintro _ w2 ⟨rfl, hb2⟩
    have Hb2 := Lib.hid (tx_below (grownBy_of_below hb2 none))
    clear hb2
    go_wp2_with fail
    go_ret
    exact ⟨rfl, Hb2.out⟩
end Go.Proofs.YtdekcicgiflnbaaDoor
