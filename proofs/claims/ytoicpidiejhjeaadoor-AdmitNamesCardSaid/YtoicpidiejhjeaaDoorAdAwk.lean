/- awake of layer 17. -/
import Derived.Test.YtoicpidiejhjeaaDoorAdLv
import Derived.Test.YtoicpidiejhjeaaDoorTxAwk
namespace Go.Proofs.YtoicpidiejhjeaaDoor
open Go.RowKit Go.Maps
set_option linter.unusedVariables false
set_option linter.unusedSimpArgs false
set_option maxRecDepth 100000

namespace Tx
def two : Tx := ⟨2, 0, 3, 0, ByteArray.empty, false, 0, 0, zero, zero⟩
theorem two_ok : two.Ok := ⟨rfl, rfl, by decide, ⟨by decide, by decide⟩, fits0, ⟨by decide, by decide⟩, fits0, fits0, fits0⟩
theorem two_body : two.bodyE.2 = 0 := by decide +kernel
theorem two_signE : two.signE = (two.sign, 0) := by
  exact (if_pos two_body).trans (congrArg (fun n => (two.sign, n)) (sign_err0 two_body))
theorem two_len : two.bodyE.1.length ≤ 100 := by decide +kernel
theorem two_text : ∃ a, two.sign.textE = (a, 0) := by
  have hb : two.sign.bodyE.2 = 0 := by rw [sign_body]; exact two_body
  have ho : two.sign.outer two.sign.bodyE.1 = [two.bodyE.1, two.sign.tag] := by rw [sign_body]; exact if_neg (by show ¬ (false = true); simp)
  have hl : two.sign.tag.length = 32 := (sign_ok two_ok).tag
  unfold textE
  rw [if_pos hb, ho]
  have h1 := two_len
  generalize two.bodyE.1 = x at *
  generalize two.sign.tag = y at *
  unfold Oct.listE
  rw [if_neg (by simp)]
  unfold Oct.listGo
  rw [if_neg (by omega)]
  unfold Oct.listGo
  rw [if_neg (by omega)]
  unfold Oct.listGo
  exact ⟨_, rfl⟩
end Tx
theorem awake_facts17 : ∃ (o t : Tx) (a : List UInt8) (g1 g2 : Ad.G), o.Ok ∧ t.Ok ∧ o.signE = (t, 0) ∧ t.textE = (a, 0) ∧ a.length ≤ 100000 ∧ (Tx.none.arr.setIfInBounds 0 (.int .i64 2)).setIfInBounds 2 (.int .i64 3) = o.arr ∧
    Ad.askE (Ad.new 1) a = 0 ∧ Ad.askT (Ad.new 1) a = t ∧ Ad.enter (Ad.new 1) a = g1 ∧ Ad.askE g1 a = 23 ∧ Ad.askT g1 a = Tx.none ∧ Ad.enter g1 a = g1 ∧ Ad.doneE g1 t = 0 ∧ Ad.done g1 t = g2 ∧ Ad.nxt g2 2 = 1 ∧ g2.nm.length = 0 := by
  obtain ⟨a, ha⟩ := Tx.two_text
  have hok := Tx.sign_ok Tx.two_ok
  have hr := Tx.read_text hok ha
  have hsg : Tx.two.sign.signedE = 0 := Tx.sign_signed Tx.two_body
  have hal : a.length ≤ 100000 := by have := Tx.text_len Tx.two.sign; rw [ha] at this; exact this
  have hfee : Tx.two.sign.fee = 3 := rfl
  have hnon : Tx.two.sign.nonce = 0 := rfl
  have hfrm : Tx.two.sign.frm = 2 := rfl
  obtain ⟨_, _, hn⟩ := Tx.read_facts hr
  have n0 : ∀ nm, Ad.nxt ⟨1, List.replicate 64 0, nm⟩ 2 = 0 := fun _ => rfl
  have hse := Tx.two_signE
  generalize Tx.two.sign = t at *
  have e1 : Ad.askE (Ad.new 1) a = 0 := by
    unfold Ad.askE
    rw [hr]
    simp only
    rw [if_neg (by simpa using hsg), if_neg (by rw [hfee]; decide), if_neg (by rw [hnon, hfrm]; decide), if_neg (by simp)]
  have e2 : Ad.askT (Ad.new 1) a = t := by unfold Ad.askT; rw [hr]; simp only; rw [if_pos e1]
  have e3 : Ad.askN (Ad.new 1) a = t.nameE.1 := by unfold Ad.askN; rw [hr]; simp only; rw [if_pos e1]
  have e4 : Ad.enter (Ad.new 1) a = ⟨1, List.replicate 64 0, [t.nameE.1]⟩ := by unfold Ad.enter; rw [if_pos e1, e3]; rfl
  have e5 : Ad.askE ⟨1, List.replicate 64 0, [t.nameE.1]⟩ a = 23 := by
    unfold Ad.askE
    rw [hr]
    simp only
    rw [if_neg (by simpa using hsg), if_neg (by rw [hfee]; decide), if_neg (by rw [hnon, hfrm, n0]; decide), if_pos (by simp)]
  have e6 : Ad.askT ⟨1, List.replicate 64 0, [t.nameE.1]⟩ a = Tx.none := by unfold Ad.askT; rw [hr]; simp only; rw [if_neg (by rw [e5]; decide)]
  have e7 : Ad.enter ⟨1, List.replicate 64 0, [t.nameE.1]⟩ a = ⟨1, List.replicate 64 0, [t.nameE.1]⟩ := by unfold Ad.enter; rw [if_neg (by rw [e5]; decide)]
  have e8 : Ad.doneE ⟨1, List.replicate 64 0, [t.nameE.1]⟩ t = 0 := by
    have q : Ad.namedE ⟨1, List.replicate 64 0, [t.nameE.1]⟩ t = 0 := by unfold Ad.namedE; rw [if_neg (by rw [hn]; simp)]
    unfold Ad.doneE
    rw [if_neg (by rw [q]; decide), if_neg (by rw [hnon, hfrm, n0]; decide)]
  refine ⟨Tx.two, t, a, _, _, Tx.two_ok, hok, hse, ha, hal, by kernel_rfl, e1, e2, e4, e5, e6, e7, e8, rfl, ?_, ?_⟩
  · unfold Ad.done
    rw [if_pos e8, hfrm]
    rfl
  · unfold Ad.done
    rw [if_pos e8]
    simp
set_option maxHeartbeats 1600000 in
theorem awake17_any (hRS : RefSum) (w : World) (hT : Tab w) :
    Calls Tryd.prog 8 #[] w fun e w' => e = .returned (.bool true) ∧ Below w.heap.size w w' := by
  obtain ⟨o, t, a, g1, g2, ho, ht, hs, hx, hal, harr, k1, k2, k3, k4, k5, k6, k7, k8, k9, k10⟩ := awake_facts17
  have hsz : (⟨a.toArray⟩ : ByteArray).size ≤ 9223372036854775807 := by show a.length ≤ _; omega
  have HSn : Hid (∀ W, Calls Tryd.prog 13 #[.agg o.arr] W fun e w' => e = .returned (.tuple #[.agg t.cells.toArray, .int .i64 0]) ∧ Below W.heap.size W w') := Lib.hid (fun W => by have := rsign4_any hRS o ho W; rw [hs] at this; exact this)
  have HTx : Hid (∀ W, Calls Tryd.prog 14 #[.agg t.cells.toArray] W fun e w' => e = .returned (.tuple #[S a, .int .i64 0]) ∧ Below W.heap.size W w') := Lib.hid (fun W => by have := rtext_any t ht W; rw [hx] at this; exact this)
  have HE1 : Hid (∀ W B M, GTo w W B M (Ad.new 1) 0 → Calls Tryd.prog 12 #[.pointer (some ⟨B, 0, none⟩), S a] W fun e w' => e = .returned (.tuple #[.agg t.cells.toArray, .int .i64 0]) ∧ GTo w w' B M g1 1 ∧ KeepsG W w') := Lib.hid (fun W B M h => by have := enter_any ⟨a.toArray⟩ hsz h hT (by decide); rw [show (⟨a.toArray⟩ : ByteArray).data.toList = a from rfl, k1, k2, k3] at this; exact this)
  have HE2 : Hid (∀ W B M, GTo w W B M g1 1 → Calls Tryd.prog 12 #[.pointer (some ⟨B, 0, none⟩), S a] W fun e w' => e = .returned (.tuple #[.agg Tx.none.cells.toArray, .int .i64 23]) ∧ GTo w w' B M g1 2 ∧ KeepsG W w') := Lib.hid (fun W B M h => by have := enter_any ⟨a.toArray⟩ hsz h hT (by decide); rw [show (⟨a.toArray⟩ : ByteArray).data.toList = a from rfl, k4, k5, k6] at this; exact this)
  have HDn : Hid (∀ W B M, GTo w W B M g1 2 → Calls Tryd.prog 18 #[.pointer (some ⟨B, 0, none⟩), .agg t.cells.toArray] W fun e w' => e = .returned (.int .i64 0) ∧ GTo w w' B M g2 4 ∧ KeepsG W w') := Lib.hid (fun W B M h => by have := done_any t ht h hT (by decide); rw [k7, k8] at this; exact this)
  have HNx : Hid (∀ W B M, GTo w W B M g2 4 → Calls Tryd.prog 17 #[.pointer (some ⟨B, 0, none⟩), .int .i64 2] W fun e w' => e = .returned (.int .i64 1) ∧ W = w') := Lib.hid (fun W B M h => by have := next_any h.own 2 (by decide); rw [k9] at this; exact this)
  have HIn : Hid (∀ W B M, GTo w W B M g2 4 → Calls Tryd.prog 10 #[.pointer (some ⟨B, 0, none⟩)] W fun e w' => e = .returned (.int .i64 0) ∧ W = w') := Lib.hid (fun W B M h => by have := in_any h.own; rw [k10] at this; exact this)
  have HC72 := Lib.hid (Tx.cells_length ht)
  have HC1 := Lib.hid (Tx.cells_one ht)
  have HZ72 := Lib.hid (Tx.cells_length Tx.none_ok)
  have HZ1 := Lib.hid (Tx.cells_one Tx.none_ok)
  have hzv : ∀ W : World, (zeroValue 35).run Tryd.prog W = .ok (.agg Tx.none.cells.toArray) W := tx_zv
  have heq : ∀ W : World, (Op.equalIn 10000 35 (.agg t.cells.toArray) (.agg t.cells.toArray)).run Tryd.prog W = .ok true W := fun W => tx_same W ht
  have HBt : Hid (Tryd.prog.built 35 [(0, .int .i64 2), (2, .int .i64 3)] = some o.arr) := Lib.hid (by rw [← harr]; kernel_rfl)
  have HN := Lib.hid (gateNew_ok 1 w (by decide) (by decide))
  generalize t.cells = C at *
  generalize Tx.none.cells = ZT at *
  generalize o.arr = ov at *
  clear k1 k2 k3 k4 k5 k6 k7 k8 k9 k10 hs hx ho ht hT harr hal hsz
  go_enter Tryd.func8, Tryd.ntmps8
  go_wp2_with fail
  refine HN.out.mono ?_
  rintro _ w1 ⟨rfl, hg1⟩
  have HG1 := Lib.hid hg1
  clear hg1 HN
  obtain ⟨B, hB⟩ : ∃ B, w.heap.size + 1 = B := ⟨_, rfl⟩
  obtain ⟨M, hM⟩ : ∃ M, w.heap.size = M := ⟨_, rfl⟩
  have HG1' : Hid (GTo w w1 B M (Ad.new 1) 0) := by rw [← hM, ← hB]; exact HG1
  rw [hB]
  clear HG1 hB hM
  go_wp2_with ((with_reducible show wpList _ _ _ (⟨_, .build 35 _, _, _, _, _⟩ :: _) _ _); refine wpList_buildL rfl 35 [(0, .const (.int .i64 2)), (2, .const (.int .i64 3))] rfl (some 16) rfl _ rfl _ HBt.out ?_)
  refine (HSn.out _).mono ?_
  rintro _ w2 ⟨rfl, hb2⟩
  have HG2 := Lib.hid (HG1'.out.below hb2)
  clear hb2
  go_wp2_with (first
  | (
     with_reducible show wpList _ _ _ (⟨_, .store 35 (.tmp 3) _, _, _, _, _⟩ :: _) _ _
     refine wpList_store_at rfl 35 (.tmp 3) (.tmp 18) rfl w2.heap.size 0 C ZT _ rfl rfl (Row.new w2 35 ZT) (by have := HZ72.out; have := HC72.out; omega) (by rw [tx_info, HC72.out]) HC1.out ?_
     intro w3 hr hg
     rw [splice_all (HC72.out.trans HZ72.out.symm)] at hr
     have hbx := below_own ((Below.refl w2.heap.size w2).alloc (Nat.le_refl _) (.cells ZT.toArray 35)) hg (fun k hk => by cases hk; exact Nat.le_refl _)
     have R3 := Lib.hid hr
     have HG3 := Lib.hid (HG2.out.below hbx)
     clear hr hg hbx)
  | ((with_reducible show wpList _ _ _ (⟨_, .load 35 (.tmp 3), _, _, _, _⟩ :: _) _ _); refine wpList_load_tx rfl 35 (.tmp 3) rfl w2.heap.size 0 rfl C _ (row_range R3.out) Tryd.underlying35 rfl (by rw [tx_info, HC72.out]) ?_))
  refine (HTx.out _).mono ?_
  rintro _ w4 ⟨rfl, hb4⟩
  have HG4 := Lib.hid (HG3.out.below hb4)
  have R4 := Lib.hid (R3.out.below hb4)
  clear hb4
  go_wp2_with fail
  refine (HE1.out _ _ _ HG4.out).mono ?_
  rintro _ w5 ⟨rfl, hg5, hk5⟩
  have HG5 := Lib.hid hg5
  have R5 := Lib.hid (hk5 _ _ _ (by decide) R4.out)
  clear hg5 hk5
  go_wp2_with (first
  | (
     with_reducible show wpList _ _ _ (⟨_, .store 35 (.tmp 7) _, _, _, _, _⟩ :: _) _ _
     refine wpList_store_at rfl 35 (.tmp 7) (.tmp 35) rfl w5.heap.size 0 C ZT _ rfl rfl (Row.new w5 35 ZT) (by have := HZ72.out; have := HC72.out; omega) (by rw [tx_info, HC72.out]) HC1.out ?_
     intro w6 hr hg
     rw [splice_all (HC72.out.trans HZ72.out.symm)] at hr
     have hbx := below_own ((Below.refl w5.heap.size w5).alloc (Nat.le_refl _) (.cells ZT.toArray 35)) hg (fun k hk => by cases hk; exact Nat.le_refl _)
     have Q6 := Lib.hid hr
     have R6 := Lib.hid (R5.out.below hbx)
     have HG6 := Lib.hid (HG5.out.below hbx)
     clear hr hg hbx))
  refine (HE2.out _ _ _ HG6.out).mono ?_
  rintro _ w7 ⟨rfl, hg7, hk7⟩
  have HG7 := Lib.hid hg7
  have R7 := Lib.hid (hk7 _ _ _ (by decide) R6.out)
  have Q7 := Lib.hid (hk7 _ _ _ (by decide) Q6.out)
  clear hg7 hk7
  go_wp2_with (first
  | (
     with_reducible show wpList _ _ _ (⟨_, .store 35 (.tmp 9) _, _, _, _, _⟩ :: _) _ _
     refine wpList_store_at rfl 35 (.tmp 9) (.tmp 41) rfl w7.heap.size 0 ZT ZT _ rfl rfl (Row.new w7 35 ZT) (by have := HZ72.out; have := HZ72.out; omega) (by rw [tx_info, HZ72.out]) HZ1.out ?_
     intro w8 hr hg
     rw [splice_all (HZ72.out.trans HZ72.out.symm)] at hr
     have hbx := below_own ((Below.refl w7.heap.size w7).alloc (Nat.le_refl _) (.cells ZT.toArray 35)) hg (fun k hk => by cases hk; exact Nat.le_refl _)
     have Q8 := Lib.hid (Q7.out.below hbx)
     have R8 := Lib.hid (R7.out.below hbx)
     have HG8 := Lib.hid (HG7.out.below hbx)
     clear hr hg hbx)
  | ((with_reducible show wpList _ _ _ (⟨_, .load 35 (.tmp 7), _, _, _, _⟩ :: _) _ _); refine wpList_load_tx rfl 35 (.tmp 7) rfl w5.heap.size 0 rfl C _ (row_range Q8.out) Tryd.underlying35 rfl (by rw [tx_info, HC72.out]) ?_)
  | ((with_reducible show wpList _ _ _ (⟨_, .load 35 (.tmp 3), _, _, _, _⟩ :: _) _ _); refine wpList_load_tx rfl 35 (.tmp 3) rfl w2.heap.size 0 rfl C _ (row_range R8.out) Tryd.underlying35 rfl (by rw [tx_info, HC72.out]) ?_))
  refine (HDn.out _ _ _ HG8.out).mono ?_
  rintro _ w9 ⟨rfl, hg9, hk9⟩
  have HG9 := Lib.hid hg9
  clear hg9 hk9
  go_wp2_with fail
  refine (HNx.out _ _ _ HG9.out).mono ?_
  rintro _ w10 ⟨rfl, rfl⟩
  go_wp2_with fail
  refine (HIn.out _ _ _ HG9.out).mono ?_
  rintro _ w10 ⟨rfl, rfl⟩
  go_wp2_with fail
  go_ret
  exact ⟨rfl, HG9.out.low⟩
end Go.Proofs.YtoicpidiejhjeaaDoor
