/- The reference's gate: New, Ask. -/
import Derived.Test.YtoicpidiejhjeaaDoorAdRat
import Derived.BigQuiet
namespace Go.Proofs.YtoicpidiejhjeaaDoor
open Go.RowKit
set_option linter.unusedVariables false
set_option linter.unusedSimpArgs false
set_option maxRecDepth 100000

set_option maxHeartbeats 3200000 in
theorem rgAsk_any (hRS : RefSum) {w : World} {base B K n : Nat} {v : Value} {fl : Int} {N : List Int} {L : List Tx} (s : ByteArray) (hs : s.size ≤ 140737488351232) (h : RGAt w base B K v fl N L n) (hn : n ≤ 1000) :
    Calls Tryd.prog 20 #[.pointer (some ⟨B, 0, none⟩), .string s] w fun e w' => (∃ (t : Tx) (n : Int), t.Ok ∧ (n = 0 → 0 ≤ t.frm ∧ t.frm ≤ 63) ∧ e = .returned (.tuple #[.agg t.cells.toArray, .int .i64 n])) ∧ Below w.heap.size w w' := by
  have hzv : ∀ W : World, (zeroValue 35).run Tryd.prog W = .ok (.agg Tx.none.cells.toArray) W := tx_zv
  have HBt : Hid (Tryd.prog.built 35 [] = some Tx.none.cells.toArray) := Lib.hid tx_built0
  have HZ72 := Lib.hid (Tx.cells_length Tx.none_ok)
  have HZ1 := Lib.hid (Tx.cells_one Tx.none_ok)
  obtain ⟨ZT, hZe⟩ : ∃ ZT, Tx.none.cells = ZT := ⟨_, rfl⟩
  rw [hZe] at hzv HBt HZ72 HZ1
  have HZe := Lib.hid hZe
  clear hZe
  have RD := Lib.hid (fun W => rread17_any s W hs)
  have HH := Lib.hid h
  have HF0 : Hid (∀ W, Below w.heap.size w W → W.cell? ⟨B, 0, none⟩ = some (.int .i64 fl)) := Lib.hid (fun W hW => (h.below hW).c0)
  have HX0 : Hid (∀ W, Below w.heap.size w W → W.cell? ⟨B, 1, none⟩ = some (.slice (some ⟨K, 0, none⟩) 64 64)) := Lib.hid (fun W hW => (h.below hW).c1)
  have HXn : Hid (∀ W (i : Nat), i < 64 → Below w.heap.size w W → W.cell? ⟨K, i, none⟩ = some (.int .i64 (N.getD i 0))) := Lib.hid (fun W i hi hW => (h.below hW).cN i hi)
  have b1 : Blocks w (w.alloc (.cells ZT.toArray 35)) [(w.heap.size, 35, ZT)] := (Blocks.nil ((Below.refl w.heap.size w).alloc (Nat.le_refl _) _)).cons (Row.new w _ _)
  have HB1 := Lib.hid b1
  clear b1 hs h
  go_enter Tryd.func20, Tryd.ntmps20
  go_wp2_with fail
  refine (RD.out _).mono ?_
  rintro _ w2 ⟨⟨t, en, ht, hfr, rfl⟩, hb2⟩
  have HB2 := Lib.hid (HB1.out.step hb2)
  have HT72 := Lib.hid (Tx.cells_length ht)
  have HT1 := Lib.hid (Tx.cells_one ht)
  have HTok := Lib.hid ht
  have SG := Lib.hid (fun W => rsigned4_any t ht W hRS)
  have AT := Lib.hid (fun W (hW : Below w.heap.size w W) => rgAt_any t ht (HH.out.below hW) hn)
  have HBX : Hid (∀ (W : World) (k : Nat), Row W k 35 t.cells → W.cell? ⟨k, 0, none⟩ = some (.int .i64 t.frm) ∧ W.cell? ⟨k, 1, none⟩ = some (.int .i64 t.nonce) ∧ W.cell? ⟨k, 2, none⟩ = some (.int .i64 t.fee)) := Lib.hid (fun W k h => ⟨(tx_box ht h).1, (tx_box ht h).2.1, (tx_box ht h).2.2.1⟩)
  have Hfr := Lib.hid hfr
  clear hb2 ht hfr
  obtain ⟨CT, hCT⟩ : ∃ CT, t.cells = CT := ⟨_, rfl⟩
  have HCT := Lib.hid hCT
  have SG2 : Hid (∀ W, Calls Tryd.prog 29 #[.agg CT.toArray] W fun e w' => e = .returned (.int .i64 t.signedE) ∧ Below W.heap.size W w') := Lib.hid (fun W => by rw [← hCT]; exact SG.out W)
  have AT2 : Hid (∀ W, Below w.heap.size w W → Calls Tryd.prog 30 #[.pointer (some ⟨B, 0, none⟩), .agg CT.toArray] W fun e w' => (∃ i : Int, e = .returned (.int .i64 i) ∧ (i = -1 ∨ ∃ (k : Nat) (hk : k < L.length), i = k ∧ L[k] = t)) ∧ Below W.heap.size W w') := Lib.hid (fun W hW => by rw [← hCT]; exact AT.out W hW)
  rw [hCT] at HT72 HT1 HBX ⊢
  clear hCT SG AT
  by_cases he : en = 0
  rotate_left
  · have heb : (en != 0) = true := by simpa using he
    clear he
    go_wp2_with (first
    | (
       with_reducible show wpList _ _ _ (⟨_, .store 35 (.tmp 6) _, _, _, _, _⟩ :: _) _ _
       refine wpList_store_at rfl 35 (.tmp 6) (.tmp 11) rfl w2.heap.size 0 CT ZT _ rfl rfl (Row.new w2 35 ZT) (by have := HZ72.out; have := HT72.out; omega) (by rw [tx_info, HT72.out]) HT1.out ?_
       intro w4 hr hg
       rw [splice_all (HT72.out.trans HZ72.out.symm)] at hr
       have hbn := ((HB2.out.alloc (.cells ZT.toArray 35)).put hg HB2.out.size HB2.out.fresh).cons hr
       have HB4 := Lib.hid hbn
       clear hbn
       clear hr hg)
    | ((with_reducible show wpList _ _ _ (⟨_, .build 35 _, _, _, _, _⟩ :: _) _ _); refine wpList_buildL rfl 35 [] rfl (some 15) rfl _ rfl _ HBt.out ?_)
    | (
       with_reducible show wpList _ _ _ (⟨_, .store 35 (.tmp 4) _, _, _, _, _⟩ :: _) _ _
       refine wpList_store_at rfl 35 (.tmp 4) (.tmp 15) rfl w.heap.size 0 ZT ZT _ rfl rfl (HB4.out.tl.hd) (by have := HZ72.out; have := HZ72.out; omega) (by rw [tx_info, HZ72.out]) HZ1.out ?_
       intro wf hr hg
       rw [splice_all (HZ72.out.trans HZ72.out.symm)] at hr
       have HR9 := Lib.hid hr
       have HB9 := Lib.hid (below_own HB4.out.1 hg (fun k hk => by cases hk; exact Nat.le_refl _))
       clear hr hg))
    refine bodyPost_ret (results_rowL rfl _ _ w.heap.size 35 ZT _ rfl HR9.out Tryd.underlying35 rfl (by rw [tx_info]; simp [HZ72.out]) (.int .i64 (6)) rfl) rfl ⟨⟨Tx.none, 6, Tx.none_ok, fun h => absurd h (by decide), by rw [HZe.out]⟩, HB9.out⟩
  subst he
  have hfr := Hfr.out rfl
  have Hfr2 := Lib.hid hfr
  clear Hfr
  obtain ⟨fr, hfe⟩ : ∃ fr : Nat, t.frm = fr := ⟨t.frm.toNat, by omega⟩
  rw [hfe] at HBX
  have HX1 : Hid (∀ W, Below w.heap.size w W → W.cell? ⟨K, fr, none⟩ = some (.int .i64 (N.getD fr 0))) := Lib.hid (fun W hW => HXn.out W fr (by omega) hW)
  have hk0 : (0 : Int) ≤ (fr : Int) := by omega
  have hk1 : (fr : Int) < 64 := by omega
  have hk2 : fr < 64 := by omega
  clear hfe hfr
  generalize N.getD fr 0 = nx at *
  go_wp2_with (first
  | (
     with_reducible show wpList _ _ _ (⟨_, .store 35 (.tmp 6) _, _, _, _, _⟩ :: _) _ _
     refine wpList_store_at rfl 35 (.tmp 6) (.tmp 11) rfl w2.heap.size 0 CT ZT _ rfl rfl (Row.new w2 35 ZT) (by have := HZ72.out; have := HT72.out; omega) (by rw [tx_info, HT72.out]) HT1.out ?_
     intro w4 hr hg
     rw [splice_all (HT72.out.trans HZ72.out.symm)] at hr
     have hbn := ((HB2.out.alloc (.cells ZT.toArray 35)).put hg HB2.out.size HB2.out.fresh).cons hr
     have HB4 := Lib.hid hbn
     clear hbn
     clear hr hg)
  | ((with_reducible show wpList _ _ _ (⟨_, .load 35 (.tmp 6), _, _, _, _⟩ :: _) _ _); refine wpList_load_tx rfl 35 (.tmp 6) rfl w2.heap.size 0 rfl CT _ (row_range (HB4.out.hd)) Tryd.underlying35 rfl (by rw [tx_info, HT72.out]) ?_))
  refine (SG2.out _).mono ?_
  rintro _ w5 ⟨rfl, hb5⟩
  have HB5 := Lib.hid (HB4.out.step hb5)
  clear hb5
  by_cases hsg : t.signedE = 0
  rotate_left
  · have heb : (t.signedE != 0) = true := by simpa using hsg
    clear hsg
    go_wp2_with (first
    | ((with_reducible show wpList _ _ _ (⟨_, .build 35 _, _, _, _, _⟩ :: _) _ _); refine wpList_buildL rfl 35 [] rfl (some 19) rfl _ rfl _ HBt.out ?_)
    | (
       with_reducible show wpList _ _ _ (⟨_, .store 35 (.tmp 4) _, _, _, _, _⟩ :: _) _ _
       refine wpList_store_at rfl 35 (.tmp 4) (.tmp 19) rfl w.heap.size 0 ZT ZT _ rfl rfl (HB5.out.tl.hd) (by have := HZ72.out; have := HZ72.out; omega) (by rw [tx_info, HZ72.out]) HZ1.out ?_
       intro wf hr hg
       rw [splice_all (HZ72.out.trans HZ72.out.symm)] at hr
       have HR9 := Lib.hid hr
       have HB9 := Lib.hid (below_own HB5.out.1 hg (fun k hk => by cases hk; exact Nat.le_refl _))
       clear hr hg))
    refine bodyPost_ret (results_rowL rfl _ _ w.heap.size 35 ZT _ rfl HR9.out Tryd.underlying35 rfl (by rw [tx_info]; simp [HZ72.out]) (.int .i64 (21)) rfl) rfl ⟨⟨Tx.none, 21, Tx.none_ok, fun h => absurd h (by decide), by rw [HZe.out]⟩, HB9.out⟩
  rw [hsg]
  clear hsg
  by_cases hfee : t.fee < fl
  · have hd : decide (t.fee < fl) = true := by simpa using hfee
    clear hfee
    have c0 := HF0.out _ HB5.out.1
    have c2 := (HBX.out _ _ HB5.out.hd).2.2
    go_wp2_with fail
    go_quiet (fail)
    have HB6 := Lib.hid (HB5.out.step (below_drewN' (Below.refl _ _) nq))
    generalize w5.drewN nq = w6 at *
    clear c0 c2
    go_wp2_with (first
    | ((with_reducible show wpList _ _ _ (⟨_, .build 35 _, _, _, _, _⟩ :: _) _ _); refine wpList_buildL rfl 35 [] rfl (some 27) rfl _ rfl _ HBt.out ?_)
    | (
       with_reducible show wpList _ _ _ (⟨_, .store 35 (.tmp 4) _, _, _, _, _⟩ :: _) _ _
       refine wpList_store_at rfl 35 (.tmp 4) (.tmp 27) rfl w.heap.size 0 ZT ZT _ rfl rfl (HB6.out.tl.hd) (by have := HZ72.out; have := HZ72.out; omega) (by rw [tx_info, HZ72.out]) HZ1.out ?_
       intro wf hr hg
       rw [splice_all (HZ72.out.trans HZ72.out.symm)] at hr
       have HR9 := Lib.hid hr
       have HB9 := Lib.hid (below_own HB6.out.1 hg (fun k hk => by cases hk; exact Nat.le_refl _))
       clear hr hg))
    refine bodyPost_ret (results_rowL rfl _ _ w.heap.size 35 ZT _ rfl HR9.out Tryd.underlying35 rfl (by rw [tx_info]; simp [HZ72.out]) (.int .i64 (24)) rfl) rfl ⟨⟨Tx.none, 24, Tx.none_ok, fun h => absurd h (by decide), by rw [HZe.out]⟩, HB9.out⟩
  have hd : decide (t.fee < fl) = false := by simpa using hfee
  clear hfee
  have c0 := HF0.out _ HB5.out.1
  have c2 := (HBX.out _ _ HB5.out.hd).2.2
  go_wp2_with fail
  go_quiet (fail)
  have HB6 := Lib.hid (HB5.out.step (below_drewN' (Below.refl _ _) nq))
  generalize w5.drewN nq = w6 at *
  clear c0 c2
  clear hd
  by_cases hno : t.nonce < nx
  · have hd : decide (t.nonce < nx) = true := by simpa using hno
    clear hno
    have c1 := (HBX.out _ _ HB6.out.hd).2.1
    have c3 := (HBX.out _ _ HB6.out.hd).1
    have c4 := HX0.out _ HB6.out.1
    have c5 := HX1.out _ HB6.out.1
    go_wp2_with fail
    go_quiet (fail)
    have HB7 := Lib.hid (HB6.out.step (below_drewN' (Below.refl _ _) nq))
    generalize w6.drewN nq = w7 at *
    clear c1 c3 c4 c5
    go_wp2_with (first
    | ((with_reducible show wpList _ _ _ (⟨_, .build 35 _, _, _, _, _⟩ :: _) _ _); refine wpList_buildL rfl 35 [] rfl (some 39) rfl _ rfl _ HBt.out ?_)
    | (
       with_reducible show wpList _ _ _ (⟨_, .store 35 (.tmp 4) _, _, _, _, _⟩ :: _) _ _
       refine wpList_store_at rfl 35 (.tmp 4) (.tmp 39) rfl w.heap.size 0 ZT ZT _ rfl rfl (HB7.out.tl.hd) (by have := HZ72.out; have := HZ72.out; omega) (by rw [tx_info, HZ72.out]) HZ1.out ?_
       intro wf hr hg
       rw [splice_all (HZ72.out.trans HZ72.out.symm)] at hr
       have HR9 := Lib.hid hr
       have HB9 := Lib.hid (below_own HB7.out.1 hg (fun k hk => by cases hk; exact Nat.le_refl _))
       clear hr hg))
    refine bodyPost_ret (results_rowL rfl _ _ w.heap.size 35 ZT _ rfl HR9.out Tryd.underlying35 rfl (by rw [tx_info]; simp [HZ72.out]) (.int .i64 (22)) rfl) rfl ⟨⟨Tx.none, 22, Tx.none_ok, fun h => absurd h (by decide), by rw [HZe.out]⟩, HB9.out⟩
  have hd : decide (t.nonce < nx) = false := by simpa using hno
  clear hno
  have c1 := (HBX.out _ _ HB6.out.hd).2.1
  have c3 := (HBX.out _ _ HB6.out.hd).1
  have c4 := HX0.out _ HB6.out.1
  have c5 := HX1.out _ HB6.out.1
  go_wp2_with fail
  go_quiet (fail)
  have HB7 := Lib.hid (HB6.out.step (below_drewN' (Below.refl _ _) nq))
  generalize w6.drewN nq = w7 at *
  clear c1 c3 c4 c5
  go_wp2_with ((with_reducible show wpList _ _ _ (⟨_, .load 35 (.tmp 6), _, _, _, _⟩ :: _) _ _); refine wpList_load_tx rfl 35 (.tmp 6) rfl w2.heap.size 0 rfl CT _ (row_range (HB7.out.hd)) Tryd.underlying35 rfl (by rw [tx_info, HT72.out]) ?_)
  refine (AT2.out _ HB7.out.1).mono ?_
  rintro _ w8 ⟨⟨i, rfl, hi⟩, hb8⟩
  have HB8 := Lib.hid (HB7.out.step hb8)
  clear hb8
  by_cases hi0 : 0 ≤ i
  · have hd2 : decide (0 ≤ i) = true := by simpa using hi0
    clear hi
    go_wp2_with (first
    | ((with_reducible show wpList _ _ _ (⟨_, .build 35 _, _, _, _, _⟩ :: _) _ _); refine wpList_buildL rfl 35 [] rfl (some 44) rfl _ rfl _ HBt.out ?_)
    | (
       with_reducible show wpList _ _ _ (⟨_, .store 35 (.tmp 4) _, _, _, _, _⟩ :: _) _ _
       refine wpList_store_at rfl 35 (.tmp 4) (.tmp 44) rfl w.heap.size 0 ZT ZT _ rfl rfl (HB8.out.tl.hd) (by have := HZ72.out; have := HZ72.out; omega) (by rw [tx_info, HZ72.out]) HZ1.out ?_
       intro wf hr hg
       rw [splice_all (HZ72.out.trans HZ72.out.symm)] at hr
       have HR9 := Lib.hid hr
       have HB9 := Lib.hid (below_own HB8.out.1 hg (fun k hk => by cases hk; exact Nat.le_refl _))
       clear hr hg))
    refine bodyPost_ret (results_rowL rfl _ _ w.heap.size 35 ZT _ rfl HR9.out Tryd.underlying35 rfl (by rw [tx_info]; simp [HZ72.out]) (.int .i64 (23)) rfl) rfl ⟨⟨Tx.none, 23, Tx.none_ok, fun h => absurd h (by decide), by rw [HZe.out]⟩, HB9.out⟩
  have hd2 : decide (0 ≤ i) = false := by simpa using hi0
  clear hi
  go_wp2_with (first
  | ((with_reducible show wpList _ _ _ (⟨_, .load 35 (.tmp 6), _, _, _, _⟩ :: _) _ _); refine wpList_load_tx rfl 35 (.tmp 6) rfl w2.heap.size 0 rfl CT _ (row_range (HB8.out.hd)) Tryd.underlying35 rfl (by rw [tx_info, HT72.out]) ?_)
  | (
     with_reducible show wpList _ _ _ (⟨_, .store 35 (.tmp 4) _, _, _, _, _⟩ :: _) _ _
     refine wpList_store_at rfl 35 (.tmp 4) (.tmp 45) rfl w.heap.size 0 CT ZT _ rfl rfl (HB8.out.tl.hd) (by have := HZ72.out; have := HT72.out; omega) (by rw [tx_info, HT72.out]) HT1.out ?_
     intro wf hr hg
     rw [splice_all (HT72.out.trans HZ72.out.symm)] at hr
     have HR9 := Lib.hid hr
     have HB9 := Lib.hid (below_own HB8.out.1 hg (fun k hk => by cases hk; exact Nat.le_refl _))
     clear hr hg))
  refine bodyPost_ret (results_rowL rfl _ _ w.heap.size 35 CT _ rfl HR9.out Tryd.underlying35 rfl (by rw [tx_info]; simp [HT72.out]) (.int .i64 0) rfl) rfl ⟨⟨t, 0, HTok.out, fun _ => Hfr2.out, by rw [HCT.out]⟩, HB9.out⟩
theorem make_zeros17 (u : World) : (Instr.makeSlice 54 (.int .i64 64) (.int .i64 64)).run Tryd.prog u = .ok (.slice (some ⟨u.heap.size, 0, none⟩) 64 64) (u.alloc (.cells (Is (List.replicate 64 0)).toArray 3)) := by kernel_rfl
theorem rgNew_ok (n : Int) (w : World) (h1 : 0 ≤ n) (h2 : n ≤ 1099511627776) :
    Calls Tryd.prog 7 #[.int .i64 n] w fun e w' => e = .returned (.tuple #[.pointer (some ⟨w.heap.size + 1, 0, none⟩), .int .i64 0]) ∧ RGAt w' w.heap.size (w.heap.size + 1) w.heap.size (.slice none 0 0) n (List.replicate 64 0) [] 0 ∧ Below w.heap.size w w' := by
  have d1 : decide (n < 0) = false := by simp only [decide_eq_false_iff_not]; omega
  have d2 : decide (1099511627776 < n) = false := by simp only [decide_eq_false_iff_not]; omega
  have hmz := make_zeros17
  generalize hZ : Is (List.replicate 64 0) = Z at hmz
  go_enter Tryd.func7, Tryd.ntmps7
  go_wp2_with fail
  go_ret2
  subst hZ
  have hrN := Row.new w 3 (Is (List.replicate 64 0))
  have hbN : Below w.heap.size w (w.alloc (.cells (Is (List.replicate 64 0)).toArray 3)) := (Below.refl _ _).alloc (Nat.le_refl _) _
  have hrB := Row.new (w.alloc (.cells (Is (List.replicate 64 0)).toArray 3)) 57 [.int .i64 n, .slice (some ⟨w.heap.size, 0, none⟩) 64 64, .slice none 0 0]
  rw [show (w.alloc (.cells (Is (List.replicate 64 0)).toArray 3)).heap.size = w.heap.size + 1 by simp] at hrB
  refine ⟨rfl, ⟨hrB, hrN.below ((Below.refl _ _).alloc (Nat.le_refl _) _), OwnL.nil _ _ _ _ _, ⟨by simp, fun x hx => by rw [List.eq_of_mem_replicate hx]; decide⟩, ⟨by simp, Nat.zero_le _⟩, Nat.le_succ _, Nat.le_refl _⟩, hbN.alloc (by simp) _⟩
end Go.Proofs.YtoicpidiejhjeaaDoor
