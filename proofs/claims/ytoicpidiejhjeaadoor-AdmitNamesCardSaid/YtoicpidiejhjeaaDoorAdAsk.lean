/- admit: ask. -/
import Derived.Test.YtoicpidiejhjeaaDoorAdOps
import Derived.Test.YtoicpidiejhjeaaDoorNoBlocks
import Derived.Test.YtoicpidiejhjeaaDoorNoReg
import Derived.Test.YtoicpidiejhjeaaDoorAdBack
import Derived.BigQuiet
namespace Go.Proofs.YtoicpidiejhjeaaDoor
open Go.RowKit Go.Maps
set_option linter.unusedVariables false
set_option linter.unusedSimpArgs false
set_option maxRecDepth 100000

theorem results_rowLL {P : Program} {fn : Func} {p q u : Tmp} {ty tz : TypeId} (h : fn.results = #[.cell p ty, .cell q tz, .tmp u]) (tmps : Array Value) (w : World)
    (g : Nat) (T : TypeId) (xs : List Value) (d : TypeDesc) (hp : tmps.getD p undef = .pointer (some ⟨g, 0, none⟩)) (hg : Row w g T xs)
    (hu : P.underlying ty = some d) (hd : (match d with | .struct _ | .array _ _ => true | _ => false) = true) (hi : (P.info? ty).map (·.size) = some xs.toArray.size)
    (k : Nat) (U : TypeId) (ys : List Value) (d2 : TypeDesc) (hq : tmps.getD q undef = .pointer (some ⟨k, 0, none⟩)) (hk : Row w k U ys)
    (hu2 : P.underlying tz = some d2) (hd2 : (match d2 with | .struct _ | .array _ _ => true | _ => false) = true) (hi2 : (P.info? tz).map (·.size) = some ys.toArray.size)
    (x : Value) (hx : tmps.getD u undef = x) :
    (results fn tmps).run P w = .ok (.tuple #[.agg xs.toArray, .agg ys.toArray, x]) w := by
  have hl := run_loadVar_row w g T ty xs.toArray (0, 0) d hg hu hd hi
  have hl2 := run_loadVar_row w k U tz ys.toArray (0, 0) d2 hk hu2 hd2 hi2
  have ha : (asAddr (.pointer (some ⟨g, 0, none⟩))).run P w = .ok ⟨g, 0, none⟩ w := rfl
  have hb : (asAddr (.pointer (some ⟨k, 0, none⟩))).run P w = .ok ⟨k, 0, none⟩ w := rfl
  have hp2 : tmps[p]?.getD undef = .pointer (some ⟨g, 0, none⟩) := by simpa using hp
  have hq2 : tmps[q]?.getD undef = .pointer (some ⟨k, 0, none⟩) := by simpa using hq
  have hx2 : tmps[u]?.getD undef = x := by simpa using hx
  simp only [results, h]
  simp [Sem.run_bind, hp2, hq2, ha, hb, hl, hl2, hx2, Result.andThen]
set_option maxHeartbeats 1600000 in
theorem ask_nil (s : ByteArray) (w : World) : Calls Tryd.prog 22 #[.pointer none, .string s] w fun e w' => e = .returned (.tuple #[.agg Tx.none.cells.toArray, .agg (bRow Tx.zero).toList.toArray, .int .i64 1]) ∧ Below w.heap.size w w' := by
  have hzv : ∀ W : World, (zeroValue 35).run Tryd.prog W = .ok (.agg Tx.none.cells.toArray) W := tx_zv
  have hzh : ∀ W : World, (zeroValue 33).run Tryd.prog W = .ok (.agg (bRow Tx.zero).toList.toArray) W := fun W => by rw [Array.toArray_toList]; exact hash_zv W
  have HBt : Hid (Tryd.prog.built 35 [] = some Tx.none.cells.toArray) := Lib.hid tx_built0
  have HBh : Hid (Tryd.prog.built 33 [] = some (bRow Tx.zero).toList.toArray) := Lib.hid (by rw [Array.toArray_toList]; exact hash_built)
  have HZ72 := Lib.hid (Tx.cells_length Tx.none_ok)
  have HZ1 := Lib.hid (Tx.cells_one Tx.none_ok)
  have HZ32 := Lib.hid (Tx.bRow_len Tx.zero rfl)
  have HZh1 : Hid (∀ v ∈ (bRow Tx.zero).toList, v.oneCell' = true) := Lib.hid (hash_one _ rfl)
  generalize Tx.none.cells = ZT at *
  generalize (bRow Tx.zero).toList = ZH at *
  have e1 : (w.alloc (.cells ZT.toArray 35)).heap.size = w.heap.size + 1 := by simp
  have b1 : Blocks w (w.alloc (.cells ZT.toArray 35)) [(w.heap.size, 35, ZT)] := (Blocks.nil ((Below.refl w.heap.size w).alloc (Nat.le_refl _) _)).cons (Row.new w _ _)
  have r2 := Row.new (w.alloc (.cells ZT.toArray 35)) 33 ZH
  rw [e1] at r2
  have HB2 := Lib.hid ((b1.alloc (.cells ZH.toArray 33)).cons r2)
  clear e1 b1 r2
  go_enter Tryd.func22, Tryd.ntmps22
  go_wp2_with (first
  | ((with_reducible show wpList _ _ _ (⟨_, .build 35 _, _, _, _, _⟩ :: _) _ _); refine wpList_buildL rfl 35 [] rfl (some 15) rfl _ rfl _ HBt.out ?_)
  | ((with_reducible show wpList _ _ _ (⟨_, .build 33 _, _, _, _, _⟩ :: _) _ _); refine wpList_buildL rfl 33 [] rfl (some 16) rfl _ rfl _ HBh.out ?_)
  | (
     with_reducible show wpList _ _ _ (⟨_, .store 35 (.tmp 4) _, _, _, _, _⟩ :: _) _ _
     refine wpList_store_at rfl 35 (.tmp 4) (.tmp 15) rfl w.heap.size 0 ZT ZT _ rfl rfl (HB2.out.tl.hd) (by have := HZ72.out; have := HZ72.out; omega) (by rw [tx_info, HZ72.out]) HZ1.out ?_
     intro w3 hr hg
     rw [splice_all (HZ72.out.trans HZ72.out.symm)] at hr
     have HR4 := Lib.hid hr
     have HR5o := Lib.hid (HB2.out.hd.kept hg (by simp))
     have HBa := Lib.hid (below_own HB2.out.1 hg (fun k hk => by cases hk; exact Nat.le_refl _))
     clear hr hg)
  | (
     with_reducible show wpList _ _ _ (⟨_, .store 33 (.tmp 5) _, _, _, _, _⟩ :: _) _ _
     refine wpList_store_at rfl 33 (.tmp 5) (.tmp 16) rfl (w.heap.size + 1) 0 ZH ZH _ rfl rfl (HR5o.out) (by have := HZ32.out; have := HZ32.out; omega) (by rw [hash_info, HZ32.out]) HZh1.out ?_
     intro w4 hr hg
     rw [splice_all (HZ32.out.trans HZ32.out.symm)] at hr
     have HR5 := Lib.hid hr
     replace HR4 := Lib.hid (HR4.out.kept hg (by simp))
     have HBl := Lib.hid (below_own HBa.out hg (fun k hk => by cases hk; exact Nat.le_succ _))
     clear hr hg))
  refine bodyPost_ret (results_rowLL rfl _ _ w.heap.size 35 ZT _ rfl HR4.out Tryd.underlying35 rfl (by rw [tx_info]; simp [HZ72.out]) (w.heap.size + 1) 33 ZH _ rfl HR5.out Tryd.underlying33 rfl (by rw [hash_info]; simp [HZ32.out]) _ rfl) rfl ⟨rfl, HBl.out⟩
set_option maxHeartbeats 1600000 in
theorem ask_none {w : World} {B M n : Nat} {g : Ad.G} (s : ByteArray) (hs : s.size ≤ 9223372036854775807) (hr : Tx.read s.data.toList = none) :
    Calls Tryd.prog 22 #[.pointer (some ⟨B, 0, none⟩), .string s] w fun e w' => e = .returned (.tuple #[.agg Tx.none.cells.toArray, .agg (bRow Tx.zero).toList.toArray, .int .i64 6]) ∧ Below w.heap.size w w' := by
  have RD : Hid (∀ W, Calls Tryd.prog 31 #[.string s] W fun e w' => (∃ n : Int, (n != 0) = true ∧ e = .returned (.tuple #[.agg Tx.none.cells.toArray, .int .i64 n])) ∧ Below W.heap.size W w') := Lib.hid (fun W => (read4_any s W hs).mono fun e w' ⟨h1, h2⟩ => by
    unfold ReadEnds at h1
    rw [hr] at h1
    exact ⟨h1, h2⟩)
  have hzv : ∀ W : World, (zeroValue 35).run Tryd.prog W = .ok (.agg Tx.none.cells.toArray) W := tx_zv
  have hzh : ∀ W : World, (zeroValue 33).run Tryd.prog W = .ok (.agg (bRow Tx.zero).toList.toArray) W := fun W => by rw [Array.toArray_toList]; exact hash_zv W
  have HBt : Hid (Tryd.prog.built 35 [] = some Tx.none.cells.toArray) := Lib.hid tx_built0
  have HBh : Hid (Tryd.prog.built 33 [] = some (bRow Tx.zero).toList.toArray) := Lib.hid (by rw [Array.toArray_toList]; exact hash_built)
  have HZ72 := Lib.hid (Tx.cells_length Tx.none_ok)
  have HZ1 := Lib.hid (Tx.cells_one Tx.none_ok)
  have HZ32 := Lib.hid (Tx.bRow_len Tx.zero rfl)
  have HZh1 : Hid (∀ v ∈ (bRow Tx.zero).toList, v.oneCell' = true) := Lib.hid (hash_one _ rfl)
  clear hr
  generalize Tx.none.cells = ZT at *
  generalize (bRow Tx.zero).toList = ZH at *
  have e1 : (w.alloc (.cells ZT.toArray 35)).heap.size = w.heap.size + 1 := by simp
  have b1 : Blocks w (w.alloc (.cells ZT.toArray 35)) [(w.heap.size, 35, ZT)] := (Blocks.nil ((Below.refl w.heap.size w).alloc (Nat.le_refl _) _)).cons (Row.new w _ _)
  have r2 := Row.new (w.alloc (.cells ZT.toArray 35)) 33 ZH
  rw [e1] at r2
  have HB2 := Lib.hid ((b1.alloc (.cells ZH.toArray 33)).cons r2)
  clear e1 b1 r2
  go_enter Tryd.func22, Tryd.ntmps22
  go_wp2_with fail
  refine (RD.out _).mono ?_
  rintro _ w3 ⟨⟨q, hq, rfl⟩, hb3⟩
  have HB3 := Lib.hid (HB2.out.step hb3)
  clear hb3
  go_wp2_with (first
  | (
     with_reducible show wpList _ _ _ (⟨_, .store 35 (.tmp 7) _, _, _, _, _⟩ :: _) _ _
     refine wpList_store_at rfl 35 (.tmp 7) (.tmp 20) rfl w3.heap.size 0 ZT ZT _ rfl rfl (Row.new w3 35 ZT) (by have := HZ72.out; have := HZ72.out; omega) (by rw [tx_info, HZ72.out]) HZ1.out ?_
     intro w7 hr hg
     rw [splice_all (HZ72.out.trans HZ72.out.symm)] at hr
     have hbn := ((HB3.out.alloc (.cells ZT.toArray 35)).put hg HB3.out.size HB3.out.fresh).cons hr
     have HB7 := Lib.hid hbn
     clear hbn
     clear hr hg)
  | ((with_reducible show wpList _ _ _ (⟨_, .build 35 _, _, _, _, _⟩ :: _) _ _); refine wpList_buildL rfl 35 [] rfl (some 24) rfl _ rfl _ HBt.out ?_)
  | ((with_reducible show wpList _ _ _ (⟨_, .build 33 _, _, _, _, _⟩ :: _) _ _); refine wpList_buildL rfl 33 [] rfl (some 25) rfl _ rfl _ HBh.out ?_)
  | (
     with_reducible show wpList _ _ _ (⟨_, .store 35 (.tmp 4) _, _, _, _, _⟩ :: _) _ _
     refine wpList_store_at rfl 35 (.tmp 4) (.tmp 24) rfl w.heap.size 0 ZT ZT _ rfl rfl (HB7.out.tl.tl.hd) (by have := HZ72.out; have := HZ72.out; omega) (by rw [tx_info, HZ72.out]) HZ1.out ?_
     intro w8 hr hg
     rw [splice_all (HZ72.out.trans HZ72.out.symm)] at hr
     have HR4 := Lib.hid hr
     have HR5o := Lib.hid (HB7.out.tl.hd.kept hg (by simp))
     have HBa := Lib.hid (below_own HB7.out.1 hg (fun k hk => by cases hk; exact Nat.le_refl _))
     clear hr hg)
  | (
     with_reducible show wpList _ _ _ (⟨_, .store 33 (.tmp 5) _, _, _, _, _⟩ :: _) _ _
     refine wpList_store_at rfl 33 (.tmp 5) (.tmp 25) rfl (w.heap.size + 1) 0 ZH ZH _ rfl rfl (HR5o.out) (by have := HZ32.out; have := HZ32.out; omega) (by rw [hash_info, HZ32.out]) HZh1.out ?_
     intro w9 hr hg
     rw [splice_all (HZ32.out.trans HZ32.out.symm)] at hr
     have HR5 := Lib.hid hr
     replace HR4 := Lib.hid (HR4.out.kept hg (by simp))
     have HBl := Lib.hid (below_own HBa.out hg (fun k hk => by cases hk; exact Nat.le_succ _))
     clear hr hg))
  refine bodyPost_ret (results_rowLL rfl _ _ w.heap.size 35 ZT _ rfl HR4.out Tryd.underlying35 rfl (by rw [tx_info]; simp [HZ72.out]) (w.heap.size + 1) 33 ZH _ rfl HR5.out Tryd.underlying33 rfl (by rw [hash_info]; simp [HZ32.out]) _ rfl) rfl ⟨rfl, HBl.out⟩
set_option maxHeartbeats 3200000 in
theorem ask_sig {w : World} {B M n : Nat} {g : Ad.G} (s : ByteArray) (hs : s.size ≤ 9223372036854775807) (t : Tx) (hr : Tx.read s.data.toList = some t) (ht : t.Ok) (hfrm : 0 ≤ t.frm ∧ t.frm ≤ 63) (hne : t.nameE.2 = 0) (hg : GateAt w B M g n) (hT : Tab w) (hsg : t.signedE ≠ 0) :
    Calls Tryd.prog 22 #[.pointer (some ⟨B, 0, none⟩), .string s] w fun e w' => e = .returned (.tuple #[.agg Tx.none.cells.toArray, .agg (bRow Tx.zero).toList.toArray, .int .i64 21]) ∧ Below w.heap.size w w' := by
  have RD : Hid (∀ W, Calls Tryd.prog 31 #[.string s] W fun e w' => e = .returned (.tuple #[.agg t.cells.toArray, .int .i64 0]) ∧ Below W.heap.size W w') := Lib.hid (fun W => (read4_any s W hs).mono fun e w' ⟨h1, h2⟩ => by
    unfold ReadEnds at h1
    rw [hr] at h1
    exact ⟨h1, h2⟩)
  have NM : Hid (∀ W, Tab W → Calls Tryd.prog 32 #[.agg t.cells.toArray] W fun e w' => e = .returned (.tuple #[.agg (bRow t.nameE.1).toList.toArray, .int .i64 0]) ∧ Below W.heap.size W w') := Lib.hid (fun W hW => (name4_any t ht W hW).mono fun e w' ⟨h1, h2⟩ => ⟨by rw [h1, Array.toArray_toList, ← hne], h2⟩)
  have SG : Hid (∀ W, Tab W → Calls Tryd.prog 33 #[.agg t.cells.toArray] W fun e w' => e = .returned (.int .i64 t.signedE) ∧ Below W.heap.size W w') := Lib.hid (fun W hW => signed4_any t ht W hW)
  have hzv : ∀ W : World, (zeroValue 35).run Tryd.prog W = .ok (.agg Tx.none.cells.toArray) W := tx_zv
  have hzh : ∀ W : World, (zeroValue 33).run Tryd.prog W = .ok (.agg (bRow Tx.zero).toList.toArray) W := fun W => by rw [Array.toArray_toList]; exact hash_zv W
  have HBt : Hid (Tryd.prog.built 35 [] = some Tx.none.cells.toArray) := Lib.hid tx_built0
  have HBh : Hid (Tryd.prog.built 33 [] = some (bRow Tx.zero).toList.toArray) := Lib.hid (by rw [Array.toArray_toList]; exact hash_built)
  have HZ72 := Lib.hid (Tx.cells_length Tx.none_ok)
  have HZ1 := Lib.hid (Tx.cells_one Tx.none_ok)
  have HZ32 := Lib.hid (Tx.bRow_len Tx.zero rfl)
  have HZh1 : Hid (∀ v ∈ (bRow Tx.zero).toList, v.oneCell' = true) := Lib.hid (hash_one _ rfl)
  have HT72 := Lib.hid (Tx.cells_length ht)
  have HT1 := Lib.hid (Tx.cells_one ht)
  have HN32 := Lib.hid (Tx.bRow_len t.nameE.1 Tx.name_len)
  have HN1 : Hid (∀ v ∈ (bRow t.nameE.1).toList, v.oneCell' = true) := Lib.hid (hash_one _ Tx.name_len)
  have HG := Lib.hid hg
  have HTb : Hid (∀ W, Below w.heap.size w W → Tab W) := Lib.hid (fun W hW => hT.below hW hT.pos)
  have HM0 : Hid (∀ W, Below w.heap.size w W → W.cell? ⟨B, 65, none⟩ = some (.map (some M))) := Lib.hid (fun W hW => (hg.below hW).c65)
  have HF0 : Hid (∀ W, Below w.heap.size w W → W.cell? ⟨B, 0, none⟩ = some (.int .i64 g.fl)) := Lib.hid (fun W hW => (hg.below hW).c0)
  have HX0 : Hid (∀ W, Below w.heap.size w W → W.cell? ⟨B, 1 + t.frm.toNat, none⟩ = some (.int .i64 (Ad.nxt g t.frm))) := Lib.hid (fun W hW => (hg.below hW).c1 _ hfrm)
  have HL0 : Hid (∀ W, Below w.heap.size w W → (Instr.lookup 50 (.map (some M)) (.agg (bRow t.nameE.1).toList.toArray) true).run Tryd.prog W = .ok (.tuple #[.agg #[], .bool (decide (t.nameE.1 ∈ g.nm))]) W) := Lib.hid (fun W hW => by rw [Array.toArray_toList]; exact (hg.below hW).look Tx.name_len)
  have HBX : Hid (∀ (W : World) (k : Nat), Row W k 35 t.cells → W.cell? ⟨k, 0, none⟩ = some (.int .i64 t.frm) ∧ W.cell? ⟨k, 1, none⟩ = some (.int .i64 t.nonce) ∧ W.cell? ⟨k, 2, none⟩ = some (.int .i64 t.fee)) := Lib.hid (fun W k h => ⟨(tx_box ht h).1, (tx_box ht h).2.1, (tx_box ht h).2.2.1⟩)
  have hsb : (t.signedE != 0) = true := by simpa using hsg
  clear hsg
  obtain ⟨bb, hbb⟩ : ∃ bb, decide (t.nameE.1 ∈ g.nm) = bb := ⟨_, rfl⟩
  rw [hbb] at HL0
  clear hbb
  clear hr ht hne hg hT
  generalize Tx.none.cells = ZT at *
  generalize (bRow Tx.zero).toList = ZH at *
  generalize t.cells = CT at *
  generalize (bRow t.nameE.1).toList = NH at *
  generalize t.fee = fee at *
  generalize t.nonce = non at *
  generalize g.fl = fl at *
  generalize Ad.nxt g t.frm = nx at *
  obtain ⟨fr, hfr⟩ : ∃ fr : Nat, t.frm = fr := ⟨t.frm.toNat, by omega⟩
  rw [hfr] at hfrm HX0 HBX
  rw [Int.toNat_natCast] at HX0
  have hk0 : (0 : Int) ≤ (fr : Int) := hfrm.1
  have hk1 : (fr : Int) < 64 := by omega
  clear hfr hfrm
  have e1 : (w.alloc (.cells ZT.toArray 35)).heap.size = w.heap.size + 1 := by simp
  have b1 : Blocks w (w.alloc (.cells ZT.toArray 35)) [(w.heap.size, 35, ZT)] := (Blocks.nil ((Below.refl w.heap.size w).alloc (Nat.le_refl _) _)).cons (Row.new w _ _)
  have r2 := Row.new (w.alloc (.cells ZT.toArray 35)) 33 ZH
  rw [e1] at r2
  have HB2 := Lib.hid ((b1.alloc (.cells ZH.toArray 33)).cons r2)
  clear e1 b1 r2
  go_enter Tryd.func22, Tryd.ntmps22
  go_wp2_with fail
  refine (RD.out _).mono ?_
  rintro _ w3 ⟨rfl, hb3⟩
  have HB3 := Lib.hid (HB2.out.step hb3)
  clear hb3
  go_wp2_with (first
  | (
     with_reducible show wpList _ _ _ (⟨_, .store 35 (.tmp 7) _, _, _, _, _⟩ :: _) _ _
     refine wpList_store_at rfl 35 (.tmp 7) (.tmp 20) rfl w3.heap.size 0 CT ZT _ rfl rfl (Row.new w3 35 ZT) (by have := HZ72.out; have := HT72.out; omega) (by rw [tx_info, HT72.out]) HT1.out ?_
     intro w7 hr hg
     rw [splice_all (HT72.out.trans HZ72.out.symm)] at hr
     have hbn := ((HB3.out.alloc (.cells ZT.toArray 35)).put hg HB3.out.size HB3.out.fresh).cons hr
     have HB7 := Lib.hid hbn
     clear hbn
     clear hr hg)
  | ((with_reducible show wpList _ _ _ (⟨_, .load 35 (.tmp 7), _, _, _, _⟩ :: _) _ _); refine wpList_load_tx rfl 35 (.tmp 7) rfl w3.heap.size 0 rfl CT _ (row_range (HB7.out.hd)) Tryd.underlying35 rfl (by rw [tx_info, HT72.out]) ?_))
  refine (NM.out _ (HTb.out _ HB7.out.1)).mono ?_
  rintro _ w8 ⟨rfl, hb8⟩
  have HB8 := Lib.hid (HB7.out.step hb8)
  clear hb8
  go_wp2_with (
   with_reducible show wpList _ _ _ (⟨_, .store 33 (.tmp 9) _, _, _, _, _⟩ :: _) _ _
   refine wpList_store_at rfl 33 (.tmp 9) (.tmp 29) rfl w8.heap.size 0 NH ZH _ rfl rfl (Row.new w8 33 ZH) (by have := HZ32.out; have := HN32.out; omega) (by rw [hash_info, HN32.out]) HN1.out ?_
   intro w9 hr hg
   rw [splice_all (HN32.out.trans HZ32.out.symm)] at hr
   have hbn := ((HB8.out.alloc (.cells ZH.toArray 33)).put hg HB8.out.size HB8.out.fresh).cons hr
   have HB9 := Lib.hid hbn
   clear hbn
   clear hr hg)
  have HM : Hid (∀ W, Below w9.heap.size w9 W → W.cell? ⟨B, 65, none⟩ = some (.map (some M))) := Lib.hid (fun W hW => HM0.out W (two_below' HB9.out.1 hW))
  have HLk : Hid (∀ W, Below w9.heap.size w9 W → (Instr.lookup 50 (.map (some M)) (.agg NH.toArray) true).run Tryd.prog W = .ok (.tuple #[.agg #[], .bool bb]) W) := Lib.hid (fun W hW => HL0.out W (two_below' HB9.out.1 hW))
  refine wp_region_held_drew (S := fun w' => Below w9.heap.size w9 w') (by kernel_rfl) ((Below.refl w9.heap.size w9).drew) (fun hHeld => ?_)
  generalize w9.drew = wq at *
  refine wpAnyH_take (i := 0) (v := .pointer (some ⟨B, 0, none⟩)) rfl (by kernel_rfl) (by kernel_rfl) (by kernel_rfl) (fun _ _ _ h => h) (Or.inl ⟨by rfl, fun w' hSw => by go_simp⟩) hHeld ?_
  try simp only [Act.put, List.getElem_toArray, List.getElem_cons_succ, List.getElem_cons_zero, List.setIfInBounds_toArray, List.set_cons_zero, List.set_cons_succ]
  refine wpAnyH_take (i := 1) (v := .pointer (some ⟨B, 0, none⟩)) rfl (by kernel_rfl) (by kernel_rfl) (by kernel_rfl) (fun _ _ _ h => h) (Or.inl ⟨by rfl, fun w' hSw => by go_simp⟩) hHeld ?_
  try simp only [Act.put, List.getElem_toArray, List.getElem_cons_succ, List.getElem_cons_zero, List.setIfInBounds_toArray, List.set_cons_zero, List.set_cons_succ]
  refine wpAnyH_take (i := 2) (v := .pointer (some ⟨B, 65, none⟩)) rfl (by kernel_rfl) (by kernel_rfl) (by kernel_rfl) (fun _ _ _ h => h) (Or.inl ⟨by rfl, fun w' hSw => by go_simp⟩) hHeld ?_
  try simp only [Act.put, List.getElem_toArray, List.getElem_cons_succ, List.getElem_cons_zero, List.setIfInBounds_toArray, List.set_cons_zero, List.set_cons_succ]
  refine wpAnyH_take (i := 3) (v := .map (some M)) rfl (by kernel_rfl) (by kernel_rfl) (by kernel_rfl) (fun _ _ _ h => h) (Or.inl ⟨by rfl, fun w' hSw => by have hq := hSw; have hd := HM.out _ hq; go_simp⟩) hHeld ?_
  try simp only [Act.put, List.getElem_toArray, List.getElem_cons_succ, List.getElem_cons_zero, List.setIfInBounds_toArray, List.set_cons_zero, List.set_cons_succ]
  refine' wpAnyH_take (i := 4) (v := _) rfl (by kernel_rfl) (by kernel_rfl) (by kernel_rfl) (fun _ _ _ h => h) (yieldsIf_load_mid (by rfl) _ _ rfl w8.heap.size 0 rfl NH _ (fun w' hSw => row_range (HB9.out.hd.below hSw)) Tryd.underlying33 rfl (by rw [hash_info, HN32.out])) hHeld ?_
  try simp only [Act.put, List.getElem_toArray, List.getElem_cons_succ, List.getElem_cons_zero, List.setIfInBounds_toArray, List.set_cons_zero, List.set_cons_succ]
  refine wpAnyH_take (i := 5) (v := .tuple #[.agg #[], .bool bb]) rfl (by kernel_rfl) (by kernel_rfl) (by kernel_rfl) (fun _ _ _ h => h) (Or.inl ⟨by rfl, fun w' hSw => by have hq := hSw; have hd := HLk.out _ hq; go_simp⟩) hHeld ?_
  try simp only [Act.put, List.getElem_toArray, List.getElem_cons_succ, List.getElem_cons_zero, List.setIfInBounds_toArray, List.set_cons_zero, List.set_cons_succ]
  refine wpAnyH_take (i := 6) (v := .tuple #[.agg #[], .bool bb]) rfl (by kernel_rfl) (by kernel_rfl) (by kernel_rfl) (fun _ _ _ h => h) (Or.inl ⟨by rfl, fun w' hSw => by go_simp⟩) hHeld ?_
  try simp only [Act.put, List.getElem_toArray, List.getElem_cons_succ, List.getElem_cons_zero, List.setIfInBounds_toArray, List.set_cons_zero, List.set_cons_succ]
  refine wpAnyH_take (i := 7) (v := .agg #[]) rfl (by kernel_rfl) (by kernel_rfl) (by kernel_rfl) (fun _ _ _ h => h) (Or.inl ⟨by rfl, fun w' hSw => by go_simp⟩) hHeld ?_
  try simp only [Act.put, List.getElem_toArray, List.getElem_cons_succ, List.getElem_cons_zero, List.setIfInBounds_toArray, List.set_cons_zero, List.set_cons_succ]
  refine wpAnyH_take (i := 8) (v := .bool bb) rfl (by kernel_rfl) (by kernel_rfl) (by kernel_rfl) (fun _ _ _ h => h) (Or.inl ⟨by rfl, fun w' hSw => by go_simp⟩) hHeld ?_
  try simp only [Act.put, List.getElem_toArray, List.getElem_cons_succ, List.getElem_cons_zero, List.setIfInBounds_toArray, List.set_cons_zero, List.set_cons_succ]
  refine wpAnyH_ready (rs := [9]) (by kernel_rfl) (by simp) (AllReadyH.cons rfl (fun K1 hK1 => ?_) AllReadyH.nil)
  try simp only [Act.put, List.getElem_toArray, List.getElem_cons_succ, List.getElem_cons_zero, List.setIfInBounds_toArray, List.set_cons_zero, List.set_cons_succ]
  go_simp
  have hd2 := (Below.refl wq.heap.size wq).alloc (Nat.le_refl _) (.cells ([] : List Value).toArray 61)
  have rA : Row (wq.alloc (.cells ([] : List Value).toArray 61)) wq.heap.size 61 ([] : List Value) := Row.new wq 61 ([] : List Value)
  have rAs : w9.heap.size ≤ wq.heap.size := hHeld.size
  have hHeld2 := two_below' hHeld hd2
  generalize wq.alloc (.cells ([] : List Value).toArray 61) = wa1 at *
  obtain ⟨ga3, ga3e⟩ : ∃ ga3, ga3 = wq.heap.size := ⟨_, rfl⟩
  rw [← ga3e] at rA rAs ⊢
  refine hK1.out _ _ (hHeld2) (fun hHeld => ?_)
  clear hK1 K1
  try simp only [Act.put, List.getElem_toArray, List.getElem_cons_succ, List.getElem_cons_zero, List.setIfInBounds_toArray, List.set_cons_zero, List.set_cons_succ]
  clear hHeld2 ga3e
  refine wpAnyH_ready (rs := [10]) (by kernel_rfl) (by simp) (AllReadyH.cons rfl (fun K1 hK1 => ?_) AllReadyH.nil)
  try simp only [Act.put, List.getElem_toArray, List.getElem_cons_succ, List.getElem_cons_zero, List.setIfInBounds_toArray, List.set_cons_zero, List.set_cons_succ]
  rw [if_pos (by rfl)]
  refine wp_store_at 61 (.tmp 11) (.tmp 38) rfl ga3 0 ([] : List Value) _ _ rfl rfl rA (by simp) (by kernel_rfl) (by intro v hv; cases hv) ?_
  intro ws4 hrS hgS
  simp only [List.take_zero, List.nil_append, List.length_nil, List.drop_nil, List.append_nil, List.drop_zero] at hrS
  have HRs := Lib.hid hrS
  have hHeld2 := below_own hHeld hgS (fun k hk => by cases hk; exact rAs)
  clear hrS hgS
  refine hK1.out _ _ (hHeld2) (fun hHeld => ?_)
  clear hK1 K1
  try simp only [Act.put, List.getElem_toArray, List.getElem_cons_succ, List.getElem_cons_zero, List.setIfInBounds_toArray, List.set_cons_zero, List.set_cons_succ]
  clear hHeld2
  refine wpAnyH_take (i := 11) (v := .bool bb) rfl (by kernel_rfl) (by kernel_rfl) (by kernel_rfl) (fun _ _ _ h => h) (Or.inl ⟨by rfl, fun w' hSw => by go_simp⟩) hHeld ?_
  try simp only [Act.put, List.getElem_toArray, List.getElem_cons_succ, List.getElem_cons_zero, List.setIfInBounds_toArray, List.set_cons_zero, List.set_cons_succ]
  refine wpAnyH_done (by kernel_rfl) ?_ _
  have HB10 := Lib.hid (HB9.out.step hHeld)
  clear hHeld HRs rAs rA
  go_wp2_with ((with_reducible show wpList _ _ _ (⟨_, .load 35 (.tmp 7), _, _, _, _⟩ :: _) _ _); refine wpList_load_tx rfl 35 (.tmp 7) rfl w3.heap.size 0 rfl CT _ (row_range (HB10.out.tl.hd)) Tryd.underlying35 rfl (by rw [tx_info, HT72.out]) ?_)
  refine (SG.out _ (HTb.out _ HB10.out.1)).mono ?_
  rintro _ w11 ⟨rfl, hb11⟩
  have HB11 := Lib.hid (HB10.out.step hb11)
  clear hb11
  generalize w8.heap.size = g9 at *
  generalize w3.heap.size = g7 at *
  go_wp2_with (first
  | ((with_reducible show wpList _ _ _ (⟨_, .build 35 _, _, _, _, _⟩ :: _) _ _); refine wpList_buildL rfl 35 [] rfl (some 67) rfl _ rfl _ HBt.out ?_)
  | ((with_reducible show wpList _ _ _ (⟨_, .build 33 _, _, _, _, _⟩ :: _) _ _); refine wpList_buildL rfl 33 [] rfl (some 68) rfl _ rfl _ HBh.out ?_)
  | (
     with_reducible show wpList _ _ _ (⟨_, .store 35 (.tmp 4) _, _, _, _, _⟩ :: _) _ _
     refine wpList_store_at rfl 35 (.tmp 4) (.tmp 67) rfl w.heap.size 0 ZT ZT _ rfl rfl (HB11.out.tl.tl.tl.hd) (by have := HZ72.out; have := HZ72.out; omega) (by rw [tx_info, HZ72.out]) HZ1.out ?_
     intro w12 hr hg
     rw [splice_all (HZ72.out.trans HZ72.out.symm)] at hr
     have HR4 := Lib.hid hr
     have HR5o := Lib.hid (HB11.out.tl.tl.hd.kept hg (by simp))
     have HBa := Lib.hid (below_own HB11.out.1 hg (fun k hk => by cases hk; exact Nat.le_refl _))
     clear hr hg)
  | (
     with_reducible show wpList _ _ _ (⟨_, .store 33 (.tmp 5) _, _, _, _, _⟩ :: _) _ _
     refine wpList_store_at rfl 33 (.tmp 5) (.tmp 68) rfl (w.heap.size + 1) 0 ZH ZH _ rfl rfl (HR5o.out) (by have := HZ32.out; have := HZ32.out; omega) (by rw [hash_info, HZ32.out]) HZh1.out ?_
     intro w13 hr hg
     rw [splice_all (HZ32.out.trans HZ32.out.symm)] at hr
     have HR5 := Lib.hid hr
     replace HR4 := Lib.hid (HR4.out.kept hg (by simp))
     have HBl := Lib.hid (below_own HBa.out hg (fun k hk => by cases hk; exact Nat.le_succ _))
     clear hr hg))
  refine bodyPost_ret (results_rowLL rfl _ _ w.heap.size 35 ZT _ rfl HR4.out Tryd.underlying35 rfl (by rw [tx_info]; simp [HZ72.out]) (w.heap.size + 1) 33 ZH _ rfl HR5.out Tryd.underlying33 rfl (by rw [hash_info]; simp [HZ32.out]) _ rfl) rfl ⟨rfl, HBl.out⟩
set_option maxHeartbeats 3200000 in
theorem ask_fee {w : World} {B M n : Nat} {g : Ad.G} (s : ByteArray) (hs : s.size ≤ 9223372036854775807) (t : Tx) (hr : Tx.read s.data.toList = some t) (ht : t.Ok) (hfrm : 0 ≤ t.frm ∧ t.frm ≤ 63) (hne : t.nameE.2 = 0) (hg : GateAt w B M g n) (hT : Tab w) (hsg : t.signedE = 0) (hfe : t.fee < g.fl) :
    Calls Tryd.prog 22 #[.pointer (some ⟨B, 0, none⟩), .string s] w fun e w' => e = .returned (.tuple #[.agg Tx.none.cells.toArray, .agg (bRow Tx.zero).toList.toArray, .int .i64 24]) ∧ Below w.heap.size w w' := by
  have RD : Hid (∀ W, Calls Tryd.prog 31 #[.string s] W fun e w' => e = .returned (.tuple #[.agg t.cells.toArray, .int .i64 0]) ∧ Below W.heap.size W w') := Lib.hid (fun W => (read4_any s W hs).mono fun e w' ⟨h1, h2⟩ => by
    unfold ReadEnds at h1
    rw [hr] at h1
    exact ⟨h1, h2⟩)
  have NM : Hid (∀ W, Tab W → Calls Tryd.prog 32 #[.agg t.cells.toArray] W fun e w' => e = .returned (.tuple #[.agg (bRow t.nameE.1).toList.toArray, .int .i64 0]) ∧ Below W.heap.size W w') := Lib.hid (fun W hW => (name4_any t ht W hW).mono fun e w' ⟨h1, h2⟩ => ⟨by rw [h1, Array.toArray_toList, ← hne], h2⟩)
  have SG : Hid (∀ W, Tab W → Calls Tryd.prog 33 #[.agg t.cells.toArray] W fun e w' => e = .returned (.int .i64 t.signedE) ∧ Below W.heap.size W w') := Lib.hid (fun W hW => signed4_any t ht W hW)
  have hzv : ∀ W : World, (zeroValue 35).run Tryd.prog W = .ok (.agg Tx.none.cells.toArray) W := tx_zv
  have hzh : ∀ W : World, (zeroValue 33).run Tryd.prog W = .ok (.agg (bRow Tx.zero).toList.toArray) W := fun W => by rw [Array.toArray_toList]; exact hash_zv W
  have HBt : Hid (Tryd.prog.built 35 [] = some Tx.none.cells.toArray) := Lib.hid tx_built0
  have HBh : Hid (Tryd.prog.built 33 [] = some (bRow Tx.zero).toList.toArray) := Lib.hid (by rw [Array.toArray_toList]; exact hash_built)
  have HZ72 := Lib.hid (Tx.cells_length Tx.none_ok)
  have HZ1 := Lib.hid (Tx.cells_one Tx.none_ok)
  have HZ32 := Lib.hid (Tx.bRow_len Tx.zero rfl)
  have HZh1 : Hid (∀ v ∈ (bRow Tx.zero).toList, v.oneCell' = true) := Lib.hid (hash_one _ rfl)
  have HT72 := Lib.hid (Tx.cells_length ht)
  have HT1 := Lib.hid (Tx.cells_one ht)
  have HN32 := Lib.hid (Tx.bRow_len t.nameE.1 Tx.name_len)
  have HN1 : Hid (∀ v ∈ (bRow t.nameE.1).toList, v.oneCell' = true) := Lib.hid (hash_one _ Tx.name_len)
  have HG := Lib.hid hg
  have HTb : Hid (∀ W, Below w.heap.size w W → Tab W) := Lib.hid (fun W hW => hT.below hW hT.pos)
  have HM0 : Hid (∀ W, Below w.heap.size w W → W.cell? ⟨B, 65, none⟩ = some (.map (some M))) := Lib.hid (fun W hW => (hg.below hW).c65)
  have HF0 : Hid (∀ W, Below w.heap.size w W → W.cell? ⟨B, 0, none⟩ = some (.int .i64 g.fl)) := Lib.hid (fun W hW => (hg.below hW).c0)
  have HX0 : Hid (∀ W, Below w.heap.size w W → W.cell? ⟨B, 1 + t.frm.toNat, none⟩ = some (.int .i64 (Ad.nxt g t.frm))) := Lib.hid (fun W hW => (hg.below hW).c1 _ hfrm)
  have HL0 : Hid (∀ W, Below w.heap.size w W → (Instr.lookup 50 (.map (some M)) (.agg (bRow t.nameE.1).toList.toArray) true).run Tryd.prog W = .ok (.tuple #[.agg #[], .bool (decide (t.nameE.1 ∈ g.nm))]) W) := Lib.hid (fun W hW => by rw [Array.toArray_toList]; exact (hg.below hW).look Tx.name_len)
  have HBX : Hid (∀ (W : World) (k : Nat), Row W k 35 t.cells → W.cell? ⟨k, 0, none⟩ = some (.int .i64 t.frm) ∧ W.cell? ⟨k, 1, none⟩ = some (.int .i64 t.nonce) ∧ W.cell? ⟨k, 2, none⟩ = some (.int .i64 t.fee)) := Lib.hid (fun W k h => ⟨(tx_box ht h).1, (tx_box ht h).2.1, (tx_box ht h).2.2.1⟩)
  have hdf : decide (t.fee < g.fl) = true := by simpa using hfe
  clear hfe
  rw [hsg] at SG
  clear hsg
  obtain ⟨bb, hbb⟩ : ∃ bb, decide (t.nameE.1 ∈ g.nm) = bb := ⟨_, rfl⟩
  rw [hbb] at HL0
  clear hbb
  clear hr ht hne hg hT
  generalize Tx.none.cells = ZT at *
  generalize (bRow Tx.zero).toList = ZH at *
  generalize t.cells = CT at *
  generalize (bRow t.nameE.1).toList = NH at *
  generalize t.fee = fee at *
  generalize t.nonce = non at *
  generalize g.fl = fl at *
  generalize Ad.nxt g t.frm = nx at *
  obtain ⟨fr, hfr⟩ : ∃ fr : Nat, t.frm = fr := ⟨t.frm.toNat, by omega⟩
  rw [hfr] at hfrm HX0 HBX
  rw [Int.toNat_natCast] at HX0
  have hk0 : (0 : Int) ≤ (fr : Int) := hfrm.1
  have hk1 : (fr : Int) < 64 := by omega
  clear hfr hfrm
  have e1 : (w.alloc (.cells ZT.toArray 35)).heap.size = w.heap.size + 1 := by simp
  have b1 : Blocks w (w.alloc (.cells ZT.toArray 35)) [(w.heap.size, 35, ZT)] := (Blocks.nil ((Below.refl w.heap.size w).alloc (Nat.le_refl _) _)).cons (Row.new w _ _)
  have r2 := Row.new (w.alloc (.cells ZT.toArray 35)) 33 ZH
  rw [e1] at r2
  have HB2 := Lib.hid ((b1.alloc (.cells ZH.toArray 33)).cons r2)
  clear e1 b1 r2
  go_enter Tryd.func22, Tryd.ntmps22
  go_wp2_with fail
  refine (RD.out _).mono ?_
  rintro _ w3 ⟨rfl, hb3⟩
  have HB3 := Lib.hid (HB2.out.step hb3)
  clear hb3
  go_wp2_with (first
  | (
     with_reducible show wpList _ _ _ (⟨_, .store 35 (.tmp 7) _, _, _, _, _⟩ :: _) _ _
     refine wpList_store_at rfl 35 (.tmp 7) (.tmp 20) rfl w3.heap.size 0 CT ZT _ rfl rfl (Row.new w3 35 ZT) (by have := HZ72.out; have := HT72.out; omega) (by rw [tx_info, HT72.out]) HT1.out ?_
     intro w7 hr hg
     rw [splice_all (HT72.out.trans HZ72.out.symm)] at hr
     have hbn := ((HB3.out.alloc (.cells ZT.toArray 35)).put hg HB3.out.size HB3.out.fresh).cons hr
     have HB7 := Lib.hid hbn
     clear hbn
     clear hr hg)
  | ((with_reducible show wpList _ _ _ (⟨_, .load 35 (.tmp 7), _, _, _, _⟩ :: _) _ _); refine wpList_load_tx rfl 35 (.tmp 7) rfl w3.heap.size 0 rfl CT _ (row_range (HB7.out.hd)) Tryd.underlying35 rfl (by rw [tx_info, HT72.out]) ?_))
  refine (NM.out _ (HTb.out _ HB7.out.1)).mono ?_
  rintro _ w8 ⟨rfl, hb8⟩
  have HB8 := Lib.hid (HB7.out.step hb8)
  clear hb8
  go_wp2_with (
   with_reducible show wpList _ _ _ (⟨_, .store 33 (.tmp 9) _, _, _, _, _⟩ :: _) _ _
   refine wpList_store_at rfl 33 (.tmp 9) (.tmp 29) rfl w8.heap.size 0 NH ZH _ rfl rfl (Row.new w8 33 ZH) (by have := HZ32.out; have := HN32.out; omega) (by rw [hash_info, HN32.out]) HN1.out ?_
   intro w9 hr hg
   rw [splice_all (HN32.out.trans HZ32.out.symm)] at hr
   have hbn := ((HB8.out.alloc (.cells ZH.toArray 33)).put hg HB8.out.size HB8.out.fresh).cons hr
   have HB9 := Lib.hid hbn
   clear hbn
   clear hr hg)
  have HM : Hid (∀ W, Below w9.heap.size w9 W → W.cell? ⟨B, 65, none⟩ = some (.map (some M))) := Lib.hid (fun W hW => HM0.out W (two_below' HB9.out.1 hW))
  have HLk : Hid (∀ W, Below w9.heap.size w9 W → (Instr.lookup 50 (.map (some M)) (.agg NH.toArray) true).run Tryd.prog W = .ok (.tuple #[.agg #[], .bool bb]) W) := Lib.hid (fun W hW => HL0.out W (two_below' HB9.out.1 hW))
  refine wp_region_held_drew (S := fun w' => Below w9.heap.size w9 w') (by kernel_rfl) ((Below.refl w9.heap.size w9).drew) (fun hHeld => ?_)
  generalize w9.drew = wq at *
  refine wpAnyH_take (i := 0) (v := .pointer (some ⟨B, 0, none⟩)) rfl (by kernel_rfl) (by kernel_rfl) (by kernel_rfl) (fun _ _ _ h => h) (Or.inl ⟨by rfl, fun w' hSw => by go_simp⟩) hHeld ?_
  try simp only [Act.put, List.getElem_toArray, List.getElem_cons_succ, List.getElem_cons_zero, List.setIfInBounds_toArray, List.set_cons_zero, List.set_cons_succ]
  refine wpAnyH_take (i := 1) (v := .pointer (some ⟨B, 0, none⟩)) rfl (by kernel_rfl) (by kernel_rfl) (by kernel_rfl) (fun _ _ _ h => h) (Or.inl ⟨by rfl, fun w' hSw => by go_simp⟩) hHeld ?_
  try simp only [Act.put, List.getElem_toArray, List.getElem_cons_succ, List.getElem_cons_zero, List.setIfInBounds_toArray, List.set_cons_zero, List.set_cons_succ]
  refine wpAnyH_take (i := 2) (v := .pointer (some ⟨B, 65, none⟩)) rfl (by kernel_rfl) (by kernel_rfl) (by kernel_rfl) (fun _ _ _ h => h) (Or.inl ⟨by rfl, fun w' hSw => by go_simp⟩) hHeld ?_
  try simp only [Act.put, List.getElem_toArray, List.getElem_cons_succ, List.getElem_cons_zero, List.setIfInBounds_toArray, List.set_cons_zero, List.set_cons_succ]
  refine wpAnyH_take (i := 3) (v := .map (some M)) rfl (by kernel_rfl) (by kernel_rfl) (by kernel_rfl) (fun _ _ _ h => h) (Or.inl ⟨by rfl, fun w' hSw => by have hq := hSw; have hd := HM.out _ hq; go_simp⟩) hHeld ?_
  try simp only [Act.put, List.getElem_toArray, List.getElem_cons_succ, List.getElem_cons_zero, List.setIfInBounds_toArray, List.set_cons_zero, List.set_cons_succ]
  refine' wpAnyH_take (i := 4) (v := _) rfl (by kernel_rfl) (by kernel_rfl) (by kernel_rfl) (fun _ _ _ h => h) (yieldsIf_load_mid (by rfl) _ _ rfl w8.heap.size 0 rfl NH _ (fun w' hSw => row_range (HB9.out.hd.below hSw)) Tryd.underlying33 rfl (by rw [hash_info, HN32.out])) hHeld ?_
  try simp only [Act.put, List.getElem_toArray, List.getElem_cons_succ, List.getElem_cons_zero, List.setIfInBounds_toArray, List.set_cons_zero, List.set_cons_succ]
  refine wpAnyH_take (i := 5) (v := .tuple #[.agg #[], .bool bb]) rfl (by kernel_rfl) (by kernel_rfl) (by kernel_rfl) (fun _ _ _ h => h) (Or.inl ⟨by rfl, fun w' hSw => by have hq := hSw; have hd := HLk.out _ hq; go_simp⟩) hHeld ?_
  try simp only [Act.put, List.getElem_toArray, List.getElem_cons_succ, List.getElem_cons_zero, List.setIfInBounds_toArray, List.set_cons_zero, List.set_cons_succ]
  refine wpAnyH_take (i := 6) (v := .tuple #[.agg #[], .bool bb]) rfl (by kernel_rfl) (by kernel_rfl) (by kernel_rfl) (fun _ _ _ h => h) (Or.inl ⟨by rfl, fun w' hSw => by go_simp⟩) hHeld ?_
  try simp only [Act.put, List.getElem_toArray, List.getElem_cons_succ, List.getElem_cons_zero, List.setIfInBounds_toArray, List.set_cons_zero, List.set_cons_succ]
  refine wpAnyH_take (i := 7) (v := .agg #[]) rfl (by kernel_rfl) (by kernel_rfl) (by kernel_rfl) (fun _ _ _ h => h) (Or.inl ⟨by rfl, fun w' hSw => by go_simp⟩) hHeld ?_
  try simp only [Act.put, List.getElem_toArray, List.getElem_cons_succ, List.getElem_cons_zero, List.setIfInBounds_toArray, List.set_cons_zero, List.set_cons_succ]
  refine wpAnyH_take (i := 8) (v := .bool bb) rfl (by kernel_rfl) (by kernel_rfl) (by kernel_rfl) (fun _ _ _ h => h) (Or.inl ⟨by rfl, fun w' hSw => by go_simp⟩) hHeld ?_
  try simp only [Act.put, List.getElem_toArray, List.getElem_cons_succ, List.getElem_cons_zero, List.setIfInBounds_toArray, List.set_cons_zero, List.set_cons_succ]
  refine wpAnyH_ready (rs := [9]) (by kernel_rfl) (by simp) (AllReadyH.cons rfl (fun K1 hK1 => ?_) AllReadyH.nil)
  try simp only [Act.put, List.getElem_toArray, List.getElem_cons_succ, List.getElem_cons_zero, List.setIfInBounds_toArray, List.set_cons_zero, List.set_cons_succ]
  go_simp
  have hd2 := (Below.refl wq.heap.size wq).alloc (Nat.le_refl _) (.cells ([] : List Value).toArray 61)
  have rA : Row (wq.alloc (.cells ([] : List Value).toArray 61)) wq.heap.size 61 ([] : List Value) := Row.new wq 61 ([] : List Value)
  have rAs : w9.heap.size ≤ wq.heap.size := hHeld.size
  have hHeld2 := two_below' hHeld hd2
  generalize wq.alloc (.cells ([] : List Value).toArray 61) = wa1 at *
  obtain ⟨ga3, ga3e⟩ : ∃ ga3, ga3 = wq.heap.size := ⟨_, rfl⟩
  rw [← ga3e] at rA rAs ⊢
  refine hK1.out _ _ (hHeld2) (fun hHeld => ?_)
  clear hK1 K1
  try simp only [Act.put, List.getElem_toArray, List.getElem_cons_succ, List.getElem_cons_zero, List.setIfInBounds_toArray, List.set_cons_zero, List.set_cons_succ]
  clear hHeld2 ga3e
  refine wpAnyH_ready (rs := [10]) (by kernel_rfl) (by simp) (AllReadyH.cons rfl (fun K1 hK1 => ?_) AllReadyH.nil)
  try simp only [Act.put, List.getElem_toArray, List.getElem_cons_succ, List.getElem_cons_zero, List.setIfInBounds_toArray, List.set_cons_zero, List.set_cons_succ]
  rw [if_pos (by rfl)]
  refine wp_store_at 61 (.tmp 11) (.tmp 38) rfl ga3 0 ([] : List Value) _ _ rfl rfl rA (by simp) (by kernel_rfl) (by intro v hv; cases hv) ?_
  intro ws4 hrS hgS
  simp only [List.take_zero, List.nil_append, List.length_nil, List.drop_nil, List.append_nil, List.drop_zero] at hrS
  have HRs := Lib.hid hrS
  have hHeld2 := below_own hHeld hgS (fun k hk => by cases hk; exact rAs)
  clear hrS hgS
  refine hK1.out _ _ (hHeld2) (fun hHeld => ?_)
  clear hK1 K1
  try simp only [Act.put, List.getElem_toArray, List.getElem_cons_succ, List.getElem_cons_zero, List.setIfInBounds_toArray, List.set_cons_zero, List.set_cons_succ]
  clear hHeld2
  refine wpAnyH_take (i := 11) (v := .bool bb) rfl (by kernel_rfl) (by kernel_rfl) (by kernel_rfl) (fun _ _ _ h => h) (Or.inl ⟨by rfl, fun w' hSw => by go_simp⟩) hHeld ?_
  try simp only [Act.put, List.getElem_toArray, List.getElem_cons_succ, List.getElem_cons_zero, List.setIfInBounds_toArray, List.set_cons_zero, List.set_cons_succ]
  refine wpAnyH_done (by kernel_rfl) ?_ _
  have HB10 := Lib.hid (HB9.out.step hHeld)
  clear hHeld HRs rAs rA
  go_wp2_with ((with_reducible show wpList _ _ _ (⟨_, .load 35 (.tmp 7), _, _, _, _⟩ :: _) _ _); refine wpList_load_tx rfl 35 (.tmp 7) rfl w3.heap.size 0 rfl CT _ (row_range (HB10.out.tl.hd)) Tryd.underlying35 rfl (by rw [tx_info, HT72.out]) ?_)
  refine (SG.out _ (HTb.out _ HB10.out.1)).mono ?_
  rintro _ w11 ⟨rfl, hb11⟩
  have HB11 := Lib.hid (HB10.out.step hb11)
  clear hb11
  generalize w8.heap.size = g9 at *
  generalize w3.heap.size = g7 at *
  have c0 := HF0.out _ HB11.out.1
  have c2 := (HBX.out _ _ HB11.out.tl.hd).2.2
  go_wp2_with fail
  go_quiet (fail)
  have HB14 := Lib.hid (HB11.out.step (below_drewN' (Below.refl _ _) nq))
  generalize w11.drewN nq = w14 at *
  clear c0 c2
  go_wp2_with (first
  | ((with_reducible show wpList _ _ _ (⟨_, .build 35 _, _, _, _, _⟩ :: _) _ _); refine wpList_buildL rfl 35 [] rfl (some 67) rfl _ rfl _ HBt.out ?_)
  | ((with_reducible show wpList _ _ _ (⟨_, .build 33 _, _, _, _, _⟩ :: _) _ _); refine wpList_buildL rfl 33 [] rfl (some 68) rfl _ rfl _ HBh.out ?_)
  | (
     with_reducible show wpList _ _ _ (⟨_, .store 35 (.tmp 4) _, _, _, _, _⟩ :: _) _ _
     refine wpList_store_at rfl 35 (.tmp 4) (.tmp 67) rfl w.heap.size 0 ZT ZT _ rfl rfl (HB14.out.tl.tl.tl.hd) (by have := HZ72.out; have := HZ72.out; omega) (by rw [tx_info, HZ72.out]) HZ1.out ?_
     intro w12 hr hg
     rw [splice_all (HZ72.out.trans HZ72.out.symm)] at hr
     have HR4 := Lib.hid hr
     have HR5o := Lib.hid (HB14.out.tl.tl.hd.kept hg (by simp))
     have HBa := Lib.hid (below_own HB14.out.1 hg (fun k hk => by cases hk; exact Nat.le_refl _))
     clear hr hg)
  | (
     with_reducible show wpList _ _ _ (⟨_, .store 33 (.tmp 5) _, _, _, _, _⟩ :: _) _ _
     refine wpList_store_at rfl 33 (.tmp 5) (.tmp 68) rfl (w.heap.size + 1) 0 ZH ZH _ rfl rfl (HR5o.out) (by have := HZ32.out; have := HZ32.out; omega) (by rw [hash_info, HZ32.out]) HZh1.out ?_
     intro w13 hr hg
     rw [splice_all (HZ32.out.trans HZ32.out.symm)] at hr
     have HR5 := Lib.hid hr
     replace HR4 := Lib.hid (HR4.out.kept hg (by simp))
     have HBl := Lib.hid (below_own HBa.out hg (fun k hk => by cases hk; exact Nat.le_succ _))
     clear hr hg))
  refine bodyPost_ret (results_rowLL rfl _ _ w.heap.size 35 ZT _ rfl HR4.out Tryd.underlying35 rfl (by rw [tx_info]; simp [HZ72.out]) (w.heap.size + 1) 33 ZH _ rfl HR5.out Tryd.underlying33 rfl (by rw [hash_info]; simp [HZ32.out]) _ rfl) rfl ⟨rfl, HBl.out⟩
set_option maxHeartbeats 3200000 in
theorem ask_nonce {w : World} {B M n : Nat} {g : Ad.G} (s : ByteArray) (hs : s.size ≤ 9223372036854775807) (t : Tx) (hr : Tx.read s.data.toList = some t) (ht : t.Ok) (hfrm : 0 ≤ t.frm ∧ t.frm ≤ 63) (hne : t.nameE.2 = 0) (hg : GateAt w B M g n) (hT : Tab w) (hsg : t.signedE = 0) (hfe : ¬ t.fee < g.fl) (hno : t.nonce < Ad.nxt g t.frm) :
    Calls Tryd.prog 22 #[.pointer (some ⟨B, 0, none⟩), .string s] w fun e w' => e = .returned (.tuple #[.agg Tx.none.cells.toArray, .agg (bRow Tx.zero).toList.toArray, .int .i64 22]) ∧ Below w.heap.size w w' := by
  have RD : Hid (∀ W, Calls Tryd.prog 31 #[.string s] W fun e w' => e = .returned (.tuple #[.agg t.cells.toArray, .int .i64 0]) ∧ Below W.heap.size W w') := Lib.hid (fun W => (read4_any s W hs).mono fun e w' ⟨h1, h2⟩ => by
    unfold ReadEnds at h1
    rw [hr] at h1
    exact ⟨h1, h2⟩)
  have NM : Hid (∀ W, Tab W → Calls Tryd.prog 32 #[.agg t.cells.toArray] W fun e w' => e = .returned (.tuple #[.agg (bRow t.nameE.1).toList.toArray, .int .i64 0]) ∧ Below W.heap.size W w') := Lib.hid (fun W hW => (name4_any t ht W hW).mono fun e w' ⟨h1, h2⟩ => ⟨by rw [h1, Array.toArray_toList, ← hne], h2⟩)
  have SG : Hid (∀ W, Tab W → Calls Tryd.prog 33 #[.agg t.cells.toArray] W fun e w' => e = .returned (.int .i64 t.signedE) ∧ Below W.heap.size W w') := Lib.hid (fun W hW => signed4_any t ht W hW)
  have hzv : ∀ W : World, (zeroValue 35).run Tryd.prog W = .ok (.agg Tx.none.cells.toArray) W := tx_zv
  have hzh : ∀ W : World, (zeroValue 33).run Tryd.prog W = .ok (.agg (bRow Tx.zero).toList.toArray) W := fun W => by rw [Array.toArray_toList]; exact hash_zv W
  have HBt : Hid (Tryd.prog.built 35 [] = some Tx.none.cells.toArray) := Lib.hid tx_built0
  have HBh : Hid (Tryd.prog.built 33 [] = some (bRow Tx.zero).toList.toArray) := Lib.hid (by rw [Array.toArray_toList]; exact hash_built)
  have HZ72 := Lib.hid (Tx.cells_length Tx.none_ok)
  have HZ1 := Lib.hid (Tx.cells_one Tx.none_ok)
  have HZ32 := Lib.hid (Tx.bRow_len Tx.zero rfl)
  have HZh1 : Hid (∀ v ∈ (bRow Tx.zero).toList, v.oneCell' = true) := Lib.hid (hash_one _ rfl)
  have HT72 := Lib.hid (Tx.cells_length ht)
  have HT1 := Lib.hid (Tx.cells_one ht)
  have HN32 := Lib.hid (Tx.bRow_len t.nameE.1 Tx.name_len)
  have HN1 : Hid (∀ v ∈ (bRow t.nameE.1).toList, v.oneCell' = true) := Lib.hid (hash_one _ Tx.name_len)
  have HG := Lib.hid hg
  have HTb : Hid (∀ W, Below w.heap.size w W → Tab W) := Lib.hid (fun W hW => hT.below hW hT.pos)
  have HM0 : Hid (∀ W, Below w.heap.size w W → W.cell? ⟨B, 65, none⟩ = some (.map (some M))) := Lib.hid (fun W hW => (hg.below hW).c65)
  have HF0 : Hid (∀ W, Below w.heap.size w W → W.cell? ⟨B, 0, none⟩ = some (.int .i64 g.fl)) := Lib.hid (fun W hW => (hg.below hW).c0)
  have HX0 : Hid (∀ W, Below w.heap.size w W → W.cell? ⟨B, 1 + t.frm.toNat, none⟩ = some (.int .i64 (Ad.nxt g t.frm))) := Lib.hid (fun W hW => (hg.below hW).c1 _ hfrm)
  have HL0 : Hid (∀ W, Below w.heap.size w W → (Instr.lookup 50 (.map (some M)) (.agg (bRow t.nameE.1).toList.toArray) true).run Tryd.prog W = .ok (.tuple #[.agg #[], .bool (decide (t.nameE.1 ∈ g.nm))]) W) := Lib.hid (fun W hW => by rw [Array.toArray_toList]; exact (hg.below hW).look Tx.name_len)
  have HBX : Hid (∀ (W : World) (k : Nat), Row W k 35 t.cells → W.cell? ⟨k, 0, none⟩ = some (.int .i64 t.frm) ∧ W.cell? ⟨k, 1, none⟩ = some (.int .i64 t.nonce) ∧ W.cell? ⟨k, 2, none⟩ = some (.int .i64 t.fee)) := Lib.hid (fun W k h => ⟨(tx_box ht h).1, (tx_box ht h).2.1, (tx_box ht h).2.2.1⟩)
  have hdf : decide (t.fee < g.fl) = false := by simpa using hfe
  clear hfe
  have hdn : decide (t.nonce < Ad.nxt g t.frm) = true := by simpa using hno
  clear hno
  rw [hsg] at SG
  clear hsg
  obtain ⟨bb, hbb⟩ : ∃ bb, decide (t.nameE.1 ∈ g.nm) = bb := ⟨_, rfl⟩
  rw [hbb] at HL0
  clear hbb
  clear hr ht hne hg hT
  generalize Tx.none.cells = ZT at *
  generalize (bRow Tx.zero).toList = ZH at *
  generalize t.cells = CT at *
  generalize (bRow t.nameE.1).toList = NH at *
  generalize t.fee = fee at *
  generalize t.nonce = non at *
  generalize g.fl = fl at *
  generalize Ad.nxt g t.frm = nx at *
  obtain ⟨fr, hfr⟩ : ∃ fr : Nat, t.frm = fr := ⟨t.frm.toNat, by omega⟩
  rw [hfr] at hfrm HX0 HBX
  rw [Int.toNat_natCast] at HX0
  have hk0 : (0 : Int) ≤ (fr : Int) := hfrm.1
  have hk1 : (fr : Int) < 64 := by omega
  clear hfr hfrm
  have e1 : (w.alloc (.cells ZT.toArray 35)).heap.size = w.heap.size + 1 := by simp
  have b1 : Blocks w (w.alloc (.cells ZT.toArray 35)) [(w.heap.size, 35, ZT)] := (Blocks.nil ((Below.refl w.heap.size w).alloc (Nat.le_refl _) _)).cons (Row.new w _ _)
  have r2 := Row.new (w.alloc (.cells ZT.toArray 35)) 33 ZH
  rw [e1] at r2
  have HB2 := Lib.hid ((b1.alloc (.cells ZH.toArray 33)).cons r2)
  clear e1 b1 r2
  go_enter Tryd.func22, Tryd.ntmps22
  go_wp2_with fail
  refine (RD.out _).mono ?_
  rintro _ w3 ⟨rfl, hb3⟩
  have HB3 := Lib.hid (HB2.out.step hb3)
  clear hb3
  go_wp2_with (first
  | (
     with_reducible show wpList _ _ _ (⟨_, .store 35 (.tmp 7) _, _, _, _, _⟩ :: _) _ _
     refine wpList_store_at rfl 35 (.tmp 7) (.tmp 20) rfl w3.heap.size 0 CT ZT _ rfl rfl (Row.new w3 35 ZT) (by have := HZ72.out; have := HT72.out; omega) (by rw [tx_info, HT72.out]) HT1.out ?_
     intro w7 hr hg
     rw [splice_all (HT72.out.trans HZ72.out.symm)] at hr
     have hbn := ((HB3.out.alloc (.cells ZT.toArray 35)).put hg HB3.out.size HB3.out.fresh).cons hr
     have HB7 := Lib.hid hbn
     clear hbn
     clear hr hg)
  | ((with_reducible show wpList _ _ _ (⟨_, .load 35 (.tmp 7), _, _, _, _⟩ :: _) _ _); refine wpList_load_tx rfl 35 (.tmp 7) rfl w3.heap.size 0 rfl CT _ (row_range (HB7.out.hd)) Tryd.underlying35 rfl (by rw [tx_info, HT72.out]) ?_))
  refine (NM.out _ (HTb.out _ HB7.out.1)).mono ?_
  rintro _ w8 ⟨rfl, hb8⟩
  have HB8 := Lib.hid (HB7.out.step hb8)
  clear hb8
  go_wp2_with (
   with_reducible show wpList _ _ _ (⟨_, .store 33 (.tmp 9) _, _, _, _, _⟩ :: _) _ _
   refine wpList_store_at rfl 33 (.tmp 9) (.tmp 29) rfl w8.heap.size 0 NH ZH _ rfl rfl (Row.new w8 33 ZH) (by have := HZ32.out; have := HN32.out; omega) (by rw [hash_info, HN32.out]) HN1.out ?_
   intro w9 hr hg
   rw [splice_all (HN32.out.trans HZ32.out.symm)] at hr
   have hbn := ((HB8.out.alloc (.cells ZH.toArray 33)).put hg HB8.out.size HB8.out.fresh).cons hr
   have HB9 := Lib.hid hbn
   clear hbn
   clear hr hg)
  have HM : Hid (∀ W, Below w9.heap.size w9 W → W.cell? ⟨B, 65, none⟩ = some (.map (some M))) := Lib.hid (fun W hW => HM0.out W (two_below' HB9.out.1 hW))
  have HLk : Hid (∀ W, Below w9.heap.size w9 W → (Instr.lookup 50 (.map (some M)) (.agg NH.toArray) true).run Tryd.prog W = .ok (.tuple #[.agg #[], .bool bb]) W) := Lib.hid (fun W hW => HL0.out W (two_below' HB9.out.1 hW))
  refine wp_region_held_drew (S := fun w' => Below w9.heap.size w9 w') (by kernel_rfl) ((Below.refl w9.heap.size w9).drew) (fun hHeld => ?_)
  generalize w9.drew = wq at *
  refine wpAnyH_take (i := 0) (v := .pointer (some ⟨B, 0, none⟩)) rfl (by kernel_rfl) (by kernel_rfl) (by kernel_rfl) (fun _ _ _ h => h) (Or.inl ⟨by rfl, fun w' hSw => by go_simp⟩) hHeld ?_
  try simp only [Act.put, List.getElem_toArray, List.getElem_cons_succ, List.getElem_cons_zero, List.setIfInBounds_toArray, List.set_cons_zero, List.set_cons_succ]
  refine wpAnyH_take (i := 1) (v := .pointer (some ⟨B, 0, none⟩)) rfl (by kernel_rfl) (by kernel_rfl) (by kernel_rfl) (fun _ _ _ h => h) (Or.inl ⟨by rfl, fun w' hSw => by go_simp⟩) hHeld ?_
  try simp only [Act.put, List.getElem_toArray, List.getElem_cons_succ, List.getElem_cons_zero, List.setIfInBounds_toArray, List.set_cons_zero, List.set_cons_succ]
  refine wpAnyH_take (i := 2) (v := .pointer (some ⟨B, 65, none⟩)) rfl (by kernel_rfl) (by kernel_rfl) (by kernel_rfl) (fun _ _ _ h => h) (Or.inl ⟨by rfl, fun w' hSw => by go_simp⟩) hHeld ?_
  try simp only [Act.put, List.getElem_toArray, List.getElem_cons_succ, List.getElem_cons_zero, List.setIfInBounds_toArray, List.set_cons_zero, List.set_cons_succ]
  refine wpAnyH_take (i := 3) (v := .map (some M)) rfl (by kernel_rfl) (by kernel_rfl) (by kernel_rfl) (fun _ _ _ h => h) (Or.inl ⟨by rfl, fun w' hSw => by have hq := hSw; have hd := HM.out _ hq; go_simp⟩) hHeld ?_
  try simp only [Act.put, List.getElem_toArray, List.getElem_cons_succ, List.getElem_cons_zero, List.setIfInBounds_toArray, List.set_cons_zero, List.set_cons_succ]
  refine' wpAnyH_take (i := 4) (v := _) rfl (by kernel_rfl) (by kernel_rfl) (by kernel_rfl) (fun _ _ _ h => h) (yieldsIf_load_mid (by rfl) _ _ rfl w8.heap.size 0 rfl NH _ (fun w' hSw => row_range (HB9.out.hd.below hSw)) Tryd.underlying33 rfl (by rw [hash_info, HN32.out])) hHeld ?_
  try simp only [Act.put, List.getElem_toArray, List.getElem_cons_succ, List.getElem_cons_zero, List.setIfInBounds_toArray, List.set_cons_zero, List.set_cons_succ]
  refine wpAnyH_take (i := 5) (v := .tuple #[.agg #[], .bool bb]) rfl (by kernel_rfl) (by kernel_rfl) (by kernel_rfl) (fun _ _ _ h => h) (Or.inl ⟨by rfl, fun w' hSw => by have hq := hSw; have hd := HLk.out _ hq; go_simp⟩) hHeld ?_
  try simp only [Act.put, List.getElem_toArray, List.getElem_cons_succ, List.getElem_cons_zero, List.setIfInBounds_toArray, List.set_cons_zero, List.set_cons_succ]
  refine wpAnyH_take (i := 6) (v := .tuple #[.agg #[], .bool bb]) rfl (by kernel_rfl) (by kernel_rfl) (by kernel_rfl) (fun _ _ _ h => h) (Or.inl ⟨by rfl, fun w' hSw => by go_simp⟩) hHeld ?_
  try simp only [Act.put, List.getElem_toArray, List.getElem_cons_succ, List.getElem_cons_zero, List.setIfInBounds_toArray, List.set_cons_zero, List.set_cons_succ]
  refine wpAnyH_take (i := 7) (v := .agg #[]) rfl (by kernel_rfl) (by kernel_rfl) (by kernel_rfl) (fun _ _ _ h => h) (Or.inl ⟨by rfl, fun w' hSw => by go_simp⟩) hHeld ?_
  try simp only [Act.put, List.getElem_toArray, List.getElem_cons_succ, List.getElem_cons_zero, List.setIfInBounds_toArray, List.set_cons_zero, List.set_cons_succ]
  refine wpAnyH_take (i := 8) (v := .bool bb) rfl (by kernel_rfl) (by kernel_rfl) (by kernel_rfl) (fun _ _ _ h => h) (Or.inl ⟨by rfl, fun w' hSw => by go_simp⟩) hHeld ?_
  try simp only [Act.put, List.getElem_toArray, List.getElem_cons_succ, List.getElem_cons_zero, List.setIfInBounds_toArray, List.set_cons_zero, List.set_cons_succ]
  refine wpAnyH_ready (rs := [9]) (by kernel_rfl) (by simp) (AllReadyH.cons rfl (fun K1 hK1 => ?_) AllReadyH.nil)
  try simp only [Act.put, List.getElem_toArray, List.getElem_cons_succ, List.getElem_cons_zero, List.setIfInBounds_toArray, List.set_cons_zero, List.set_cons_succ]
  go_simp
  have hd2 := (Below.refl wq.heap.size wq).alloc (Nat.le_refl _) (.cells ([] : List Value).toArray 61)
  have rA : Row (wq.alloc (.cells ([] : List Value).toArray 61)) wq.heap.size 61 ([] : List Value) := Row.new wq 61 ([] : List Value)
  have rAs : w9.heap.size ≤ wq.heap.size := hHeld.size
  have hHeld2 := two_below' hHeld hd2
  generalize wq.alloc (.cells ([] : List Value).toArray 61) = wa1 at *
  obtain ⟨ga3, ga3e⟩ : ∃ ga3, ga3 = wq.heap.size := ⟨_, rfl⟩
  rw [← ga3e] at rA rAs ⊢
  refine hK1.out _ _ (hHeld2) (fun hHeld => ?_)
  clear hK1 K1
  try simp only [Act.put, List.getElem_toArray, List.getElem_cons_succ, List.getElem_cons_zero, List.setIfInBounds_toArray, List.set_cons_zero, List.set_cons_succ]
  clear hHeld2 ga3e
  refine wpAnyH_ready (rs := [10]) (by kernel_rfl) (by simp) (AllReadyH.cons rfl (fun K1 hK1 => ?_) AllReadyH.nil)
  try simp only [Act.put, List.getElem_toArray, List.getElem_cons_succ, List.getElem_cons_zero, List.setIfInBounds_toArray, List.set_cons_zero, List.set_cons_succ]
  rw [if_pos (by rfl)]
  refine wp_store_at 61 (.tmp 11) (.tmp 38) rfl ga3 0 ([] : List Value) _ _ rfl rfl rA (by simp) (by kernel_rfl) (by intro v hv; cases hv) ?_
  intro ws4 hrS hgS
  simp only [List.take_zero, List.nil_append, List.length_nil, List.drop_nil, List.append_nil, List.drop_zero] at hrS
  have HRs := Lib.hid hrS
  have hHeld2 := below_own hHeld hgS (fun k hk => by cases hk; exact rAs)
  clear hrS hgS
  refine hK1.out _ _ (hHeld2) (fun hHeld => ?_)
  clear hK1 K1
  try simp only [Act.put, List.getElem_toArray, List.getElem_cons_succ, List.getElem_cons_zero, List.setIfInBounds_toArray, List.set_cons_zero, List.set_cons_succ]
  clear hHeld2
  refine wpAnyH_take (i := 11) (v := .bool bb) rfl (by kernel_rfl) (by kernel_rfl) (by kernel_rfl) (fun _ _ _ h => h) (Or.inl ⟨by rfl, fun w' hSw => by go_simp⟩) hHeld ?_
  try simp only [Act.put, List.getElem_toArray, List.getElem_cons_succ, List.getElem_cons_zero, List.setIfInBounds_toArray, List.set_cons_zero, List.set_cons_succ]
  refine wpAnyH_done (by kernel_rfl) ?_ _
  have HB10 := Lib.hid (HB9.out.step hHeld)
  clear hHeld HRs rAs rA
  go_wp2_with ((with_reducible show wpList _ _ _ (⟨_, .load 35 (.tmp 7), _, _, _, _⟩ :: _) _ _); refine wpList_load_tx rfl 35 (.tmp 7) rfl w3.heap.size 0 rfl CT _ (row_range (HB10.out.tl.hd)) Tryd.underlying35 rfl (by rw [tx_info, HT72.out]) ?_)
  refine (SG.out _ (HTb.out _ HB10.out.1)).mono ?_
  rintro _ w11 ⟨rfl, hb11⟩
  have HB11 := Lib.hid (HB10.out.step hb11)
  clear hb11
  generalize w8.heap.size = g9 at *
  generalize w3.heap.size = g7 at *
  have c0 := HF0.out _ HB11.out.1
  have c2 := (HBX.out _ _ HB11.out.tl.hd).2.2
  go_wp2_with fail
  go_quiet (fail)
  have HB14 := Lib.hid (HB11.out.step (below_drewN' (Below.refl _ _) nq))
  generalize w11.drewN nq = w14 at *
  clear c0 c2
  have c1 := (HBX.out _ _ HB14.out.tl.hd).2.1
  have c3 := (HBX.out _ _ HB14.out.tl.hd).1
  have c4 := HX0.out _ HB14.out.1
  go_wp2_with fail
  go_quiet (fail)
  have HB15 := Lib.hid (HB14.out.step (below_drewN' (Below.refl _ _) nq))
  generalize w14.drewN nq = w15 at *
  clear c1 c3 c4
  go_wp2_with (first
  | ((with_reducible show wpList _ _ _ (⟨_, .build 35 _, _, _, _, _⟩ :: _) _ _); refine wpList_buildL rfl 35 [] rfl (some 67) rfl _ rfl _ HBt.out ?_)
  | ((with_reducible show wpList _ _ _ (⟨_, .build 33 _, _, _, _, _⟩ :: _) _ _); refine wpList_buildL rfl 33 [] rfl (some 68) rfl _ rfl _ HBh.out ?_)
  | (
     with_reducible show wpList _ _ _ (⟨_, .store 35 (.tmp 4) _, _, _, _, _⟩ :: _) _ _
     refine wpList_store_at rfl 35 (.tmp 4) (.tmp 67) rfl w.heap.size 0 ZT ZT _ rfl rfl (HB15.out.tl.tl.tl.hd) (by have := HZ72.out; have := HZ72.out; omega) (by rw [tx_info, HZ72.out]) HZ1.out ?_
     intro w12 hr hg
     rw [splice_all (HZ72.out.trans HZ72.out.symm)] at hr
     have HR4 := Lib.hid hr
     have HR5o := Lib.hid (HB15.out.tl.tl.hd.kept hg (by simp))
     have HBa := Lib.hid (below_own HB15.out.1 hg (fun k hk => by cases hk; exact Nat.le_refl _))
     clear hr hg)
  | (
     with_reducible show wpList _ _ _ (⟨_, .store 33 (.tmp 5) _, _, _, _, _⟩ :: _) _ _
     refine wpList_store_at rfl 33 (.tmp 5) (.tmp 68) rfl (w.heap.size + 1) 0 ZH ZH _ rfl rfl (HR5o.out) (by have := HZ32.out; have := HZ32.out; omega) (by rw [hash_info, HZ32.out]) HZh1.out ?_
     intro w13 hr hg
     rw [splice_all (HZ32.out.trans HZ32.out.symm)] at hr
     have HR5 := Lib.hid hr
     replace HR4 := Lib.hid (HR4.out.kept hg (by simp))
     have HBl := Lib.hid (below_own HBa.out hg (fun k hk => by cases hk; exact Nat.le_succ _))
     clear hr hg))
  refine bodyPost_ret (results_rowLL rfl _ _ w.heap.size 35 ZT _ rfl HR4.out Tryd.underlying35 rfl (by rw [tx_info]; simp [HZ72.out]) (w.heap.size + 1) 33 ZH _ rfl HR5.out Tryd.underlying33 rfl (by rw [hash_info]; simp [HZ32.out]) _ rfl) rfl ⟨rfl, HBl.out⟩
set_option maxHeartbeats 3200000 in
theorem ask_in {w : World} {B M n : Nat} {g : Ad.G} (s : ByteArray) (hs : s.size ≤ 9223372036854775807) (t : Tx) (hr : Tx.read s.data.toList = some t) (ht : t.Ok) (hfrm : 0 ≤ t.frm ∧ t.frm ≤ 63) (hne : t.nameE.2 = 0) (hg : GateAt w B M g n) (hT : Tab w) (hsg : t.signedE = 0) (hfe : ¬ t.fee < g.fl) (hno : ¬ t.nonce < Ad.nxt g t.frm) (hin : t.nameE.1 ∈ g.nm) :
    Calls Tryd.prog 22 #[.pointer (some ⟨B, 0, none⟩), .string s] w fun e w' => e = .returned (.tuple #[.agg Tx.none.cells.toArray, .agg (bRow Tx.zero).toList.toArray, .int .i64 23]) ∧ Below w.heap.size w w' := by
  have RD : Hid (∀ W, Calls Tryd.prog 31 #[.string s] W fun e w' => e = .returned (.tuple #[.agg t.cells.toArray, .int .i64 0]) ∧ Below W.heap.size W w') := Lib.hid (fun W => (read4_any s W hs).mono fun e w' ⟨h1, h2⟩ => by
    unfold ReadEnds at h1
    rw [hr] at h1
    exact ⟨h1, h2⟩)
  have NM : Hid (∀ W, Tab W → Calls Tryd.prog 32 #[.agg t.cells.toArray] W fun e w' => e = .returned (.tuple #[.agg (bRow t.nameE.1).toList.toArray, .int .i64 0]) ∧ Below W.heap.size W w') := Lib.hid (fun W hW => (name4_any t ht W hW).mono fun e w' ⟨h1, h2⟩ => ⟨by rw [h1, Array.toArray_toList, ← hne], h2⟩)
  have SG : Hid (∀ W, Tab W → Calls Tryd.prog 33 #[.agg t.cells.toArray] W fun e w' => e = .returned (.int .i64 t.signedE) ∧ Below W.heap.size W w') := Lib.hid (fun W hW => signed4_any t ht W hW)
  have hzv : ∀ W : World, (zeroValue 35).run Tryd.prog W = .ok (.agg Tx.none.cells.toArray) W := tx_zv
  have hzh : ∀ W : World, (zeroValue 33).run Tryd.prog W = .ok (.agg (bRow Tx.zero).toList.toArray) W := fun W => by rw [Array.toArray_toList]; exact hash_zv W
  have HBt : Hid (Tryd.prog.built 35 [] = some Tx.none.cells.toArray) := Lib.hid tx_built0
  have HBh : Hid (Tryd.prog.built 33 [] = some (bRow Tx.zero).toList.toArray) := Lib.hid (by rw [Array.toArray_toList]; exact hash_built)
  have HZ72 := Lib.hid (Tx.cells_length Tx.none_ok)
  have HZ1 := Lib.hid (Tx.cells_one Tx.none_ok)
  have HZ32 := Lib.hid (Tx.bRow_len Tx.zero rfl)
  have HZh1 : Hid (∀ v ∈ (bRow Tx.zero).toList, v.oneCell' = true) := Lib.hid (hash_one _ rfl)
  have HT72 := Lib.hid (Tx.cells_length ht)
  have HT1 := Lib.hid (Tx.cells_one ht)
  have HN32 := Lib.hid (Tx.bRow_len t.nameE.1 Tx.name_len)
  have HN1 : Hid (∀ v ∈ (bRow t.nameE.1).toList, v.oneCell' = true) := Lib.hid (hash_one _ Tx.name_len)
  have HG := Lib.hid hg
  have HTb : Hid (∀ W, Below w.heap.size w W → Tab W) := Lib.hid (fun W hW => hT.below hW hT.pos)
  have HM0 : Hid (∀ W, Below w.heap.size w W → W.cell? ⟨B, 65, none⟩ = some (.map (some M))) := Lib.hid (fun W hW => (hg.below hW).c65)
  have HF0 : Hid (∀ W, Below w.heap.size w W → W.cell? ⟨B, 0, none⟩ = some (.int .i64 g.fl)) := Lib.hid (fun W hW => (hg.below hW).c0)
  have HX0 : Hid (∀ W, Below w.heap.size w W → W.cell? ⟨B, 1 + t.frm.toNat, none⟩ = some (.int .i64 (Ad.nxt g t.frm))) := Lib.hid (fun W hW => (hg.below hW).c1 _ hfrm)
  have HL0 : Hid (∀ W, Below w.heap.size w W → (Instr.lookup 50 (.map (some M)) (.agg (bRow t.nameE.1).toList.toArray) true).run Tryd.prog W = .ok (.tuple #[.agg #[], .bool (decide (t.nameE.1 ∈ g.nm))]) W) := Lib.hid (fun W hW => by rw [Array.toArray_toList]; exact (hg.below hW).look Tx.name_len)
  have HBX : Hid (∀ (W : World) (k : Nat), Row W k 35 t.cells → W.cell? ⟨k, 0, none⟩ = some (.int .i64 t.frm) ∧ W.cell? ⟨k, 1, none⟩ = some (.int .i64 t.nonce) ∧ W.cell? ⟨k, 2, none⟩ = some (.int .i64 t.fee)) := Lib.hid (fun W k h => ⟨(tx_box ht h).1, (tx_box ht h).2.1, (tx_box ht h).2.2.1⟩)
  have hdf : decide (t.fee < g.fl) = false := by simpa using hfe
  clear hfe
  have hdn : decide (t.nonce < Ad.nxt g t.frm) = false := by simpa using hno
  clear hno
  rw [hsg] at SG
  clear hsg
  obtain ⟨bb, hbb⟩ : ∃ bb, decide (t.nameE.1 ∈ g.nm) = bb := ⟨_, rfl⟩
  rw [hbb] at HL0
  obtain rfl : true = bb := by rw [← hbb]; simp [hin]
  clear hbb hin
  clear hr ht hne hg hT
  generalize Tx.none.cells = ZT at *
  generalize (bRow Tx.zero).toList = ZH at *
  generalize t.cells = CT at *
  generalize (bRow t.nameE.1).toList = NH at *
  generalize t.fee = fee at *
  generalize t.nonce = non at *
  generalize g.fl = fl at *
  generalize Ad.nxt g t.frm = nx at *
  obtain ⟨fr, hfr⟩ : ∃ fr : Nat, t.frm = fr := ⟨t.frm.toNat, by omega⟩
  rw [hfr] at hfrm HX0 HBX
  rw [Int.toNat_natCast] at HX0
  have hk0 : (0 : Int) ≤ (fr : Int) := hfrm.1
  have hk1 : (fr : Int) < 64 := by omega
  clear hfr hfrm
  have e1 : (w.alloc (.cells ZT.toArray 35)).heap.size = w.heap.size + 1 := by simp
  have b1 : Blocks w (w.alloc (.cells ZT.toArray 35)) [(w.heap.size, 35, ZT)] := (Blocks.nil ((Below.refl w.heap.size w).alloc (Nat.le_refl _) _)).cons (Row.new w _ _)
  have r2 := Row.new (w.alloc (.cells ZT.toArray 35)) 33 ZH
  rw [e1] at r2
  have HB2 := Lib.hid ((b1.alloc (.cells ZH.toArray 33)).cons r2)
  clear e1 b1 r2
  go_enter Tryd.func22, Tryd.ntmps22
  go_wp2_with fail
  refine (RD.out _).mono ?_
  rintro _ w3 ⟨rfl, hb3⟩
  have HB3 := Lib.hid (HB2.out.step hb3)
  clear hb3
  go_wp2_with (first
  | (
     with_reducible show wpList _ _ _ (⟨_, .store 35 (.tmp 7) _, _, _, _, _⟩ :: _) _ _
     refine wpList_store_at rfl 35 (.tmp 7) (.tmp 20) rfl w3.heap.size 0 CT ZT _ rfl rfl (Row.new w3 35 ZT) (by have := HZ72.out; have := HT72.out; omega) (by rw [tx_info, HT72.out]) HT1.out ?_
     intro w7 hr hg
     rw [splice_all (HT72.out.trans HZ72.out.symm)] at hr
     have hbn := ((HB3.out.alloc (.cells ZT.toArray 35)).put hg HB3.out.size HB3.out.fresh).cons hr
     have HB7 := Lib.hid hbn
     clear hbn
     clear hr hg)
  | ((with_reducible show wpList _ _ _ (⟨_, .load 35 (.tmp 7), _, _, _, _⟩ :: _) _ _); refine wpList_load_tx rfl 35 (.tmp 7) rfl w3.heap.size 0 rfl CT _ (row_range (HB7.out.hd)) Tryd.underlying35 rfl (by rw [tx_info, HT72.out]) ?_))
  refine (NM.out _ (HTb.out _ HB7.out.1)).mono ?_
  rintro _ w8 ⟨rfl, hb8⟩
  have HB8 := Lib.hid (HB7.out.step hb8)
  clear hb8
  go_wp2_with (
   with_reducible show wpList _ _ _ (⟨_, .store 33 (.tmp 9) _, _, _, _, _⟩ :: _) _ _
   refine wpList_store_at rfl 33 (.tmp 9) (.tmp 29) rfl w8.heap.size 0 NH ZH _ rfl rfl (Row.new w8 33 ZH) (by have := HZ32.out; have := HN32.out; omega) (by rw [hash_info, HN32.out]) HN1.out ?_
   intro w9 hr hg
   rw [splice_all (HN32.out.trans HZ32.out.symm)] at hr
   have hbn := ((HB8.out.alloc (.cells ZH.toArray 33)).put hg HB8.out.size HB8.out.fresh).cons hr
   have HB9 := Lib.hid hbn
   clear hbn
   clear hr hg)
  have HM : Hid (∀ W, Below w9.heap.size w9 W → W.cell? ⟨B, 65, none⟩ = some (.map (some M))) := Lib.hid (fun W hW => HM0.out W (two_below' HB9.out.1 hW))
  have HLk : Hid (∀ W, Below w9.heap.size w9 W → (Instr.lookup 50 (.map (some M)) (.agg NH.toArray) true).run Tryd.prog W = .ok (.tuple #[.agg #[], .bool true]) W) := Lib.hid (fun W hW => HL0.out W (two_below' HB9.out.1 hW))
  refine wp_region_held_drew (S := fun w' => Below w9.heap.size w9 w') (by kernel_rfl) ((Below.refl w9.heap.size w9).drew) (fun hHeld => ?_)
  generalize w9.drew = wq at *
  refine wpAnyH_take (i := 0) (v := .pointer (some ⟨B, 0, none⟩)) rfl (by kernel_rfl) (by kernel_rfl) (by kernel_rfl) (fun _ _ _ h => h) (Or.inl ⟨by rfl, fun w' hSw => by go_simp⟩) hHeld ?_
  try simp only [Act.put, List.getElem_toArray, List.getElem_cons_succ, List.getElem_cons_zero, List.setIfInBounds_toArray, List.set_cons_zero, List.set_cons_succ]
  refine wpAnyH_take (i := 1) (v := .pointer (some ⟨B, 0, none⟩)) rfl (by kernel_rfl) (by kernel_rfl) (by kernel_rfl) (fun _ _ _ h => h) (Or.inl ⟨by rfl, fun w' hSw => by go_simp⟩) hHeld ?_
  try simp only [Act.put, List.getElem_toArray, List.getElem_cons_succ, List.getElem_cons_zero, List.setIfInBounds_toArray, List.set_cons_zero, List.set_cons_succ]
  refine wpAnyH_take (i := 2) (v := .pointer (some ⟨B, 65, none⟩)) rfl (by kernel_rfl) (by kernel_rfl) (by kernel_rfl) (fun _ _ _ h => h) (Or.inl ⟨by rfl, fun w' hSw => by go_simp⟩) hHeld ?_
  try simp only [Act.put, List.getElem_toArray, List.getElem_cons_succ, List.getElem_cons_zero, List.setIfInBounds_toArray, List.set_cons_zero, List.set_cons_succ]
  refine wpAnyH_take (i := 3) (v := .map (some M)) rfl (by kernel_rfl) (by kernel_rfl) (by kernel_rfl) (fun _ _ _ h => h) (Or.inl ⟨by rfl, fun w' hSw => by have hq := hSw; have hd := HM.out _ hq; go_simp⟩) hHeld ?_
  try simp only [Act.put, List.getElem_toArray, List.getElem_cons_succ, List.getElem_cons_zero, List.setIfInBounds_toArray, List.set_cons_zero, List.set_cons_succ]
  refine' wpAnyH_take (i := 4) (v := _) rfl (by kernel_rfl) (by kernel_rfl) (by kernel_rfl) (fun _ _ _ h => h) (yieldsIf_load_mid (by rfl) _ _ rfl w8.heap.size 0 rfl NH _ (fun w' hSw => row_range (HB9.out.hd.below hSw)) Tryd.underlying33 rfl (by rw [hash_info, HN32.out])) hHeld ?_
  try simp only [Act.put, List.getElem_toArray, List.getElem_cons_succ, List.getElem_cons_zero, List.setIfInBounds_toArray, List.set_cons_zero, List.set_cons_succ]
  refine wpAnyH_take (i := 5) (v := .tuple #[.agg #[], .bool true]) rfl (by kernel_rfl) (by kernel_rfl) (by kernel_rfl) (fun _ _ _ h => h) (Or.inl ⟨by rfl, fun w' hSw => by have hq := hSw; have hd := HLk.out _ hq; go_simp⟩) hHeld ?_
  try simp only [Act.put, List.getElem_toArray, List.getElem_cons_succ, List.getElem_cons_zero, List.setIfInBounds_toArray, List.set_cons_zero, List.set_cons_succ]
  refine wpAnyH_take (i := 6) (v := .tuple #[.agg #[], .bool true]) rfl (by kernel_rfl) (by kernel_rfl) (by kernel_rfl) (fun _ _ _ h => h) (Or.inl ⟨by rfl, fun w' hSw => by go_simp⟩) hHeld ?_
  try simp only [Act.put, List.getElem_toArray, List.getElem_cons_succ, List.getElem_cons_zero, List.setIfInBounds_toArray, List.set_cons_zero, List.set_cons_succ]
  refine wpAnyH_take (i := 7) (v := .agg #[]) rfl (by kernel_rfl) (by kernel_rfl) (by kernel_rfl) (fun _ _ _ h => h) (Or.inl ⟨by rfl, fun w' hSw => by go_simp⟩) hHeld ?_
  try simp only [Act.put, List.getElem_toArray, List.getElem_cons_succ, List.getElem_cons_zero, List.setIfInBounds_toArray, List.set_cons_zero, List.set_cons_succ]
  refine wpAnyH_take (i := 8) (v := .bool true) rfl (by kernel_rfl) (by kernel_rfl) (by kernel_rfl) (fun _ _ _ h => h) (Or.inl ⟨by rfl, fun w' hSw => by go_simp⟩) hHeld ?_
  try simp only [Act.put, List.getElem_toArray, List.getElem_cons_succ, List.getElem_cons_zero, List.setIfInBounds_toArray, List.set_cons_zero, List.set_cons_succ]
  refine wpAnyH_ready (rs := [9]) (by kernel_rfl) (by simp) (AllReadyH.cons rfl (fun K1 hK1 => ?_) AllReadyH.nil)
  try simp only [Act.put, List.getElem_toArray, List.getElem_cons_succ, List.getElem_cons_zero, List.setIfInBounds_toArray, List.set_cons_zero, List.set_cons_succ]
  go_simp
  have hd2 := (Below.refl wq.heap.size wq).alloc (Nat.le_refl _) (.cells ([] : List Value).toArray 61)
  have rA : Row (wq.alloc (.cells ([] : List Value).toArray 61)) wq.heap.size 61 ([] : List Value) := Row.new wq 61 ([] : List Value)
  have rAs : w9.heap.size ≤ wq.heap.size := hHeld.size
  have hHeld2 := two_below' hHeld hd2
  generalize wq.alloc (.cells ([] : List Value).toArray 61) = wa1 at *
  obtain ⟨ga3, ga3e⟩ : ∃ ga3, ga3 = wq.heap.size := ⟨_, rfl⟩
  rw [← ga3e] at rA rAs ⊢
  refine hK1.out _ _ (hHeld2) (fun hHeld => ?_)
  clear hK1 K1
  try simp only [Act.put, List.getElem_toArray, List.getElem_cons_succ, List.getElem_cons_zero, List.setIfInBounds_toArray, List.set_cons_zero, List.set_cons_succ]
  clear hHeld2 ga3e
  refine wpAnyH_ready (rs := [10]) (by kernel_rfl) (by simp) (AllReadyH.cons rfl (fun K1 hK1 => ?_) AllReadyH.nil)
  try simp only [Act.put, List.getElem_toArray, List.getElem_cons_succ, List.getElem_cons_zero, List.setIfInBounds_toArray, List.set_cons_zero, List.set_cons_succ]
  rw [if_pos (by rfl)]
  refine wp_store_at 61 (.tmp 11) (.tmp 38) rfl ga3 0 ([] : List Value) _ _ rfl rfl rA (by simp) (by kernel_rfl) (by intro v hv; cases hv) ?_
  intro ws4 hrS hgS
  simp only [List.take_zero, List.nil_append, List.length_nil, List.drop_nil, List.append_nil, List.drop_zero] at hrS
  have HRs := Lib.hid hrS
  have hHeld2 := below_own hHeld hgS (fun k hk => by cases hk; exact rAs)
  clear hrS hgS
  refine hK1.out _ _ (hHeld2) (fun hHeld => ?_)
  clear hK1 K1
  try simp only [Act.put, List.getElem_toArray, List.getElem_cons_succ, List.getElem_cons_zero, List.setIfInBounds_toArray, List.set_cons_zero, List.set_cons_succ]
  clear hHeld2
  refine wpAnyH_take (i := 11) (v := .bool true) rfl (by kernel_rfl) (by kernel_rfl) (by kernel_rfl) (fun _ _ _ h => h) (Or.inl ⟨by rfl, fun w' hSw => by go_simp⟩) hHeld ?_
  try simp only [Act.put, List.getElem_toArray, List.getElem_cons_succ, List.getElem_cons_zero, List.setIfInBounds_toArray, List.set_cons_zero, List.set_cons_succ]
  refine wpAnyH_done (by kernel_rfl) ?_ _
  have HB10 := Lib.hid (HB9.out.step hHeld)
  clear hHeld HRs rAs rA
  go_wp2_with ((with_reducible show wpList _ _ _ (⟨_, .load 35 (.tmp 7), _, _, _, _⟩ :: _) _ _); refine wpList_load_tx rfl 35 (.tmp 7) rfl w3.heap.size 0 rfl CT _ (row_range (HB10.out.tl.hd)) Tryd.underlying35 rfl (by rw [tx_info, HT72.out]) ?_)
  refine (SG.out _ (HTb.out _ HB10.out.1)).mono ?_
  rintro _ w11 ⟨rfl, hb11⟩
  have HB11 := Lib.hid (HB10.out.step hb11)
  clear hb11
  generalize w8.heap.size = g9 at *
  generalize w3.heap.size = g7 at *
  have c0 := HF0.out _ HB11.out.1
  have c2 := (HBX.out _ _ HB11.out.tl.hd).2.2
  go_wp2_with fail
  go_quiet (fail)
  have HB14 := Lib.hid (HB11.out.step (below_drewN' (Below.refl _ _) nq))
  generalize w11.drewN nq = w14 at *
  clear c0 c2
  have c1 := (HBX.out _ _ HB14.out.tl.hd).2.1
  have c3 := (HBX.out _ _ HB14.out.tl.hd).1
  have c4 := HX0.out _ HB14.out.1
  go_wp2_with fail
  go_quiet (fail)
  have HB15 := Lib.hid (HB14.out.step (below_drewN' (Below.refl _ _) nq))
  generalize w14.drewN nq = w15 at *
  clear c1 c3 c4
  go_wp2_with (first
  | ((with_reducible show wpList _ _ _ (⟨_, .build 35 _, _, _, _, _⟩ :: _) _ _); refine wpList_buildL rfl 35 [] rfl (some 67) rfl _ rfl _ HBt.out ?_)
  | ((with_reducible show wpList _ _ _ (⟨_, .build 33 _, _, _, _, _⟩ :: _) _ _); refine wpList_buildL rfl 33 [] rfl (some 68) rfl _ rfl _ HBh.out ?_)
  | (
     with_reducible show wpList _ _ _ (⟨_, .store 35 (.tmp 4) _, _, _, _, _⟩ :: _) _ _
     refine wpList_store_at rfl 35 (.tmp 4) (.tmp 67) rfl w.heap.size 0 ZT ZT _ rfl rfl (HB15.out.tl.tl.tl.hd) (by have := HZ72.out; have := HZ72.out; omega) (by rw [tx_info, HZ72.out]) HZ1.out ?_
     intro w12 hr hg
     rw [splice_all (HZ72.out.trans HZ72.out.symm)] at hr
     have HR4 := Lib.hid hr
     have HR5o := Lib.hid (HB15.out.tl.tl.hd.kept hg (by simp))
     have HBa := Lib.hid (below_own HB15.out.1 hg (fun k hk => by cases hk; exact Nat.le_refl _))
     clear hr hg)
  | (
     with_reducible show wpList _ _ _ (⟨_, .store 33 (.tmp 5) _, _, _, _, _⟩ :: _) _ _
     refine wpList_store_at rfl 33 (.tmp 5) (.tmp 68) rfl (w.heap.size + 1) 0 ZH ZH _ rfl rfl (HR5o.out) (by have := HZ32.out; have := HZ32.out; omega) (by rw [hash_info, HZ32.out]) HZh1.out ?_
     intro w13 hr hg
     rw [splice_all (HZ32.out.trans HZ32.out.symm)] at hr
     have HR5 := Lib.hid hr
     replace HR4 := Lib.hid (HR4.out.kept hg (by simp))
     have HBl := Lib.hid (below_own HBa.out hg (fun k hk => by cases hk; exact Nat.le_succ _))
     clear hr hg))
  refine bodyPost_ret (results_rowLL rfl _ _ w.heap.size 35 ZT _ rfl HR4.out Tryd.underlying35 rfl (by rw [tx_info]; simp [HZ72.out]) (w.heap.size + 1) 33 ZH _ rfl HR5.out Tryd.underlying33 rfl (by rw [hash_info]; simp [HZ32.out]) _ rfl) rfl ⟨rfl, HBl.out⟩
set_option maxHeartbeats 3200000 in
theorem ask_ok {w : World} {B M n : Nat} {g : Ad.G} (s : ByteArray) (hs : s.size ≤ 9223372036854775807) (t : Tx) (hr : Tx.read s.data.toList = some t) (ht : t.Ok) (hfrm : 0 ≤ t.frm ∧ t.frm ≤ 63) (hne : t.nameE.2 = 0) (hg : GateAt w B M g n) (hT : Tab w) (hsg : t.signedE = 0) (hfe : ¬ t.fee < g.fl) (hno : ¬ t.nonce < Ad.nxt g t.frm) (hin : t.nameE.1 ∉ g.nm) :
    Calls Tryd.prog 22 #[.pointer (some ⟨B, 0, none⟩), .string s] w fun e w' => e = .returned (.tuple #[.agg t.cells.toArray, .agg (bRow t.nameE.1).toList.toArray, .int .i64 0]) ∧ Below w.heap.size w w' := by
  have RD : Hid (∀ W, Calls Tryd.prog 31 #[.string s] W fun e w' => e = .returned (.tuple #[.agg t.cells.toArray, .int .i64 0]) ∧ Below W.heap.size W w') := Lib.hid (fun W => (read4_any s W hs).mono fun e w' ⟨h1, h2⟩ => by
    unfold ReadEnds at h1
    rw [hr] at h1
    exact ⟨h1, h2⟩)
  have NM : Hid (∀ W, Tab W → Calls Tryd.prog 32 #[.agg t.cells.toArray] W fun e w' => e = .returned (.tuple #[.agg (bRow t.nameE.1).toList.toArray, .int .i64 0]) ∧ Below W.heap.size W w') := Lib.hid (fun W hW => (name4_any t ht W hW).mono fun e w' ⟨h1, h2⟩ => ⟨by rw [h1, Array.toArray_toList, ← hne], h2⟩)
  have SG : Hid (∀ W, Tab W → Calls Tryd.prog 33 #[.agg t.cells.toArray] W fun e w' => e = .returned (.int .i64 t.signedE) ∧ Below W.heap.size W w') := Lib.hid (fun W hW => signed4_any t ht W hW)
  have hzv : ∀ W : World, (zeroValue 35).run Tryd.prog W = .ok (.agg Tx.none.cells.toArray) W := tx_zv
  have hzh : ∀ W : World, (zeroValue 33).run Tryd.prog W = .ok (.agg (bRow Tx.zero).toList.toArray) W := fun W => by rw [Array.toArray_toList]; exact hash_zv W
  have HBt : Hid (Tryd.prog.built 35 [] = some Tx.none.cells.toArray) := Lib.hid tx_built0
  have HBh : Hid (Tryd.prog.built 33 [] = some (bRow Tx.zero).toList.toArray) := Lib.hid (by rw [Array.toArray_toList]; exact hash_built)
  have HZ72 := Lib.hid (Tx.cells_length Tx.none_ok)
  have HZ1 := Lib.hid (Tx.cells_one Tx.none_ok)
  have HZ32 := Lib.hid (Tx.bRow_len Tx.zero rfl)
  have HZh1 : Hid (∀ v ∈ (bRow Tx.zero).toList, v.oneCell' = true) := Lib.hid (hash_one _ rfl)
  have HT72 := Lib.hid (Tx.cells_length ht)
  have HT1 := Lib.hid (Tx.cells_one ht)
  have HN32 := Lib.hid (Tx.bRow_len t.nameE.1 Tx.name_len)
  have HN1 : Hid (∀ v ∈ (bRow t.nameE.1).toList, v.oneCell' = true) := Lib.hid (hash_one _ Tx.name_len)
  have HG := Lib.hid hg
  have HTb : Hid (∀ W, Below w.heap.size w W → Tab W) := Lib.hid (fun W hW => hT.below hW hT.pos)
  have HM0 : Hid (∀ W, Below w.heap.size w W → W.cell? ⟨B, 65, none⟩ = some (.map (some M))) := Lib.hid (fun W hW => (hg.below hW).c65)
  have HF0 : Hid (∀ W, Below w.heap.size w W → W.cell? ⟨B, 0, none⟩ = some (.int .i64 g.fl)) := Lib.hid (fun W hW => (hg.below hW).c0)
  have HX0 : Hid (∀ W, Below w.heap.size w W → W.cell? ⟨B, 1 + t.frm.toNat, none⟩ = some (.int .i64 (Ad.nxt g t.frm))) := Lib.hid (fun W hW => (hg.below hW).c1 _ hfrm)
  have HL0 : Hid (∀ W, Below w.heap.size w W → (Instr.lookup 50 (.map (some M)) (.agg (bRow t.nameE.1).toList.toArray) true).run Tryd.prog W = .ok (.tuple #[.agg #[], .bool (decide (t.nameE.1 ∈ g.nm))]) W) := Lib.hid (fun W hW => by rw [Array.toArray_toList]; exact (hg.below hW).look Tx.name_len)
  have HBX : Hid (∀ (W : World) (k : Nat), Row W k 35 t.cells → W.cell? ⟨k, 0, none⟩ = some (.int .i64 t.frm) ∧ W.cell? ⟨k, 1, none⟩ = some (.int .i64 t.nonce) ∧ W.cell? ⟨k, 2, none⟩ = some (.int .i64 t.fee)) := Lib.hid (fun W k h => ⟨(tx_box ht h).1, (tx_box ht h).2.1, (tx_box ht h).2.2.1⟩)
  have hdf : decide (t.fee < g.fl) = false := by simpa using hfe
  clear hfe
  have hdn : decide (t.nonce < Ad.nxt g t.frm) = false := by simpa using hno
  clear hno
  rw [hsg] at SG
  clear hsg
  obtain ⟨bb, hbb⟩ : ∃ bb, decide (t.nameE.1 ∈ g.nm) = bb := ⟨_, rfl⟩
  rw [hbb] at HL0
  obtain rfl : false = bb := by rw [← hbb]; simp [hin]
  clear hbb hin
  clear hr ht hne hg hT
  generalize Tx.none.cells = ZT at *
  generalize (bRow Tx.zero).toList = ZH at *
  generalize t.cells = CT at *
  generalize (bRow t.nameE.1).toList = NH at *
  generalize t.fee = fee at *
  generalize t.nonce = non at *
  generalize g.fl = fl at *
  generalize Ad.nxt g t.frm = nx at *
  obtain ⟨fr, hfr⟩ : ∃ fr : Nat, t.frm = fr := ⟨t.frm.toNat, by omega⟩
  rw [hfr] at hfrm HX0 HBX
  rw [Int.toNat_natCast] at HX0
  have hk0 : (0 : Int) ≤ (fr : Int) := hfrm.1
  have hk1 : (fr : Int) < 64 := by omega
  clear hfr hfrm
  have e1 : (w.alloc (.cells ZT.toArray 35)).heap.size = w.heap.size + 1 := by simp
  have b1 : Blocks w (w.alloc (.cells ZT.toArray 35)) [(w.heap.size, 35, ZT)] := (Blocks.nil ((Below.refl w.heap.size w).alloc (Nat.le_refl _) _)).cons (Row.new w _ _)
  have r2 := Row.new (w.alloc (.cells ZT.toArray 35)) 33 ZH
  rw [e1] at r2
  have HB2 := Lib.hid ((b1.alloc (.cells ZH.toArray 33)).cons r2)
  clear e1 b1 r2
  go_enter Tryd.func22, Tryd.ntmps22
  go_wp2_with fail
  refine (RD.out _).mono ?_
  rintro _ w3 ⟨rfl, hb3⟩
  have HB3 := Lib.hid (HB2.out.step hb3)
  clear hb3
  go_wp2_with (first
  | (
     with_reducible show wpList _ _ _ (⟨_, .store 35 (.tmp 7) _, _, _, _, _⟩ :: _) _ _
     refine wpList_store_at rfl 35 (.tmp 7) (.tmp 20) rfl w3.heap.size 0 CT ZT _ rfl rfl (Row.new w3 35 ZT) (by have := HZ72.out; have := HT72.out; omega) (by rw [tx_info, HT72.out]) HT1.out ?_
     intro w7 hr hg
     rw [splice_all (HT72.out.trans HZ72.out.symm)] at hr
     have hbn := ((HB3.out.alloc (.cells ZT.toArray 35)).put hg HB3.out.size HB3.out.fresh).cons hr
     have HB7 := Lib.hid hbn
     clear hbn
     clear hr hg)
  | ((with_reducible show wpList _ _ _ (⟨_, .load 35 (.tmp 7), _, _, _, _⟩ :: _) _ _); refine wpList_load_tx rfl 35 (.tmp 7) rfl w3.heap.size 0 rfl CT _ (row_range (HB7.out.hd)) Tryd.underlying35 rfl (by rw [tx_info, HT72.out]) ?_))
  refine (NM.out _ (HTb.out _ HB7.out.1)).mono ?_
  rintro _ w8 ⟨rfl, hb8⟩
  have HB8 := Lib.hid (HB7.out.step hb8)
  clear hb8
  go_wp2_with (
   with_reducible show wpList _ _ _ (⟨_, .store 33 (.tmp 9) _, _, _, _, _⟩ :: _) _ _
   refine wpList_store_at rfl 33 (.tmp 9) (.tmp 29) rfl w8.heap.size 0 NH ZH _ rfl rfl (Row.new w8 33 ZH) (by have := HZ32.out; have := HN32.out; omega) (by rw [hash_info, HN32.out]) HN1.out ?_
   intro w9 hr hg
   rw [splice_all (HN32.out.trans HZ32.out.symm)] at hr
   have hbn := ((HB8.out.alloc (.cells ZH.toArray 33)).put hg HB8.out.size HB8.out.fresh).cons hr
   have HB9 := Lib.hid hbn
   clear hbn
   clear hr hg)
  have HM : Hid (∀ W, Below w9.heap.size w9 W → W.cell? ⟨B, 65, none⟩ = some (.map (some M))) := Lib.hid (fun W hW => HM0.out W (two_below' HB9.out.1 hW))
  have HLk : Hid (∀ W, Below w9.heap.size w9 W → (Instr.lookup 50 (.map (some M)) (.agg NH.toArray) true).run Tryd.prog W = .ok (.tuple #[.agg #[], .bool false]) W) := Lib.hid (fun W hW => HL0.out W (two_below' HB9.out.1 hW))
  refine wp_region_held_drew (S := fun w' => Below w9.heap.size w9 w') (by kernel_rfl) ((Below.refl w9.heap.size w9).drew) (fun hHeld => ?_)
  generalize w9.drew = wq at *
  refine wpAnyH_take (i := 0) (v := .pointer (some ⟨B, 0, none⟩)) rfl (by kernel_rfl) (by kernel_rfl) (by kernel_rfl) (fun _ _ _ h => h) (Or.inl ⟨by rfl, fun w' hSw => by go_simp⟩) hHeld ?_
  try simp only [Act.put, List.getElem_toArray, List.getElem_cons_succ, List.getElem_cons_zero, List.setIfInBounds_toArray, List.set_cons_zero, List.set_cons_succ]
  refine wpAnyH_take (i := 1) (v := .pointer (some ⟨B, 0, none⟩)) rfl (by kernel_rfl) (by kernel_rfl) (by kernel_rfl) (fun _ _ _ h => h) (Or.inl ⟨by rfl, fun w' hSw => by go_simp⟩) hHeld ?_
  try simp only [Act.put, List.getElem_toArray, List.getElem_cons_succ, List.getElem_cons_zero, List.setIfInBounds_toArray, List.set_cons_zero, List.set_cons_succ]
  refine wpAnyH_take (i := 2) (v := .pointer (some ⟨B, 65, none⟩)) rfl (by kernel_rfl) (by kernel_rfl) (by kernel_rfl) (fun _ _ _ h => h) (Or.inl ⟨by rfl, fun w' hSw => by go_simp⟩) hHeld ?_
  try simp only [Act.put, List.getElem_toArray, List.getElem_cons_succ, List.getElem_cons_zero, List.setIfInBounds_toArray, List.set_cons_zero, List.set_cons_succ]
  refine wpAnyH_take (i := 3) (v := .map (some M)) rfl (by kernel_rfl) (by kernel_rfl) (by kernel_rfl) (fun _ _ _ h => h) (Or.inl ⟨by rfl, fun w' hSw => by have hq := hSw; have hd := HM.out _ hq; go_simp⟩) hHeld ?_
  try simp only [Act.put, List.getElem_toArray, List.getElem_cons_succ, List.getElem_cons_zero, List.setIfInBounds_toArray, List.set_cons_zero, List.set_cons_succ]
  refine' wpAnyH_take (i := 4) (v := _) rfl (by kernel_rfl) (by kernel_rfl) (by kernel_rfl) (fun _ _ _ h => h) (yieldsIf_load_mid (by rfl) _ _ rfl w8.heap.size 0 rfl NH _ (fun w' hSw => row_range (HB9.out.hd.below hSw)) Tryd.underlying33 rfl (by rw [hash_info, HN32.out])) hHeld ?_
  try simp only [Act.put, List.getElem_toArray, List.getElem_cons_succ, List.getElem_cons_zero, List.setIfInBounds_toArray, List.set_cons_zero, List.set_cons_succ]
  refine wpAnyH_take (i := 5) (v := .tuple #[.agg #[], .bool false]) rfl (by kernel_rfl) (by kernel_rfl) (by kernel_rfl) (fun _ _ _ h => h) (Or.inl ⟨by rfl, fun w' hSw => by have hq := hSw; have hd := HLk.out _ hq; go_simp⟩) hHeld ?_
  try simp only [Act.put, List.getElem_toArray, List.getElem_cons_succ, List.getElem_cons_zero, List.setIfInBounds_toArray, List.set_cons_zero, List.set_cons_succ]
  refine wpAnyH_take (i := 6) (v := .tuple #[.agg #[], .bool false]) rfl (by kernel_rfl) (by kernel_rfl) (by kernel_rfl) (fun _ _ _ h => h) (Or.inl ⟨by rfl, fun w' hSw => by go_simp⟩) hHeld ?_
  try simp only [Act.put, List.getElem_toArray, List.getElem_cons_succ, List.getElem_cons_zero, List.setIfInBounds_toArray, List.set_cons_zero, List.set_cons_succ]
  refine wpAnyH_take (i := 7) (v := .agg #[]) rfl (by kernel_rfl) (by kernel_rfl) (by kernel_rfl) (fun _ _ _ h => h) (Or.inl ⟨by rfl, fun w' hSw => by go_simp⟩) hHeld ?_
  try simp only [Act.put, List.getElem_toArray, List.getElem_cons_succ, List.getElem_cons_zero, List.setIfInBounds_toArray, List.set_cons_zero, List.set_cons_succ]
  refine wpAnyH_take (i := 8) (v := .bool false) rfl (by kernel_rfl) (by kernel_rfl) (by kernel_rfl) (fun _ _ _ h => h) (Or.inl ⟨by rfl, fun w' hSw => by go_simp⟩) hHeld ?_
  try simp only [Act.put, List.getElem_toArray, List.getElem_cons_succ, List.getElem_cons_zero, List.setIfInBounds_toArray, List.set_cons_zero, List.set_cons_succ]
  refine wpAnyH_ready (rs := [9]) (by kernel_rfl) (by simp) (AllReadyH.cons rfl (fun K1 hK1 => ?_) AllReadyH.nil)
  try simp only [Act.put, List.getElem_toArray, List.getElem_cons_succ, List.getElem_cons_zero, List.setIfInBounds_toArray, List.set_cons_zero, List.set_cons_succ]
  go_simp
  have hd2 := (Below.refl wq.heap.size wq).alloc (Nat.le_refl _) (.cells ([] : List Value).toArray 61)
  have rA : Row (wq.alloc (.cells ([] : List Value).toArray 61)) wq.heap.size 61 ([] : List Value) := Row.new wq 61 ([] : List Value)
  have rAs : w9.heap.size ≤ wq.heap.size := hHeld.size
  have hHeld2 := two_below' hHeld hd2
  generalize wq.alloc (.cells ([] : List Value).toArray 61) = wa1 at *
  obtain ⟨ga3, ga3e⟩ : ∃ ga3, ga3 = wq.heap.size := ⟨_, rfl⟩
  rw [← ga3e] at rA rAs ⊢
  refine hK1.out _ _ (hHeld2) (fun hHeld => ?_)
  clear hK1 K1
  try simp only [Act.put, List.getElem_toArray, List.getElem_cons_succ, List.getElem_cons_zero, List.setIfInBounds_toArray, List.set_cons_zero, List.set_cons_succ]
  clear hHeld2 ga3e
  refine wpAnyH_ready (rs := [10]) (by kernel_rfl) (by simp) (AllReadyH.cons rfl (fun K1 hK1 => ?_) AllReadyH.nil)
  try simp only [Act.put, List.getElem_toArray, List.getElem_cons_succ, List.getElem_cons_zero, List.setIfInBounds_toArray, List.set_cons_zero, List.set_cons_succ]
  rw [if_pos (by rfl)]
  refine wp_store_at 61 (.tmp 11) (.tmp 38) rfl ga3 0 ([] : List Value) _ _ rfl rfl rA (by simp) (by kernel_rfl) (by intro v hv; cases hv) ?_
  intro ws4 hrS hgS
  simp only [List.take_zero, List.nil_append, List.length_nil, List.drop_nil, List.append_nil, List.drop_zero] at hrS
  have HRs := Lib.hid hrS
  have hHeld2 := below_own hHeld hgS (fun k hk => by cases hk; exact rAs)
  clear hrS hgS
  refine hK1.out _ _ (hHeld2) (fun hHeld => ?_)
  clear hK1 K1
  try simp only [Act.put, List.getElem_toArray, List.getElem_cons_succ, List.getElem_cons_zero, List.setIfInBounds_toArray, List.set_cons_zero, List.set_cons_succ]
  clear hHeld2
  refine wpAnyH_take (i := 11) (v := .bool false) rfl (by kernel_rfl) (by kernel_rfl) (by kernel_rfl) (fun _ _ _ h => h) (Or.inl ⟨by rfl, fun w' hSw => by go_simp⟩) hHeld ?_
  try simp only [Act.put, List.getElem_toArray, List.getElem_cons_succ, List.getElem_cons_zero, List.setIfInBounds_toArray, List.set_cons_zero, List.set_cons_succ]
  refine wpAnyH_done (by kernel_rfl) ?_ _
  have HB10 := Lib.hid (HB9.out.step hHeld)
  clear hHeld HRs rAs rA
  go_wp2_with ((with_reducible show wpList _ _ _ (⟨_, .load 35 (.tmp 7), _, _, _, _⟩ :: _) _ _); refine wpList_load_tx rfl 35 (.tmp 7) rfl w3.heap.size 0 rfl CT _ (row_range (HB10.out.tl.hd)) Tryd.underlying35 rfl (by rw [tx_info, HT72.out]) ?_)
  refine (SG.out _ (HTb.out _ HB10.out.1)).mono ?_
  rintro _ w11 ⟨rfl, hb11⟩
  have HB11 := Lib.hid (HB10.out.step hb11)
  clear hb11
  have Hne7 : Hid (w3.heap.size ≠ w.heap.size ∧ w3.heap.size ≠ w.heap.size + 1) := Lib.hid (by have h1 := HB3.out.hd.lt; have h2 := HB3.out.tl.hd.lt; omega)
  have Hne9 : Hid (w8.heap.size ≠ w.heap.size ∧ w8.heap.size ≠ w.heap.size + 1) := Lib.hid (by have h1 := HB8.out.tl.hd.lt; have h2 := HB8.out.tl.tl.hd.lt; omega)
  generalize w8.heap.size = g9 at *
  generalize w3.heap.size = g7 at *
  have c0 := HF0.out _ HB11.out.1
  have c2 := (HBX.out _ _ HB11.out.tl.hd).2.2
  go_wp2_with fail
  go_quiet (fail)
  have HB14 := Lib.hid (HB11.out.step (below_drewN' (Below.refl _ _) nq))
  generalize w11.drewN nq = w14 at *
  clear c0 c2
  have c1 := (HBX.out _ _ HB14.out.tl.hd).2.1
  have c3 := (HBX.out _ _ HB14.out.tl.hd).1
  have c4 := HX0.out _ HB14.out.1
  go_wp2_with fail
  go_quiet (fail)
  have HB15 := Lib.hid (HB14.out.step (below_drewN' (Below.refl _ _) nq))
  generalize w14.drewN nq = w15 at *
  clear c1 c3 c4
  go_wp2_with fail
  have R4 := HB15.out.drew.tl.tl.tl.hd
  have R5 := HB15.out.drew.tl.tl.hd
  have hne7 : g7 ≠ w.heap.size ∧ g7 ≠ w.heap.size + 1 := Hne7.out
  have hne9 : g9 ≠ w.heap.size ∧ g9 ≠ w.heap.size + 1 := Hne9.out
  refine wp_region_held_drew (S := fun w' => Below w.heap.size w w' ∧ Row w' g9 33 NH ∧ Row w' g7 35 CT) (by kernel_rfl) (⟨HB15.out.drew.1, HB15.out.drew.hd, HB15.out.drew.tl.hd⟩) (fun hHeld => ?_)
  generalize w15.drew = wr at *
  refine' wpAnyH_take (i := 0) (v := _) rfl (by kernel_rfl) (by kernel_rfl) (by kernel_rfl) (fun _ _ _ h => h) (yieldsIf_load_mid (by rfl) _ _ rfl g7 0 rfl CT _ (fun w' hSw => row_range hSw.2.2) Tryd.underlying35 rfl (by rw [tx_info, HT72.out])) hHeld ?_
  try simp only [Act.put, List.getElem_toArray, List.getElem_cons_succ, List.getElem_cons_zero, List.setIfInBounds_toArray, List.set_cons_zero, List.set_cons_succ]
  refine' wpAnyH_take (i := 1) (v := _) rfl (by kernel_rfl) (by kernel_rfl) (by kernel_rfl) (fun _ _ _ h => h) (yieldsIf_load_mid (by rfl) _ _ rfl g9 0 rfl NH _ (fun w' hSw => row_range hSw.2.1) Tryd.underlying33 rfl (by rw [hash_info, HN32.out])) hHeld ?_
  try simp only [Act.put, List.getElem_toArray, List.getElem_cons_succ, List.getElem_cons_zero, List.setIfInBounds_toArray, List.set_cons_zero, List.set_cons_succ]
  refine wpAnyH_ready (rs := [2]) (by kernel_rfl) (by simp) (AllReadyH.cons rfl (fun K1 hK1 => ?_) AllReadyH.nil)
  try simp only [Act.put, List.getElem_toArray, List.getElem_cons_succ, List.getElem_cons_zero, List.setIfInBounds_toArray, List.set_cons_zero, List.set_cons_succ]
  rw [if_pos (by rfl)]
  refine wp_store_at 35 (.tmp 4) (.tmp 70) rfl w.heap.size 0 CT _ _ rfl rfl R4 (by have := HZ72.out; have := HT72.out; omega) (by rw [tx_info, HT72.out]) HT1.out ?_
  intro ws1 hrS hgS
  rw [splice_all (HT72.out.trans HZ72.out.symm)] at hrS
  have R5b := R5.kept hgS (by simp)
  have HR4a := Lib.hid hrS
  have hHeld2 := And.intro (below_own hHeld.1 hgS (fun k hk => by cases hk; omega)) (And.intro (hHeld.2.1.kept hgS (by simp; omega)) (hHeld.2.2.kept hgS (by simp; omega)))
  clear hrS hgS
  refine hK1.out _ _ (hHeld2) (fun hHeld => ?_)
  clear hK1 K1
  try simp only [Act.put, List.getElem_toArray, List.getElem_cons_succ, List.getElem_cons_zero, List.setIfInBounds_toArray, List.set_cons_zero, List.set_cons_succ]
  clear hHeld2
  refine wpAnyH_ready (rs := [3]) (by kernel_rfl) (by simp) (AllReadyH.cons rfl (fun K1 hK1 => ?_) AllReadyH.nil)
  try simp only [Act.put, List.getElem_toArray, List.getElem_cons_succ, List.getElem_cons_zero, List.setIfInBounds_toArray, List.set_cons_zero, List.set_cons_succ]
  rw [if_pos (by rfl)]
  refine wp_store_at 33 (.tmp 5) (.tmp 71) rfl (w.heap.size + 1) 0 NH _ _ rfl rfl R5b (by have := HZ32.out; have := HN32.out; omega) (by rw [hash_info, HN32.out]) HN1.out ?_
  intro ws2 hrS hgS
  rw [splice_all (HN32.out.trans HZ32.out.symm)] at hrS
  have HR4 := Lib.hid (HR4a.out.kept hgS (by simp))
  have HR5 := Lib.hid hrS
  have hHeld2 := And.intro (below_own hHeld.1 hgS (fun k hk => by cases hk; omega)) (And.intro (hHeld.2.1.kept hgS (by simp; omega)) (hHeld.2.2.kept hgS (by simp; omega)))
  clear hrS hgS
  refine hK1.out _ _ (hHeld2) (fun hHeld => ?_)
  clear hK1 K1
  try simp only [Act.put, List.getElem_toArray, List.getElem_cons_succ, List.getElem_cons_zero, List.setIfInBounds_toArray, List.set_cons_zero, List.set_cons_succ]
  clear hHeld2
  refine wpAnyH_take (i := 4) (v := .int .i64 0) rfl (by kernel_rfl) (by kernel_rfl) (by kernel_rfl) (fun _ _ _ h => h) (Or.inl ⟨by rfl, fun w' hSw => by go_simp⟩) hHeld ?_
  try simp only [Act.put, List.getElem_toArray, List.getElem_cons_succ, List.getElem_cons_zero, List.setIfInBounds_toArray, List.set_cons_zero, List.set_cons_succ]
  refine wpAnyH_done (by kernel_rfl) ?_ _
  have HBl := Lib.hid hHeld.1
  clear hHeld R4 R5 R5b hne7 hne9
  go_wp2_with fail
  refine bodyPost_ret (results_rowLL rfl _ _ w.heap.size 35 CT _ rfl HR4.out Tryd.underlying35 rfl (by rw [tx_info]; simp [HT72.out]) (w.heap.size + 1) 33 NH _ rfl HR5.out Tryd.underlying33 rfl (by rw [hash_info]; simp [HN32.out]) _ rfl) rfl ⟨rfl, HBl.out⟩
theorem Tx.read_facts {s : List UInt8} {t : Tx} (h : Tx.read s = some t) : t.Ok ∧ (0 ≤ t.frm ∧ t.frm ≤ 63) ∧ t.nameE = (Sha.sum s, 0) := by
  obtain ⟨h1, h2⟩ := Tx.text_read h
  have h3 : t.nameE = (Sha.sum s, 0) := by unfold Tx.nameE; rw [h2]; rfl
  have h4 : t.bodyE.2 = 0 := by
    unfold Tx.textE at h2
    by_cases hb : t.bodyE.2 = 0
    · exact hb
    · rw [if_neg hb] at h2; exact absurd (congrArg Prod.snd h2) hb
  have h5 : t.err = 0 := (Tx.body_fields (b := t.bodyE.1) (Prod.ext rfl h4)).1
  refine ⟨h1, ?_, h3⟩
  unfold Tx.err at h5
  by_cases ha : Tx.acct t.frm = false ∨ Tx.acct t.to = false
  · rw [if_pos ha] at h5; cases h5
  · have h6 : Tx.acct t.frm = true := by
      cases hq : Tx.acct t.frm with
      | true => rfl
      | false => exact absurd (.inl hq) ha
    unfold Tx.acct at h6
    simpa using h6
theorem ask_any {w : World} {B M n : Nat} {g : Ad.G} (s : ByteArray) (hs : s.size ≤ 9223372036854775807) (hg : GateAt w B M g n) (hT : Tab w) :
    Calls Tryd.prog 22 #[.pointer (some ⟨B, 0, none⟩), .string s] w fun e w' => e = .returned (.tuple #[.agg (Ad.askT g s.data.toList).cells.toArray, .agg (bRow (Ad.askN g s.data.toList)).toList.toArray, .int .i64 (Ad.askE g s.data.toList)]) ∧ Below w.heap.size w w' := by
  cases hr : Tx.read s.data.toList with
  | none =>
    unfold Ad.askT Ad.askN Ad.askE
    rw [hr]
    exact ask_none (g := g) (M := M) (n := n) s hs hr
  | some t =>
    obtain ⟨ht, hf, hn⟩ := Tx.read_facts hr
    have hne : t.nameE.2 = 0 := by rw [hn]
    have eE : Ad.askE g s.data.toList = if t.signedE ≠ 0 then 21 else if t.fee < g.fl then 24 else if t.nonce < Ad.nxt g t.frm then 22 else if t.nameE.1 ∈ g.nm then 23 else 0 := by unfold Ad.askE; rw [hr]
    have eT : Ad.askT g s.data.toList = if Ad.askE g s.data.toList = 0 then t else Tx.none := by unfold Ad.askT; rw [hr]
    have eN : Ad.askN g s.data.toList = if Ad.askE g s.data.toList = 0 then t.nameE.1 else Tx.zero := by unfold Ad.askN; rw [hr]
    rw [eT, eN]
    by_cases h1 : t.signedE ≠ 0
    · rw [if_pos h1] at eE
      rw [eE, if_neg (by decide), if_neg (by decide)]
      exact ask_sig s hs t hr ht hf hne hg hT h1
    rw [if_neg h1] at eE
    have h1 : t.signedE = 0 := by omega
    by_cases h2 : t.fee < g.fl
    · rw [if_pos h2] at eE
      rw [eE, if_neg (by decide), if_neg (by decide)]
      exact ask_fee s hs t hr ht hf hne hg hT h1 h2
    rw [if_neg h2] at eE
    by_cases h3 : t.nonce < Ad.nxt g t.frm
    · rw [if_pos h3] at eE
      rw [eE, if_neg (by decide), if_neg (by decide)]
      exact ask_nonce s hs t hr ht hf hne hg hT h1 h2 h3
    rw [if_neg h3] at eE
    by_cases h4 : t.nameE.1 ∈ g.nm
    · rw [if_pos h4] at eE
      rw [eE, if_neg (by decide), if_neg (by decide)]
      exact ask_in s hs t hr ht hf hne hg hT h1 h2 h3 h4
    · rw [if_neg h4] at eE
      rw [eE, if_pos rfl, if_pos rfl]
      exact ask_ok s hs t hr ht hf hne hg hT h1 h2 h3 h4
end Go.Proofs.YtoicpidiejhjeaaDoor
