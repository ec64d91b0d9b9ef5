/- admit: Ask, Enter. -/
import Derived.Test.YtoicpidiejhjeaaDoorAdPut
namespace Go.Proofs.YtoicpidiejhjeaaDoor
open Go.RowKit Go.Maps
set_option linter.unusedVariables false
set_option linter.unusedSimpArgs false
set_option maxRecDepth 100000

set_option maxHeartbeats 1600000 in
theorem askS_wrap {w : World} (p : Value) (s : ByteArray) (T : Tx) (hT : T.Ok) (N : List UInt8) (hN : N.length = 32) (E : Int)
    (hA : ∀ W, Below w.heap.size w W → Calls Tryd.prog 22 #[p, .string s] W fun e w' => e = .returned (.tuple #[.agg T.cells.toArray, .agg (bRow N).toList.toArray, .int .i64 E]) ∧ Below W.heap.size W w') :
    Calls Tryd.prog 11 #[p, .string s] w fun e w' => e = .returned (.tuple #[.agg T.cells.toArray, .int .i64 E]) ∧ Below w.heap.size w w' := by
  have HA := Lib.hid hA
  clear hA
  have hzv : ∀ W : World, (zeroValue 35).run Tryd.prog W = .ok (.agg Tx.none.cells.toArray) W := tx_zv
  have hzh : ∀ W : World, (zeroValue 33).run Tryd.prog W = .ok (.agg (bRow Tx.zero).toList.toArray) W := fun W => by rw [Array.toArray_toList]; exact hash_zv W
  have HZ72 := Lib.hid (Tx.cells_length Tx.none_ok)
  have HZ32 := Lib.hid (Tx.bRow_len Tx.zero rfl)
  have HT72 := Lib.hid (Tx.cells_length hT)
  have HT1 := Lib.hid (Tx.cells_one hT)
  have HN32 := Lib.hid (Tx.bRow_len N hN)
  have HN1 : Hid (∀ v ∈ (bRow N).toList, v.oneCell' = true) := Lib.hid (hash_one _ hN)
  have b1 : Blocks w (w.alloc (.cells Tx.none.cells.toArray 35)) [(w.heap.size, 35, Tx.none.cells)] := (Blocks.nil ((Below.refl w.heap.size w).alloc (Nat.le_refl _) _)).cons (Row.new w _ _)
  have HB1 := Lib.hid b1
  clear b1 hT
  generalize Tx.none.cells = ZT at *
  generalize (bRow Tx.zero).toList = ZH at *
  generalize T.cells = CT at *
  generalize (bRow N).toList = NH at *
  clear hN
  go_enter Tryd.func11, Tryd.ntmps11
  go_wp2_with fail
  refine (HA.out _ HB1.out.1).mono ?_
  rintro _ w3 ⟨rfl, hb3⟩
  have HB2 := Lib.hid (HB1.out.step hb3)
  clear hb3
  have R6 : Row ((w3.alloc (.cells ZT.toArray 35)).alloc (.cells ZH.toArray 33)) w3.heap.size 35 ZT := (Row.new w3 35 ZT).below ((Below.refl _ _).alloc (Nat.le_refl _) _)
  have R7 : Row ((w3.alloc (.cells ZT.toArray 35)).alloc (.cells ZH.toArray 33)) (w3.heap.size + 1) 33 ZH := by have := Row.new (w3.alloc (.cells ZT.toArray 35)) 33 ZH; rwa [show (w3.alloc (.cells ZT.toArray 35)).heap.size = w3.heap.size + 1 by simp] at this
  have HB3 := Lib.hid ((HB2.out.alloc (.cells ZT.toArray 35)).alloc (.cells ZH.toArray 33))
  go_wp2_with (first
  | (
     with_reducible show wpList _ _ _ (⟨_, .store 35 (.tmp 6) _, _, _, _, _⟩ :: _) _ _
     refine wpList_store_at rfl 35 (.tmp 6) (.tmp 13) rfl w3.heap.size 0 CT ZT _ rfl rfl (R6) (by have := HZ72.out; have := HT72.out; omega) (by rw [tx_info, HT72.out]) HT1.out ?_
     intro w4 hr hg
     rw [splice_all (HT72.out.trans HZ72.out.symm)] at hr
     have hb4 := (HB3.out.put hg HB2.out.size (fun x hx => HB2.out.fresh x hx)).cons hr
     have R7b := R7.kept hg (by simp)
     have HB4 := Lib.hid hb4
     clear hb4
     clear hr hg)
  | (
     with_reducible show wpList _ _ _ (⟨_, .store 33 (.tmp 7) _, _, _, _, _⟩ :: _) _ _
     refine wpList_store_at rfl 33 (.tmp 7) (.tmp 14) rfl (w3.heap.size + 1) 0 NH ZH _ rfl rfl (R7b) (by have := HZ32.out; have := HN32.out; omega) (by rw [hash_info, HN32.out]) HN1.out ?_
     intro w5 hr hg
     rw [splice_all (HN32.out.trans HZ32.out.symm)] at hr
     have R5h := Lib.hid hr
     have hb5 := HB4.out.put hg (Nat.le_trans HB2.out.size (Nat.le_succ _)) (fun x hx => by
       rcases List.mem_cons.1 hx with rfl | hx
       · show w3.heap.size ≠ w3.heap.size + 1; omega
       · have h1 := HB2.out.fresh x hx; have h2 := (HB2.out.2 x hx).lt; omega)
     have HB5 := Lib.hid hb5
     clear hb5 R7b R6 R7
     clear hr hg)
  | ((with_reducible show wpList _ _ _ (⟨_, .load 35 (.tmp 6), _, _, _, _⟩ :: _) _ _); refine wpList_load_tx rfl 35 (.tmp 6) rfl w3.heap.size 0 rfl CT _ (row_range (HB5.out.hd)) Tryd.underlying35 rfl (by rw [tx_info, HT72.out]) ?_)
  | (
     with_reducible show wpList _ _ _ (⟨_, .store 35 (.tmp 4) _, _, _, _, _⟩ :: _) _ _
     refine wpList_store_at rfl 35 (.tmp 4) (.tmp 16) rfl w.heap.size 0 CT ZT _ rfl rfl (HB5.out.tl.hd) (by have := HZ72.out; have := HT72.out; omega) (by rw [tx_info, HT72.out]) HT1.out ?_
     intro w6 hr hg
     rw [splice_all (HT72.out.trans HZ72.out.symm)] at hr
     have HR4 := Lib.hid hr
     have HBl := Lib.hid (below_own HB5.out.1 hg (fun k hk => by cases hk; exact Nat.le_refl _))
     have HKp := Lib.hid hg
     clear hr hg))
  refine bodyPost_ret (results_rowL rfl _ _ w.heap.size 35 CT _ rfl HR4.out Tryd.underlying35 rfl (by rw [tx_info]; simp [HT72.out]) _ rfl) rfl ⟨rfl, HBl.out⟩
set_option maxHeartbeats 1600000 in
theorem enterS_wrap {w : World} (p : Value) (s : ByteArray) (T : Tx) (hT : T.Ok) (N : List UInt8) (hN : N.length = 32) (E : Int) (hE : E ≠ 0)
    (hA : ∀ W, Below w.heap.size w W → Calls Tryd.prog 22 #[p, .string s] W fun e w' => e = .returned (.tuple #[.agg T.cells.toArray, .agg (bRow N).toList.toArray, .int .i64 E]) ∧ Below W.heap.size W w') :
    Calls Tryd.prog 12 #[p, .string s] w fun e w' => e = .returned (.tuple #[.agg T.cells.toArray, .int .i64 E]) ∧ Below w.heap.size w w' := by
  have HA := Lib.hid hA
  clear hA
  have heb : (E == 0) = false := by simpa using hE
  clear hE
  have hzv : ∀ W : World, (zeroValue 35).run Tryd.prog W = .ok (.agg Tx.none.cells.toArray) W := tx_zv
  have hzh : ∀ W : World, (zeroValue 33).run Tryd.prog W = .ok (.agg (bRow Tx.zero).toList.toArray) W := fun W => by rw [Array.toArray_toList]; exact hash_zv W
  have HZ72 := Lib.hid (Tx.cells_length Tx.none_ok)
  have HZ32 := Lib.hid (Tx.bRow_len Tx.zero rfl)
  have HT72 := Lib.hid (Tx.cells_length hT)
  have HT1 := Lib.hid (Tx.cells_one hT)
  have HN32 := Lib.hid (Tx.bRow_len N hN)
  have HN1 : Hid (∀ v ∈ (bRow N).toList, v.oneCell' = true) := Lib.hid (hash_one _ hN)
  have b1 : Blocks w (w.alloc (.cells Tx.none.cells.toArray 35)) [(w.heap.size, 35, Tx.none.cells)] := (Blocks.nil ((Below.refl w.heap.size w).alloc (Nat.le_refl _) _)).cons (Row.new w _ _)
  have HB1 := Lib.hid b1
  clear b1 hT
  generalize Tx.none.cells = ZT at *
  generalize (bRow Tx.zero).toList = ZH at *
  generalize T.cells = CT at *
  generalize (bRow N).toList = NH at *
  clear hN
  go_enter Tryd.func12, Tryd.ntmps12
  go_wp2_with fail
  refine (HA.out _ HB1.out.1).mono ?_
  rintro _ w3 ⟨rfl, hb3⟩
  have HB2 := Lib.hid (HB1.out.step hb3)
  clear hb3
  have R6 : Row ((w3.alloc (.cells ZT.toArray 35)).alloc (.cells ZH.toArray 33)) w3.heap.size 35 ZT := (Row.new w3 35 ZT).below ((Below.refl _ _).alloc (Nat.le_refl _) _)
  have R7 : Row ((w3.alloc (.cells ZT.toArray 35)).alloc (.cells ZH.toArray 33)) (w3.heap.size + 1) 33 ZH := by have := Row.new (w3.alloc (.cells ZT.toArray 35)) 33 ZH; rwa [show (w3.alloc (.cells ZT.toArray 35)).heap.size = w3.heap.size + 1 by simp] at this
  have HB3 := Lib.hid ((HB2.out.alloc (.cells ZT.toArray 35)).alloc (.cells ZH.toArray 33))
  go_wp2_with (first
  | (
     with_reducible show wpList _ _ _ (⟨_, .store 35 (.tmp 6) _, _, _, _, _⟩ :: _) _ _
     refine wpList_store_at rfl 35 (.tmp 6) (.tmp 13) rfl w3.heap.size 0 CT ZT _ rfl rfl (R6) (by have := HZ72.out; have := HT72.out; omega) (by rw [tx_info, HT72.out]) HT1.out ?_
     intro w4 hr hg
     rw [splice_all (HT72.out.trans HZ72.out.symm)] at hr
     have hb4 := (HB3.out.put hg HB2.out.size (fun x hx => HB2.out.fresh x hx)).cons hr
     have R7b := R7.kept hg (by simp)
     have HB4 := Lib.hid hb4
     clear hb4
     clear hr hg)
  | (
     with_reducible show wpList _ _ _ (⟨_, .store 33 (.tmp 7) _, _, _, _, _⟩ :: _) _ _
     refine wpList_store_at rfl 33 (.tmp 7) (.tmp 14) rfl (w3.heap.size + 1) 0 NH ZH _ rfl rfl (R7b) (by have := HZ32.out; have := HN32.out; omega) (by rw [hash_info, HN32.out]) HN1.out ?_
     intro w5 hr hg
     rw [splice_all (HN32.out.trans HZ32.out.symm)] at hr
     have R5h := Lib.hid hr
     have hb5 := HB4.out.put hg (Nat.le_trans HB2.out.size (Nat.le_succ _)) (fun x hx => by
       rcases List.mem_cons.1 hx with rfl | hx
       · show w3.heap.size ≠ w3.heap.size + 1; omega
       · have h1 := HB2.out.fresh x hx; have h2 := (HB2.out.2 x hx).lt; omega)
     have HB5 := Lib.hid hb5
     clear hb5 R7b R6 R7
     clear hr hg)
  | ((with_reducible show wpList _ _ _ (⟨_, .load 35 (.tmp 6), _, _, _, _⟩ :: _) _ _); refine wpList_load_tx rfl 35 (.tmp 6) rfl w3.heap.size 0 rfl CT _ (row_range (HB5.out.hd)) Tryd.underlying35 rfl (by rw [tx_info, HT72.out]) ?_)
  | (
     with_reducible show wpList _ _ _ (⟨_, .store 35 (.tmp 4) _, _, _, _, _⟩ :: _) _ _
     refine wpList_store_at rfl 35 (.tmp 4) (.tmp 24) rfl w.heap.size 0 CT ZT _ rfl rfl (HB5.out.tl.hd) (by have := HZ72.out; have := HT72.out; omega) (by rw [tx_info, HT72.out]) HT1.out ?_
     intro w6 hr hg
     rw [splice_all (HT72.out.trans HZ72.out.symm)] at hr
     have HR4 := Lib.hid hr
     have HBl := Lib.hid (below_own HB5.out.1 hg (fun k hk => by cases hk; exact Nat.le_refl _))
     have HKp := Lib.hid hg
     clear hr hg))
  refine bodyPost_ret (results_rowL rfl _ _ w.heap.size 35 CT _ rfl HR4.out Tryd.underlying35 rfl (by rw [tx_info]; simp [HT72.out]) _ rfl) rfl ⟨rfl, HBl.out⟩
set_option maxHeartbeats 1600000 in
theorem enter_ok {w0 w : World} {B M n : Nat} {g : Ad.G} (s : ByteArray) (hs : s.size ≤ 9223372036854775807) (h : GTo w0 w B M g n) (hT0 : Tab w0) (hn : n ≤ 1000) (T : Tx) (hT : T.Ok) (N : List UInt8) (hN : N.length = 32) (hin : N ∉ g.nm)
    (hA : ∀ W, Below w.heap.size w W → Calls Tryd.prog 22 #[.pointer (some ⟨B, 0, none⟩), .string s] W fun e w' => e = .returned (.tuple #[.agg T.cells.toArray, .agg (bRow N).toList.toArray, .int .i64 0]) ∧ Below W.heap.size W w') :
    Calls Tryd.prog 12 #[.pointer (some ⟨B, 0, none⟩), .string s] w fun e w' => e = .returned (.tuple #[.agg T.cells.toArray, .int .i64 0]) ∧ GTo w0 w' B M { g with nm := g.nm ++ [N] } (n + 1) ∧ KeepsG w w' := by
  have HA := Lib.hid hA
  have HH := Lib.hid h
  have HKey := Lib.hid (keyH hN)
  have HN0 := Lib.hid hN
  have HIn := Lib.hid hin
  clear hA h hin
  have hzv : ∀ W : World, (zeroValue 35).run Tryd.prog W = .ok (.agg Tx.none.cells.toArray) W := tx_zv
  have hzh : ∀ W : World, (zeroValue 33).run Tryd.prog W = .ok (.agg (bRow Tx.zero).toList.toArray) W := fun W => by rw [Array.toArray_toList]; exact hash_zv W
  have HZ72 := Lib.hid (Tx.cells_length Tx.none_ok)
  have HZ32 := Lib.hid (Tx.bRow_len Tx.zero rfl)
  have HT72 := Lib.hid (Tx.cells_length hT)
  have HT1 := Lib.hid (Tx.cells_one hT)
  have HN32 := Lib.hid (Tx.bRow_len N hN)
  have HN1 : Hid (∀ v ∈ (bRow N).toList, v.oneCell' = true) := Lib.hid (hash_one _ hN)
  have b1 : Blocks w (w.alloc (.cells Tx.none.cells.toArray 35)) [(w.heap.size, 35, Tx.none.cells)] := (Blocks.nil ((Below.refl w.heap.size w).alloc (Nat.le_refl _) _)).cons (Row.new w _ _)
  have HB1 := Lib.hid b1
  clear b1 hT
  have hArr : (.agg (bRow N) : Value) = .agg (bRow N).toList.toArray := by rw [Array.toArray_toList]
  rw [hArr] at HKey
  clear hArr
  generalize Tx.none.cells = ZT at *
  generalize (bRow Tx.zero).toList = ZH at *
  generalize T.cells = CT at *
  generalize hNH : (bRow N).toList = NH at *
  clear hN hNH
  go_enter Tryd.func12, Tryd.ntmps12
  go_wp2_with fail
  refine (HA.out _ HB1.out.1).mono ?_
  rintro _ w3 ⟨rfl, hb3⟩
  have HB2 := Lib.hid (HB1.out.step hb3)
  clear hb3
  have R6 : Row ((w3.alloc (.cells ZT.toArray 35)).alloc (.cells ZH.toArray 33)) w3.heap.size 35 ZT := (Row.new w3 35 ZT).below ((Below.refl _ _).alloc (Nat.le_refl _) _)
  have R7 : Row ((w3.alloc (.cells ZT.toArray 35)).alloc (.cells ZH.toArray 33)) (w3.heap.size + 1) 33 ZH := by have := Row.new (w3.alloc (.cells ZT.toArray 35)) 33 ZH; rwa [show (w3.alloc (.cells ZT.toArray 35)).heap.size = w3.heap.size + 1 by simp] at this
  have HB3 := Lib.hid ((HB2.out.alloc (.cells ZT.toArray 35)).alloc (.cells ZH.toArray 33))
  go_wp2_with (first
  | (
     with_reducible show wpList _ _ _ (⟨_, .store 35 (.tmp 6) _, _, _, _, _⟩ :: _) _ _
     refine wpList_store_at rfl 35 (.tmp 6) (.tmp 13) rfl w3.heap.size 0 CT ZT _ rfl rfl (R6) (by have := HZ72.out; have := HT72.out; omega) (by rw [tx_info, HT72.out]) HT1.out ?_
     intro w4 hr hg
     rw [splice_all (HT72.out.trans HZ72.out.symm)] at hr
     have hb4 := (HB3.out.put hg HB2.out.size (fun x hx => HB2.out.fresh x hx)).cons hr
     have R7b := R7.kept hg (by simp)
     have HB4 := Lib.hid hb4
     clear hb4
     clear hr hg)
  | (
     with_reducible show wpList _ _ _ (⟨_, .store 33 (.tmp 7) _, _, _, _, _⟩ :: _) _ _
     refine wpList_store_at rfl 33 (.tmp 7) (.tmp 14) rfl (w3.heap.size + 1) 0 NH ZH _ rfl rfl (R7b) (by have := HZ32.out; have := HN32.out; omega) (by rw [hash_info, HN32.out]) HN1.out ?_
     intro w5 hr hg
     rw [splice_all (HN32.out.trans HZ32.out.symm)] at hr
     have R5h := Lib.hid hr
     have hb5 := HB4.out.put hg (Nat.le_trans HB2.out.size (Nat.le_succ _)) (fun x hx => by
       rcases List.mem_cons.1 hx with rfl | hx
       · show w3.heap.size ≠ w3.heap.size + 1; omega
       · have h1 := HB2.out.fresh x hx; have h2 := (HB2.out.2 x hx).lt; omega)
     have HB5 := Lib.hid hb5
     clear hb5 R7b R6 R7
     clear hr hg))
  have hq := (Below.refl w5.heap.size w5).drew
  have HB6 := Lib.hid (HB5.out.step hq)
  have HG6 := Lib.hid (HH.out.own.below (HB5.out.step hq).1)
  have R6h := Lib.hid (R5h.out.below hq)
  clear hq
  refine wp_region_held_drew (S := fun w' => Row w' (w3.heap.size + 1) 33 NH ∧ w'.cell? ⟨B, 65, none⟩ = some (.map (some M))) (by kernel_rfl) (⟨R6h.out, HG6.out.c65⟩) (fun hHeld => ?_)
  generalize w5.drew = wq at *
  obtain ⟨D, K, hK, hD, hV⟩ := HG6.out.map
  have HD := Lib.hid hD
  have HV := Lib.hid hV
  have HNN : Hid (K < maxLen) := Lib.hid (by unfold maxLen; omega)
  clear hD hV
  refine wpAnyH_take (i := 0) (v := .pointer (some ⟨B, 0, none⟩)) rfl (by kernel_rfl) (by kernel_rfl) (by kernel_rfl) (fun _ _ _ h => h) (Or.inl ⟨by rfl, fun w' hSw => by go_simp⟩) hHeld ?_
  try simp only [Act.put, List.getElem_toArray, List.getElem_cons_succ, List.getElem_cons_zero, List.setIfInBounds_toArray, List.set_cons_zero, List.set_cons_succ]
  refine wpAnyH_take (i := 1) (v := .pointer (some ⟨B, 0, none⟩)) rfl (by kernel_rfl) (by kernel_rfl) (by kernel_rfl) (fun _ _ _ h => h) (Or.inl ⟨by rfl, fun w' hSw => by go_simp⟩) hHeld ?_
  try simp only [Act.put, List.getElem_toArray, List.getElem_cons_succ, List.getElem_cons_zero, List.setIfInBounds_toArray, List.set_cons_zero, List.set_cons_succ]
  refine wpAnyH_take (i := 2) (v := .pointer (some ⟨B, 65, none⟩)) rfl (by kernel_rfl) (by kernel_rfl) (by kernel_rfl) (fun _ _ _ h => h) (Or.inl ⟨by rfl, fun w' hSw => by go_simp⟩) hHeld ?_
  try simp only [Act.put, List.getElem_toArray, List.getElem_cons_succ, List.getElem_cons_zero, List.setIfInBounds_toArray, List.set_cons_zero, List.set_cons_succ]
  refine wpAnyH_take (i := 3) (v := .map (some M)) rfl (by kernel_rfl) (by kernel_rfl) (by kernel_rfl) (fun _ _ _ h => h) (Or.inl ⟨by rfl, fun w' hSw => by have hq := hSw; have hd := hq.2; go_simp⟩) hHeld ?_
  try simp only [Act.put, List.getElem_toArray, List.getElem_cons_succ, List.getElem_cons_zero, List.setIfInBounds_toArray, List.set_cons_zero, List.set_cons_succ]
  refine' wpAnyH_take (i := 4) (v := _) rfl (by kernel_rfl) (by kernel_rfl) (by kernel_rfl) (fun _ _ _ h => h) (yieldsIf_load_mid (by rfl) _ _ rfl (w3.heap.size + 1) 0 rfl NH _ (fun w' hSw => row_range hSw.1) Tryd.underlying33 rfl (by rw [hash_info, HN32.out])) hHeld ?_
  try simp only [Act.put, List.getElem_toArray, List.getElem_cons_succ, List.getElem_cons_zero, List.setIfInBounds_toArray, List.set_cons_zero, List.set_cons_succ]
  refine wpAnyH_take (i := 5) (v := .agg #[]) rfl (by kernel_rfl) (by kernel_rfl) (by kernel_rfl) (fun _ _ _ h => h) (Or.inl ⟨by rfl, fun w' hSw => by go_simp⟩) hHeld ?_
  try simp only [Act.put, List.getElem_toArray, List.getElem_cons_succ, List.getElem_cons_zero, List.setIfInBounds_toArray, List.set_cons_zero, List.set_cons_succ]
  refine wpAnyH_ready (rs := [6]) (by kernel_rfl) (by simp) (AllReadyH.cons rfl (fun K1 hK1 => ?_) AllReadyH.nil)
  try simp only [Act.put, List.getElem_toArray, List.getElem_cons_succ, List.getElem_cons_zero, List.setIfInBounds_toArray, List.set_cons_zero, List.set_cons_succ]
  rw [if_pos (by rfl)]
  refine wp_mapPut 50 (.tmp 21) (.tmp 22) (.tmp 23) rfl 33 61 lawH Tryd.underlying50 unitElem M K D rfl HD.out HNN.out _ _ _ rfl rfl HKey.out _ [] unitElem_mk ?_
  intro wp1 hmS hgS
  have Hm2 := Lib.hid hmS
  have Hg2 := Lib.hid hgS
  have hHeld2 := And.intro (hHeld.1.kept hgS (by have := row_ne_set HD.out hHeld.1; simpa using this)) ((hgS.cell hHeld.2 (by simpa using HG6.out.apart)))
  clear hmS hgS
  refine hK1.out _ _ (hHeld2) (fun hHeld => ?_)
  clear hK1 K1
  try simp only [Act.put, List.getElem_toArray, List.getElem_cons_succ, List.getElem_cons_zero, List.setIfInBounds_toArray, List.set_cons_zero, List.set_cons_succ]
  clear hHeld2
  refine wpAnyH_done (by kernel_rfl) ?_ _
  have HT2 := Lib.hid (HH.out.put HB6.out.1 Hg2.out Hm2.out hK HV.out HN0.out HIn.out)
  have R62 := Lib.hid (HB6.out.hd.kept Hg2.out (by have := row_ne_set HD.out HB6.out.hd; simpa using this))
  have R42 := Lib.hid (HB6.out.tl.hd.kept Hg2.out (by have := row_ne_set HD.out HB6.out.tl.hd; simpa using this))
  clear hHeld
  go_wp2_with (first
  | ((with_reducible show wpList _ _ _ (⟨_, .load 35 (.tmp 6), _, _, _, _⟩ :: _) _ _); refine wpList_load_tx rfl 35 (.tmp 6) rfl w3.heap.size 0 rfl CT _ (row_range (R62.out)) Tryd.underlying35 rfl (by rw [tx_info, HT72.out]) ?_)
  | (
     with_reducible show wpList _ _ _ (⟨_, .store 35 (.tmp 4) _, _, _, _, _⟩ :: _) _ _
     refine wpList_store_at rfl 35 (.tmp 4) (.tmp 24) rfl w.heap.size 0 CT ZT _ rfl rfl (R42.out) (by have := HZ72.out; have := HT72.out; omega) (by rw [tx_info, HT72.out]) HT1.out ?_
     intro w9 hr hg
     rw [splice_all (HT72.out.trans HZ72.out.symm)] at hr
     have HR4 := Lib.hid hr
     have HBl := Lib.hid (HH.out.into HT2.out hg (Nat.le_refl _))
     clear hr hg))
  refine bodyPost_ret (results_rowL rfl _ _ w.heap.size 35 CT _ rfl HR4.out Tryd.underlying35 rfl (by rw [tx_info]; simp [HT72.out]) _ rfl) rfl ⟨rfl, HBl.out⟩
end Go.Proofs.YtoicpidiejhjeaaDoor
