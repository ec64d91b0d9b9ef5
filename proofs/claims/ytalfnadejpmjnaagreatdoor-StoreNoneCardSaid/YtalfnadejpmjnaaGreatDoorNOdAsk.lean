/- What later texts need of the earlier layers. -/
import Derived.Test.YtalfnadejpmjnaaGreatDoorNSlO
import Derived.Test.YtalfnadejpmjnaaGreatDoorNSlS
import Derived.Test.YtalfnadejpmjnaaGreatDoorNSlT
import Derived.Test.YtalfnadejpmjnaaGreatDoorNSlC
import Derived.Test.YtalfnadejpmjnaaGreatDoorNSlA
import Derived.Test.YtalfnadejpmjnaaGreatDoorNSlB
import Derived.Test.YtalfnadejpmjnaaGreatDoorNSlD
import Derived.Test.YtalfnadejpmjnaaGreatDoorNTxBack
import Derived.Test.YtalfnadejpmjnaaGreatDoorNOdA
import Derived.Test.YtalfnadejpmjnaaGreatDoorNRwA
import Derived.Test.YtalfnadejpmjnaaGreatDoorNOdB
import Derived.BigQuiet
/- ---- OdAsk ---- -/
/- What is wrong with a message, whose it is, and its receipt. -/
namespace Go.Proofs.YtalfnadejpmjnaaGreatDoor
open Go.RowKit
set_option linter.unusedVariables false
set_option linter.unusedSimpArgs false
set_option maxRecDepth 100000
theorem ask1_any (w : World) : Calls Tryz.prog 157 #[] w fun e w' => e = .returned (.tuple #[.int .i64 (-1), .int .i64 0]) ∧ w = w' := by
  go_enter Tryz.func157, Tryz.ntmps157
  go_wp2_with fail
  go_ret2
  exact ⟨rfl, rfl⟩
theorem asker_other (B : Nat) (kind : Int) (body : ByteArray) (w : World) (hk : kind ≠ 1) : Calls Tryz.prog 127 #[.pointer (some ⟨B, 0, none⟩), .int .i64 kind, .string body] w fun e w' => e = .returned (.func (.func 157) #[] #[]) ∧ Below w.heap.size w w' := by
  have d1 : (kind != 1) = true := by simpa using hk
  have HB := Lib.hid (((Below.refl w.heap.size w).alloc (Nat.le_refl _) (.cells #[.pointer (some ⟨B, 0, none⟩)] 76)).alloc (by simp) (.cells #[.string body] 9))
  clear hk
  go_enter Tryz.func127, Tryz.ntmps127
  go_wp2_with fail
  go_ret
  exact ⟨rfl, HB.out⟩
theorem asker_tx (B : Nat) (body : ByteArray) (w : World) : Calls Tryz.prog 127 #[.pointer (some ⟨B, 0, none⟩), .int .i64 1, .string body] w fun e w' => e = .returned (.func (.func 158) #[] #[.pointer (some ⟨w.heap.size + 1, 0, none⟩), .pointer (some ⟨w.heap.size, 0, none⟩)]) ∧ Below w.heap.size w w' ∧ Row w' w.heap.size 76 [.pointer (some ⟨B, 0, none⟩)] ∧ Row w' (w.heap.size + 1) 9 [.string body] := by
  have hb := (Below.refl w.heap.size w).alloc (Nat.le_refl _) (.cells #[.pointer (some ⟨B, 0, none⟩)] 76)
  have HB := Lib.hid (hb.alloc (by simp) (.cells #[.string body] 9))
  have hr1 := (Row.new w 76 [.pointer (some ⟨B, 0, none⟩)])
  have HR1 := Lib.hid (hr1.below ((Below.refl _ _).alloc (Nat.le_refl _) (.cells #[.string body] 9)))
  have hr2 := Row.new (w.alloc (.cells #[.pointer (some ⟨B, 0, none⟩)] 76)) 9 [.string body]
  rw [show (w.alloc (.cells #[.pointer (some ⟨B, 0, none⟩)] 76)).heap.size = w.heap.size + 1 by simp] at hr2
  have HR2 := Lib.hid hr2
  clear hb hr1 hr2
  go_enter Tryz.func127, Tryz.ntmps127
  go_wp2_with fail
  go_ret
  exact ⟨rfl, HB.out, HR1.out, HR2.out⟩
set_option maxHeartbeats 3200000 in
theorem ask2_any {w : World} {base B gb gl : Nat} {v dv : Value} {rs : List Rp} (h : LogAt w base B v dv rs) (body : ByteArray) (hs : body.size ≤ 140737488351232) (hb : Row w gb 9 [.string body]) (hl : Row w gl 76 [.pointer (some ⟨B, 0, none⟩)]) (hT : Tab w) :
    Calls Tryz.prog 158 #[.pointer (some ⟨gb, 0, none⟩), .pointer (some ⟨gl, 0, none⟩)] w fun e w' => e = .returned (.tuple #[.int .i64 (Od.ask rs 1 body).1, .int .i64 (Od.ask rs 1 body).2]) ∧ Below w.heap.size w w' := by
  have RD : Hid (∀ W, Calls Tryz.prog 159 #[.string body] W fun e w' => ReadEnds (Tx.read body.data.toList) e ∧ Below W.heap.size W w') := Lib.hid (fun W => read4_any body W (by omega))
  have SG : Hid (∀ (t : Tx), t.Ok → ∀ W, Below w.heap.size w W → Calls Tryz.prog 160 #[.agg t.cells.toArray] W fun e w' => e = .returned (.int .i64 t.signedE) ∧ Below W.heap.size W w') := Lib.hid (fun t ht W hW => signed4_any t ht W (hT.below hW hT.pos))
  have cb := rowX hb
  have HH := Lib.hid h
  have HL := Lib.hid hl
  have hzx : ∀ W : World, (zeroValue 81).run Tryz.prog W = .ok (.agg Tx.none.cells.toArray) W := tx_zv
  have HX72 := Lib.hid (Tx.cells_length Tx.none_ok)
  have HX1 := Lib.hid (Tx.cells_one Tx.none_ok)
  obtain ⟨ZX, hZX⟩ : ∃ ZX, Tx.none.cells = ZX := ⟨_, rfl⟩
  rw [hZX] at hzx HX72 HX1
  have HZX := Lib.hid hZX
  clear hZX
  clear h hb hl hT hs
  go_enter Tryz.func158, Tryz.ntmps158
  go_wp2_with fail
  refine (RD.out _).mono ?_
  rintro _ w2 ⟨hre, hb2⟩
  have HB2 := Lib.hid hb2
  clear hb2 cb RD
  cases hR : Tx.read body.data.toList with
  | none =>
    rw [hR] at hre
    obtain ⟨n, hn, rfl⟩ := hre
    have HA : Hid (Od.ask rs 1 body = (-1, 6)) := Lib.hid (by unfold Od.ask; rw [if_pos rfl, hR])
    have HPv : Hid (Tx.pairV (Tx.none, n) = .tuple #[.agg ZX.toArray, .int .i64 n]) := Lib.hid (by rw [← HZX.out]; rfl)
    rw [HPv.out]
    clear hR
    go_wp2_with (first
      | (
         with_reducible show wpList _ _ _ (⟨_, .store 81 (.tmp 4) _, _, _, _, _⟩ :: _) _ _
         refine wpList_store_at rfl 81 (.tmp 4) (.tmp 9) rfl w2.heap.size 0 ZX ZX _ rfl rfl (Row.new w2 81 ZX) (by have := HX72.out; have := HX72.out; omega) (by rw [tx_info, HX72.out]) HX1.out ?_
         intro w3 hr hg
         rw [splice_all (HX72.out.trans HX72.out.symm)] at hr
         have hbx := below_own ((Below.refl w2.heap.size w2).alloc (Nat.le_refl _) (.cells ZX.toArray 81)) hg (fun k hk => by cases hk; exact Nat.le_refl _)
         have HB3 := Lib.hid (two_below' HB2.out hbx)
         have HT3 := Lib.hid hr
         clear hbx
         clear hr hg))
    go_ret2
    exact ⟨by rw [HA.out]; rfl, HB3.out⟩
  | some t =>
    rw [hR] at hre
    have hre' : _ = _ := hre
    subst hre'
    have hto := Tx.read_err hR
    have hfr := Tx.err_frm19 hto.2
    have HT72 := Lib.hid (Tx.cells_length hto.1)
    have HT1 := Lib.hid (Tx.cells_one hto.1)
    have SGt := Lib.hid (SG.out t hto.1)
    have HBt : Hid (∀ (W : World) (g : Nat), Row W g 81 t.cells → W.cell? ⟨g, 0, none⟩ = some (.int .i64 t.frm) ∧ W.cell? ⟨g, 1, none⟩ = some (.int .i64 t.nonce)) := Lib.hid (fun W g h => by
      have hl := Tx.cells_length hto.1
      exact ⟨h.cell 0 (by omega), h.cell 1 (by omega)⟩)
    have HPv : Hid (Tx.pairV (t, 0) = .tuple #[.agg t.cells.toArray, .int .i64 0]) := Lib.hid rfl
    rw [HPv.out]
    have hask : Od.ask rs 1 body = if t.signedE = 0 then (if t.nonce = (Od.cnt rs t.frm : Int) then (t.frm, 0) else (-1, 22)) else (-1, 21) := by unfold Od.ask; rw [if_pos rfl, hR]
    obtain ⟨fr, hfre⟩ : ∃ fr : Nat, t.frm = fr := ⟨t.frm.toNat, by omega⟩
    have hf64 : fr < 64 := by omega
    have hf0 : (0 : Int) ≤ (fr : Int) := by omega
    have hf1 : (fr : Int) < 64 := by omega
    rw [hfre] at HBt hask
    obtain ⟨CT, hCT⟩ : ∃ CT, t.cells = CT := ⟨_, rfl⟩
    rw [hCT] at HT72 HT1 SGt HBt ⊢
    obtain ⟨sg, hsg⟩ : ∃ sg, t.signedE = sg := ⟨_, rfl⟩
    rw [hsg] at SGt hask
    obtain ⟨no, hno⟩ : ∃ no, t.nonce = no := ⟨_, rfl⟩
    rw [hno] at HBt hask
    obtain ⟨nn, hnn⟩ : ∃ nn : Int, (Od.cnt rs (fr : Int) : Int) = nn := ⟨_, rfl⟩
    rw [hnn] at hask
    have HRd : Hid (∀ W, Below w.heap.size w W → W.cell? ⟨gl, 0, none⟩ = some (.pointer (some ⟨B, 0, none⟩)) ∧ W.cell? ⟨B, 1 + fr, none⟩ = some (.int .i64 nn)) := Lib.hid (fun W hW => ⟨rowX (HL.out.below hW), by rw [← hnn]; exact (HH.out.below hW).cN fr hf64⟩)
    have HAsk := Lib.hid hask
    clear hR hto hfr hfre hCT hsg hno hnn hask hf64
    by_cases hs0 : sg = 0
    rotate_left
    · have ds : (sg != 0) = true := by simpa using hs0
      have HA : Hid (Od.ask rs 1 body = (-1, 21)) := Lib.hid (by rw [HAsk.out, if_neg hs0])
      clear hs0
      go_wp2_with (first
        | (
           with_reducible show wpList _ _ _ (⟨_, .store 81 (.tmp 4) _, _, _, _, _⟩ :: _) _ _
           refine wpList_store_at rfl 81 (.tmp 4) (.tmp 9) rfl w2.heap.size 0 CT ZX _ rfl rfl (Row.new w2 81 ZX) (by have := HX72.out; have := HT72.out; omega) (by rw [tx_info, HT72.out]) HT1.out ?_
           intro w3 hr hg
           rw [splice_all (HT72.out.trans HX72.out.symm)] at hr
           have hbx := below_own ((Below.refl w2.heap.size w2).alloc (Nat.le_refl _) (.cells ZX.toArray 81)) hg (fun k hk => by cases hk; exact Nat.le_refl _)
           have HB3 := Lib.hid (two_below' HB2.out hbx)
           have HT3 := Lib.hid hr
           clear hbx
           clear hr hg)
        | ((with_reducible show wpList _ _ _ (⟨_, .load 81 (.tmp 4), _, _, _, _⟩ :: _) _ _); refine wpList_load_tx rfl 81 (.tmp 4) rfl w2.heap.size 0 (rfl) CT _ (row_range HT3.out) Tryz.underlying81 rfl (by rw [tx_info, HT72.out]) ?_))
      refine (SGt.out _ HB3.out).mono ?_
      rintro _ w4 ⟨rfl, hb4⟩
      have HB4 := Lib.hid (two_below' HB3.out hb4)
      clear hb4
      go_wp2_with fail
      go_ret2
      exact ⟨by rw [HA.out]; rfl, HB4.out⟩
    · subst hs0
      by_cases hnq : no = nn
      · have HA : Hid (Od.ask rs 1 body = ((fr : Int), 0)) := Lib.hid (by rw [HAsk.out, if_pos rfl, if_pos hnq])
        have dn : (no != nn) = false := by simpa using hnq
        clear hnq
        go_wp2_with (first
          | (
             with_reducible show wpList _ _ _ (⟨_, .store 81 (.tmp 4) _, _, _, _, _⟩ :: _) _ _
             refine wpList_store_at rfl 81 (.tmp 4) (.tmp 9) rfl w2.heap.size 0 CT ZX _ rfl rfl (Row.new w2 81 ZX) (by have := HX72.out; have := HT72.out; omega) (by rw [tx_info, HT72.out]) HT1.out ?_
             intro w3 hr hg
             rw [splice_all (HT72.out.trans HX72.out.symm)] at hr
             have hbx := below_own ((Below.refl w2.heap.size w2).alloc (Nat.le_refl _) (.cells ZX.toArray 81)) hg (fun k hk => by cases hk; exact Nat.le_refl _)
             have HB3 := Lib.hid (two_below' HB2.out hbx)
             have HT3 := Lib.hid hr
             clear hbx
             clear hr hg)
          | ((with_reducible show wpList _ _ _ (⟨_, .load 81 (.tmp 4), _, _, _, _⟩ :: _) _ _); refine wpList_load_tx rfl 81 (.tmp 4) rfl w2.heap.size 0 (rfl) CT _ (row_range HT3.out) Tryz.underlying81 rfl (by rw [tx_info, HT72.out]) ?_))
        refine (SGt.out _ HB3.out).mono ?_
        rintro _ w4 ⟨rfl, hb4⟩
        have HB4 := Lib.hid (two_below' HB3.out hb4)
        have HT4 := Lib.hid (HT3.out.below hb4)
        clear hb4
        go_wp2_with fail
        refine wp_region_noPanic ?_
        refine wp_region_held_drew (S := fun w' => Below w4.heap.size w4 w') (by kernel_rfl) ((Below.refl _ _).drew) (fun hHeld => ?_)
        generalize w4.drew = wq at *
        refine wpAnyH_take (i := 0) (v := .pointer (some ⟨w2.heap.size, 1, none⟩)) rfl (by kernel_rfl) (by kernel_rfl) (by kernel_rfl) (fun _ _ _ h => h) (Or.inl ⟨by rfl, fun w' hSw => by go_simp⟩) hHeld ?_
        try simp only [Act.put, List.getElem_toArray, List.getElem_cons_succ, List.getElem_cons_zero, List.setIfInBounds_toArray, List.set_cons_zero, List.set_cons_succ]
        refine wpAnyH_take (i := 1) (v := .int .i64 no) rfl (by kernel_rfl) (by kernel_rfl) (by kernel_rfl) (fun _ _ _ h => h) (Or.inl ⟨by rfl, fun w' hSw => by have hq := hSw; have hd := (HBt.out _ _ (HT4.out.below hq)).2; go_simp⟩) hHeld ?_
        try simp only [Act.put, List.getElem_toArray, List.getElem_cons_succ, List.getElem_cons_zero, List.setIfInBounds_toArray, List.set_cons_zero, List.set_cons_succ]
        refine wpAnyH_take (i := 2) (v := .pointer (some ⟨B, 0, none⟩)) rfl (by kernel_rfl) (by kernel_rfl) (by kernel_rfl) (fun _ _ _ h => h) (Or.inl ⟨by rfl, fun w' hSw => by have hq := hSw; have hd := (HRd.out _ (two_below' HB4.out hq)).1; go_simp⟩) hHeld ?_
        try simp only [Act.put, List.getElem_toArray, List.getElem_cons_succ, List.getElem_cons_zero, List.setIfInBounds_toArray, List.set_cons_zero, List.set_cons_succ]
        refine wpAnyH_take (i := 3) (v := .pointer (some ⟨w2.heap.size, 0, none⟩)) rfl (by kernel_rfl) (by kernel_rfl) (by kernel_rfl) (fun _ _ _ h => h) (Or.inl ⟨by rfl, fun w' hSw => by go_simp⟩) hHeld ?_
        try simp only [Act.put, List.getElem_toArray, List.getElem_cons_succ, List.getElem_cons_zero, List.setIfInBounds_toArray, List.set_cons_zero, List.set_cons_succ]
        refine wpAnyH_take (i := 4) (v := .int .i64 fr) rfl (by kernel_rfl) (by kernel_rfl) (by kernel_rfl) (fun _ _ _ h => h) (Or.inl ⟨by rfl, fun w' hSw => by have hq := hSw; have hd := (HBt.out _ _ (HT4.out.below hq)).1; go_simp⟩) hHeld ?_
        try simp only [Act.put, List.getElem_toArray, List.getElem_cons_succ, List.getElem_cons_zero, List.setIfInBounds_toArray, List.set_cons_zero, List.set_cons_succ]
        refine wpAnyH_take (i := 5) (v := .pointer (some ⟨B, 0, none⟩)) rfl (by kernel_rfl) (by kernel_rfl) (by kernel_rfl) (fun _ _ _ h => h) (Or.inl ⟨by rfl, fun w' hSw => by go_simp⟩) hHeld ?_
        try simp only [Act.put, List.getElem_toArray, List.getElem_cons_succ, List.getElem_cons_zero, List.setIfInBounds_toArray, List.set_cons_zero, List.set_cons_succ]
        refine wpAnyH_take (i := 6) (v := .pointer (some ⟨B, 1, none⟩)) rfl (by kernel_rfl) (by kernel_rfl) (by kernel_rfl) (fun _ _ _ h => h) (Or.inl ⟨by rfl, fun w' hSw => by go_simp⟩) hHeld ?_
        try simp only [Act.put, List.getElem_toArray, List.getElem_cons_succ, List.getElem_cons_zero, List.setIfInBounds_toArray, List.set_cons_zero, List.set_cons_succ]
        refine wpAnyH_take (i := 7) (v := .pointer (some ⟨B, (1 + fr), none⟩)) rfl (by kernel_rfl) (by kernel_rfl) (by kernel_rfl) (fun _ _ _ h => h) (Or.inl ⟨by rfl, fun w' hSw => by go_simp⟩) hHeld ?_
        try simp only [Act.put, List.getElem_toArray, List.getElem_cons_succ, List.getElem_cons_zero, List.setIfInBounds_toArray, List.set_cons_zero, List.set_cons_succ]
        refine wpAnyH_take (i := 8) (v := .int .i64 nn) rfl (by kernel_rfl) (by kernel_rfl) (by kernel_rfl) (fun _ _ _ h => h) (Or.inl ⟨by rfl, fun w' hSw => by have hq := hSw; have hd := (HRd.out _ (two_below' HB4.out hq)).2; go_simp⟩) hHeld ?_
        try simp only [Act.put, List.getElem_toArray, List.getElem_cons_succ, List.getElem_cons_zero, List.setIfInBounds_toArray, List.set_cons_zero, List.set_cons_succ]
        refine wpAnyH_take (i := 9) (v := .bool false) rfl (by kernel_rfl) (by kernel_rfl) (by kernel_rfl) (fun _ _ _ h => h) (Or.inl ⟨by rfl, fun w' hSw => by go_simp⟩) hHeld ?_
        try simp only [Act.put, List.getElem_toArray, List.getElem_cons_succ, List.getElem_cons_zero, List.setIfInBounds_toArray, List.set_cons_zero, List.set_cons_succ]
        refine wpAnyH_take (i := 10) (v := .bool false) rfl (by kernel_rfl) (by kernel_rfl) (by kernel_rfl) (fun _ _ _ h => h) (Or.inl ⟨by rfl, fun w' hSw => by go_simp⟩) hHeld ?_
        try simp only [Act.put, List.getElem_toArray, List.getElem_cons_succ, List.getElem_cons_zero, List.setIfInBounds_toArray, List.set_cons_zero, List.set_cons_succ]
        refine wpAnyH_done (by kernel_rfl) ?_ _
        refine NoPanic.normal ?_
        have HB5 := Lib.hid (two_below' HB4.out hHeld)
        obtain ⟨cf, _⟩ := HBt.out _ _ (HT4.out.below hHeld)
        clear hHeld
        go_wp2_with fail
        go_ret2
        exact ⟨by rw [HA.out]; rfl, HB5.out⟩
      · have HA : Hid (Od.ask rs 1 body = (-1, 22)) := Lib.hid (by rw [HAsk.out, if_pos rfl, if_neg hnq])
        have dn : (no != nn) = true := by simpa using hnq
        clear hnq
        go_wp2_with (first
          | (
             with_reducible show wpList _ _ _ (⟨_, .store 81 (.tmp 4) _, _, _, _, _⟩ :: _) _ _
             refine wpList_store_at rfl 81 (.tmp 4) (.tmp 9) rfl w2.heap.size 0 CT ZX _ rfl rfl (Row.new w2 81 ZX) (by have := HX72.out; have := HT72.out; omega) (by rw [tx_info, HT72.out]) HT1.out ?_
             intro w3 hr hg
             rw [splice_all (HT72.out.trans HX72.out.symm)] at hr
             have hbx := below_own ((Below.refl w2.heap.size w2).alloc (Nat.le_refl _) (.cells ZX.toArray 81)) hg (fun k hk => by cases hk; exact Nat.le_refl _)
             have HB3 := Lib.hid (two_below' HB2.out hbx)
             have HT3 := Lib.hid hr
             clear hbx
             clear hr hg)
          | ((with_reducible show wpList _ _ _ (⟨_, .load 81 (.tmp 4), _, _, _, _⟩ :: _) _ _); refine wpList_load_tx rfl 81 (.tmp 4) rfl w2.heap.size 0 (rfl) CT _ (row_range HT3.out) Tryz.underlying81 rfl (by rw [tx_info, HT72.out]) ?_))
        refine (SGt.out _ HB3.out).mono ?_
        rintro _ w4 ⟨rfl, hb4⟩
        have HB4 := Lib.hid (two_below' HB3.out hb4)
        have HT4 := Lib.hid (HT3.out.below hb4)
        clear hb4
        go_wp2_with fail
        refine wp_region_noPanic ?_
        refine wp_region_held_drew (S := fun w' => Below w4.heap.size w4 w') (by kernel_rfl) ((Below.refl _ _).drew) (fun hHeld => ?_)
        generalize w4.drew = wq at *
        refine wpAnyH_take (i := 0) (v := .pointer (some ⟨w2.heap.size, 1, none⟩)) rfl (by kernel_rfl) (by kernel_rfl) (by kernel_rfl) (fun _ _ _ h => h) (Or.inl ⟨by rfl, fun w' hSw => by go_simp⟩) hHeld ?_
        try simp only [Act.put, List.getElem_toArray, List.getElem_cons_succ, List.getElem_cons_zero, List.setIfInBounds_toArray, List.set_cons_zero, List.set_cons_succ]
        refine wpAnyH_take (i := 1) (v := .int .i64 no) rfl (by kernel_rfl) (by kernel_rfl) (by kernel_rfl) (fun _ _ _ h => h) (Or.inl ⟨by rfl, fun w' hSw => by have hq := hSw; have hd := (HBt.out _ _ (HT4.out.below hq)).2; go_simp⟩) hHeld ?_
        try simp only [Act.put, List.getElem_toArray, List.getElem_cons_succ, List.getElem_cons_zero, List.setIfInBounds_toArray, List.set_cons_zero, List.set_cons_succ]
        refine wpAnyH_take (i := 2) (v := .pointer (some ⟨B, 0, none⟩)) rfl (by kernel_rfl) (by kernel_rfl) (by kernel_rfl) (fun _ _ _ h => h) (Or.inl ⟨by rfl, fun w' hSw => by have hq := hSw; have hd := (HRd.out _ (two_below' HB4.out hq)).1; go_simp⟩) hHeld ?_
        try simp only [Act.put, List.getElem_toArray, List.getElem_cons_succ, List.getElem_cons_zero, List.setIfInBounds_toArray, List.set_cons_zero, List.set_cons_succ]
        refine wpAnyH_take (i := 3) (v := .pointer (some ⟨w2.heap.size, 0, none⟩)) rfl (by kernel_rfl) (by kernel_rfl) (by kernel_rfl) (fun _ _ _ h => h) (Or.inl ⟨by rfl, fun w' hSw => by go_simp⟩) hHeld ?_
        try simp only [Act.put, List.getElem_toArray, List.getElem_cons_succ, List.getElem_cons_zero, List.setIfInBounds_toArray, List.set_cons_zero, List.set_cons_succ]
        refine wpAnyH_take (i := 4) (v := .int .i64 fr) rfl (by kernel_rfl) (by kernel_rfl) (by kernel_rfl) (fun _ _ _ h => h) (Or.inl ⟨by rfl, fun w' hSw => by have hq := hSw; have hd := (HBt.out _ _ (HT4.out.below hq)).1; go_simp⟩) hHeld ?_
        try simp only [Act.put, List.getElem_toArray, List.getElem_cons_succ, List.getElem_cons_zero, List.setIfInBounds_toArray, List.set_cons_zero, List.set_cons_succ]
        refine wpAnyH_take (i := 5) (v := .pointer (some ⟨B, 0, none⟩)) rfl (by kernel_rfl) (by kernel_rfl) (by kernel_rfl) (fun _ _ _ h => h) (Or.inl ⟨by rfl, fun w' hSw => by go_simp⟩) hHeld ?_
        try simp only [Act.put, List.getElem_toArray, List.getElem_cons_succ, List.getElem_cons_zero, List.setIfInBounds_toArray, List.set_cons_zero, List.set_cons_succ]
        refine wpAnyH_take (i := 6) (v := .pointer (some ⟨B, 1, none⟩)) rfl (by kernel_rfl) (by kernel_rfl) (by kernel_rfl) (fun _ _ _ h => h) (Or.inl ⟨by rfl, fun w' hSw => by go_simp⟩) hHeld ?_
        try simp only [Act.put, List.getElem_toArray, List.getElem_cons_succ, List.getElem_cons_zero, List.setIfInBounds_toArray, List.set_cons_zero, List.set_cons_succ]
        refine wpAnyH_take (i := 7) (v := .pointer (some ⟨B, (1 + fr), none⟩)) rfl (by kernel_rfl) (by kernel_rfl) (by kernel_rfl) (fun _ _ _ h => h) (Or.inl ⟨by rfl, fun w' hSw => by go_simp⟩) hHeld ?_
        try simp only [Act.put, List.getElem_toArray, List.getElem_cons_succ, List.getElem_cons_zero, List.setIfInBounds_toArray, List.set_cons_zero, List.set_cons_succ]
        refine wpAnyH_take (i := 8) (v := .int .i64 nn) rfl (by kernel_rfl) (by kernel_rfl) (by kernel_rfl) (fun _ _ _ h => h) (Or.inl ⟨by rfl, fun w' hSw => by have hq := hSw; have hd := (HRd.out _ (two_below' HB4.out hq)).2; go_simp⟩) hHeld ?_
        try simp only [Act.put, List.getElem_toArray, List.getElem_cons_succ, List.getElem_cons_zero, List.setIfInBounds_toArray, List.set_cons_zero, List.set_cons_succ]
        refine wpAnyH_take (i := 9) (v := .bool true) rfl (by kernel_rfl) (by kernel_rfl) (by kernel_rfl) (fun _ _ _ h => h) (Or.inl ⟨by rfl, fun w' hSw => by go_simp⟩) hHeld ?_
        try simp only [Act.put, List.getElem_toArray, List.getElem_cons_succ, List.getElem_cons_zero, List.setIfInBounds_toArray, List.set_cons_zero, List.set_cons_succ]
        refine wpAnyH_take (i := 10) (v := .bool true) rfl (by kernel_rfl) (by kernel_rfl) (by kernel_rfl) (fun _ _ _ h => h) (Or.inl ⟨by rfl, fun w' hSw => by go_simp⟩) hHeld ?_
        try simp only [Act.put, List.getElem_toArray, List.getElem_cons_succ, List.getElem_cons_zero, List.setIfInBounds_toArray, List.set_cons_zero, List.set_cons_succ]
        refine wpAnyH_done (by kernel_rfl) ?_ _
        refine NoPanic.normal ?_
        have HB5 := Lib.hid (two_below' HB4.out hHeld)
        clear hHeld
        go_wp2_with fail
        go_ret2
        exact ⟨by rw [HA.out]; rfl, HB5.out⟩
end Go.Proofs.YtalfnadejpmjnaaGreatDoor
