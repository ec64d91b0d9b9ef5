/- admit: named; Ask and Enter whole. -/
import Derived.Test.YtoicpidiejhjeaaDoorAdEnter
namespace Go.Proofs.YtoicpidiejhjeaaDoor
open Go.RowKit Go.Maps
set_option linter.unusedVariables false
set_option linter.unusedSimpArgs false
set_option maxRecDepth 100000

theorem Ad.askT_ok (g : Ad.G) (s : List UInt8) : (Ad.askT g s).Ok := by
  unfold Ad.askT
  cases hr : Tx.read s with
  | none => exact Tx.none_ok
  | some t => simp only; split; exact (Tx.read_facts hr).1; exact Tx.none_ok
theorem Ad.askN_len (g : Ad.G) (s : List UInt8) : (Ad.askN g s).length = 32 := by
  unfold Ad.askN
  cases hr : Tx.read s with
  | none => rfl
  | some t => simp only; split; exact Tx.name_len; rfl
theorem Ad.ask_ok {g : Ad.G} {s : List UInt8} (h : Ad.askE g s = 0) : Ad.askN g s ∉ g.nm := by
  unfold Ad.askN
  cases hr : Tx.read s with
  | none => unfold Ad.askE at h; rw [hr] at h; cases h
  | some t =>
    simp only
    rw [if_pos h]
    unfold Ad.askE at h
    rw [hr] at h
    simp only at h
    intro hin
    by_cases h1 : t.signedE ≠ 0
    · rw [if_pos h1] at h; cases h
    rw [if_neg h1] at h
    by_cases h2 : t.fee < g.fl
    · rw [if_pos h2] at h; cases h
    rw [if_neg h2] at h
    by_cases h3 : t.nonce < Ad.nxt g t.frm
    · rw [if_pos h3] at h; cases h
    rw [if_neg h3, if_pos hin] at h
    cases h
theorem askS_nil (s : ByteArray) (w : World) : Calls Tryd.prog 11 #[.pointer none, .string s] w fun e w' => e = .returned (.tuple #[.agg Tx.none.cells.toArray, .int .i64 1]) ∧ Below w.heap.size w w' :=
  askS_wrap _ s Tx.none Tx.none_ok Tx.zero rfl 1 (fun W _ => ask_nil s W)
theorem enterS_nil (s : ByteArray) (w : World) : Calls Tryd.prog 12 #[.pointer none, .string s] w fun e w' => e = .returned (.tuple #[.agg Tx.none.cells.toArray, .int .i64 1]) ∧ Below w.heap.size w w' :=
  enterS_wrap _ s Tx.none Tx.none_ok Tx.zero rfl 1 (by decide) (fun W _ => ask_nil s W)
theorem askS_any {w : World} {B M n : Nat} {g : Ad.G} (s : ByteArray) (hs : s.size ≤ 9223372036854775807) (hg : GateAt w B M g n) (hT : Tab w) :
    Calls Tryd.prog 11 #[.pointer (some ⟨B, 0, none⟩), .string s] w fun e w' => e = .returned (.tuple #[.agg (Ad.askT g s.data.toList).cells.toArray, .int .i64 (Ad.askE g s.data.toList)]) ∧ Below w.heap.size w w' :=
  askS_wrap _ s _ (Ad.askT_ok g _) _ (Ad.askN_len g _) _ (fun W hW => ask_any s hs (hg.below hW) (hT.below hW hT.pos))
theorem enter_any {w0 w : World} {B M n : Nat} {g : Ad.G} (s : ByteArray) (hs : s.size ≤ 9223372036854775807) (h : GTo w0 w B M g n) (hT : Tab w0) (hn : n ≤ 1000) :
    Calls Tryd.prog 12 #[.pointer (some ⟨B, 0, none⟩), .string s] w fun e w' => e = .returned (.tuple #[.agg (Ad.askT g s.data.toList).cells.toArray, .int .i64 (Ad.askE g s.data.toList)]) ∧ GTo w0 w' B M (Ad.enter g s.data.toList) (n + 1) ∧ KeepsG w w' := by
  have hTw := hT.below h.low hT.pos
  have hA := fun W (hW : Below w.heap.size w W) => ask_any s hs (h.own.below hW) (hTw.below hW hTw.pos)
  by_cases h0 : Ad.askE g s.data.toList = 0
  · rw [h0] at hA ⊢
    unfold Ad.enter
    rw [if_pos h0]
    exact enter_ok s hs h hT hn _ (Ad.askT_ok g _) _ (Ad.askN_len g _) (Ad.ask_ok h0) hA
  · unfold Ad.enter
    rw [if_neg h0]
    exact (enterS_wrap _ s _ (Ad.askT_ok g _) _ (Ad.askN_len g _) _ h0 hA).mono fun e w' ⟨h1, h2⟩ => ⟨h1, (h.below h2).mono (Nat.le_succ n), KeepsG.below h2⟩
set_option maxHeartbeats 1600000 in
theorem named_nil (t : Tx) (ht : t.Ok) (w : World) : Calls Tryd.prog 28 #[.pointer none, .agg t.cells.toArray] w fun e w' => e = .returned (.tuple #[.agg (bRow Tx.zero).toList.toArray, .int .i64 1]) ∧ Below w.heap.size w w' := by
  have hzh : ∀ W : World, (zeroValue 33).run Tryd.prog W = .ok (.agg (bRow Tx.zero).toList.toArray) W := fun W => by rw [Array.toArray_toList]; exact hash_zv W
  have HBh : Hid (Tryd.prog.built 33 [] = some (bRow Tx.zero).toList.toArray) := Lib.hid (by rw [Array.toArray_toList]; exact hash_built)
  have HZ32 := Lib.hid (Tx.bRow_len Tx.zero rfl)
  have HZh1 : Hid (∀ v ∈ (bRow Tx.zero).toList, v.oneCell' = true) := Lib.hid (hash_one _ rfl)
  have HT72 := Lib.hid (Tx.cells_length ht)
  clear ht
  generalize (bRow Tx.zero).toList = ZH at *
  generalize t.cells = CT at *
  have e1 : (w.alloc (.cells CT.toArray 35)).heap.size = w.heap.size + 1 := by simp
  have b1 : Blocks w (w.alloc (.cells CT.toArray 35)) [(w.heap.size, 35, CT)] := (Blocks.nil ((Below.refl w.heap.size w).alloc (Nat.le_refl _) _)).cons (Row.new w _ _)
  have r2 := Row.new (w.alloc (.cells CT.toArray 35)) 33 ZH
  rw [e1] at r2
  have HB2 := Lib.hid ((b1.alloc (.cells ZH.toArray 33)).cons r2)
  clear e1 b1 r2
  go_enter Tryd.func28, Tryd.ntmps28
  go_wp2_with (first
  | ((with_reducible show wpList _ _ _ (⟨_, .build 33 _, _, _, _, _⟩ :: _) _ _); refine wpList_buildL rfl 33 [] rfl (some 12) rfl _ rfl _ HBh.out ?_)
  | (
     with_reducible show wpList _ _ _ (⟨_, .store 33 (.tmp 4) _, _, _, _, _⟩ :: _) _ _
     refine wpList_store_at rfl 33 (.tmp 4) (.tmp 12) rfl (w.heap.size + 1) 0 ZH ZH _ rfl rfl (HB2.out.hd) (by have := HZ32.out; have := HZ32.out; omega) (by rw [hash_info, HZ32.out]) HZh1.out ?_
     intro wf hr hg
     rw [splice_all (HZ32.out.trans HZ32.out.symm)] at hr
     have HR4 := Lib.hid hr
     have HBl := Lib.hid (below_own HB2.out.1 hg (fun k hk => by cases hk; exact Nat.le_succ _))
     clear hr hg))
  refine bodyPost_ret (results_rowL rfl _ _ (w.heap.size + 1) 33 ZH _ rfl HR4.out Tryd.underlying33 rfl (by rw [hash_info]; simp [HZ32.out]) _ rfl) rfl ⟨rfl, HBl.out⟩
set_option maxHeartbeats 3200000 in
theorem named_err {w : World} {B M n : Nat} {g : Ad.G} (t : Tx) (ht : t.Ok) (hg : GateAt w B M g n) (hT : Tab w) (he : t.nameE.2 ≠ 0) :
    Calls Tryd.prog 28 #[.pointer (some ⟨B, 0, none⟩), .agg t.cells.toArray] w fun e w' => e = .returned (.tuple #[.agg (bRow Tx.zero).toList.toArray, .int .i64 34]) ∧ Below w.heap.size w w' := by
  have NM : Hid (∀ W, Tab W → Calls Tryd.prog 32 #[.agg t.cells.toArray] W fun e w' => e = .returned (.tuple #[.agg (bRow t.nameE.1).toList.toArray, .int .i64 t.nameE.2]) ∧ Below W.heap.size W w') := Lib.hid (fun W hW => (name4_any t ht W hW).mono fun e w' ⟨h1, h2⟩ => ⟨by rw [h1, Array.toArray_toList], h2⟩)
  have hzh : ∀ W : World, (zeroValue 33).run Tryd.prog W = .ok (.agg (bRow Tx.zero).toList.toArray) W := fun W => by rw [Array.toArray_toList]; exact hash_zv W
  have HBh : Hid (Tryd.prog.built 33 [] = some (bRow Tx.zero).toList.toArray) := Lib.hid (by rw [Array.toArray_toList]; exact hash_built)
  have HZ32 := Lib.hid (Tx.bRow_len Tx.zero rfl)
  have HZh1 : Hid (∀ v ∈ (bRow Tx.zero).toList, v.oneCell' = true) := Lib.hid (hash_one _ rfl)
  have HT72 := Lib.hid (Tx.cells_length ht)
  have HN32 := Lib.hid (Tx.bRow_len t.nameE.1 Tx.name_len)
  have HN1 : Hid (∀ v ∈ (bRow t.nameE.1).toList, v.oneCell' = true) := Lib.hid (hash_one _ Tx.name_len)
  have HTb : Hid (∀ W, Below w.heap.size w W → Tab W) := Lib.hid (fun W hW => hT.below hW hT.pos)
  have HM0 : Hid (∀ W, Below w.heap.size w W → W.cell? ⟨B, 65, none⟩ = some (.map (some M))) := Lib.hid (fun W hW => (hg.below hW).c65)
  have HL0 : Hid (∀ W, Below w.heap.size w W → (Instr.lookup 50 (.map (some M)) (.agg (bRow t.nameE.1).toList.toArray) true).run Tryd.prog W = .ok (.tuple #[.agg #[], .bool (decide (t.nameE.1 ∈ g.nm))]) W) := Lib.hid (fun W hW => by rw [Array.toArray_toList]; exact (hg.below hW).look Tx.name_len)
  obtain ⟨bb, hbb⟩ : ∃ bb, decide (t.nameE.1 ∈ g.nm) = bb := ⟨_, rfl⟩
  rw [hbb] at HL0
  have heb : (t.nameE.2 != 0) = true := by simpa using he
  clear he hbb
  generalize t.nameE.2 = E at *
  clear ht hg hT
  generalize (bRow Tx.zero).toList = ZH at *
  generalize t.cells = CT at *
  generalize (bRow t.nameE.1).toList = NH at *
  have e1 : (w.alloc (.cells CT.toArray 35)).heap.size = w.heap.size + 1 := by simp
  have b1 : Blocks w (w.alloc (.cells CT.toArray 35)) [(w.heap.size, 35, CT)] := (Blocks.nil ((Below.refl w.heap.size w).alloc (Nat.le_refl _) _)).cons (Row.new w _ _)
  have r2 := Row.new (w.alloc (.cells CT.toArray 35)) 33 ZH
  rw [e1] at r2
  have HB2 := Lib.hid ((b1.alloc (.cells ZH.toArray 33)).cons r2)
  clear e1 b1 r2
  go_enter Tryd.func28, Tryd.ntmps28
  go_wp2_with ((with_reducible show wpList _ _ _ (⟨_, .load 35 (.tmp 3), _, _, _, _⟩ :: _) _ _); refine wpList_load_tx rfl 35 (.tmp 3) rfl w.heap.size 0 rfl CT _ (row_range (HB2.out.tl.hd)) Tryd.underlying35 rfl (by rw [tx_info, HT72.out]) ?_)
  refine (NM.out _ (HTb.out _ HB2.out.1)).mono ?_
  rintro _ w8 ⟨rfl, hb8⟩
  have HB8 := Lib.hid (HB2.out.step hb8)
  clear hb8
  go_wp2_with (
   with_reducible show wpList _ _ _ (⟨_, .store 33 (.tmp 6) _, _, _, _, _⟩ :: _) _ _
   refine wpList_store_at rfl 33 (.tmp 6) (.tmp 16) rfl w8.heap.size 0 NH ZH _ rfl rfl (Row.new w8 33 ZH) (by have := HZ32.out; have := HN32.out; omega) (by rw [hash_info, HN32.out]) HN1.out ?_
   intro w9 hr hg
   rw [splice_all (HN32.out.trans HZ32.out.symm)] at hr
   have hbn := ((HB8.out.alloc (.cells ZH.toArray 33)).put hg HB8.out.size HB8.out.fresh).cons hr
   have HB9 := Lib.hid hbn
   clear hbn
   clear hr hg)
  have HM : Hid (∀ W, Below w9.heap.size w9 W → W.cell? ⟨B, 65, none⟩ = some (.map (some M))) := Lib.hid (fun W hW => HM0.out W (two_below' HB9.out.1 hW))
  have HLk : Hid (∀ W, Below w9.heap.size w9 W → (Instr.lookup 50 (.map (some M)) (.agg NH.toArray) true).run Tryd.prog W = .ok (.tuple #[.agg #[], .bool bb]) W) := Lib.hid (fun W hW => HL0.out W (two_below' HB9.out.1 hW))
  refine wp_region_held_drew (S := fun w' => Below w9.heap.size w9 w') (by kernel_rfl) ((Below.refl w9.heap.size w9).drew) (fun hHeld => ?_)
  generalize w9.drew = wq at *
  refine wpAnyH_take (i := 0) (v := .pointer (some ⟨B, 0, none⟩)) rfl (by kernel_rfl) (by kernel_rfl) (by kernel_rfl) (fun _ _ _ h => h) (Or.inl ⟨by rfl, fun w' hSw => by go_simp⟩) hHeld ?_
  try simp only [Act.put, List.getElem_toArray, List.getElem_cons_succ, List.getElem_cons_zero, List.setIfInBounds_toArray, List.set_cons_zero, List.set_cons_succ]
  refine wpAnyH_take (i := 1) (v := .pointer (some ⟨B, 0, none⟩)) rfl (by kernel_rfl) (by kernel_rfl) (by kernel_rfl) (fun _ _ _ h => h) (Or.inl ⟨by rfl, fun w' hSw => by go_simp⟩) hHeld ?_
  try simp only [Act.put, List.getElem_toArray, List.getElem_cons_succ, List.getElem_cons_zero, List.setIfInBounds_toArray, List.set_cons_zero, List.set_cons_succ]
  refine wpAnyH_take (i := 2) (v := .pointer (some ⟨B, 65, none⟩)) rfl (by kernel_rfl) (by kernel_rfl) (by kernel_rfl) (fun _ _ _ h => h) (Or.inl ⟨by rfl, fun w' hSw => by go_simp⟩) hHeld ?_
  try simp only [Act.put, List.getElem_toArray, List.getElem_cons_succ, List.getElem_cons_zero, List.setIfInBounds_toArray, List.set_cons_zero, List.set_cons_succ]
  refine wpAnyH_take (i := 3) (v := .map (some M)) rfl (by kernel_rfl) (by kernel_rfl) (by kernel_rfl) (fun _ _ _ h => h) (Or.inl ⟨by rfl, fun w' hSw => by have hq := hSw; have hd := HM.out _ hq; go_simp⟩) hHeld ?_
  try simp only [Act.put, List.getElem_toArray, List.getElem_cons_succ, List.getElem_cons_zero, List.setIfInBounds_toArray, List.set_cons_zero, List.set_cons_succ]
  refine' wpAnyH_take (i := 4) (v := _) rfl (by kernel_rfl) (by kernel_rfl) (by kernel_rfl) (fun _ _ _ h => h) (yieldsIf_load_mid (by rfl) _ _ rfl w8.heap.size 0 rfl NH _ (fun w' hSw => row_range (HB9.out.hd.below hSw)) Tryd.underlying33 rfl (by rw [hash_info, HN32.out])) hHeld ?_
  try simp only [Act.put, List.getElem_toArray, List.getElem_cons_succ, List.getElem_cons_zero, List.setIfInBounds_toArray, List.set_cons_zero, List.set_cons_succ]
  refine wpAnyH_take (i := 5) (v := .tuple #[.agg #[], .bool bb]) rfl (by kernel_rfl) (by kernel_rfl) (by kernel_rfl) (fun _ _ _ h => h) (Or.inl ⟨by rfl, fun w' hSw => by have hq := hSw; have hd := HLk.out _ hq; go_simp⟩) hHeld ?_
  try simp only [Act.put, List.getElem_toArray, List.getElem_cons_succ, List.getElem_cons_zero, List.setIfInBounds_toArray, List.set_cons_zero, List.set_cons_succ]
  refine wpAnyH_take (i := 6) (v := .tuple #[.agg #[], .bool bb]) rfl (by kernel_rfl) (by kernel_rfl) (by kernel_rfl) (fun _ _ _ h => h) (Or.inl ⟨by rfl, fun w' hSw => by go_simp⟩) hHeld ?_
  try simp only [Act.put, List.getElem_toArray, List.getElem_cons_succ, List.getElem_cons_zero, List.setIfInBounds_toArray, List.set_cons_zero, List.set_cons_succ]
  refine wpAnyH_take (i := 7) (v := .agg #[]) rfl (by kernel_rfl) (by kernel_rfl) (by kernel_rfl) (fun _ _ _ h => h) (Or.inl ⟨by rfl, fun w' hSw => by go_simp⟩) hHeld ?_
  try simp only [Act.put, List.getElem_toArray, List.getElem_cons_succ, List.getElem_cons_zero, List.setIfInBounds_toArray, List.set_cons_zero, List.set_cons_succ]
  refine wpAnyH_take (i := 8) (v := .bool bb) rfl (by kernel_rfl) (by kernel_rfl) (by kernel_rfl) (fun _ _ _ h => h) (Or.inl ⟨by rfl, fun w' hSw => by go_simp⟩) hHeld ?_
  try simp only [Act.put, List.getElem_toArray, List.getElem_cons_succ, List.getElem_cons_zero, List.setIfInBounds_toArray, List.set_cons_zero, List.set_cons_succ]
  refine wpAnyH_ready (rs := [9]) (by kernel_rfl) (by simp) (AllReadyH.cons rfl (fun K1 hK1 => ?_) AllReadyH.nil)
  try simp only [Act.put, List.getElem_toArray, List.getElem_cons_succ, List.getElem_cons_zero, List.setIfInBounds_toArray, List.set_cons_zero, List.set_cons_succ]
  go_simp
  have hd2 := (Below.refl wq.heap.size wq).alloc (Nat.le_refl _) (.cells ([] : List Value).toArray 61)
  have rA : Row (wq.alloc (.cells ([] : List Value).toArray 61)) wq.heap.size 61 ([] : List Value) := Row.new wq 61 ([] : List Value)
  have rAs : w9.heap.size ≤ wq.heap.size := hHeld.size
  have hHeld2 := two_below' hHeld hd2
  generalize wq.alloc (.cells ([] : List Value).toArray 61) = wa1 at *
  obtain ⟨ga3, ga3e⟩ : ∃ ga3, ga3 = wq.heap.size := ⟨_, rfl⟩
  rw [← ga3e] at rA rAs ⊢
  refine hK1.out _ _ (hHeld2) (fun hHeld => ?_)
  clear hK1 K1
  try simp only [Act.put, List.getElem_toArray, List.getElem_cons_succ, List.getElem_cons_zero, List.setIfInBounds_toArray, List.set_cons_zero, List.set_cons_succ]
  clear hHeld2 ga3e
  refine wpAnyH_ready (rs := [10]) (by kernel_rfl) (by simp) (AllReadyH.cons rfl (fun K1 hK1 => ?_) AllReadyH.nil)
  try simp only [Act.put, List.getElem_toArray, List.getElem_cons_succ, List.getElem_cons_zero, List.setIfInBounds_toArray, List.set_cons_zero, List.set_cons_succ]
  rw [if_pos (by rfl)]
  refine wp_store_at 61 (.tmp 8) (.tmp 25) rfl ga3 0 ([] : List Value) _ _ rfl rfl rA (by simp) (by kernel_rfl) (by intro v hv; cases hv) ?_
  intro ws4 hrS hgS
  simp only [List.take_zero, List.nil_append, List.length_nil, List.drop_nil, List.append_nil, List.drop_zero] at hrS
  have HRs := Lib.hid hrS
  have hHeld2 := below_own hHeld hgS (fun k hk => by cases hk; exact rAs)
  clear hrS hgS
  refine hK1.out _ _ (hHeld2) (fun hHeld => ?_)
  clear hK1 K1
  try simp only [Act.put, List.getElem_toArray, List.getElem_cons_succ, List.getElem_cons_zero, List.setIfInBounds_toArray, List.set_cons_zero, List.set_cons_succ]
  clear hHeld2
  refine wpAnyH_take (i := 11) (v := .bool bb) rfl (by kernel_rfl) (by kernel_rfl) (by kernel_rfl) (fun _ _ _ h => h) (Or.inl ⟨by rfl, fun w' hSw => by go_simp⟩) hHeld ?_
  try simp only [Act.put, List.getElem_toArray, List.getElem_cons_succ, List.getElem_cons_zero, List.setIfInBounds_toArray, List.set_cons_zero, List.set_cons_succ]
  refine wpAnyH_done (by kernel_rfl) ?_ _
  have HB10 := Lib.hid (HB9.out.step hHeld)
  clear hHeld HRs rAs rA
  generalize w8.heap.size = g9 at *
  go_wp2_with (first
  | ((with_reducible show wpList _ _ _ (⟨_, .build 33 _, _, _, _, _⟩ :: _) _ _); refine wpList_buildL rfl 33 [] rfl (some 33) rfl _ rfl _ HBh.out ?_)
  | (
     with_reducible show wpList _ _ _ (⟨_, .store 33 (.tmp 4) _, _, _, _, _⟩ :: _) _ _
     refine wpList_store_at rfl 33 (.tmp 4) (.tmp 33) rfl (w.heap.size + 1) 0 ZH ZH _ rfl rfl (HB10.out.tl.hd) (by have := HZ32.out; have := HZ32.out; omega) (by rw [hash_info, HZ32.out]) HZh1.out ?_
     intro wf hr hg
     rw [splice_all (HZ32.out.trans HZ32.out.symm)] at hr
     have HR4 := Lib.hid hr
     have HBl := Lib.hid (below_own HB10.out.1 hg (fun k hk => by cases hk; exact Nat.le_succ _))
     clear hr hg))
  refine bodyPost_ret (results_rowL rfl _ _ (w.heap.size + 1) 33 ZH _ rfl HR4.out Tryd.underlying33 rfl (by rw [hash_info]; simp [HZ32.out]) _ rfl) rfl ⟨rfl, HBl.out⟩
set_option maxHeartbeats 3200000 in
theorem named_out {w : World} {B M n : Nat} {g : Ad.G} (t : Tx) (ht : t.Ok) (hg : GateAt w B M g n) (hT : Tab w) (he : t.nameE.2 = 0) (hin : t.nameE.1 ∉ g.nm) :
    Calls Tryd.prog 28 #[.pointer (some ⟨B, 0, none⟩), .agg t.cells.toArray] w fun e w' => e = .returned (.tuple #[.agg (bRow Tx.zero).toList.toArray, .int .i64 34]) ∧ Below w.heap.size w w' := by
  have NM : Hid (∀ W, Tab W → Calls Tryd.prog 32 #[.agg t.cells.toArray] W fun e w' => e = .returned (.tuple #[.agg (bRow t.nameE.1).toList.toArray, .int .i64 t.nameE.2]) ∧ Below W.heap.size W w') := Lib.hid (fun W hW => (name4_any t ht W hW).mono fun e w' ⟨h1, h2⟩ => ⟨by rw [h1, Array.toArray_toList], h2⟩)
  have hzh : ∀ W : World, (zeroValue 33).run Tryd.prog W = .ok (.agg (bRow Tx.zero).toList.toArray) W := fun W => by rw [Array.toArray_toList]; exact hash_zv W
  have HBh : Hid (Tryd.prog.built 33 [] = some (bRow Tx.zero).toList.toArray) := Lib.hid (by rw [Array.toArray_toList]; exact hash_built)
  have HZ32 := Lib.hid (Tx.bRow_len Tx.zero rfl)
  have HZh1 : Hid (∀ v ∈ (bRow Tx.zero).toList, v.oneCell' = true) := Lib.hid (hash_one _ rfl)
  have HT72 := Lib.hid (Tx.cells_length ht)
  have HN32 := Lib.hid (Tx.bRow_len t.nameE.1 Tx.name_len)
  have HN1 : Hid (∀ v ∈ (bRow t.nameE.1).toList, v.oneCell' = true) := Lib.hid (hash_one _ Tx.name_len)
  have HTb : Hid (∀ W, Below w.heap.size w W → Tab W) := Lib.hid (fun W hW => hT.below hW hT.pos)
  have HM0 : Hid (∀ W, Below w.heap.size w W → W.cell? ⟨B, 65, none⟩ = some (.map (some M))) := Lib.hid (fun W hW => (hg.below hW).c65)
  have HL0 : Hid (∀ W, Below w.heap.size w W → (Instr.lookup 50 (.map (some M)) (.agg (bRow t.nameE.1).toList.toArray) true).run Tryd.prog W = .ok (.tuple #[.agg #[], .bool (decide (t.nameE.1 ∈ g.nm))]) W) := Lib.hid (fun W hW => by rw [Array.toArray_toList]; exact (hg.below hW).look Tx.name_len)
  obtain ⟨bb, hbb⟩ : ∃ bb, decide (t.nameE.1 ∈ g.nm) = bb := ⟨_, rfl⟩
  rw [hbb] at HL0
  rw [he] at NM
  obtain rfl : false = bb := by rw [← hbb]; simp [hin]
  clear he hbb hin
  clear ht hg hT
  generalize (bRow Tx.zero).toList = ZH at *
  generalize t.cells = CT at *
  generalize (bRow t.nameE.1).toList = NH at *
  have e1 : (w.alloc (.cells CT.toArray 35)).heap.size = w.heap.size + 1 := by simp
  have b1 : Blocks w (w.alloc (.cells CT.toArray 35)) [(w.heap.size, 35, CT)] := (Blocks.nil ((Below.refl w.heap.size w).alloc (Nat.le_refl _) _)).cons (Row.new w _ _)
  have r2 := Row.new (w.alloc (.cells CT.toArray 35)) 33 ZH
  rw [e1] at r2
  have HB2 := Lib.hid ((b1.alloc (.cells ZH.toArray 33)).cons r2)
  clear e1 b1 r2
  go_enter Tryd.func28, Tryd.ntmps28
  go_wp2_with ((with_reducible show wpList _ _ _ (⟨_, .load 35 (.tmp 3), _, _, _, _⟩ :: _) _ _); refine wpList_load_tx rfl 35 (.tmp 3) rfl w.heap.size 0 rfl CT _ (row_range (HB2.out.tl.hd)) Tryd.underlying35 rfl (by rw [tx_info, HT72.out]) ?_)
  refine (NM.out _ (HTb.out _ HB2.out.1)).mono ?_
  rintro _ w8 ⟨rfl, hb8⟩
  have HB8 := Lib.hid (HB2.out.step hb8)
  clear hb8
  go_wp2_with (
   with_reducible show wpList _ _ _ (⟨_, .store 33 (.tmp 6) _, _, _, _, _⟩ :: _) _ _
   refine wpList_store_at rfl 33 (.tmp 6) (.tmp 16) rfl w8.heap.size 0 NH ZH _ rfl rfl (Row.new w8 33 ZH) (by have := HZ32.out; have := HN32.out; omega) (by rw [hash_info, HN32.out]) HN1.out ?_
   intro w9 hr hg
   rw [splice_all (HN32.out.trans HZ32.out.symm)] at hr
   have hbn := ((HB8.out.alloc (.cells ZH.toArray 33)).put hg HB8.out.size HB8.out.fresh).cons hr
   have HB9 := Lib.hid hbn
   clear hbn
   clear hr hg)
  have HM : Hid (∀ W, Below w9.heap.size w9 W → W.cell? ⟨B, 65, none⟩ = some (.map (some M))) := Lib.hid (fun W hW => HM0.out W (two_below' HB9.out.1 hW))
  have HLk : Hid (∀ W, Below w9.heap.size w9 W → (Instr.lookup 50 (.map (some M)) (.agg NH.toArray) true).run Tryd.prog W = .ok (.tuple #[.agg #[], .bool false]) W) := Lib.hid (fun W hW => HL0.out W (two_below' HB9.out.1 hW))
  refine wp_region_held_drew (S := fun w' => Below w9.heap.size w9 w') (by kernel_rfl) ((Below.refl w9.heap.size w9).drew) (fun hHeld => ?_)
  generalize w9.drew = wq at *
  refine wpAnyH_take (i := 0) (v := .pointer (some ⟨B, 0, none⟩)) rfl (by kernel_rfl) (by kernel_rfl) (by kernel_rfl) (fun _ _ _ h => h) (Or.inl ⟨by rfl, fun w' hSw => by go_simp⟩) hHeld ?_
  try simp only [Act.put, List.getElem_toArray, List.getElem_cons_succ, List.getElem_cons_zero, List.setIfInBounds_toArray, List.set_cons_zero, List.set_cons_succ]
  refine wpAnyH_take (i := 1) (v := .pointer (some ⟨B, 0, none⟩)) rfl (by kernel_rfl) (by kernel_rfl) (by kernel_rfl) (fun _ _ _ h => h) (Or.inl ⟨by rfl, fun w' hSw => by go_simp⟩) hHeld ?_
  try simp only [Act.put, List.getElem_toArray, List.getElem_cons_succ, List.getElem_cons_zero, List.setIfInBounds_toArray, List.set_cons_zero, List.set_cons_succ]
  refine wpAnyH_take (i := 2) (v := .pointer (some ⟨B, 65, none⟩)) rfl (by kernel_rfl) (by kernel_rfl) (by kernel_rfl) (fun _ _ _ h => h) (Or.inl ⟨by rfl, fun w' hSw => by go_simp⟩) hHeld ?_
  try simp only [Act.put, List.getElem_toArray, List.getElem_cons_succ, List.getElem_cons_zero, List.setIfInBounds_toArray, List.set_cons_zero, List.set_cons_succ]
  refine wpAnyH_take (i := 3) (v := .map (some M)) rfl (by kernel_rfl) (by kernel_rfl) (by kernel_rfl) (fun _ _ _ h => h) (Or.inl ⟨by rfl, fun w' hSw => by have hq := hSw; have hd := HM.out _ hq; go_simp⟩) hHeld ?_
  try simp only [Act.put, List.getElem_toArray, List.getElem_cons_succ, List.getElem_cons_zero, List.setIfInBounds_toArray, List.set_cons_zero, List.set_cons_succ]
  refine' wpAnyH_take (i := 4) (v := _) rfl (by kernel_rfl) (by kernel_rfl) (by kernel_rfl) (fun _ _ _ h => h) (yieldsIf_load_mid (by rfl) _ _ rfl w8.heap.size 0 rfl NH _ (fun w' hSw => row_range (HB9.out.hd.below hSw)) Tryd.underlying33 rfl (by rw [hash_info, HN32.out])) hHeld ?_
  try simp only [Act.put, List.getElem_toArray, List.getElem_cons_succ, List.getElem_cons_zero, List.setIfInBounds_toArray, List.set_cons_zero, List.set_cons_succ]
  refine wpAnyH_take (i := 5) (v := .tuple #[.agg #[], .bool false]) rfl (by kernel_rfl) (by kernel_rfl) (by kernel_rfl) (fun _ _ _ h => h) (Or.inl ⟨by rfl, fun w' hSw => by have hq := hSw; have hd := HLk.out _ hq; go_simp⟩) hHeld ?_
  try simp only [Act.put, List.getElem_toArray, List.getElem_cons_succ, List.getElem_cons_zero, List.setIfInBounds_toArray, List.set_cons_zero, List.set_cons_succ]
  refine wpAnyH_take (i := 6) (v := .tuple #[.agg #[], .bool false]) rfl (by kernel_rfl) (by kernel_rfl) (by kernel_rfl) (fun _ _ _ h => h) (Or.inl ⟨by rfl, fun w' hSw => by go_simp⟩) hHeld ?_
  try simp only [Act.put, List.getElem_toArray, List.getElem_cons_succ, List.getElem_cons_zero, List.setIfInBounds_toArray, List.set_cons_zero, List.set_cons_succ]
  refine wpAnyH_take (i := 7) (v := .agg #[]) rfl (by kernel_rfl) (by kernel_rfl) (by kernel_rfl) (fun _ _ _ h => h) (Or.inl ⟨by rfl, fun w' hSw => by go_simp⟩) hHeld ?_
  try simp only [Act.put, List.getElem_toArray, List.getElem_cons_succ, List.getElem_cons_zero, List.setIfInBounds_toArray, List.set_cons_zero, List.set_cons_succ]
  refine wpAnyH_take (i := 8) (v := .bool false) rfl (by kernel_rfl) (by kernel_rfl) (by kernel_rfl) (fun _ _ _ h => h) (Or.inl ⟨by rfl, fun w' hSw => by go_simp⟩) hHeld ?_
  try simp only [Act.put, List.getElem_toArray, List.getElem_cons_succ, List.getElem_cons_zero, List.setIfInBounds_toArray, List.set_cons_zero, List.set_cons_succ]
  refine wpAnyH_ready (rs := [9]) (by kernel_rfl) (by simp) (AllReadyH.cons rfl (fun K1 hK1 => ?_) AllReadyH.nil)
  try simp only [Act.put, List.getElem_toArray, List.getElem_cons_succ, List.getElem_cons_zero, List.setIfInBounds_toArray, List.set_cons_zero, List.set_cons_succ]
  go_simp
  have hd2 := (Below.refl wq.heap.size wq).alloc (Nat.le_refl _) (.cells ([] : List Value).toArray 61)
  have rA : Row (wq.alloc (.cells ([] : List Value).toArray 61)) wq.heap.size 61 ([] : List Value) := Row.new wq 61 ([] : List Value)
  have rAs : w9.heap.size ≤ wq.heap.size := hHeld.size
  have hHeld2 := two_below' hHeld hd2
  generalize wq.alloc (.cells ([] : List Value).toArray 61) = wa1 at *
  obtain ⟨ga3, ga3e⟩ : ∃ ga3, ga3 = wq.heap.size := ⟨_, rfl⟩
  rw [← ga3e] at rA rAs ⊢
  refine hK1.out _ _ (hHeld2) (fun hHeld => ?_)
  clear hK1 K1
  try simp only [Act.put, List.getElem_toArray, List.getElem_cons_succ, List.getElem_cons_zero, List.setIfInBounds_toArray, List.set_cons_zero, List.set_cons_succ]
  clear hHeld2 ga3e
  refine wpAnyH_ready (rs := [10]) (by kernel_rfl) (by simp) (AllReadyH.cons rfl (fun K1 hK1 => ?_) AllReadyH.nil)
  try simp only [Act.put, List.getElem_toArray, List.getElem_cons_succ, List.getElem_cons_zero, List.setIfInBounds_toArray, List.set_cons_zero, List.set_cons_succ]
  rw [if_pos (by rfl)]
  refine wp_store_at 61 (.tmp 8) (.tmp 25) rfl ga3 0 ([] : List Value) _ _ rfl rfl rA (by simp) (by kernel_rfl) (by intro v hv; cases hv) ?_
  intro ws4 hrS hgS
  simp only [List.take_zero, List.nil_append, List.length_nil, List.drop_nil, List.append_nil, List.drop_zero] at hrS
  have HRs := Lib.hid hrS
  have hHeld2 := below_own hHeld hgS (fun k hk => by cases hk; exact rAs)
  clear hrS hgS
  refine hK1.out _ _ (hHeld2) (fun hHeld => ?_)
  clear hK1 K1
  try simp only [Act.put, List.getElem_toArray, List.getElem_cons_succ, List.getElem_cons_zero, List.setIfInBounds_toArray, List.set_cons_zero, List.set_cons_succ]
  clear hHeld2
  refine wpAnyH_take (i := 11) (v := .bool false) rfl (by kernel_rfl) (by kernel_rfl) (by kernel_rfl) (fun _ _ _ h => h) (Or.inl ⟨by rfl, fun w' hSw => by go_simp⟩) hHeld ?_
  try simp only [Act.put, List.getElem_toArray, List.getElem_cons_succ, List.getElem_cons_zero, List.setIfInBounds_toArray, List.set_cons_zero, List.set_cons_succ]
  refine wpAnyH_done (by kernel_rfl) ?_ _
  have HB10 := Lib.hid (HB9.out.step hHeld)
  clear hHeld HRs rAs rA
  generalize w8.heap.size = g9 at *
  go_wp2_with (first
  | ((with_reducible show wpList _ _ _ (⟨_, .build 33 _, _, _, _, _⟩ :: _) _ _); refine wpList_buildL rfl 33 [] rfl (some 33) rfl _ rfl _ HBh.out ?_)
  | (
     with_reducible show wpList _ _ _ (⟨_, .store 33 (.tmp 4) _, _, _, _, _⟩ :: _) _ _
     refine wpList_store_at rfl 33 (.tmp 4) (.tmp 33) rfl (w.heap.size + 1) 0 ZH ZH _ rfl rfl (HB10.out.tl.hd) (by have := HZ32.out; have := HZ32.out; omega) (by rw [hash_info, HZ32.out]) HZh1.out ?_
     intro wf hr hg
     rw [splice_all (HZ32.out.trans HZ32.out.symm)] at hr
     have HR4 := Lib.hid hr
     have HBl := Lib.hid (below_own HB10.out.1 hg (fun k hk => by cases hk; exact Nat.le_succ _))
     clear hr hg))
  refine bodyPost_ret (results_rowL rfl _ _ (w.heap.size + 1) 33 ZH _ rfl HR4.out Tryd.underlying33 rfl (by rw [hash_info]; simp [HZ32.out]) _ rfl) rfl ⟨rfl, HBl.out⟩
set_option maxHeartbeats 3200000 in
theorem named_in {w : World} {B M n : Nat} {g : Ad.G} (t : Tx) (ht : t.Ok) (hg : GateAt w B M g n) (hT : Tab w) (he : t.nameE.2 = 0) (hin : t.nameE.1 ∈ g.nm) :
    Calls Tryd.prog 28 #[.pointer (some ⟨B, 0, none⟩), .agg t.cells.toArray] w fun e w' => e = .returned (.tuple #[.agg (bRow t.nameE.1).toList.toArray, .int .i64 0]) ∧ Below w.heap.size w w' := by
  have NM : Hid (∀ W, Tab W → Calls Tryd.prog 32 #[.agg t.cells.toArray] W fun e w' => e = .returned (.tuple #[.agg (bRow t.nameE.1).toList.toArray, .int .i64 t.nameE.2]) ∧ Below W.heap.size W w') := Lib.hid (fun W hW => (name4_any t ht W hW).mono fun e w' ⟨h1, h2⟩ => ⟨by rw [h1, Array.toArray_toList], h2⟩)
  have hzh : ∀ W : World, (zeroValue 33).run Tryd.prog W = .ok (.agg (bRow Tx.zero).toList.toArray) W := fun W => by rw [Array.toArray_toList]; exact hash_zv W
  have HBh : Hid (Tryd.prog.built 33 [] = some (bRow Tx.zero).toList.toArray) := Lib.hid (by rw [Array.toArray_toList]; exact hash_built)
  have HZ32 := Lib.hid (Tx.bRow_len Tx.zero rfl)
  have HZh1 : Hid (∀ v ∈ (bRow Tx.zero).toList, v.oneCell' = true) := Lib.hid (hash_one _ rfl)
  have HT72 := Lib.hid (Tx.cells_length ht)
  have HN32 := Lib.hid (Tx.bRow_len t.nameE.1 Tx.name_len)
  have HN1 : Hid (∀ v ∈ (bRow t.nameE.1).toList, v.oneCell' = true) := Lib.hid (hash_one _ Tx.name_len)
  have HTb : Hid (∀ W, Below w.heap.size w W → Tab W) := Lib.hid (fun W hW => hT.below hW hT.pos)
  have HM0 : Hid (∀ W, Below w.heap.size w W → W.cell? ⟨B, 65, none⟩ = some (.map (some M))) := Lib.hid (fun W hW => (hg.below hW).c65)
  have HL0 : Hid (∀ W, Below w.heap.size w W → (Instr.lookup 50 (.map (some M)) (.agg (bRow t.nameE.1).toList.toArray) true).run Tryd.prog W = .ok (.tuple #[.agg #[], .bool (decide (t.nameE.1 ∈ g.nm))]) W) := Lib.hid (fun W hW => by rw [Array.toArray_toList]; exact (hg.below hW).look Tx.name_len)
  obtain ⟨bb, hbb⟩ : ∃ bb, decide (t.nameE.1 ∈ g.nm) = bb := ⟨_, rfl⟩
  rw [hbb] at HL0
  rw [he] at NM
  obtain rfl : true = bb := by rw [← hbb]; simp [hin]
  clear he hbb hin
  clear ht hg hT
  generalize (bRow Tx.zero).toList = ZH at *
  generalize t.cells = CT at *
  generalize (bRow t.nameE.1).toList = NH at *
  have e1 : (w.alloc (.cells CT.toArray 35)).heap.size = w.heap.size + 1 := by simp
  have b1 : Blocks w (w.alloc (.cells CT.toArray 35)) [(w.heap.size, 35, CT)] := (Blocks.nil ((Below.refl w.heap.size w).alloc (Nat.le_refl _) _)).cons (Row.new w _ _)
  have r2 := Row.new (w.alloc (.cells CT.toArray 35)) 33 ZH
  rw [e1] at r2
  have HB2 := Lib.hid ((b1.alloc (.cells ZH.toArray 33)).cons r2)
  clear e1 b1 r2
  go_enter Tryd.func28, Tryd.ntmps28
  go_wp2_with ((with_reducible show wpList _ _ _ (⟨_, .load 35 (.tmp 3), _, _, _, _⟩ :: _) _ _); refine wpList_load_tx rfl 35 (.tmp 3) rfl w.heap.size 0 rfl CT _ (row_range (HB2.out.tl.hd)) Tryd.underlying35 rfl (by rw [tx_info, HT72.out]) ?_)
  refine (NM.out _ (HTb.out _ HB2.out.1)).mono ?_
  rintro _ w8 ⟨rfl, hb8⟩
  have HB8 := Lib.hid (HB2.out.step hb8)
  clear hb8
  go_wp2_with (
   with_reducible show wpList _ _ _ (⟨_, .store 33 (.tmp 6) _, _, _, _, _⟩ :: _) _ _
   refine wpList_store_at rfl 33 (.tmp 6) (.tmp 16) rfl w8.heap.size 0 NH ZH _ rfl rfl (Row.new w8 33 ZH) (by have := HZ32.out; have := HN32.out; omega) (by rw [hash_info, HN32.out]) HN1.out ?_
   intro w9 hr hg
   rw [splice_all (HN32.out.trans HZ32.out.symm)] at hr
   have hbn := ((HB8.out.alloc (.cells ZH.toArray 33)).put hg HB8.out.size HB8.out.fresh).cons hr
   have HB9 := Lib.hid hbn
   clear hbn
   clear hr hg)
  have HM : Hid (∀ W, Below w9.heap.size w9 W → W.cell? ⟨B, 65, none⟩ = some (.map (some M))) := Lib.hid (fun W hW => HM0.out W (two_below' HB9.out.1 hW))
  have HLk : Hid (∀ W, Below w9.heap.size w9 W → (Instr.lookup 50 (.map (some M)) (.agg NH.toArray) true).run Tryd.prog W = .ok (.tuple #[.agg #[], .bool true]) W) := Lib.hid (fun W hW => HL0.out W (two_below' HB9.out.1 hW))
  refine wp_region_held_drew (S := fun w' => Below w9.heap.size w9 w') (by kernel_rfl) ((Below.refl w9.heap.size w9).drew) (fun hHeld => ?_)
  generalize w9.drew = wq at *
  refine wpAnyH_take (i := 0) (v := .pointer (some ⟨B, 0, none⟩)) rfl (by kernel_rfl) (by kernel_rfl) (by kernel_rfl) (fun _ _ _ h => h) (Or.inl ⟨by rfl, fun w' hSw => by go_simp⟩) hHeld ?_
  try simp only [Act.put, List.getElem_toArray, List.getElem_cons_succ, List.getElem_cons_zero, List.setIfInBounds_toArray, List.set_cons_zero, List.set_cons_succ]
  refine wpAnyH_take (i := 1) (v := .pointer (some ⟨B, 0, none⟩)) rfl (by kernel_rfl) (by kernel_rfl) (by kernel_rfl) (fun _ _ _ h => h) (Or.inl ⟨by rfl, fun w' hSw => by go_simp⟩) hHeld ?_
  try simp only [Act.put, List.getElem_toArray, List.getElem_cons_succ, List.getElem_cons_zero, List.setIfInBounds_toArray, List.set_cons_zero, List.set_cons_succ]
  refine wpAnyH_take (i := 2) (v := .pointer (some ⟨B, 65, none⟩)) rfl (by kernel_rfl) (by kernel_rfl) (by kernel_rfl) (fun _ _ _ h => h) (Or.inl ⟨by rfl, fun w' hSw => by go_simp⟩) hHeld ?_
  try simp only [Act.put, List.getElem_toArray, List.getElem_cons_succ, List.getElem_cons_zero, List.setIfInBounds_toArray, List.set_cons_zero, List.set_cons_succ]
  refine wpAnyH_take (i := 3) (v := .map (some M)) rfl (by kernel_rfl) (by kernel_rfl) (by kernel_rfl) (fun _ _ _ h => h) (Or.inl ⟨by rfl, fun w' hSw => by have hq := hSw; have hd := HM.out _ hq; go_simp⟩) hHeld ?_
  try simp only [Act.put, List.getElem_toArray, List.getElem_cons_succ, List.getElem_cons_zero, List.setIfInBounds_toArray, List.set_cons_zero, List.set_cons_succ]
  refine' wpAnyH_take (i := 4) (v := _) rfl (by kernel_rfl) (by kernel_rfl) (by kernel_rfl) (fun _ _ _ h => h) (yieldsIf_load_mid (by rfl) _ _ rfl w8.heap.size 0 rfl NH _ (fun w' hSw => row_range (HB9.out.hd.below hSw)) Tryd.underlying33 rfl (by rw [hash_info, HN32.out])) hHeld ?_
  try simp only [Act.put, List.getElem_toArray, List.getElem_cons_succ, List.getElem_cons_zero, List.setIfInBounds_toArray, List.set_cons_zero, List.set_cons_succ]
  refine wpAnyH_take (i := 5) (v := .tuple #[.agg #[], .bool true]) rfl (by kernel_rfl) (by kernel_rfl) (by kernel_rfl) (fun _ _ _ h => h) (Or.inl ⟨by rfl, fun w' hSw => by have hq := hSw; have hd := HLk.out _ hq; go_simp⟩) hHeld ?_
  try simp only [Act.put, List.getElem_toArray, List.getElem_cons_succ, List.getElem_cons_zero, List.setIfInBounds_toArray, List.set_cons_zero, List.set_cons_succ]
  refine wpAnyH_take (i := 6) (v := .tuple #[.agg #[], .bool true]) rfl (by kernel_rfl) (by kernel_rfl) (by kernel_rfl) (fun _ _ _ h => h) (Or.inl ⟨by rfl, fun w' hSw => by go_simp⟩) hHeld ?_
  try simp only [Act.put, List.getElem_toArray, List.getElem_cons_succ, List.getElem_cons_zero, List.setIfInBounds_toArray, List.set_cons_zero, List.set_cons_succ]
  refine wpAnyH_take (i := 7) (v := .agg #[]) rfl (by kernel_rfl) (by kernel_rfl) (by kernel_rfl) (fun _ _ _ h => h) (Or.inl ⟨by rfl, fun w' hSw => by go_simp⟩) hHeld ?_
  try simp only [Act.put, List.getElem_toArray, List.getElem_cons_succ, List.getElem_cons_zero, List.setIfInBounds_toArray, List.set_cons_zero, List.set_cons_succ]
  refine wpAnyH_take (i := 8) (v := .bool true) rfl (by kernel_rfl) (by kernel_rfl) (by kernel_rfl) (fun _ _ _ h => h) (Or.inl ⟨by rfl, fun w' hSw => by go_simp⟩) hHeld ?_
  try simp only [Act.put, List.getElem_toArray, List.getElem_cons_succ, List.getElem_cons_zero, List.setIfInBounds_toArray, List.set_cons_zero, List.set_cons_succ]
  refine wpAnyH_ready (rs := [9]) (by kernel_rfl) (by simp) (AllReadyH.cons rfl (fun K1 hK1 => ?_) AllReadyH.nil)
  try simp only [Act.put, List.getElem_toArray, List.getElem_cons_succ, List.getElem_cons_zero, List.setIfInBounds_toArray, List.set_cons_zero, List.set_cons_succ]
  go_simp
  have hd2 := (Below.refl wq.heap.size wq).alloc (Nat.le_refl _) (.cells ([] : List Value).toArray 61)
  have rA : Row (wq.alloc (.cells ([] : List Value).toArray 61)) wq.heap.size 61 ([] : List Value) := Row.new wq 61 ([] : List Value)
  have rAs : w9.heap.size ≤ wq.heap.size := hHeld.size
  have hHeld2 := two_below' hHeld hd2
  generalize wq.alloc (.cells ([] : List Value).toArray 61) = wa1 at *
  obtain ⟨ga3, ga3e⟩ : ∃ ga3, ga3 = wq.heap.size := ⟨_, rfl⟩
  rw [← ga3e] at rA rAs ⊢
  refine hK1.out _ _ (hHeld2) (fun hHeld => ?_)
  clear hK1 K1
  try simp only [Act.put, List.getElem_toArray, List.getElem_cons_succ, List.getElem_cons_zero, List.setIfInBounds_toArray, List.set_cons_zero, List.set_cons_succ]
  clear hHeld2 ga3e
  refine wpAnyH_ready (rs := [10]) (by kernel_rfl) (by simp) (AllReadyH.cons rfl (fun K1 hK1 => ?_) AllReadyH.nil)
  try simp only [Act.put, List.getElem_toArray, List.getElem_cons_succ, List.getElem_cons_zero, List.setIfInBounds_toArray, List.set_cons_zero, List.set_cons_succ]
  rw [if_pos (by rfl)]
  refine wp_store_at 61 (.tmp 8) (.tmp 25) rfl ga3 0 ([] : List Value) _ _ rfl rfl rA (by simp) (by kernel_rfl) (by intro v hv; cases hv) ?_
  intro ws4 hrS hgS
  simp only [List.take_zero, List.nil_append, List.length_nil, List.drop_nil, List.append_nil, List.drop_zero] at hrS
  have HRs := Lib.hid hrS
  have hHeld2 := below_own hHeld hgS (fun k hk => by cases hk; exact rAs)
  clear hrS hgS
  refine hK1.out _ _ (hHeld2) (fun hHeld => ?_)
  clear hK1 K1
  try simp only [Act.put, List.getElem_toArray, List.getElem_cons_succ, List.getElem_cons_zero, List.setIfInBounds_toArray, List.set_cons_zero, List.set_cons_succ]
  clear hHeld2
  refine wpAnyH_take (i := 11) (v := .bool true) rfl (by kernel_rfl) (by kernel_rfl) (by kernel_rfl) (fun _ _ _ h => h) (Or.inl ⟨by rfl, fun w' hSw => by go_simp⟩) hHeld ?_
  try simp only [Act.put, List.getElem_toArray, List.getElem_cons_succ, List.getElem_cons_zero, List.setIfInBounds_toArray, List.set_cons_zero, List.set_cons_succ]
  refine wpAnyH_done (by kernel_rfl) ?_ _
  have HB10 := Lib.hid (HB9.out.step hHeld)
  clear hHeld HRs rAs rA
  generalize w8.heap.size = g9 at *
  go_wp2_with (first
  | ((with_reducible show wpList _ _ _ (⟨_, .load 33 (.tmp 6), _, _, _, _⟩ :: _) _ _); refine wpList_load_tx rfl 33 (.tmp 6) rfl g9 0 rfl NH _ (row_range (HB10.out.hd)) Tryd.underlying33 rfl (by rw [hash_info, HN32.out]) ?_)
  | (
     with_reducible show wpList _ _ _ (⟨_, .store 33 (.tmp 4) _, _, _, _, _⟩ :: _) _ _
     refine wpList_store_at rfl 33 (.tmp 4) (.tmp 34) rfl (w.heap.size + 1) 0 NH ZH _ rfl rfl (HB10.out.tl.hd) (by have := HZ32.out; have := HN32.out; omega) (by rw [hash_info, HN32.out]) HN1.out ?_
     intro wf hr hg
     rw [splice_all (HN32.out.trans HZ32.out.symm)] at hr
     have HR4 := Lib.hid hr
     have HBl := Lib.hid (below_own HB10.out.1 hg (fun k hk => by cases hk; exact Nat.le_succ _))
     clear hr hg))
  refine bodyPost_ret (results_rowL rfl _ _ (w.heap.size + 1) 33 NH _ rfl HR4.out Tryd.underlying33 rfl (by rw [hash_info]; simp [HN32.out]) _ rfl) rfl ⟨rfl, HBl.out⟩
def Ad.namedN (g : Ad.G) (t : Tx) : List UInt8 := if Ad.namedE g t = 0 then t.nameE.1 else Tx.zero
theorem Ad.namedN_len (g : Ad.G) (t : Tx) : (Ad.namedN g t).length = 32 := by unfold Ad.namedN; split; exact Tx.name_len; rfl
theorem Ad.named_in {g : Ad.G} {t : Tx} (h : Ad.namedE g t = 0) : t.nameE.2 = 0 ∧ t.nameE.1 ∈ g.nm ∧ Ad.namedN g t = t.nameE.1 := by
  have h2 := h
  unfold Ad.namedE at h
  by_cases hc : t.nameE.2 ≠ 0 ∨ t.nameE.1 ∉ g.nm
  · rw [if_pos hc] at h; cases h
  · exact ⟨by false_or_by_contra; rename_i q; exact hc (.inl q), by false_or_by_contra; rename_i q; exact hc (.inr q), by unfold Ad.namedN; rw [if_pos h2]⟩
theorem named_any {w : World} {B M n : Nat} {g : Ad.G} (t : Tx) (ht : t.Ok) (hg : GateAt w B M g n) (hT : Tab w) :
    Calls Tryd.prog 28 #[.pointer (some ⟨B, 0, none⟩), .agg t.cells.toArray] w fun e w' => e = .returned (.tuple #[.agg (bRow (Ad.namedN g t)).toList.toArray, .int .i64 (Ad.namedE g t)]) ∧ Below w.heap.size w w' := by
  by_cases he : t.nameE.2 = 0
  · by_cases hin : t.nameE.1 ∈ g.nm
    · have h0 : Ad.namedE g t = 0 := by unfold Ad.namedE; rw [if_neg (by simp [he, hin])]
      unfold Ad.namedN
      rw [if_pos h0, h0]
      exact named_in t ht hg hT he hin
    · have h0 : Ad.namedE g t = 34 := by unfold Ad.namedE; rw [if_pos (.inr hin)]
      unfold Ad.namedN
      rw [h0, if_neg (by decide)]
      exact named_out t ht hg hT he hin
  · have h0 : Ad.namedE g t = 34 := by unfold Ad.namedE; rw [if_pos (.inl he)]
    unfold Ad.namedN
    rw [h0, if_neg (by decide)]
    exact named_err t ht hg hT he
end Go.Proofs.YtoicpidiejhjeaaDoor
