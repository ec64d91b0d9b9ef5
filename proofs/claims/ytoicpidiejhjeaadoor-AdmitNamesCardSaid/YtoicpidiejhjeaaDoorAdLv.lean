/- admit: Leave, Done. -/
import Derived.Test.YtoicpidiejhjeaaDoorAdNam
namespace Go.Proofs.YtoicpidiejhjeaaDoor
open Go.RowKit Go.Maps
set_option linter.unusedVariables false
set_option linter.unusedSimpArgs false
set_option maxRecDepth 100000

theorem GTo.bump {w0 w : World} {B M n : Nat} {g : Ad.G} (h : GTo w0 w B M g n) (i : Int) (hi : 0 ≤ i ∧ i ≤ 63) :
    GTo w0 (w.setCell ⟨B, 1 + i.toNat, none⟩ (.int .i64 (Ad.nxt g i + 1))) B M { g with nx := g.nx.set i.toNat (Ad.nxt g i + 1) } (n + 1) ∧ KeepsG w (w.setCell ⟨B, 1 + i.toNat, none⟩ (.int .i64 (Ad.nxt g i + 1))) := by
  have hg := grownBy_set w B (1 + i.toNat) (.int .i64 (Ad.nxt g i + 1))
  have hn := h.next i.toNat (by omega) rfl
  have e : Ad.nxt g ((i.toNat : Nat) : Int) = Ad.nxt g i := by rw [Int.toNat_of_nonneg hi.1]
  rw [e] at hn
  obtain ⟨D, K, hK, hD, hV⟩ := h.own.map
  refine ⟨⟨below_own h.low hg (fun k hk => by cases hk; exact h.hi.1), ⟨hn, ⟨D, K, by omega, hD.setCell (fun q => h.own.apart q.symm) _, hV⟩, h.own.ok.set i _⟩, h.hi⟩, fun k T xs hT hr => ?_⟩
  refine hr.kept hg ?_
  rintro q
  injection q with q
  subst q
  exact hT (hr.type h.own.row)
set_option maxHeartbeats 1600000 in
theorem leave_wrap {w : World} (p : Value) (t : Tx) (ht : t.Ok) (N : List UInt8) (hN : N.length = 32) (E : Int) (hE : E ≠ 0)
    (hA : ∀ W, Below w.heap.size w W → Calls Tryd.prog 28 #[p, .agg t.cells.toArray] W fun e w' => e = .returned (.tuple #[.agg (bRow N).toList.toArray, .int .i64 E]) ∧ Below W.heap.size W w') :
    Calls Tryd.prog 19 #[p, .agg t.cells.toArray] w fun e w' => e = .returned (.int .i64 E) ∧ Below w.heap.size w w' := by
  have heb : (E != 0) = true := by simpa using hE
  clear hE
  have hzh : ∀ W : World, (zeroValue 33).run Tryd.prog W = .ok (.agg (bRow Tx.zero).toList.toArray) W := fun W => by rw [Array.toArray_toList]; exact hash_zv W
  have HZ32 := Lib.hid (Tx.bRow_len Tx.zero rfl)
  have HT72 := Lib.hid (Tx.cells_length ht)
  have HN32 := Lib.hid (Tx.bRow_len N hN)
  have HN1 : Hid (∀ v ∈ (bRow N).toList, v.oneCell' = true) := Lib.hid (hash_one _ hN)
  have HA := Lib.hid hA
  clear hA
  generalize (bRow Tx.zero).toList = ZH at *
  generalize t.cells = CT at *
  generalize (bRow N).toList = NH at *
  clear hN ht
  have b1 : Blocks w (w.alloc (.cells CT.toArray 35)) [(w.heap.size, 35, CT)] := (Blocks.nil ((Below.refl w.heap.size w).alloc (Nat.le_refl _) _)).cons (Row.new w _ _)
  have HB2 := Lib.hid b1
  clear b1
  go_enter Tryd.func19, Tryd.ntmps19
  go_wp2_with ((with_reducible show wpList _ _ _ (⟨_, .load 35 (.tmp 3), _, _, _, _⟩ :: _) _ _); refine wpList_load_tx rfl 35 (.tmp 3) rfl w.heap.size 0 rfl CT _ (row_range (HB2.out.hd)) Tryd.underlying35 rfl (by rw [tx_info, HT72.out]) ?_)
  refine (HA.out _ HB2.out.1).mono ?_
  rintro _ w3 ⟨rfl, hb3⟩
  have HB3 := Lib.hid (HB2.out.step hb3)
  clear hb3
  go_wp2_with (
   with_reducible show wpList _ _ _ (⟨_, .store 33 (.tmp 5) _, _, _, _, _⟩ :: _) _ _
   refine wpList_store_at rfl 33 (.tmp 5) (.tmp 11) rfl w3.heap.size 0 NH ZH _ rfl rfl (Row.new w3 33 ZH) (by have := HZ32.out; have := HN32.out; omega) (by rw [hash_info, HN32.out]) HN1.out ?_
   intro w5 hr hg
   rw [splice_all (HN32.out.trans HZ32.out.symm)] at hr
   have hbn := ((HB3.out.alloc (.cells ZH.toArray 33)).put hg HB3.out.size HB3.out.fresh).cons hr
   have HB5 := Lib.hid hbn
   clear hbn
   clear hr hg)
  go_ret
  exact ⟨rfl, HB5.out.1⟩
set_option maxHeartbeats 1600000 in
theorem done_wrap {w : World} (p : Value) (t : Tx) (ht : t.Ok) (N : List UInt8) (hN : N.length = 32) (E : Int) (hE : E ≠ 0)
    (hA : ∀ W, Below w.heap.size w W → Calls Tryd.prog 28 #[p, .agg t.cells.toArray] W fun e w' => e = .returned (.tuple #[.agg (bRow N).toList.toArray, .int .i64 E]) ∧ Below W.heap.size W w') :
    Calls Tryd.prog 18 #[p, .agg t.cells.toArray] w fun e w' => e = .returned (.int .i64 E) ∧ Below w.heap.size w w' := by
  have heb : (E != 0) = true := by simpa using hE
  clear hE
  have hzh : ∀ W : World, (zeroValue 33).run Tryd.prog W = .ok (.agg (bRow Tx.zero).toList.toArray) W := fun W => by rw [Array.toArray_toList]; exact hash_zv W
  have HZ32 := Lib.hid (Tx.bRow_len Tx.zero rfl)
  have HT72 := Lib.hid (Tx.cells_length ht)
  have HN32 := Lib.hid (Tx.bRow_len N hN)
  have HN1 : Hid (∀ v ∈ (bRow N).toList, v.oneCell' = true) := Lib.hid (hash_one _ hN)
  have HA := Lib.hid hA
  clear hA
  generalize (bRow Tx.zero).toList = ZH at *
  generalize t.cells = CT at *
  generalize (bRow N).toList = NH at *
  clear hN ht
  have b1 : Blocks w (w.alloc (.cells CT.toArray 35)) [(w.heap.size, 35, CT)] := (Blocks.nil ((Below.refl w.heap.size w).alloc (Nat.le_refl _) _)).cons (Row.new w _ _)
  have HB2 := Lib.hid b1
  clear b1
  go_enter Tryd.func18, Tryd.ntmps18
  go_wp2_with ((with_reducible show wpList _ _ _ (⟨_, .load 35 (.tmp 3), _, _, _, _⟩ :: _) _ _); refine wpList_load_tx rfl 35 (.tmp 3) rfl w.heap.size 0 rfl CT _ (row_range (HB2.out.hd)) Tryd.underlying35 rfl (by rw [tx_info, HT72.out]) ?_)
  refine (HA.out _ HB2.out.1).mono ?_
  rintro _ w3 ⟨rfl, hb3⟩
  have HB3 := Lib.hid (HB2.out.step hb3)
  clear hb3
  go_wp2_with (
   with_reducible show wpList _ _ _ (⟨_, .store 33 (.tmp 5) _, _, _, _, _⟩ :: _) _ _
   refine wpList_store_at rfl 33 (.tmp 5) (.tmp 11) rfl w3.heap.size 0 NH ZH _ rfl rfl (Row.new w3 33 ZH) (by have := HZ32.out; have := HN32.out; omega) (by rw [hash_info, HN32.out]) HN1.out ?_
   intro w5 hr hg
   rw [splice_all (HN32.out.trans HZ32.out.symm)] at hr
   have hbn := ((HB3.out.alloc (.cells ZH.toArray 33)).put hg HB3.out.size HB3.out.fresh).cons hr
   have HB5 := Lib.hid hbn
   clear hbn
   clear hr hg)
  go_ret
  exact ⟨rfl, HB5.out.1⟩
set_option maxHeartbeats 3200000 in
theorem leave_ok {w0 w : World} {B M n : Nat} {g : Ad.G} (t : Tx) (ht : t.Ok) (h : GTo w0 w B M g n) (N : List UInt8) (hN : N.length = 32) (hin : N ∈ g.nm) 
    (hA : ∀ W, Below w.heap.size w W → Calls Tryd.prog 28 #[.pointer (some ⟨B, 0, none⟩), .agg t.cells.toArray] W fun e w' => e = .returned (.tuple #[.agg (bRow N).toList.toArray, .int .i64 0]) ∧ Below W.heap.size W w') :
    Calls Tryd.prog 19 #[.pointer (some ⟨B, 0, none⟩), .agg t.cells.toArray] w fun e w' => e = .returned (.int .i64 0) ∧ GTo w0 w' B M { g with nm := g.nm.erase N } (n + 1) ∧ KeepsG w w' := by
  have HH := Lib.hid h
  have HKey := Lib.hid (keyH hN)
  have HIn := Lib.hid hin
  have hArr : (.agg (bRow N) : Value) = .agg (bRow N).toList.toArray := by rw [Array.toArray_toList]
  rw [hArr] at HKey
  clear hArr hin
  have hzh : ∀ W : World, (zeroValue 33).run Tryd.prog W = .ok (.agg (bRow Tx.zero).toList.toArray) W := fun W => by rw [Array.toArray_toList]; exact hash_zv W
  have HZ32 := Lib.hid (Tx.bRow_len Tx.zero rfl)
  have HT72 := Lib.hid (Tx.cells_length ht)
  have HN32 := Lib.hid (Tx.bRow_len N hN)
  have HN1 : Hid (∀ v ∈ (bRow N).toList, v.oneCell' = true) := Lib.hid (hash_one _ hN)
  have HA := Lib.hid hA
  clear hA
  generalize (bRow Tx.zero).toList = ZH at *
  generalize t.cells = CT at *
  generalize hNH : (bRow N).toList = NH at *
  clear hN hNH ht h
  have b1 : Blocks w (w.alloc (.cells CT.toArray 35)) [(w.heap.size, 35, CT)] := (Blocks.nil ((Below.refl w.heap.size w).alloc (Nat.le_refl _) _)).cons (Row.new w _ _)
  have HB2 := Lib.hid b1
  clear b1
  go_enter Tryd.func19, Tryd.ntmps19
  go_wp2_with ((with_reducible show wpList _ _ _ (⟨_, .load 35 (.tmp 3), _, _, _, _⟩ :: _) _ _); refine wpList_load_tx rfl 35 (.tmp 3) rfl w.heap.size 0 rfl CT _ (row_range (HB2.out.hd)) Tryd.underlying35 rfl (by rw [tx_info, HT72.out]) ?_)
  refine (HA.out _ HB2.out.1).mono ?_
  rintro _ w3 ⟨rfl, hb3⟩
  have HB3 := Lib.hid (HB2.out.step hb3)
  clear hb3
  go_wp2_with (
   with_reducible show wpList _ _ _ (⟨_, .store 33 (.tmp 5) _, _, _, _, _⟩ :: _) _ _
   refine wpList_store_at rfl 33 (.tmp 5) (.tmp 11) rfl w3.heap.size 0 NH ZH _ rfl rfl (Row.new w3 33 ZH) (by have := HZ32.out; have := HN32.out; omega) (by rw [hash_info, HN32.out]) HN1.out ?_
   intro w5 hr hg
   rw [splice_all (HN32.out.trans HZ32.out.symm)] at hr
   have hbn := ((HB3.out.alloc (.cells ZH.toArray 33)).put hg HB3.out.size HB3.out.fresh).cons hr
   have HB5 := Lib.hid hbn
   clear hbn
   clear hr hg)
  generalize w3.heap.size = g5 at *
  have hq := (Below.refl w5.heap.size w5).drew
  have HB6 := Lib.hid (HB5.out.step hq)
  have HG6 := Lib.hid (HH.out.own.below (HB5.out.step hq).1)
  clear hq
  refine wp_region_held_drew (S := fun w' => Row w' g5 33 NH ∧ w'.cell? ⟨B, 65, none⟩ = some (.map (some M))) (by kernel_rfl) (⟨HB6.out.hd, HG6.out.c65⟩) (fun hHeld => ?_)
  generalize w5.drew = wq at *
  obtain ⟨D, K, hK, hD, hV⟩ := HG6.out.map
  have HD := Lib.hid hD
  have HV := Lib.hid hV
  clear hD hV
  refine wpAnyH_take (i := 0) (v := .pointer (some ⟨B, 0, none⟩)) rfl (by kernel_rfl) (by kernel_rfl) (by kernel_rfl) (fun _ _ _ h => h) (Or.inl ⟨by rfl, fun w' hSw => by go_simp⟩) hHeld ?_
  try simp only [Act.put, List.getElem_toArray, List.getElem_cons_succ, List.getElem_cons_zero, List.setIfInBounds_toArray, List.set_cons_zero, List.set_cons_succ]
  refine wpAnyH_take (i := 1) (v := .pointer (some ⟨B, 0, none⟩)) rfl (by kernel_rfl) (by kernel_rfl) (by kernel_rfl) (fun _ _ _ h => h) (Or.inl ⟨by rfl, fun w' hSw => by go_simp⟩) hHeld ?_
  try simp only [Act.put, List.getElem_toArray, List.getElem_cons_succ, List.getElem_cons_zero, List.setIfInBounds_toArray, List.set_cons_zero, List.set_cons_succ]
  refine wpAnyH_take (i := 2) (v := .pointer (some ⟨B, 65, none⟩)) rfl (by kernel_rfl) (by kernel_rfl) (by kernel_rfl) (fun _ _ _ h => h) (Or.inl ⟨by rfl, fun w' hSw => by go_simp⟩) hHeld ?_
  try simp only [Act.put, List.getElem_toArray, List.getElem_cons_succ, List.getElem_cons_zero, List.setIfInBounds_toArray, List.set_cons_zero, List.set_cons_succ]
  refine wpAnyH_take (i := 3) (v := .map (some M)) rfl (by kernel_rfl) (by kernel_rfl) (by kernel_rfl) (fun _ _ _ h => h) (Or.inl ⟨by rfl, fun w' hSw => by have hq := hSw; have hd := hq.2; go_simp⟩) hHeld ?_
  try simp only [Act.put, List.getElem_toArray, List.getElem_cons_succ, List.getElem_cons_zero, List.setIfInBounds_toArray, List.set_cons_zero, List.set_cons_succ]
  refine' wpAnyH_take (i := 4) (v := _) rfl (by kernel_rfl) (by kernel_rfl) (by kernel_rfl) (fun _ _ _ h => h) (yieldsIf_load_mid (by rfl) _ _ rfl g5 0 rfl NH _ (fun w' hSw => row_range hSw.1) Tryd.underlying33 rfl (by rw [hash_info, HN32.out])) hHeld ?_
  try simp only [Act.put, List.getElem_toArray, List.getElem_cons_succ, List.getElem_cons_zero, List.setIfInBounds_toArray, List.set_cons_zero, List.set_cons_succ]
  refine wpAnyH_ready (rs := [5]) (by kernel_rfl) (by simp) (AllReadyH.cons rfl (fun K1 hK1 => ?_) AllReadyH.nil)
  try simp only [Act.put, List.getElem_toArray, List.getElem_cons_succ, List.getElem_cons_zero, List.setIfInBounds_toArray, List.set_cons_zero, List.set_cons_succ]
  rw [if_pos (by rfl)]
  refine wp_mapDel 50 33 (.tmp 19) (.tmp 20) rfl 61 lawH Tryd.underlying50 unitElem M K D rfl HD.out _ _ rfl HKey.out ?_
  intro wp1 hmS hgS
  have Hm2 := Lib.hid hmS
  have Hg2 := Lib.hid hgS
  have hHeld2 := And.intro (hHeld.1.kept hgS (by have := row_ne_set HD.out hHeld.1; simpa using this)) ((hgS.cell hHeld.2 (by simpa using HG6.out.apart)))
  clear hmS hgS
  refine hK1.out _ _ (hHeld2) (fun hHeld => ?_)
  clear hK1 K1
  try simp only [Act.put, List.getElem_toArray, List.getElem_cons_succ, List.getElem_cons_zero, List.setIfInBounds_toArray, List.set_cons_zero, List.set_cons_succ]
  clear hHeld2
  refine wpAnyH_done (by kernel_rfl) ?_ _
  have HT2 := Lib.hid (HH.out.del HB6.out.1 Hg2.out Hm2.out hK HV.out HIn.out)
  have R62 := Lib.hid (HB6.out.tl.hd.kept Hg2.out (by have := row_ne_set HD.out HB6.out.tl.hd; simpa using this))
  clear hHeld
  go_wp2_with fail
  go_ret
  exact ⟨rfl, HT2.out⟩
set_option maxHeartbeats 3200000 in
theorem done_no {w0 w : World} {B M n : Nat} {g : Ad.G} (t : Tx) (ht : t.Ok) (h : GTo w0 w B M g n) (N : List UInt8) (hN : N.length = 32) (hin : N ∈ g.nm) (hfr : 0 ≤ t.frm ∧ t.frm ≤ 63) (hno : t.nonce ≠ Ad.nxt g t.frm)
    (hA : ∀ W, Below w.heap.size w W → Calls Tryd.prog 28 #[.pointer (some ⟨B, 0, none⟩), .agg t.cells.toArray] W fun e w' => e = .returned (.tuple #[.agg (bRow N).toList.toArray, .int .i64 0]) ∧ Below W.heap.size W w') :
    Calls Tryd.prog 18 #[.pointer (some ⟨B, 0, none⟩), .agg t.cells.toArray] w fun e w' => e = .returned (.int .i64 33) ∧ GTo w0 w' B M g (n + 1) ∧ KeepsG w w' := by
  have HH := Lib.hid h
  have HKey := Lib.hid (keyH hN)
  have HIn := Lib.hid hin
  have hArr : (.agg (bRow N) : Value) = .agg (bRow N).toList.toArray := by rw [Array.toArray_toList]
  rw [hArr] at HKey
  clear hArr hin
  have hfr0 := hfr
  have HBX : Hid (∀ (W : World) (k : Nat), Row W k 35 t.cells → W.cell? ⟨k, 0, none⟩ = some (.int .i64 t.frm) ∧ W.cell? ⟨k, 1, none⟩ = some (.int .i64 t.nonce)) := Lib.hid (fun W k h => ⟨(tx_box ht h).1, (tx_box ht h).2.1⟩)
  have HX0 : Hid (∀ W, Below w.heap.size w W → W.cell? ⟨B, 1 + t.frm.toNat, none⟩ = some (.int .i64 (Ad.nxt g t.frm))) := Lib.hid (fun W hW => (h.own.below hW).c1 _ hfr)
  have hnb := h.own.ok.nxt t.frm
  have hnb2 : (t.nonce != Ad.nxt g t.frm) = true := by simpa using hno
  clear hno hnb
  have hzh : ∀ W : World, (zeroValue 33).run Tryd.prog W = .ok (.agg (bRow Tx.zero).toList.toArray) W := fun W => by rw [Array.toArray_toList]; exact hash_zv W
  have HZ32 := Lib.hid (Tx.bRow_len Tx.zero rfl)
  have HT72 := Lib.hid (Tx.cells_length ht)
  have HN32 := Lib.hid (Tx.bRow_len N hN)
  have HN1 : Hid (∀ v ∈ (bRow N).toList, v.oneCell' = true) := Lib.hid (hash_one _ hN)
  have HA := Lib.hid hA
  clear hA
  generalize (bRow Tx.zero).toList = ZH at *
  generalize t.cells = CT at *
  generalize hNH : (bRow N).toList = NH at *
  obtain ⟨fr, hfe⟩ : ∃ fr : Nat, t.frm = fr := ⟨t.frm.toNat, by omega⟩
  rw [hfe] at hfr HX0 HBX hnb2
  rw [Int.toNat_natCast] at HX0
  have hk0 : (0 : Int) ≤ (fr : Int) := hfr.1
  have hk1 : (fr : Int) < 64 := by omega
  generalize t.nonce = non at *
  generalize Ad.nxt g (fr : Int) = nx at *
  clear hN hNH ht h hfe hfr0
  have b1 : Blocks w (w.alloc (.cells CT.toArray 35)) [(w.heap.size, 35, CT)] := (Blocks.nil ((Below.refl w.heap.size w).alloc (Nat.le_refl _) _)).cons (Row.new w _ _)
  have HB2 := Lib.hid b1
  clear b1
  go_enter Tryd.func18, Tryd.ntmps18
  go_wp2_with ((with_reducible show wpList _ _ _ (⟨_, .load 35 (.tmp 3), _, _, _, _⟩ :: _) _ _); refine wpList_load_tx rfl 35 (.tmp 3) rfl w.heap.size 0 rfl CT _ (row_range (HB2.out.hd)) Tryd.underlying35 rfl (by rw [tx_info, HT72.out]) ?_)
  refine (HA.out _ HB2.out.1).mono ?_
  rintro _ w3 ⟨rfl, hb3⟩
  have HB3 := Lib.hid (HB2.out.step hb3)
  clear hb3
  go_wp2_with (
   with_reducible show wpList _ _ _ (⟨_, .store 33 (.tmp 5) _, _, _, _, _⟩ :: _) _ _
   refine wpList_store_at rfl 33 (.tmp 5) (.tmp 11) rfl w3.heap.size 0 NH ZH _ rfl rfl (Row.new w3 33 ZH) (by have := HZ32.out; have := HN32.out; omega) (by rw [hash_info, HN32.out]) HN1.out ?_
   intro w5 hr hg
   rw [splice_all (HN32.out.trans HZ32.out.symm)] at hr
   have hbn := ((HB3.out.alloc (.cells ZH.toArray 33)).put hg HB3.out.size HB3.out.fresh).cons hr
   have HB5 := Lib.hid hbn
   clear hbn
   clear hr hg)
  generalize w3.heap.size = g5 at *
  have c1 := (HBX.out _ _ HB5.out.tl.hd).2
  have c3 := (HBX.out _ _ HB5.out.tl.hd).1
  have c4 := HX0.out _ HB5.out.1
  go_wp2_with fail
  go_quiet (fail)
  have HB7 := Lib.hid (HB5.out.step (below_drewN' (Below.refl _ _) nq))
  generalize w5.drewN nq = w7 at *
  clear c1 c3 c4
  go_wp2_with fail
  go_ret
  exact ⟨rfl, (HH.out.below HB7.out.1).mono (Nat.le_succ n), KeepsG.below HB7.out.1⟩
set_option maxHeartbeats 3200000 in
theorem done_ok {w0 w : World} {B M n : Nat} {g : Ad.G} (t : Tx) (ht : t.Ok) (h : GTo w0 w B M g n) (N : List UInt8) (hN : N.length = 32) (hin : N ∈ g.nm) (hfr : 0 ≤ t.frm ∧ t.frm ≤ 63) (hno : t.nonce = Ad.nxt g t.frm) (hn : n ≤ 1000)
    (hA : ∀ W, Below w.heap.size w W → Calls Tryd.prog 28 #[.pointer (some ⟨B, 0, none⟩), .agg t.cells.toArray] W fun e w' => e = .returned (.tuple #[.agg (bRow N).toList.toArray, .int .i64 0]) ∧ Below W.heap.size W w') :
    Calls Tryd.prog 18 #[.pointer (some ⟨B, 0, none⟩), .agg t.cells.toArray] w fun e w' => e = .returned (.int .i64 0) ∧ GTo w0 w' B M { g with nm := g.nm.erase N, nx := g.nx.set t.frm.toNat (Ad.nxt g t.frm + 1) } (n + 2) ∧ KeepsG w w' := by
  have HH := Lib.hid h
  have HKey := Lib.hid (keyH hN)
  have HIn := Lib.hid hin
  have hArr : (.agg (bRow N) : Value) = .agg (bRow N).toList.toArray := by rw [Array.toArray_toList]
  rw [hArr] at HKey
  clear hArr hin
  have hfr0 := hfr
  have HBX : Hid (∀ (W : World) (k : Nat), Row W k 35 t.cells → W.cell? ⟨k, 0, none⟩ = some (.int .i64 t.frm) ∧ W.cell? ⟨k, 1, none⟩ = some (.int .i64 t.nonce)) := Lib.hid (fun W k h => ⟨(tx_box ht h).1, (tx_box ht h).2.1⟩)
  have HX0 : Hid (∀ W, Below w.heap.size w W → W.cell? ⟨B, 1 + t.frm.toNat, none⟩ = some (.int .i64 (Ad.nxt g t.frm))) := Lib.hid (fun W hW => (h.own.below hW).c1 _ hfr)
  have hnb := h.own.ok.nxt t.frm
  have HFx : Hid (∀ W, GTo w0 W B M { g with nm := g.nm.erase N } (n + 1) → GTo w0 (W.setCell ⟨B, 1 + t.frm.toNat, none⟩ (.int .i64 (Ad.nxt g t.frm + 1))) B M { g with nm := g.nm.erase N, nx := g.nx.set t.frm.toNat (Ad.nxt g t.frm + 1) } (n + 2) ∧ KeepsG W (W.setCell ⟨B, 1 + t.frm.toNat, none⟩ (.int .i64 (Ad.nxt g t.frm + 1)))) := Lib.hid (fun W hW => hW.bump t.frm hfr)
  have HXr : Hid (∀ W, GTo w0 W B M { g with nm := g.nm.erase N } (n + 1) → W.cell? ⟨B, 1 + t.frm.toNat, none⟩ = some (.int .i64 (Ad.nxt g t.frm)) ∧ W.frozen? ⟨B, 1 + t.frm.toNat, none⟩ = false) := Lib.hid (fun W hW => ⟨hW.own.c1 _ hfr, hW.own.row.free _⟩)
  obtain ⟨G2, hG2⟩ : ∃ G2 : Ad.G, { g with nm := g.nm.erase N, nx := g.nx.set t.frm.toNat (Ad.nxt g t.frm + 1) } = G2 := ⟨_, rfl⟩
  rw [hG2] at HFx ⊢
  clear hG2
  rw [hno] at HBX
  clear hno
  have hzh : ∀ W : World, (zeroValue 33).run Tryd.prog W = .ok (.agg (bRow Tx.zero).toList.toArray) W := fun W => by rw [Array.toArray_toList]; exact hash_zv W
  have HZ32 := Lib.hid (Tx.bRow_len Tx.zero rfl)
  have HT72 := Lib.hid (Tx.cells_length ht)
  have HN32 := Lib.hid (Tx.bRow_len N hN)
  have HN1 : Hid (∀ v ∈ (bRow N).toList, v.oneCell' = true) := Lib.hid (hash_one _ hN)
  have HA := Lib.hid hA
  clear hA
  generalize (bRow Tx.zero).toList = ZH at *
  generalize t.cells = CT at *
  generalize hNH : (bRow N).toList = NH at *
  obtain ⟨fr, hfe⟩ : ∃ fr : Nat, t.frm = fr := ⟨t.frm.toNat, by omega⟩
  rw [hfe] at hfr HX0 HBX HFx HXr hnb
  rw [Int.toNat_natCast] at HX0
  have hk0 : (0 : Int) ≤ (fr : Int) := hfr.1
  have hk1 : (fr : Int) < 64 := by omega
  rw [Int.toNat_natCast] at HFx HXr
  generalize Ad.nxt g (fr : Int) = nx at *
  have ewr : IntKind.i64.wrap (nx + 1) = nx + 1 := IntWalk.i64_in _ (by omega)
  clear hN hNH ht h hfe hfr0 hnb
  have b1 : Blocks w (w.alloc (.cells CT.toArray 35)) [(w.heap.size, 35, CT)] := (Blocks.nil ((Below.refl w.heap.size w).alloc (Nat.le_refl _) _)).cons (Row.new w _ _)
  have HB2 := Lib.hid b1
  clear b1
  go_enter Tryd.func18, Tryd.ntmps18
  go_wp2_with ((with_reducible show wpList _ _ _ (⟨_, .load 35 (.tmp 3), _, _, _, _⟩ :: _) _ _); refine wpList_load_tx rfl 35 (.tmp 3) rfl w.heap.size 0 rfl CT _ (row_range (HB2.out.hd)) Tryd.underlying35 rfl (by rw [tx_info, HT72.out]) ?_)
  refine (HA.out _ HB2.out.1).mono ?_
  rintro _ w3 ⟨rfl, hb3⟩
  have HB3 := Lib.hid (HB2.out.step hb3)
  clear hb3
  go_wp2_with (
   with_reducible show wpList _ _ _ (⟨_, .store 33 (.tmp 5) _, _, _, _, _⟩ :: _) _ _
   refine wpList_store_at rfl 33 (.tmp 5) (.tmp 11) rfl w3.heap.size 0 NH ZH _ rfl rfl (Row.new w3 33 ZH) (by have := HZ32.out; have := HN32.out; omega) (by rw [hash_info, HN32.out]) HN1.out ?_
   intro w5 hr hg
   rw [splice_all (HN32.out.trans HZ32.out.symm)] at hr
   have hbn := ((HB3.out.alloc (.cells ZH.toArray 33)).put hg HB3.out.size HB3.out.fresh).cons hr
   have HB5 := Lib.hid hbn
   clear hbn
   clear hr hg)
  generalize w3.heap.size = g5 at *
  have c1 := (HBX.out _ _ HB5.out.tl.hd).2
  have c3 := (HBX.out _ _ HB5.out.tl.hd).1
  have c4 := HX0.out _ HB5.out.1
  go_wp2_with fail
  go_quiet (fail)
  have HB7 := Lib.hid (HB5.out.step (below_drewN' (Below.refl _ _) nq))
  generalize w5.drewN nq = w7 at *
  clear c1 c3 c4
  go_wp2_with fail
  have hq := (Below.refl w7.heap.size w7).drew
  have HB6 := Lib.hid (HB7.out.step hq)
  have HG6 := Lib.hid (HH.out.own.below (HB7.out.step hq).1)
  clear hq
  refine wp_region_held_drew (S := fun w' => Row w' g5 33 NH ∧ w'.cell? ⟨B, 65, none⟩ = some (.map (some M))) (by kernel_rfl) (⟨HB6.out.hd, HG6.out.c65⟩) (fun hHeld => ?_)
  generalize w7.drew = wq at *
  obtain ⟨D, K, hK, hD, hV⟩ := HG6.out.map
  have HD := Lib.hid hD
  have HV := Lib.hid hV
  clear hD hV
  refine wpAnyH_take (i := 0) (v := .pointer (some ⟨B, 0, none⟩)) rfl (by kernel_rfl) (by kernel_rfl) (by kernel_rfl) (fun _ _ _ h => h) (Or.inl ⟨by rfl, fun w' hSw => by go_simp⟩) hHeld ?_
  try simp only [Act.put, List.getElem_toArray, List.getElem_cons_succ, List.getElem_cons_zero, List.setIfInBounds_toArray, List.set_cons_zero, List.set_cons_succ]
  refine wpAnyH_take (i := 1) (v := .pointer (some ⟨B, 0, none⟩)) rfl (by kernel_rfl) (by kernel_rfl) (by kernel_rfl) (fun _ _ _ h => h) (Or.inl ⟨by rfl, fun w' hSw => by go_simp⟩) hHeld ?_
  try simp only [Act.put, List.getElem_toArray, List.getElem_cons_succ, List.getElem_cons_zero, List.setIfInBounds_toArray, List.set_cons_zero, List.set_cons_succ]
  refine wpAnyH_take (i := 2) (v := .pointer (some ⟨B, 65, none⟩)) rfl (by kernel_rfl) (by kernel_rfl) (by kernel_rfl) (fun _ _ _ h => h) (Or.inl ⟨by rfl, fun w' hSw => by go_simp⟩) hHeld ?_
  try simp only [Act.put, List.getElem_toArray, List.getElem_cons_succ, List.getElem_cons_zero, List.setIfInBounds_toArray, List.set_cons_zero, List.set_cons_succ]
  refine wpAnyH_take (i := 3) (v := .map (some M)) rfl (by kernel_rfl) (by kernel_rfl) (by kernel_rfl) (fun _ _ _ h => h) (Or.inl ⟨by rfl, fun w' hSw => by have hq := hSw; have hd := hq.2; go_simp⟩) hHeld ?_
  try simp only [Act.put, List.getElem_toArray, List.getElem_cons_succ, List.getElem_cons_zero, List.setIfInBounds_toArray, List.set_cons_zero, List.set_cons_succ]
  refine' wpAnyH_take (i := 4) (v := _) rfl (by kernel_rfl) (by kernel_rfl) (by kernel_rfl) (fun _ _ _ h => h) (yieldsIf_load_mid (by rfl) _ _ rfl g5 0 rfl NH _ (fun w' hSw => row_range hSw.1) Tryd.underlying33 rfl (by rw [hash_info, HN32.out])) hHeld ?_
  try simp only [Act.put, List.getElem_toArray, List.getElem_cons_succ, List.getElem_cons_zero, List.setIfInBounds_toArray, List.set_cons_zero, List.set_cons_succ]
  refine wpAnyH_ready (rs := [5]) (by kernel_rfl) (by simp) (AllReadyH.cons rfl (fun K1 hK1 => ?_) AllReadyH.nil)
  try simp only [Act.put, List.getElem_toArray, List.getElem_cons_succ, List.getElem_cons_zero, List.setIfInBounds_toArray, List.set_cons_zero, List.set_cons_succ]
  rw [if_pos (by rfl)]
  refine wp_mapDel 50 33 (.tmp 29) (.tmp 30) rfl 61 lawH Tryd.underlying50 unitElem M K D rfl HD.out _ _ rfl HKey.out ?_
  intro wp1 hmS hgS
  have Hm2 := Lib.hid hmS
  have Hg2 := Lib.hid hgS
  have hHeld2 := And.intro (hHeld.1.kept hgS (by have := row_ne_set HD.out hHeld.1; simpa using this)) ((hgS.cell hHeld.2 (by simpa using HG6.out.apart)))
  clear hmS hgS
  refine hK1.out _ _ (hHeld2) (fun hHeld => ?_)
  clear hK1 K1
  try simp only [Act.put, List.getElem_toArray, List.getElem_cons_succ, List.getElem_cons_zero, List.setIfInBounds_toArray, List.set_cons_zero, List.set_cons_succ]
  clear hHeld2
  refine wpAnyH_done (by kernel_rfl) ?_ _
  have HT2 := Lib.hid (HH.out.del HB6.out.1 Hg2.out Hm2.out hK HV.out HIn.out)
  have R62 := Lib.hid (HB6.out.tl.hd.kept Hg2.out (by have := row_ne_set HD.out HB6.out.tl.hd; simpa using this))
  clear hHeld
  go_wp2_with fail
  refine region_named 11 (by kernel_rfl) (by kernel_rfl) ?_
  intro w8 hw8
  have hb8 : Below wp1.heap.size wp1 w8 := by rw [hw8]; exact (Below.refl _ _).drew
  have ht8 := HT2.out.1.below hb8
  obtain ⟨x1, x2⟩ := HXr.out _ ht8
  have x3 := (HBX.out _ _ (R62.out.below hb8)).1
  have HK8 := Lib.hid (HT2.out.2.trans (KeepsG.below hb8))
  have HT8 := Lib.hid ht8
  clear hw8 hb8 ht8
  simp only [List.take_succ_cons, List.take_zero, List.drop_succ_cons, List.drop_zero]
  repeat still_step
  refine wpStill_nil ?_
  go_wp2_with fail
  go_ret
  have hf := HFx.out _ HT8.out
  exact ⟨rfl, hf.1, HK8.out.trans hf.2⟩
theorem leave_nil (t : Tx) (ht : t.Ok) (w : World) : Calls Tryd.prog 19 #[.pointer none, .agg t.cells.toArray] w fun e w' => e = .returned (.int .i64 1) ∧ Below w.heap.size w w' :=
  leave_wrap _ t ht Tx.zero rfl 1 (by decide) (fun W _ => named_nil t ht W)
theorem done_nil (t : Tx) (ht : t.Ok) (w : World) : Calls Tryd.prog 18 #[.pointer none, .agg t.cells.toArray] w fun e w' => e = .returned (.int .i64 1) ∧ Below w.heap.size w w' :=
  done_wrap _ t ht Tx.zero rfl 1 (by decide) (fun W _ => named_nil t ht W)
theorem leave_any {w0 w : World} {B M n : Nat} {g : Ad.G} (t : Tx) (ht : t.Ok) (h : GTo w0 w B M g n) (hT : Tab w0) :
    Calls Tryd.prog 19 #[.pointer (some ⟨B, 0, none⟩), .agg t.cells.toArray] w fun e w' => e = .returned (.int .i64 (Ad.namedE g t)) ∧ GTo w0 w' B M (Ad.leave g t) (n + 1) ∧ KeepsG w w' := by
  have hTw := hT.below h.low hT.pos
  have hA := fun W (hW : Below w.heap.size w W) => named_any t ht (h.own.below hW) (hTw.below hW hTw.pos)
  unfold Ad.leave
  by_cases h0 : Ad.namedE g t = 0
  · obtain ⟨h1, h2, h3⟩ := Ad.named_in h0
    rw [h0, h3] at hA
    rw [if_pos h0, h0]
    exact leave_ok t ht h _ Tx.name_len h2 hA
  · rw [if_neg h0]
    exact (leave_wrap _ t ht _ (Ad.namedN_len g t) _ h0 hA).mono fun e w' ⟨h1, h2⟩ => ⟨h1, (h.below h2).mono (Nat.le_succ n), KeepsG.below h2⟩
theorem Tx.frm_of {t : Tx} (ht : t.Ok) (h : t.nameE.2 = 0) : 0 ≤ t.frm ∧ t.frm ≤ 63 := by
  have h2 : t.textE.2 = 0 := by
    unfold Tx.nameE at h
    by_cases hq : t.textE.2 = 0
    · exact hq
    · rw [if_neg hq] at h; exact absurd h hq
  have h4 : t.bodyE.2 = 0 := by
    unfold Tx.textE at h2
    by_cases hb : t.bodyE.2 = 0
    · exact hb
    · rw [if_neg hb] at h2; exact absurd h2 hb
  have h5 : t.err = 0 := (Tx.body_fields (b := t.bodyE.1) (Prod.ext rfl h4)).1
  unfold Tx.err at h5
  by_cases ha : Tx.acct t.frm = false ∨ Tx.acct t.to = false
  · rw [if_pos ha] at h5; cases h5
  · have h6 : Tx.acct t.frm = true := by
      cases hq : Tx.acct t.frm with
      | true => rfl
      | false => exact absurd (.inl hq) ha
    unfold Tx.acct at h6
    simpa using h6
theorem done_any {w0 w : World} {B M n : Nat} {g : Ad.G} (t : Tx) (ht : t.Ok) (h : GTo w0 w B M g n) (hT : Tab w0) (hn : n ≤ 1000) :
    Calls Tryd.prog 18 #[.pointer (some ⟨B, 0, none⟩), .agg t.cells.toArray] w fun e w' => e = .returned (.int .i64 (Ad.doneE g t)) ∧ GTo w0 w' B M (Ad.done g t) (n + 2) ∧ KeepsG w w' := by
  have hTw := hT.below h.low hT.pos
  have hA := fun W (hW : Below w.heap.size w W) => named_any t ht (h.own.below hW) (hTw.below hW hTw.pos)
  by_cases h0 : Ad.namedE g t = 0
  · obtain ⟨h1, h2, h3⟩ := Ad.named_in h0
    have hf := Tx.frm_of ht h1
    rw [h0, h3] at hA
    by_cases hno : t.nonce = Ad.nxt g t.frm
    · have e0 : Ad.doneE g t = 0 := by unfold Ad.doneE; rw [if_neg (by simpa using h0), if_neg (by simpa using hno)]
      unfold Ad.done
      rw [if_pos e0, e0]
      exact done_ok t ht h _ Tx.name_len h2 hf hno hn hA
    · have e0 : Ad.doneE g t = 33 := by unfold Ad.doneE; rw [if_neg (by simpa using h0), if_pos hno]
      unfold Ad.done
      rw [e0, if_neg (by decide)]
      exact (done_no t ht h _ Tx.name_len h2 hf hno hA).mono fun e w' ⟨q1, q2, q3⟩ => ⟨q1, q2.mono (Nat.le_succ _), q3⟩
  · have e0 : Ad.doneE g t = Ad.namedE g t := by unfold Ad.doneE; rw [if_pos h0]
    unfold Ad.done
    rw [e0, if_neg h0]
    exact (done_wrap _ t ht _ (Ad.namedN_len g t) _ h0 hA).mono fun e w' ⟨h1, h2⟩ => ⟨h1, (h.below h2).mono (by omega), KeepsG.below h2⟩
end Go.Proofs.YtoicpidiejhjeaaDoor
