/- notes: WriteReceipt. -/
import Derived.Test.YtdekcicgiflnbaaDoorNoRc2
namespace Go.Proofs.YtdekcicgiflnbaaDoor
open Go.RowKit
set_option linter.unusedVariables false
set_option linter.unusedSimpArgs false

set_option maxRecDepth 20000 in
theorem writeReceipt_no (r : Rp) (w : World) (hp : r.prev.length = 32) (hh : r.hash.length = 32) (h : r.ok = false) :
    Calls Tryd.prog 37 #[.agg r.cells.toArray] w fun e w' => e = .returned (.tuple #[S [], .int .i64 2]) ∧ Below w.heap.size w w' := by
  have MB : Hid (∀ W, Calls Tryd.prog 77 #[.agg r.cells.toArray] W fun e w' => e = .returned (.bool false) ∧ Below W.heap.size W w') := fun W => by have := linked_any r W; rw [h] at this; exact this
  have HL := Lib.hid (Rp.cells_len hp hh)
  have Hrow0 := Lib.hid (Row.new w 48 r.cells)
  generalize r.cells = C at *
  clear h
  go_enter Tryd.func37, Tryd.ntmps37
  go_wp2_with (with_reducible show wpList _ _ _ (⟨_, .load 48 _, _, _, _, _⟩ :: _) _ _; refine wpList_load_tx rfl 48 (.tmp 1) rfl w.heap.size 0 rfl C _ (row_range Hrow0.out) Tryd.underlying48 rfl (by rw [rp_info, HL.out]) ?_)
  refine (MB.out _).mono ?_
  rintro _ w1 ⟨rfl, hb1⟩
  have Hb1 := Lib.hid (tx_below (grownBy_of_below hb1 none))
  clear hb1
  go_wp2_with fail
  go_ret2
  exact ⟨rfl, Hb1.out⟩
set_option maxRecDepth 20000 in
set_option maxHeartbeats 1600000 in
theorem writeReceipt_ne (r : Rp) (w : World) (hT : Tab w) (hp : r.prev.length = 32) (hh : r.hash.length = 32) (h : r.ok = true) (hl : r.hash ≠ r.link) :
    Calls Tryd.prog 37 #[.agg r.cells.toArray] w fun e w' => e = .returned (.tuple #[S [], .int .i64 7]) ∧ Below w.heap.size w w' := by
  obtain ⟨i0, hi, hz, hs, hby⟩ := str5
  have Hi := Lib.hid hi
  have Hz := Lib.hid hz
  have Hs := Lib.hid hs
  have Hby := Lib.hid hby
  have MB : Hid (∀ W, Calls Tryd.prog 77 #[.agg r.cells.toArray] W fun e w' => e = .returned (.bool true) ∧ Below W.heap.size W w') := fun W => by have := linked_any r W; rw [h] at this; exact this
  have LK := Lib.hid (fun W (hW : Tab W) => link_any r hp hh W hW h)
  have RT := Lib.hid (fun W => receiptTexts_any r W h)
  have HTab := Lib.hid hT
  have Hp := Lib.hid hT.pos
  have HL := Lib.hid (Rp.cells_len hp hh)
  have Hrow0 := Lib.hid (Row.new w 48 r.cells)
  have HP := Lib.hid hp
  have HH := Lib.hid hh
  have HB32 := Lib.hid (Tx.bRow_len _ hh)
  have BT : Hid (∀ (W : World) (g : Nat) (T : TypeId), Row W g T r.cells → W.rangeAt g 4 (bRow r.prev).toList ∧ W.rangeAt g 36 (bRow r.hash).toList) := fun W g T h => ⟨rp_prev hp h, rp_hash hp h⟩
  have heqs : ∀ W, (Op.equalIn 10000 23 (.agg (bRow r.hash)) (.agg (bRow r.link))).run Tryd.prog W = .ok false W := fun W => (hash_eq W _ _ hh (Rp.link_len r)).trans (by rw [decide_eq_false hl])
  have hff : r.texts.map S ++ [S r.prev, S r.hash] = r.fields.map S := by unfold Rp.fields; rw [List.map_append]; rfl
  have Hff := Lib.hid hff
  have Hfl : Hid (5 + 1 = r.fields.length) := (rfl : 5 + 1 = r.fields.length)
  generalize r.link = K at *
  generalize r.texts.map S = NS at *
  generalize r.fields = L at *
  generalize r.cells = C at *
  clear hi hz hs hby h hff hp hh hT hl
  have hu := Tryd.underlying48
  have hi48 : (Tryd.prog.info? 48).map (·.size) = some C.length := by rw [rp_info, HL.out]
  have hu23 := Tryd.underlying23
  have hi23 : (Tryd.prog.info? 23).map (·.size) = some (bRow r.hash).toList.length := by rw [hash_info, HB32.out]
  go_enter Tryd.func37, Tryd.ntmps37
  go_wp2_with (with_reducible show wpList _ _ _ (⟨_, .load 48 _, _, _, _, _⟩ :: _) _ _; refine wpList_load_tx rfl 48 (.tmp 1) rfl w.heap.size 0 rfl C _ (row_range Hrow0.out) Tryd.underlying48 rfl (by rw [rp_info, HL.out]) ?_)
  refine (MB.out _).mono ?_
  rintro _ w1 ⟨rfl, hb1⟩
  have HS0 := Lib.hid ((rowIn_call hb1).drew)
  clear hb1
  go_wp2_with fail
  refine wp_region_held_drew (S := fun w' => RowIn w w' w.heap.size 48 C) (by kernel_rfl) (HS0.out) (fun hHeld => ?_)
  generalize w1.drew = w9 at *
  refine wpAnyH_take (i := 0) (v := .pointer (some ⟨w.heap.size, 36, none⟩)) rfl (by kernel_rfl) (by kernel_rfl) (by kernel_rfl) (fun _ _ _ h => h) (Or.inl ⟨by rfl, fun w' hSw => by go_simp⟩) hHeld ?_
  try simp only [Act.put, List.getElem_toArray, List.getElem_cons_succ, List.getElem_cons_zero, List.setIfInBounds_toArray, List.set_cons_zero, List.set_cons_succ]
  refine' wpAnyH_take (i := 1) (v := _) rfl (by kernel_rfl) (by kernel_rfl) (by kernel_rfl) (fun _ _ _ h => h) (yieldsIf_load_mid (by rfl) _ _ rfl w.heap.size 36 rfl (bRow r.hash).toList _ (fun w' hSw => (BT.out _ _ _ hSw.1).2) hu23 rfl hi23) hHeld ?_
  try simp only [Act.put, List.getElem_toArray, List.getElem_cons_succ, List.getElem_cons_zero, List.setIfInBounds_toArray, List.set_cons_zero, List.set_cons_succ]
  refine' wpAnyH_take (i := 2) (v := _) rfl (by kernel_rfl) (by kernel_rfl) (by kernel_rfl) (fun _ _ _ h => h) (yieldsIf_load_mid (by rfl) _ _ rfl w.heap.size 0 rfl C _ (fun w' hSw => (row_range hSw.1)) hu rfl hi48) hHeld ?_
  try simp only [Act.put, List.getElem_toArray, List.getElem_cons_succ, List.getElem_cons_zero, List.setIfInBounds_toArray, List.set_cons_zero, List.set_cons_succ]
  refine wpAnyH_ready (rs := [3]) (by kernel_rfl) (by simp) (AllReadyH.cons rfl (fun K1 hK1 => ?_) AllReadyH.nil)
  try simp only [Act.put, List.getElem_toArray, List.getElem_cons_succ, List.getElem_cons_zero, List.setIfInBounds_toArray, List.set_cons_zero, List.set_cons_succ]
  go_simp
  refine Calls.mono (LK.out _ (HTab.out.below hHeld.2 Hp.out)) ?_
  rintro e wc1 ⟨rfl, hc2⟩
  refine hK1.out _ _ (hHeld.step hc2) (fun hHeld => ?_)
  clear hK1 K1
  try simp only [Act.put, List.getElem_toArray, List.getElem_cons_succ, List.getElem_cons_zero, List.setIfInBounds_toArray, List.set_cons_zero, List.set_cons_succ]
  refine wpAnyH_take (i := 4) (v := .bool true) rfl (by kernel_rfl) (by kernel_rfl) (by kernel_rfl) (fun _ _ _ h => h) (Or.inl ⟨by rfl, fun w' hSw => by go_simp⟩) hHeld ?_
  try simp only [Act.put, List.getElem_toArray, List.getElem_cons_succ, List.getElem_cons_zero, List.setIfInBounds_toArray, List.set_cons_zero, List.set_cons_succ]
  refine wpAnyH_done (by kernel_rfl) ?_ _
  have Hbe := Lib.hid hHeld.2
  clear hHeld hu hi48 heqs hu23 hi23
  go_wp2_with fail
  go_ret2
  exact ⟨rfl, Hbe.out⟩
set_option maxRecDepth 20000 in
set_option maxHeartbeats 1600000 in
theorem writeReceipt_eq (r : Rp) (w : World) (hT : Tab w) (hp : r.prev.length = 32) (hh : r.hash.length = 32) (h : r.ok = true) (hl : r.hash = r.link) :
    Calls Tryd.prog 37 #[.agg r.cells.toArray] w fun e w' => e = .returned (.tuple #[S (Oct.listE r.fields).1, .int .i64 (Oct.listE r.fields).2]) ∧ Below w.heap.size w w' := by
  obtain ⟨i0, hi, hz, hs, hby⟩ := str5
  have Hi := Lib.hid hi
  have Hz := Lib.hid hz
  have Hs := Lib.hid hs
  have Hby := Lib.hid hby
  have MB : Hid (∀ W, Calls Tryd.prog 77 #[.agg r.cells.toArray] W fun e w' => e = .returned (.bool true) ∧ Below W.heap.size W w') := fun W => by have := linked_any r W; rw [h] at this; exact this
  have LK := Lib.hid (fun W (hW : Tab W) => link_any r hp hh W hW h)
  have RT := Lib.hid (fun W => receiptTexts_any r W h)
  have HTab := Lib.hid hT
  have Hp := Lib.hid hT.pos
  have HL := Lib.hid (Rp.cells_len hp hh)
  have Hrow0 := Lib.hid (Row.new w 48 r.cells)
  have HP := Lib.hid hp
  have HH := Lib.hid hh
  have HB32 := Lib.hid (Tx.bRow_len _ hh)
  have BT : Hid (∀ (W : World) (g : Nat) (T : TypeId), Row W g T r.cells → W.rangeAt g 4 (bRow r.prev).toList ∧ W.rangeAt g 36 (bRow r.hash).toList) := fun W g T h => ⟨rp_prev hp h, rp_hash hp h⟩
  have heqs : ∀ W, (Op.equalIn 10000 23 (.agg (bRow r.hash)) (.agg (bRow r.link))).run Tryd.prog W = .ok true W := fun W => (hash_eq W _ _ hh (Rp.link_len r)).trans (by rw [decide_eq_true hl])
  have hff : r.texts.map S ++ [S r.prev, S r.hash] = r.fields.map S := by unfold Rp.fields; rw [List.map_append]; rfl
  have Hff := Lib.hid hff
  have Hfl : Hid (5 + 1 = r.fields.length) := (rfl : 5 + 1 = r.fields.length)
  generalize r.link = K at *
  generalize r.texts.map S = NS at *
  generalize r.fields = L at *
  generalize r.cells = C at *
  clear hi hz hs hby h hff hp hh hT hl
  have hu := Tryd.underlying48
  have hi48 : (Tryd.prog.info? 48).map (·.size) = some C.length := by rw [rp_info, HL.out]
  have hu23 := Tryd.underlying23
  have hi23 : (Tryd.prog.info? 23).map (·.size) = some (bRow r.hash).toList.length := by rw [hash_info, HB32.out]
  go_enter Tryd.func37, Tryd.ntmps37
  go_wp2_with (with_reducible show wpList _ _ _ (⟨_, .load 48 _, _, _, _, _⟩ :: _) _ _; refine wpList_load_tx rfl 48 (.tmp 1) rfl w.heap.size 0 rfl C _ (row_range Hrow0.out) Tryd.underlying48 rfl (by rw [rp_info, HL.out]) ?_)
  refine (MB.out _).mono ?_
  rintro _ w1 ⟨rfl, hb1⟩
  have HS0 := Lib.hid ((rowIn_call hb1).drew)
  clear hb1
  go_wp2_with fail
  refine wp_region_held_drew (S := fun w' => RowIn w w' w.heap.size 48 C) (by kernel_rfl) (HS0.out) (fun hHeld => ?_)
  generalize w1.drew = w9 at *
  refine wpAnyH_take (i := 0) (v := .pointer (some ⟨w.heap.size, 36, none⟩)) rfl (by kernel_rfl) (by kernel_rfl) (by kernel_rfl) (fun _ _ _ h => h) (Or.inl ⟨by rfl, fun w' hSw => by go_simp⟩) hHeld ?_
  try simp only [Act.put, List.getElem_toArray, List.getElem_cons_succ, List.getElem_cons_zero, List.setIfInBounds_toArray, List.set_cons_zero, List.set_cons_succ]
  refine' wpAnyH_take (i := 1) (v := _) rfl (by kernel_rfl) (by kernel_rfl) (by kernel_rfl) (fun _ _ _ h => h) (yieldsIf_load_mid (by rfl) _ _ rfl w.heap.size 36 rfl (bRow r.hash).toList _ (fun w' hSw => (BT.out _ _ _ hSw.1).2) hu23 rfl hi23) hHeld ?_
  try simp only [Act.put, List.getElem_toArray, List.getElem_cons_succ, List.getElem_cons_zero, List.setIfInBounds_toArray, List.set_cons_zero, List.set_cons_succ]
  refine' wpAnyH_take (i := 2) (v := _) rfl (by kernel_rfl) (by kernel_rfl) (by kernel_rfl) (fun _ _ _ h => h) (yieldsIf_load_mid (by rfl) _ _ rfl w.heap.size 0 rfl C _ (fun w' hSw => (row_range hSw.1)) hu rfl hi48) hHeld ?_
  try simp only [Act.put, List.getElem_toArray, List.getElem_cons_succ, List.getElem_cons_zero, List.setIfInBounds_toArray, List.set_cons_zero, List.set_cons_succ]
  refine wpAnyH_ready (rs := [3]) (by kernel_rfl) (by simp) (AllReadyH.cons rfl (fun K1 hK1 => ?_) AllReadyH.nil)
  try simp only [Act.put, List.getElem_toArray, List.getElem_cons_succ, List.getElem_cons_zero, List.setIfInBounds_toArray, List.set_cons_zero, List.set_cons_succ]
  go_simp
  refine Calls.mono (LK.out _ (HTab.out.below hHeld.2 Hp.out)) ?_
  rintro e wc1 ⟨rfl, hc2⟩
  refine hK1.out _ _ (hHeld.step hc2) (fun hHeld => ?_)
  clear hK1 K1
  try simp only [Act.put, List.getElem_toArray, List.getElem_cons_succ, List.getElem_cons_zero, List.setIfInBounds_toArray, List.set_cons_zero, List.set_cons_succ]
  refine wpAnyH_take (i := 4) (v := .bool false) rfl (by kernel_rfl) (by kernel_rfl) (by kernel_rfl) (fun _ _ _ h => h) (Or.inl ⟨by rfl, fun w' hSw => by go_simp⟩) hHeld ?_
  try simp only [Act.put, List.getElem_toArray, List.getElem_cons_succ, List.getElem_cons_zero, List.setIfInBounds_toArray, List.set_cons_zero, List.set_cons_succ]
  refine wpAnyH_done (by kernel_rfl) ?_ _
  have HS1 := Lib.hid hHeld.drew
  clear hHeld heqs hu23 hi23
  go_wp2_with fail
  refine wp_region_noPanic ?_
  refine wp_region_held_drew (S := fun w' => RowIn w w' w.heap.size 48 C) (by kernel_rfl) (HS1.out) (fun hHeld => ?_)
  generalize wc1.drew = wq at *
  refine' wpAnyH_take (i := 0) (v := _) rfl (by kernel_rfl) (by kernel_rfl) (by kernel_rfl) (fun _ _ _ h => h) (yieldsIf_load_mid (by rfl) _ _ rfl w.heap.size 0 rfl C _ (fun w' hSw => (row_range hSw.1)) hu rfl hi48) hHeld ?_
  try simp only [Act.put, List.getElem_toArray, List.getElem_cons_succ, List.getElem_cons_zero, List.setIfInBounds_toArray, List.set_cons_zero, List.set_cons_succ]
  refine wpAnyH_take (i := 2) (v := .pointer (some ⟨w.heap.size, 4, none⟩)) rfl (by kernel_rfl) (by kernel_rfl) (by kernel_rfl) (fun _ _ _ h => h) (Or.inl ⟨by rfl, fun w' hSw => by go_simp⟩) hHeld ?_
  try simp only [Act.put, List.getElem_toArray, List.getElem_cons_succ, List.getElem_cons_zero, List.setIfInBounds_toArray, List.set_cons_zero, List.set_cons_succ]
  refine wpAnyH_take (i := 3) (v := .slice (some ⟨w.heap.size, 4, none⟩) 32 32) rfl (by kernel_rfl) (by kernel_rfl) (by kernel_rfl) (fun _ _ _ h => h) (Or.inl ⟨by rfl, fun w' hSw => by go_simp⟩) hHeld ?_
  try simp only [Act.put, List.getElem_toArray, List.getElem_cons_succ, List.getElem_cons_zero, List.setIfInBounds_toArray, List.set_cons_zero, List.set_cons_succ]
  refine wpAnyH_take (i := 4) (v := S r.prev) rfl (by kernel_rfl) (by kernel_rfl) (by kernel_rfl) (fun _ _ _ h => h) (Or.inl ⟨by rfl, fun w' hSw => by have hq := hSw; have hc := hash_str4 w' w.heap.size 4 r.prev HP.out (BT.out w' _ _ hq.1).1; go_simp⟩) hHeld ?_
  try simp only [Act.put, List.getElem_toArray, List.getElem_cons_succ, List.getElem_cons_zero, List.setIfInBounds_toArray, List.set_cons_zero, List.set_cons_succ]
  refine wpAnyH_take (i := 5) (v := .pointer (some ⟨w.heap.size, 36, none⟩)) rfl (by kernel_rfl) (by kernel_rfl) (by kernel_rfl) (fun _ _ _ h => h) (Or.inl ⟨by rfl, fun w' hSw => by go_simp⟩) hHeld ?_
  try simp only [Act.put, List.getElem_toArray, List.getElem_cons_succ, List.getElem_cons_zero, List.setIfInBounds_toArray, List.set_cons_zero, List.set_cons_succ]
  refine wpAnyH_take (i := 6) (v := .slice (some ⟨w.heap.size, 36, none⟩) 32 32) rfl (by kernel_rfl) (by kernel_rfl) (by kernel_rfl) (fun _ _ _ h => h) (Or.inl ⟨by rfl, fun w' hSw => by go_simp⟩) hHeld ?_
  try simp only [Act.put, List.getElem_toArray, List.getElem_cons_succ, List.getElem_cons_zero, List.setIfInBounds_toArray, List.set_cons_zero, List.set_cons_succ]
  refine wpAnyH_take (i := 7) (v := S r.hash) rfl (by kernel_rfl) (by kernel_rfl) (by kernel_rfl) (fun _ _ _ h => h) (Or.inl ⟨by rfl, fun w' hSw => by have hq := hSw; have hc := hash_str4 w' w.heap.size 36 r.hash HH.out (BT.out w' _ _ hq.1).2; go_simp⟩) hHeld ?_
  try simp only [Act.put, List.getElem_toArray, List.getElem_cons_succ, List.getElem_cons_zero, List.setIfInBounds_toArray, List.set_cons_zero, List.set_cons_succ]
  refine wpAnyH_ready (rs := [1, 8]) (by kernel_rfl) (by simp) (AllReadyH.cons rfl (fun K1 hK1 => ?_) (AllReadyH.cons rfl (fun K1 hK1 => ?_) AllReadyH.nil))
  · skip
    try simp only [Act.put, List.getElem_toArray, List.getElem_cons_succ, List.getElem_cons_zero, List.setIfInBounds_toArray, List.set_cons_zero, List.set_cons_succ]
    go_simp
    refine Calls.mono (RT.out _) ?_
    rintro e wn1 ⟨vN, rfl, hown, hn2⟩
    have hown := hown.mono hHeld.size
    refine hK1.out _ _ (hHeld.step hn2) (fun hHeld => ?_)
    clear hK1 K1
    try simp only [Act.put, List.getElem_toArray, List.getElem_cons_succ, List.getElem_cons_zero, List.setIfInBounds_toArray, List.set_cons_zero, List.set_cons_succ]
    refine wpAnyH_ready (rs := [8]) (by kernel_rfl) (by simp) (AllReadyH.cons rfl (fun K1 hK1 => ?_) AllReadyH.nil)
    try simp only [Act.put, List.getElem_toArray, List.getElem_cons_succ, List.getElem_cons_zero, List.setIfInBounds_toArray, List.set_cons_zero, List.set_cons_succ]
    go_simp
    have hd4 := (Below.refl wn1.heap.size wn1).alloc (Nat.le_refl _) (.cells #[S r.prev, S r.hash] 9)
    have r2 : Row (wn1.alloc (.cells #[S r.prev, S r.hash] 9)) wn1.heap.size 9 ([S r.prev, S r.hash]) := Row.new wn1 9 ([S r.prev, S r.hash])
    have hown := own_below hown hd4
    have hHeld2 := hHeld.step hd4
    generalize wn1.alloc (.cells #[S r.prev, S r.hash] 9) = wb3 at *
    obtain ⟨gb5, gb5e⟩ : ∃ gb5, gb5 = wn1.heap.size := ⟨_, rfl⟩
    rw [← gb5e] at r2 ⊢
    refine hK1.out _ _ (hHeld2) (fun hHeld => ?_)
    clear hK1 K1
    try simp only [Act.put, List.getElem_toArray, List.getElem_cons_succ, List.getElem_cons_zero, List.setIfInBounds_toArray, List.set_cons_zero, List.set_cons_succ]
    clear hHeld2 gb5e
    refine wpAnyH_ready (rs := [9]) (by kernel_rfl) (by simp) (AllReadyH.cons rfl (fun K1 hK1 => ?_) AllReadyH.nil)
    try simp only [Act.put, List.getElem_toArray, List.getElem_cons_succ, List.getElem_cons_zero, List.setIfInBounds_toArray, List.set_cons_zero, List.set_cons_succ]
    rw [if_pos (by rfl)]
    refine wp_append_own_wide wb3 _ _ 73 rfl w.heap.size 9 i0 (.string ByteArray.empty) 1 16 Tryd.underlying73 Hi.out Hz.out Hs.out Hby.out rfl (by decide) vN 4 NS rfl hown ⟨gb5, 0, none⟩ 2 2 [S r.prev, S r.hash] rfl rfl (row_news r2) (by intro u hu; simp at hu; first | (subst hu; rfl) | (rcases hu with rfl | rfl <;> rfl)) (by unfold maxLen; omega) (by omega) hHeld.size fun vP wp6 hownP hgrow _ => ?_
    have hHeld2 := own_keeps hHeld (by decide) hown (Nat.le_refl _) hgrow
    clear hown r2 hgrow
    refine hK1.out _ _ (hHeld2) (fun hHeld => ?_)
    clear hK1 K1
    try simp only [Act.put, List.getElem_toArray, List.getElem_cons_succ, List.getElem_cons_zero, List.setIfInBounds_toArray, List.set_cons_zero, List.set_cons_succ]
    refine wpAnyH_ready (rs := [10]) (by kernel_rfl) (by simp) (AllReadyH.cons rfl (fun K1 hK1 => ?_) AllReadyH.nil)
    try simp only [Act.put, List.getElem_toArray, List.getElem_cons_succ, List.getElem_cons_zero, List.setIfInBounds_toArray, List.set_cons_zero, List.set_cons_succ]
    go_simp
    refine Calls.mono (list_owned L Hff.out hownP Hfl.out) ?_
    rintro e wl7 ⟨rfl, hl8⟩
    refine hK1.out _ _ (hHeld.step hl8) (fun hHeld => ?_)
    clear hK1 K1
    try simp only [Act.put, List.getElem_toArray, List.getElem_cons_succ, List.getElem_cons_zero, List.setIfInBounds_toArray, List.set_cons_zero, List.set_cons_succ]
    refine wpAnyH_take (i := 11) (v := S (Oct.listE L).1) rfl (by kernel_rfl) (by kernel_rfl) (by kernel_rfl) (fun _ _ _ h => h) (Or.inl ⟨by rfl, fun w' hSw => by go_simp⟩) hHeld ?_
    try simp only [Act.put, List.getElem_toArray, List.getElem_cons_succ, List.getElem_cons_zero, List.setIfInBounds_toArray, List.set_cons_zero, List.set_cons_succ]
    refine wpAnyH_take (i := 12) (v := .int .i64 (Oct.listE L).2) rfl (by kernel_rfl) (by kernel_rfl) (by kernel_rfl) (fun _ _ _ h => h) (Or.inl ⟨by rfl, fun w' hSw => by go_simp⟩) hHeld ?_
    try simp only [Act.put, List.getElem_toArray, List.getElem_cons_succ, List.getElem_cons_zero, List.setIfInBounds_toArray, List.set_cons_zero, List.set_cons_succ]
    refine wpAnyH_take (i := 13) (v := S (Oct.listE L).1) rfl (by kernel_rfl) (by kernel_rfl) (by kernel_rfl) (fun _ _ _ h => h) (Or.inl ⟨by rfl, fun w' hSw => by go_simp⟩) hHeld ?_
    try simp only [Act.put, List.getElem_toArray, List.getElem_cons_succ, List.getElem_cons_zero, List.setIfInBounds_toArray, List.set_cons_zero, List.set_cons_succ]
    refine wpAnyH_take (i := 14) (v := .int .i64 (Oct.listE L).2) rfl (by kernel_rfl) (by kernel_rfl) (by kernel_rfl) (fun _ _ _ h => h) (Or.inl ⟨by rfl, fun w' hSw => by go_simp⟩) hHeld ?_
    try simp only [Act.put, List.getElem_toArray, List.getElem_cons_succ, List.getElem_cons_zero, List.setIfInBounds_toArray, List.set_cons_zero, List.set_cons_succ]
    refine wpAnyH_done (by kernel_rfl) ?_ _
    refine NoPanic.normal ?_
    have Hbe := Lib.hid hHeld.2
    clear hHeld hu hi48
    go_wp2_with fail
    go_ret2
    exact ⟨rfl, Hbe.out⟩
  · skip
    try simp only [Act.put, List.getElem_toArray, List.getElem_cons_succ, List.getElem_cons_zero, List.setIfInBounds_toArray, List.set_cons_zero, List.set_cons_succ]
    go_simp
    have hd10 := (Below.refl wq.heap.size wq).alloc (Nat.le_refl _) (.cells #[S r.prev, S r.hash] 9)
    have r2 : Row (wq.alloc (.cells #[S r.prev, S r.hash] 9)) wq.heap.size 9 ([S r.prev, S r.hash]) := Row.new wq 9 ([S r.prev, S r.hash])
    have hHeld2 := hHeld.step hd10
    generalize wq.alloc (.cells #[S r.prev, S r.hash] 9) = wb9 at *
    obtain ⟨gb11, gb11e⟩ : ∃ gb11, gb11 = wq.heap.size := ⟨_, rfl⟩
    rw [← gb11e] at r2 ⊢
    refine hK1.out _ _ (hHeld2) (fun hHeld => ?_)
    clear hK1 K1
    try simp only [Act.put, List.getElem_toArray, List.getElem_cons_succ, List.getElem_cons_zero, List.setIfInBounds_toArray, List.set_cons_zero, List.set_cons_succ]
    clear hHeld2 gb11e
    refine wpAnyH_ready (rs := [1]) (by kernel_rfl) (by simp) (AllReadyH.cons rfl (fun K1 hK1 => ?_) AllReadyH.nil)
    try simp only [Act.put, List.getElem_toArray, List.getElem_cons_succ, List.getElem_cons_zero, List.setIfInBounds_toArray, List.set_cons_zero, List.set_cons_succ]
    go_simp
    refine Calls.mono (RT.out _) ?_
    rintro e wn12 ⟨vN, rfl, hown, hn13⟩
    have hown := hown.mono hHeld.size
    have r2 := r2.kept (grownBy_of_below hn13 none) (by simp)
    refine hK1.out _ _ (hHeld.step hn13) (fun hHeld => ?_)
    clear hK1 K1
    try simp only [Act.put, List.getElem_toArray, List.getElem_cons_succ, List.getElem_cons_zero, List.setIfInBounds_toArray, List.set_cons_zero, List.set_cons_succ]
    refine wpAnyH_ready (rs := [9]) (by kernel_rfl) (by simp) (AllReadyH.cons rfl (fun K1 hK1 => ?_) AllReadyH.nil)
    try simp only [Act.put, List.getElem_toArray, List.getElem_cons_succ, List.getElem_cons_zero, List.setIfInBounds_toArray, List.set_cons_zero, List.set_cons_succ]
    rw [if_pos (by rfl)]
    refine wp_append_own_wide wn12 _ _ 73 rfl w.heap.size 9 i0 (.string ByteArray.empty) 1 16 Tryd.underlying73 Hi.out Hz.out Hs.out Hby.out rfl (by decide) vN 4 NS rfl hown ⟨gb11, 0, none⟩ 2 2 [S r.prev, S r.hash] rfl rfl (row_news r2) (by intro u hu; simp at hu; first | (subst hu; rfl) | (rcases hu with rfl | rfl <;> rfl)) (by unfold maxLen; omega) (by omega) hHeld.size fun vP wp14 hownP hgrow _ => ?_
    have hHeld2 := own_keeps hHeld (by decide) hown (Nat.le_refl _) hgrow
    clear hown r2 hgrow
    refine hK1.out _ _ (hHeld2) (fun hHeld => ?_)
    clear hK1 K1
    try simp only [Act.put, List.getElem_toArray, List.getElem_cons_succ, List.getElem_cons_zero, List.setIfInBounds_toArray, List.set_cons_zero, List.set_cons_succ]
    refine wpAnyH_ready (rs := [10]) (by kernel_rfl) (by simp) (AllReadyH.cons rfl (fun K1 hK1 => ?_) AllReadyH.nil)
    try simp only [Act.put, List.getElem_toArray, List.getElem_cons_succ, List.getElem_cons_zero, List.setIfInBounds_toArray, List.set_cons_zero, List.set_cons_succ]
    go_simp
    refine Calls.mono (list_owned L Hff.out hownP Hfl.out) ?_
    rintro e wl15 ⟨rfl, hl16⟩
    refine hK1.out _ _ (hHeld.step hl16) (fun hHeld => ?_)
    clear hK1 K1
    try simp only [Act.put, List.getElem_toArray, List.getElem_cons_succ, List.getElem_cons_zero, List.setIfInBounds_toArray, List.set_cons_zero, List.set_cons_succ]
    refine wpAnyH_take (i := 11) (v := S (Oct.listE L).1) rfl (by kernel_rfl) (by kernel_rfl) (by kernel_rfl) (fun _ _ _ h => h) (Or.inl ⟨by rfl, fun w' hSw => by go_simp⟩) hHeld ?_
    try simp only [Act.put, List.getElem_toArray, List.getElem_cons_succ, List.getElem_cons_zero, List.setIfInBounds_toArray, List.set_cons_zero, List.set_cons_succ]
    refine wpAnyH_take (i := 12) (v := .int .i64 (Oct.listE L).2) rfl (by kernel_rfl) (by kernel_rfl) (by kernel_rfl) (fun _ _ _ h => h) (Or.inl ⟨by rfl, fun w' hSw => by go_simp⟩) hHeld ?_
    try simp only [Act.put, List.getElem_toArray, List.getElem_cons_succ, List.getElem_cons_zero, List.setIfInBounds_toArray, List.set_cons_zero, List.set_cons_succ]
    refine wpAnyH_take (i := 13) (v := S (Oct.listE L).1) rfl (by kernel_rfl) (by kernel_rfl) (by kernel_rfl) (fun _ _ _ h => h) (Or.inl ⟨by rfl, fun w' hSw => by go_simp⟩) hHeld ?_
    try simp only [Act.put, List.getElem_toArray, List.getElem_cons_succ, List.getElem_cons_zero, List.setIfInBounds_toArray, List.set_cons_zero, List.set_cons_succ]
    refine wpAnyH_take (i := 14) (v := .int .i64 (Oct.listE L).2) rfl (by kernel_rfl) (by kernel_rfl) (by kernel_rfl) (fun _ _ _ h => h) (Or.inl ⟨by rfl, fun w' hSw => by go_simp⟩) hHeld ?_
    try simp only [Act.put, List.getElem_toArray, List.getElem_cons_succ, List.getElem_cons_zero, List.setIfInBounds_toArray, List.set_cons_zero, List.set_cons_succ]
    refine wpAnyH_done (by kernel_rfl) ?_ _
    refine NoPanic.normal ?_
    have Hbe := Lib.hid hHeld.2
    clear hHeld hu hi48
    go_wp2_with fail
    go_ret2
    exact ⟨rfl, Hbe.out⟩
theorem writeReceipt_any (r : Rp) (hp : r.prev.length = 32) (hh : r.hash.length = 32) (w : World) (hT : Tab w) :
    Calls Tryd.prog 37 #[r.v] w fun e w' => e = .returned (two r.textE.1 r.textE.2) ∧ Below w.heap.size w w' := by
  unfold Rp.textE
  rcases Bool.eq_false_or_eq_true r.ok with h | h
  · rw [if_pos h]
    by_cases hl : r.hash = r.link
    · rw [if_pos hl]; exact writeReceipt_eq r w hT hp hh h hl
    · rw [if_neg hl]; exact writeReceipt_ne r w hT hp hh h hl
  · rw [if_neg (by rw [h]; simp)]; exact writeReceipt_no r w hp hh h
end Go.Proofs.YtdekcicgiflnbaaDoor
