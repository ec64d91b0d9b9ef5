/- AuctionBooks. -/
import Derived.Test.YtlapmdgkcidhnaaDoorBkSit
import Derived.Test.YtlapmdgkcidhnaaDoorBkNone
namespace Go.Proofs.YtlapmdgkcidhnaaDoor
open Go.RowKit Go.Maps
set_option linter.unusedVariables false
set_option linter.unusedSimpArgs false
set_option maxRecDepth 100000

def Act15.none : Act15 := ⟨0, 0, 0, Bd.zero⟩
theorem act15_zv (w : World) : (zeroValue 53).run Tryd.prog w = .ok (.agg Act15.none.cells.toArray) w := by kernel_rfl
theorem act15_info : (Tryd.prog.info? 53).map (·.size) = some 39 := by kernel_rfl
theorem Act15.none_len : Act15.none.cells.length = 39 := by kernel_rfl
theorem Act15.cells_one {x : Act15} (h : x.Fits) : ∀ v ∈ x.cells, v.oneCell' = true := by
  intro v hv
  have e : x.cells = [.int .i64 x.kind, .int .i64 x.now, .int .i64 x.n] ++ (x.bid.cells ++ []) := rfl
  rw [e, List.append_nil] at hv
  rcases List.mem_append.1 hv with hv | hv
  · simp at hv
    rcases hv with rfl | rfl | rfl <;> rfl
  · exact Bd.cells_one h.bid.tag v hv
theorem act15_box {W : World} {g : Nat} {x : Act15} (h : Row W g 53 x.cells) : W.cell? ⟨g, 0, none⟩ = some (.int .i64 x.kind) ∧ W.cell? ⟨g, 1, none⟩ = some (.int .i64 x.now) ∧ W.cell? ⟨g, 2, none⟩ = some (.int .i64 x.n) ∧
    W.cell? ⟨g, 3, none⟩ = some (.int .i64 x.bid.round) ∧ W.cell? ⟨g, 4, none⟩ = some (.int .i64 x.bid.who) ∧ W.rangeAt g 3 x.bid.cells := by
  have h1 := row_range h
  have k : ∀ j v, x.cells[j]? = some v → W.cell? ⟨g, j, none⟩ = some v := fun j v hv => by have := h1 j v hv; rwa [Nat.zero_add] at this
  refine ⟨k 0 _ rfl, k 1 _ rfl, k 2 _ rfl, k 3 _ rfl, k 4 _ rfl, fun j v hv => ?_⟩
  have := k (j + 3) v (by show ((x.bid.cells ++ []) : List Value)[j]? = some v; rw [List.append_nil]; exact hv)
  rwa [Nat.add_comm] at this
theorem auctionBooks_no (hRS : RefSum) (f : Int) (A : Option Addr) (n c : Nat) (w : World) (hT : Tab w) (hf : f < 0 ∨ 1099511627776 < f) :
    Calls Tryd.prog 7 #[.int .i64 f, .slice A n c] w fun e w' => e = .returned (.bool true) ∧ Below w.heap.size w w' := by
  have AW := Lib.hid (fun W (hW : Below w.heap.size w W) => awake15_any hRS W (hT.below hW hT.pos))
  have N1 := Lib.hid (bookNew_no f w hf)
  clear hT
  by_cases h : f < 0
  · have d : decide (f < 0) = true := by simpa using h
    clear h hf
    go_enter Tryd.func7, Tryd.ntmps7
    go_wp2_with fail
    refine N1.out.mono ?_
    rintro _ w1 ⟨rfl, rfl⟩
    go_wp2_with fail
    refine (AW.out _ (Below.refl _ _)).mono ?_
    rintro _ w3 ⟨rfl, hb3⟩
    have HB3 := Lib.hid hb3
    clear hb3
    go_wp2_with fail
    go_ret
    exact ⟨rfl, HB3.out⟩
  · have d : decide (f < 0) = false := by simpa using h
    have d2 : decide (1099511627776 < f) = true := by simp; omega
    clear h hf
    go_enter Tryd.func7, Tryd.ntmps7
    go_wp2_with fail
    refine N1.out.mono ?_
    rintro _ w1 ⟨rfl, rfl⟩
    go_wp2_with fail
    refine (AW.out _ (Below.refl _ _)).mono ?_
    rintro _ w3 ⟨rfl, hb3⟩
    have HB3 := Lib.hid hb3
    clear hb3
    go_wp2_with fail
    go_ret
    exact ⟨rfl, HB3.out⟩
set_option maxHeartbeats 12800000 in
theorem auctionBooks_any (hRS : RefSum) (f : Int) (l : List Act15) (A : Option Addr) (c : Nat) (w : World) (hin : Act15sAt w w.heap.size A l) (hT : Tab w) :
    Calls Tryd.prog 7 #[.int .i64 f, .slice A l.length c] w fun e w' => e = .returned (.bool true) ∧ Below w.heap.size w w' := by
  by_cases hd : f < 0 ∨ 1099511627776 < f
  · exact auctionBooks_no hRS f A l.length c w hT hd
  have d : decide (f < 0) = false := by simp only [decide_eq_false_iff_not]; omega
  have d2 : decide (1099511627776 < f) = false := by simp only [decide_eq_false_iff_not]; omega
  have hfl : Tx.fits f := ⟨by omega, by omega⟩
  have AW := Lib.hid (fun W (hW : Below w.heap.size w W) => awake15_any hRS W (hT.below hW hT.pos))
  have N1 := Lib.hid (bookNew_yes f w (by omega) (by omega))
  have HIn := Lib.hid hin
  have HT := Lib.hid hT
  have HRS := Lib.hid hRS
  have HFl := Lib.hid hfl
  have hzv := act15_zv
  have hzw := win_zv
  have HZ39 := Lib.hid Act15.none_len
  have HZ37 := Lib.hid (Au.wc_len (b := Bd.zero) (p := 0) rfl)
  obtain ⟨n, hn⟩ : ∃ n, n = l.length := ⟨_, rfl⟩
  rw [← hn]
  have HN := Lib.hid hn
  have hn1 : n ≤ 9223372036854775807 := by rw [hn]; exact hin.2.2.2
  generalize Act15.none.cells = ZA at *
  generalize Au.wc Bd.zero 0 = ZW at *
  clear hin hT hn hd hfl hRS
  go_enter Tryd.func7, Tryd.ntmps7
  go_wp2_with fail
  refine N1.out.mono ?_
  rintro _ w1 ⟨rfl, hk1, hb1⟩
  have HK1 := Lib.hid hk1
  have HB1 := Lib.hid hb1
  clear hk1 hb1 N1
  obtain ⟨B, hB⟩ : ∃ B, w.heap.size + 1 = B := ⟨_, rfl⟩
  rw [hB] at HK1 ⊢
  clear hB
  go_wp2_with fail
  refine (AW.out _ HB1.out).mono ?_
  rintro _ w2 ⟨rfl, hb2⟩
  have HB2 := Lib.hid hb2
  clear hb2 AW
  have hX := Row.new w2 47 [.int .i64 f, .slice none 0 0]
  have HX := Lib.hid hX
  have HbX := Lib.hid ((Below.refl w2.heap.size w2).alloc (Nat.le_refl _) (.cells #[.int .i64 f, .slice none 0 0] 47))
  clear hX
  go_wp2_with fail
  refine (Bn.bankNew_any _).mono ?_
  rintro _ w3 ⟨rfl, hk3, hg3⟩
  have hb3 : Below (w2.alloc (.cells #[.int .i64 f, .slice none 0 0] 47)).heap.size (w2.alloc (.cells #[.int .i64 f, .slice none 0 0] 47)) w3 := ⟨hg3.os, hg3.tape, hg3.output, hg3.size, fun k hk => hg3.block k hk (by simp)⟩
  have HX3 := Lib.hid (HX.out.below hb3)
  have HK3 := Lib.hid hk3
  have HS3 := Lib.hid (two_below' HB2.out (two_below' HbX.out hb3))
  have HSk := Lib.hid HbX.out.size
  clear hk3 hg3 hb3 HbX HX
  generalize (w2.alloc (.cells #[.int .i64 f, .slice none 0 0] 47)).heap.size = K at *
  go_wp2_with fail
  refine (Bn.refNew_any _).mono ?_
  rintro _ w4 ⟨rfl, hr4, hg4⟩
  have hb4 : Below w3.heap.size w3 w4 := ⟨hg4.os, hg4.tape, hg4.output, hg4.size, fun k hk => hg4.block k hk (by simp)⟩
  have HT3 := Lib.hid (Sit.begin HK1.out HB1.out HX3.out HS3.out HK3.out hr4 hb4 (Nat.le_trans HB1.out.size HB2.out.size) (Nat.le_trans HB1.out.size (Nat.le_trans HB2.out.size HSk.out)) (Nat.le_trans HB1.out.size HS3.out.size))
  clear hr4 hg4 hb4 HX3 HS3 HK3 HSk HK1 HB1 HB2
  generalize w2.heap.size = X at *
  obtain ⟨Y, hY⟩ : ∃ Y, w3.heap.size + 1 = Y := ⟨_, rfl⟩
  rw [hY] at HT3 ⊢
  clear hY
  generalize w3.heap.size = G at *
  go_wp2_with fail
  go_loopw [10] (fun i wr => ∃ (k : Nat) (L : List Bd) (LK : List Int) (m : Nat), k ≤ n ∧ i = .int .i64 k ∧ m ≤ k ∧ Sit w wr B w.heap.size X Y G K f L m L m LK LK) (fun i _ => n - (intOf i).toNat)
  case atStart => exact ⟨0, _, _, 0, Nat.zero_le _, rfl, Nat.le_refl _, HT3.out⟩
  case round =>
    obtain ⟨k, L, LK, m, hk, rfl, hmk, ht⟩ := hrel
    have HTT := Lib.hid ht
    clear ht HT3
    by_cases hkn : k < n ∧ k < 120
    · have hki : (k : Int) < (n : Int) := by omega
      have hk5 : (k : Int) < 120 := by omega
      have hk0 : (0 : Int) ≤ (k : Int) := by omega
      have hka : k < l.length := by rw [← HN.out]; exact hkn.1
      obtain ⟨ga, off, rfl, hga, hcl⟩ := HIn.out.1 (by intro e; rw [e] at hka; simp at hka)
      have hxr := hcl k hka
      have hxi := HIn.out.2.2.1 _ (List.getElem_mem hka)
      generalize l[k] = x at hxr hxi
      have HXr : Hid (∀ W, Below w.heap.size w W → W.rangeAt ga (off + k * 39) x.cells) := Lib.hid (fun W hW j v hv => (hW.cell (p := ⟨ga, off + k * 39 + j, none⟩) hga).trans (hxr j v hv))
      have hm1 : m ≤ 1000 := by omega
      have HFr : Hid (Tx.fits x.bid.round) := Lib.hid hxi.bid.round
      have HB36 := Lib.hid (Bd.cells_len hxi.bid.tag)
      have HB1 : Hid (∀ W, Sit w W B w.heap.size X Y G K f L m L m LK LK → Calls Tryd.prog 21 #[.pointer (some ⟨B, 0, none⟩), .agg x.bid.cells.toArray, .int .i64 x.now] W fun e w' => e = .returned (.int .i64 (Au.bidE f L x.bid x.now)) ∧ Sit w w' B w.heap.size X Y G K f (Au.bidL f L x.bid x.now) (m + 1) L m LK LK ∧ Keep15 W w') := Lib.hid (fun W h => Sit.bid HT.out x.bid hxi.bid x.now h hm1)
      have HB2 : Hid (∀ W, Sit w W B w.heap.size X Y G K f (Au.bidL f L x.bid x.now) (m + 1) L m LK LK → Calls Tryd.prog 22 #[.pointer (some ⟨X, 0, none⟩), .agg x.bid.cells.toArray, .int .i64 x.now] W fun e w' => e = .returned (.int .i64 (Au.bidE f L x.bid x.now)) ∧ Sit w w' B w.heap.size X Y G K f (Au.bidL f L x.bid x.now) (m + 1) (Au.bidL f L x.bid x.now) (m + 1) LK LK ∧ Keep15 W w') := Lib.hid (fun W h => Sit.rbid HRS.out x.bid hxi.bid x.now h hm1)
      have HP1 : Hid (∀ W, Sit w W B w.heap.size X Y G K f L m L m LK LK → Calls Tryd.prog 23 #[.pointer (some ⟨K, 0, none⟩), .int .i64 x.bid.who, .int .i64 x.n] W fun e w' => (∃ u, e = .returned (.int .i64 u)) ∧ Sit w w' B w.heap.size X Y G K f L m L m (Bn.Bank.put LK x.bid.who x.n).2 LK ∧ Keep15 W w') := Lib.hid (fun W h => Sit.kput x.bid.who x.n h)
      have HP2 : Hid (∀ W, Sit w W B w.heap.size X Y G K f L m L m (Bn.Bank.put LK x.bid.who x.n).2 LK → Calls Tryd.prog 24 #[.pointer (some ⟨Y, 0, none⟩), .int .i64 x.bid.who, .int .i64 x.n] W fun e w' => (∃ u, e = .returned (.int .i64 u)) ∧ Sit w w' B w.heap.size X Y G K f L m L m (Bn.Bank.put LK x.bid.who x.n).2 (Bn.Bank.put LK x.bid.who x.n).2 ∧ Keep15 W w') := Lib.hid (fun W h => Sit.rput x.bid.who x.n h)
      obtain ⟨R, hR⟩ : ∃ R, Au.winB LK x.bid.round f (Au.ofR x.bid.round L) = R := ⟨_, rfl⟩
      have HC1 : Hid (∀ W, Sit w W B w.heap.size X Y G K f L m L m LK LK → Calls Tryd.prog 25 #[.pointer (some ⟨B, 0, none⟩), .int .i64 x.bid.round, .pointer (some ⟨K, 0, none⟩)] W fun e w' => e = .returned (Au.winV R) ∧ Sit w w' B w.heap.size X Y G K f (Au.dropR x.bid.round L) (m + 1) L m (Au.takeR LK R) LK ∧ Keep15 W w') := Lib.hid (fun W h => by rw [← hR]; exact Sit.close HT.out x.bid.round HFr.out HFl.out h)
      have HC2 : Hid (∀ W, Sit w W B w.heap.size X Y G K f (Au.dropR x.bid.round L) (m + 1) L m (Au.takeR LK R) LK → Calls Tryd.prog 26 #[.pointer (some ⟨X, 0, none⟩), .int .i64 x.bid.round, .pointer (some ⟨Y, 0, none⟩)] W fun e w' => e = .returned (Au.winV R) ∧ Sit w w' B w.heap.size X Y G K f (Au.dropR x.bid.round L) (m + 1) (Au.dropR x.bid.round L) (m + 1) (Au.takeR LK R) (Au.takeR LK R) ∧ Keep15 W w') := Lib.hid (fun W h => by rw [← hR]; rw [← hR] at h; exact Sit.rclose HRS.out x.bid.round HFl.out h hm1)
      have hFR : Au.FitsR R := by
        rw [← hR]
        exact Au.winB_fits (fun b hb => HTT.out.fits b (Au.ofR_round hb).2) HFl.out
      have HR37 := Lib.hid (Au.winC_len hFR)
      have HR1 := Lib.hid (Au.winC_one hFR)
      have HWS := Lib.hid (fun W => win_same W R hFR)
      obtain ⟨CR, hCR⟩ : ∃ CR, CR = Au.winC R := ⟨_, rfl⟩
      obtain ⟨rb, hrb⟩ : ∃ rb, rb = R.isSome := ⟨_, rfl⟩
      have hwv : Au.winV R = .tuple #[.agg CR.toArray, .bool rb] := by rw [hCR, hrb]; rfl
      rw [hwv] at HC1 HC2
      rw [← hCR] at HR37 HR1 HWS
      have HCa : Hid (∀ (W : World) (g : Nat), Row W g 53 x.cells → W.cell? ⟨g, 0, none⟩ = some (.int .i64 x.kind) ∧ W.cell? ⟨g, 1, none⟩ = some (.int .i64 x.now) ∧ W.cell? ⟨g, 2, none⟩ = some (.int .i64 x.n) ∧
        W.cell? ⟨g, 3, none⟩ = some (.int .i64 x.bid.round) ∧ W.cell? ⟨g, 4, none⟩ = some (.int .i64 x.bid.who) ∧ W.rangeAt g 3 x.bid.cells) := Lib.hid (fun W g h => act15_box h)
      have HA39 := Lib.hid (Act15.cells_len hxi)
      have HA1 := Lib.hid (Act15.cells_one hxi)
      obtain ⟨L1, hL1⟩ : ∃ L1, Au.bidL f L x.bid x.now = L1 := ⟨_, rfl⟩
      obtain ⟨E0, hE0⟩ : ∃ E0, Au.bidE f L x.bid x.now = E0 := ⟨_, rfl⟩
      rw [hL1] at HB1 HB2
      rw [hE0] at HB1 HB2
      obtain ⟨PK, hPK⟩ : ∃ PK, (Bn.Bank.put LK x.bid.who x.n).2 = PK := ⟨_, rfl⟩
      rw [hPK] at HP1 HP2
      obtain ⟨D9, hD9⟩ : ∃ D9, Au.dropR x.bid.round L = D9 := ⟨_, rfl⟩
      obtain ⟨TK, hTK⟩ : ∃ TK, Au.takeR LK R = TK := ⟨_, rfl⟩
      rw [hD9, hTK] at HC1 HC2
      clear hcl hga hxr hxi hFR hCR hrb hwv hL1 hE0 hPK hD9 hTK hR
      generalize x.cells = C at *
      generalize x.bid.cells = BC at *
      generalize x.now = now at *
      generalize x.n = nn at *
      generalize x.bid.round = ro at *
      generalize x.bid.who = wh at *
      generalize x.kind = kd at *
      by_cases k0 : kd = 0
      · subst k0
        clear HP1 HP2 HC1 HC2 HWS HR37 HR1 hzw
        go_wp2_with (first
          | ((with_reducible show wpList _ _ _ (⟨_, .load 53 (.tmp 60), _, _, _, _⟩ :: _) _ _); refine wpList_load_tx rfl 53 (.tmp 60) rfl ga (off + k * 39) rfl C _ (HXr.out _ HTT.out.low) Tryd.underlying53 rfl (by rw [act15_info, HA39.out]) ?_)
          | ((with_reducible show wpList _ _ _ (⟨_, .store 53 _ _, _, _, _, _⟩ :: _) _ _)
             refine wpList_store_at rfl 53 (.tmp 11) (.tmp 61) rfl wr.heap.size 0 C ZA _ rfl rfl (Row.new wr 53 ZA) (by have := HZ39.out; have := HA39.out; omega) (by rw [act15_info, HA39.out]) HA1.out ?_
             intro w4 hr hg
             rw [splice_all (HA39.out.trans HZ39.out.symm)] at hr
             have hb4 := below_of_alloc_store hg
             have HR4 := Lib.hid hr
             have HT4 := Lib.hid (HTT.out.below hb4)
             generalize wr.heap.size = g11 at *
             have ck := (HCa.out _ _ HR4.out).1
             skip
             clear hr hg hb4))
        clear hk5 hzv
        clear ck
        have hT := HT4.out.below (Below.refl _ _).drew
        refine wp_region_noPanic ?_
        refine wp_region_held_drew (S := fun w' => Row w' g11 53 C) (by kernel_rfl) (HR4.out) (fun hHeld => ?_)
        generalize w4.drew = wq at *
        refine wpAnyH_take (i := 0) (v := .pointer (some ⟨B, 0, none⟩)) rfl (by kernel_rfl) (by kernel_rfl) (by kernel_rfl) (fun _ _ _ h => h) (Or.inl ⟨by rfl, fun w' hSw => by go_simp⟩) hHeld ?_
        try simp only [Act.put, List.getElem_toArray, List.getElem_cons_succ, List.getElem_cons_zero, List.setIfInBounds_toArray, List.set_cons_zero, List.set_cons_succ]
        refine wpAnyH_take (i := 1) (v := .pointer (some ⟨g11, 3, none⟩)) rfl (by kernel_rfl) (by kernel_rfl) (by kernel_rfl) (fun _ _ _ h => h) (Or.inl ⟨by rfl, fun w' hSw => by go_simp⟩) hHeld ?_
        try simp only [Act.put, List.getElem_toArray, List.getElem_cons_succ, List.getElem_cons_zero, List.setIfInBounds_toArray, List.set_cons_zero, List.set_cons_succ]
        refine' wpAnyH_take (i := 2) (v := _) rfl (by kernel_rfl) (by kernel_rfl) (by kernel_rfl) (fun _ _ _ h => h) (yieldsIf_load_mid (by rfl) _ _ rfl g11 3 rfl BC _ (fun w' hSw => (HCa.out _ _ hSw).2.2.2.2.2) Tryd.underlying30 rfl (by rw [bid_info, HB36.out])) hHeld ?_
        try simp only [Act.put, List.getElem_toArray, List.getElem_cons_succ, List.getElem_cons_zero, List.setIfInBounds_toArray, List.set_cons_zero, List.set_cons_succ]
        refine wpAnyH_take (i := 3) (v := .pointer (some ⟨g11, 1, none⟩)) rfl (by kernel_rfl) (by kernel_rfl) (by kernel_rfl) (fun _ _ _ h => h) (Or.inl ⟨by rfl, fun w' hSw => by go_simp⟩) hHeld ?_
        try simp only [Act.put, List.getElem_toArray, List.getElem_cons_succ, List.getElem_cons_zero, List.setIfInBounds_toArray, List.set_cons_zero, List.set_cons_succ]
        refine wpAnyH_take (i := 4) (v := .int .i64 now) rfl (by kernel_rfl) (by kernel_rfl) (by kernel_rfl) (fun _ _ _ h => h) (Or.inl ⟨by rfl, fun w' hSw => by have hq := hSw; have hd := (HCa.out _ _ hq).2.1; go_simp⟩) hHeld ?_
        try simp only [Act.put, List.getElem_toArray, List.getElem_cons_succ, List.getElem_cons_zero, List.setIfInBounds_toArray, List.set_cons_zero, List.set_cons_succ]
        refine wpAnyH_take (i := 6) (v := .pointer (some ⟨X, 0, none⟩)) rfl (by kernel_rfl) (by kernel_rfl) (by kernel_rfl) (fun _ _ _ h => h) (Or.inl ⟨by rfl, fun w' hSw => by go_simp⟩) hHeld ?_
        try simp only [Act.put, List.getElem_toArray, List.getElem_cons_succ, List.getElem_cons_zero, List.setIfInBounds_toArray, List.set_cons_zero, List.set_cons_succ]
        refine wpAnyH_take (i := 7) (v := .pointer (some ⟨g11, 3, none⟩)) rfl (by kernel_rfl) (by kernel_rfl) (by kernel_rfl) (fun _ _ _ h => h) (Or.inl ⟨by rfl, fun w' hSw => by go_simp⟩) hHeld ?_
        try simp only [Act.put, List.getElem_toArray, List.getElem_cons_succ, List.getElem_cons_zero, List.setIfInBounds_toArray, List.set_cons_zero, List.set_cons_succ]
        refine' wpAnyH_take (i := 8) (v := _) rfl (by kernel_rfl) (by kernel_rfl) (by kernel_rfl) (fun _ _ _ h => h) (yieldsIf_load_mid (by rfl) _ _ rfl g11 3 rfl BC _ (fun w' hSw => (HCa.out _ _ hSw).2.2.2.2.2) Tryd.underlying30 rfl (by rw [bid_info, HB36.out])) hHeld ?_
        try simp only [Act.put, List.getElem_toArray, List.getElem_cons_succ, List.getElem_cons_zero, List.setIfInBounds_toArray, List.set_cons_zero, List.set_cons_succ]
        refine wpAnyH_take (i := 9) (v := .pointer (some ⟨g11, 1, none⟩)) rfl (by kernel_rfl) (by kernel_rfl) (by kernel_rfl) (fun _ _ _ h => h) (Or.inl ⟨by rfl, fun w' hSw => by go_simp⟩) hHeld ?_
        try simp only [Act.put, List.getElem_toArray, List.getElem_cons_succ, List.getElem_cons_zero, List.setIfInBounds_toArray, List.set_cons_zero, List.set_cons_succ]
        refine wpAnyH_take (i := 10) (v := .int .i64 now) rfl (by kernel_rfl) (by kernel_rfl) (by kernel_rfl) (fun _ _ _ h => h) (Or.inl ⟨by rfl, fun w' hSw => by have hq := hSw; have hd := (HCa.out _ _ hq).2.1; go_simp⟩) hHeld ?_
        try simp only [Act.put, List.getElem_toArray, List.getElem_cons_succ, List.getElem_cons_zero, List.setIfInBounds_toArray, List.set_cons_zero, List.set_cons_succ]
        refine wpAnyH_ready (rs := [5]) (by kernel_rfl) (by simp) (AllReadyH.cons rfl (fun K1 hK1 => ?_) AllReadyH.nil)
        try simp only [Act.put, List.getElem_toArray, List.getElem_cons_succ, List.getElem_cons_zero, List.setIfInBounds_toArray, List.set_cons_zero, List.set_cons_succ]
        go_simp
        refine Calls.mono (HB1.out _ hT) ?_
        clear hT
        rintro e wc1 ⟨rfl, hT, hk2⟩
        refine hK1.out _ _ (hk2 _ _ _ (by decide) (by decide) (by decide) (by decide) (by decide) hHeld) (fun hHeld => ?_)
        clear hK1 K1
        try simp only [Act.put, List.getElem_toArray, List.getElem_cons_succ, List.getElem_cons_zero, List.setIfInBounds_toArray, List.set_cons_zero, List.set_cons_succ]
        refine wpAnyH_ready (rs := [11]) (by kernel_rfl) (by simp) (AllReadyH.cons rfl (fun K1 hK1 => ?_) AllReadyH.nil)
        try simp only [Act.put, List.getElem_toArray, List.getElem_cons_succ, List.getElem_cons_zero, List.setIfInBounds_toArray, List.set_cons_zero, List.set_cons_succ]
        go_simp
        refine Calls.mono (HB2.out _ hT) ?_
        clear hT
        rintro e wc3 ⟨rfl, hT, hk4⟩
        refine hK1.out _ _ (hk4 _ _ _ (by decide) (by decide) (by decide) (by decide) (by decide) hHeld) (fun hHeld => ?_)
        clear hK1 K1
        try simp only [Act.put, List.getElem_toArray, List.getElem_cons_succ, List.getElem_cons_zero, List.setIfInBounds_toArray, List.set_cons_zero, List.set_cons_succ]
        refine wpAnyH_take (i := 12) (v := .bool false) rfl (by kernel_rfl) (by kernel_rfl) (by kernel_rfl) (fun _ _ _ h => h) (Or.inl ⟨by rfl, fun w' hSw => by go_simp⟩) hHeld ?_
        try simp only [Act.put, List.getElem_toArray, List.getElem_cons_succ, List.getElem_cons_zero, List.setIfInBounds_toArray, List.set_cons_zero, List.set_cons_succ]
        refine wpAnyH_done (by kernel_rfl) ?_ _
        refine NoPanic.normal ?_
        have HT5 := Lib.hid hT
        have HR5 := Lib.hid hHeld
        clear hT hHeld
        go_wp2_with fail
        obtain ⟨q, hq9⟩ : ∃ q, (Au.ofR ro L1).length = q := ⟨_, rfl⟩
        have HG1 : Hid (∀ W, Sit w W B w.heap.size X Y G K f L1 (m + 1) L1 (m + 1) LK LK → Calls Tryd.prog 28 #[.pointer (some ⟨B, 0, none⟩), .int .i64 ro] W fun e w' => (∃ A c, e = .returned (.slice A q c) ∧ SlB w' w'.heap.size A c (Au.ofR ro L1)) ∧ Below W.heap.size W w') := Lib.hid (fun W h => by rw [← hq9]; exact Sit.bids ro HFr.out h)
        have HG2 : Hid (∀ W, Sit w W B w.heap.size X Y G K f L1 (m + 1) L1 (m + 1) LK LK → Calls Tryd.prog 29 #[.pointer (some ⟨X, 0, none⟩), .int .i64 ro] W fun e w' => (∃ A c, e = .returned (.slice A q c) ∧ SlB w' w'.heap.size A c (Au.ofR ro L1)) ∧ Below W.heap.size W w') := Lib.hid (fun W h => by rw [← hq9]; exact Sit.rbids ro h (by omega))
        have HSm : Hid (∀ W A1 d1 A2 d2, SlB W W.heap.size A1 d1 (Au.ofR ro L1) → SlB W W.heap.size A2 d2 (Au.ofR ro L1) → Calls Tryd.prog 27 #[.slice A1 q d1, .slice A2 q d2] W fun e w' => e = .returned (.bool true) ∧ Below W.heap.size W w') := Lib.hid (fun W A1 d1 A2 d2 h1 h2 => by rw [← hq9]; exact same15_any true A1 A2 d1 d2 _ _ W h1 h2 (by simp))
        clear hq9
        refine wp_region_noPanic ?_
        refine wp_region_held_drew (S := fun w' => Row w' g11 53 C ∧ Sit w w' B w.heap.size X Y G K f L1 (m + 1) L1 (m + 1) LK LK) (by kernel_rfl) (⟨HR5.out, HT5.out.below (Below.refl _ _).drew⟩) (fun hHeld => ?_)
        generalize wc3.drew = wq2 at *
        refine wpAnyH_take (i := 0) (v := .pointer (some ⟨B, 0, none⟩)) rfl (by kernel_rfl) (by kernel_rfl) (by kernel_rfl) (fun _ _ _ h => h) (Or.inl ⟨by rfl, fun w' hSw => by go_simp⟩) hHeld ?_
        try simp only [Act.put, List.getElem_toArray, List.getElem_cons_succ, List.getElem_cons_zero, List.setIfInBounds_toArray, List.set_cons_zero, List.set_cons_succ]
        refine wpAnyH_take (i := 1) (v := .pointer (some ⟨g11, 3, none⟩)) rfl (by kernel_rfl) (by kernel_rfl) (by kernel_rfl) (fun _ _ _ h => h) (Or.inl ⟨by rfl, fun w' hSw => by go_simp⟩) hHeld ?_
        try simp only [Act.put, List.getElem_toArray, List.getElem_cons_succ, List.getElem_cons_zero, List.setIfInBounds_toArray, List.set_cons_zero, List.set_cons_succ]
        refine wpAnyH_take (i := 2) (v := .pointer (some ⟨g11, 3, none⟩)) rfl (by kernel_rfl) (by kernel_rfl) (by kernel_rfl) (fun _ _ _ h => h) (Or.inl ⟨by rfl, fun w' hSw => by go_simp⟩) hHeld ?_
        try simp only [Act.put, List.getElem_toArray, List.getElem_cons_succ, List.getElem_cons_zero, List.setIfInBounds_toArray, List.set_cons_zero, List.set_cons_succ]
        refine wpAnyH_take (i := 3) (v := .int .i64 ro) rfl (by kernel_rfl) (by kernel_rfl) (by kernel_rfl) (fun _ _ _ h => h) (Or.inl ⟨by rfl, fun w' hSw => by have hq := hSw; have hd := (HCa.out _ _ hq.1).2.2.2.1; go_simp⟩) hHeld ?_
        try simp only [Act.put, List.getElem_toArray, List.getElem_cons_succ, List.getElem_cons_zero, List.setIfInBounds_toArray, List.set_cons_zero, List.set_cons_succ]
        refine wpAnyH_take (i := 5) (v := .pointer (some ⟨X, 0, none⟩)) rfl (by kernel_rfl) (by kernel_rfl) (by kernel_rfl) (fun _ _ _ h => h) (Or.inl ⟨by rfl, fun w' hSw => by go_simp⟩) hHeld ?_
        try simp only [Act.put, List.getElem_toArray, List.getElem_cons_succ, List.getElem_cons_zero, List.setIfInBounds_toArray, List.set_cons_zero, List.set_cons_succ]
        refine wpAnyH_take (i := 6) (v := .pointer (some ⟨g11, 3, none⟩)) rfl (by kernel_rfl) (by kernel_rfl) (by kernel_rfl) (fun _ _ _ h => h) (Or.inl ⟨by rfl, fun w' hSw => by go_simp⟩) hHeld ?_
        try simp only [Act.put, List.getElem_toArray, List.getElem_cons_succ, List.getElem_cons_zero, List.setIfInBounds_toArray, List.set_cons_zero, List.set_cons_succ]
        refine wpAnyH_take (i := 7) (v := .pointer (some ⟨g11, 3, none⟩)) rfl (by kernel_rfl) (by kernel_rfl) (by kernel_rfl) (fun _ _ _ h => h) (Or.inl ⟨by rfl, fun w' hSw => by go_simp⟩) hHeld ?_
        try simp only [Act.put, List.getElem_toArray, List.getElem_cons_succ, List.getElem_cons_zero, List.setIfInBounds_toArray, List.set_cons_zero, List.set_cons_succ]
        refine wpAnyH_take (i := 8) (v := .int .i64 ro) rfl (by kernel_rfl) (by kernel_rfl) (by kernel_rfl) (fun _ _ _ h => h) (Or.inl ⟨by rfl, fun w' hSw => by have hq := hSw; have hd := (HCa.out _ _ hq.1).2.2.2.1; go_simp⟩) hHeld ?_
        try simp only [Act.put, List.getElem_toArray, List.getElem_cons_succ, List.getElem_cons_zero, List.setIfInBounds_toArray, List.set_cons_zero, List.set_cons_succ]
        refine wpAnyH_ready (rs := [4]) (by kernel_rfl) (by simp) (AllReadyH.cons rfl (fun K1 hK1 => ?_) AllReadyH.nil)
        try simp only [Act.put, List.getElem_toArray, List.getElem_cons_succ, List.getElem_cons_zero, List.setIfInBounds_toArray, List.set_cons_zero, List.set_cons_succ]
        go_simp
        refine Calls.mono (HG1.out _ hHeld.2) ?_
        rintro e wa1 ⟨⟨A1, d1, rfl, hs1⟩, hc2⟩
        have SL1 := Lib.hid hs1
        clear hs1
        refine hK1.out _ _ (⟨hHeld.1.below hc2, hHeld.2.below hc2⟩) (fun hHeld => ?_)
        clear hK1 K1
        try simp only [Act.put, List.getElem_toArray, List.getElem_cons_succ, List.getElem_cons_zero, List.setIfInBounds_toArray, List.set_cons_zero, List.set_cons_succ]
        refine wpAnyH_ready (rs := [9]) (by kernel_rfl) (by simp) (AllReadyH.cons rfl (fun K1 hK1 => ?_) AllReadyH.nil)
        try simp only [Act.put, List.getElem_toArray, List.getElem_cons_succ, List.getElem_cons_zero, List.setIfInBounds_toArray, List.set_cons_zero, List.set_cons_succ]
        go_simp
        refine Calls.mono (HG2.out _ hHeld.2) ?_
        rintro e wa3 ⟨⟨A2, d2, rfl, hs2⟩, hc4⟩
        replace SL1 := Lib.hid ((SL1.out.below hc4).mono hc4.size)
        have SL2 := Lib.hid hs2
        clear hs2
        refine hK1.out _ _ (⟨hHeld.1.below hc4, hHeld.2.below hc4⟩) (fun hHeld => ?_)
        clear hK1 K1
        try simp only [Act.put, List.getElem_toArray, List.getElem_cons_succ, List.getElem_cons_zero, List.setIfInBounds_toArray, List.set_cons_zero, List.set_cons_succ]
        refine wpAnyH_ready (rs := [10]) (by kernel_rfl) (by simp) (AllReadyH.cons rfl (fun K1 hK1 => ?_) AllReadyH.nil)
        try simp only [Act.put, List.getElem_toArray, List.getElem_cons_succ, List.getElem_cons_zero, List.setIfInBounds_toArray, List.set_cons_zero, List.set_cons_succ]
        go_simp
        refine Calls.mono (HSm.out _ _ _ _ _ SL1.out SL2.out) ?_
        rintro e wa5 ⟨rfl, hc6⟩
        refine hK1.out _ _ (⟨hHeld.1.below hc6, hHeld.2.below hc6⟩) (fun hHeld => ?_)
        clear hK1 K1
        try simp only [Act.put, List.getElem_toArray, List.getElem_cons_succ, List.getElem_cons_zero, List.setIfInBounds_toArray, List.set_cons_zero, List.set_cons_succ]
        refine wpAnyH_take (i := 11) (v := .bool false) rfl (by kernel_rfl) (by kernel_rfl) (by kernel_rfl) (fun _ _ _ h => h) (Or.inl ⟨by rfl, fun w' hSw => by go_simp⟩) hHeld ?_
        try simp only [Act.put, List.getElem_toArray, List.getElem_cons_succ, List.getElem_cons_zero, List.setIfInBounds_toArray, List.set_cons_zero, List.set_cons_succ]
        refine wpAnyH_take (i := 12) (v := .bool false) rfl (by kernel_rfl) (by kernel_rfl) (by kernel_rfl) (fun _ _ _ h => h) (Or.inl ⟨by rfl, fun w' hSw => by go_simp⟩) hHeld ?_
        try simp only [Act.put, List.getElem_toArray, List.getElem_cons_succ, List.getElem_cons_zero, List.setIfInBounds_toArray, List.set_cons_zero, List.set_cons_succ]
        refine wpAnyH_take (i := 13) (v := .pointer (some ⟨K, 0, none⟩)) rfl (by kernel_rfl) (by kernel_rfl) (by kernel_rfl) (fun _ _ _ h => h) (Or.inl ⟨by rfl, fun w' hSw => by go_simp⟩) hHeld ?_
        try simp only [Act.put, List.getElem_toArray, List.getElem_cons_succ, List.getElem_cons_zero, List.setIfInBounds_toArray, List.set_cons_zero, List.set_cons_succ]
        refine wpAnyH_take (i := 15) (v := .pointer (some ⟨Y, 0, none⟩)) rfl (by kernel_rfl) (by kernel_rfl) (by kernel_rfl) (fun _ _ _ h => h) (Or.inl ⟨by rfl, fun w' hSw => by go_simp⟩) hHeld ?_
        try simp only [Act.put, List.getElem_toArray, List.getElem_cons_succ, List.getElem_cons_zero, List.setIfInBounds_toArray, List.set_cons_zero, List.set_cons_succ]
        refine wpAnyH_take (i := 16) (v := .pointer (some ⟨Y, 0, none⟩)) rfl (by kernel_rfl) (by kernel_rfl) (by kernel_rfl) (fun _ _ _ h => h) (Or.inl ⟨by rfl, fun w' hSw => by go_simp⟩) hHeld ?_
        try simp only [Act.put, List.getElem_toArray, List.getElem_cons_succ, List.getElem_cons_zero, List.setIfInBounds_toArray, List.set_cons_zero, List.set_cons_succ]
        refine wpAnyH_take (i := 17) (v := .pointer (some ⟨Y, 0, none⟩)) rfl (by kernel_rfl) (by kernel_rfl) (by kernel_rfl) (fun _ _ _ h => h) (Or.inl ⟨by rfl, fun w' hSw => by go_simp⟩) hHeld ?_
        try simp only [Act.put, List.getElem_toArray, List.getElem_cons_succ, List.getElem_cons_zero, List.setIfInBounds_toArray, List.set_cons_zero, List.set_cons_succ]
        refine wpAnyH_take (i := 18) (v := .slice (some ⟨G, 0, none⟩) 64 64) rfl (by kernel_rfl) (by kernel_rfl) (by kernel_rfl) (fun _ _ _ h => h) (Or.inl ⟨by rfl, fun w' hSw => by have hq := hSw; have hd := hq.2.y0; go_simp⟩) hHeld ?_
        try simp only [Act.put, List.getElem_toArray, List.getElem_cons_succ, List.getElem_cons_zero, List.setIfInBounds_toArray, List.set_cons_zero, List.set_cons_succ]
        refine wpAnyH_ready (rs := [14]) (by kernel_rfl) (by simp) (AllReadyH.cons rfl (fun K1 hK1 => ?_) AllReadyH.nil)
        try simp only [Act.put, List.getElem_toArray, List.getElem_cons_succ, List.getElem_cons_zero, List.setIfInBounds_toArray, List.set_cons_zero, List.set_cons_succ]
        go_simp
        refine Calls.mono (Sit.all hHeld.2) ?_
        rintro e wa7 ⟨rfl, hI, hc8⟩
        have HI := Lib.hid hI
        clear hI
        have hHeld2 := And.intro (hHeld.1.below hc8) (hHeld.2.below hc8)
        generalize wa5.heap.size = gI at *
        refine hK1.out _ _ (hHeld2) (fun hHeld => ?_)
        clear hK1 K1
        try simp only [Act.put, List.getElem_toArray, List.getElem_cons_succ, List.getElem_cons_zero, List.setIfInBounds_toArray, List.set_cons_zero, List.set_cons_succ]
        clear hHeld2
        refine wpAnyH_ready (rs := [19]) (by kernel_rfl) (by simp) (AllReadyH.cons rfl (fun K1 hK1 => ?_) AllReadyH.nil)
        try simp only [Act.put, List.getElem_toArray, List.getElem_cons_succ, List.getElem_cons_zero, List.setIfInBounds_toArray, List.set_cons_zero, List.set_cons_succ]
        go_simp
        refine Calls.mono (Sit.numbers gI hHeld.2 HI.out) ?_
        rintro e wa9 ⟨rfl, hc10⟩
        refine hK1.out _ _ (⟨hHeld.1.below hc10, hHeld.2.below hc10⟩) (fun hHeld => ?_)
        clear hK1 K1
        try simp only [Act.put, List.getElem_toArray, List.getElem_cons_succ, List.getElem_cons_zero, List.setIfInBounds_toArray, List.set_cons_zero, List.set_cons_succ]
        refine wpAnyH_take (i := 20) (v := .bool false) rfl (by kernel_rfl) (by kernel_rfl) (by kernel_rfl) (fun _ _ _ h => h) (Or.inl ⟨by rfl, fun w' hSw => by go_simp⟩) hHeld ?_
        try simp only [Act.put, List.getElem_toArray, List.getElem_cons_succ, List.getElem_cons_zero, List.setIfInBounds_toArray, List.set_cons_zero, List.set_cons_succ]
        refine wpAnyH_take (i := 21) (v := .bool false) rfl (by kernel_rfl) (by kernel_rfl) (by kernel_rfl) (fun _ _ _ h => h) (Or.inl ⟨by rfl, fun w' hSw => by go_simp⟩) hHeld ?_
        try simp only [Act.put, List.getElem_toArray, List.getElem_cons_succ, List.getElem_cons_zero, List.setIfInBounds_toArray, List.set_cons_zero, List.set_cons_succ]
        refine wpAnyH_done (by kernel_rfl) ?_ _
        refine NoPanic.normal ?_
        have HT9 := Lib.hid hHeld.2
        clear hHeld
        go_wp2_with fail
        exact ⟨⟨k + 1, L1, LK, (m + 1), by omega, by go_num, by omega, HT9.out⟩, by simp [intOf]; omega⟩
      have e0 : (kd == 0) = false := by simpa using k0
      by_cases k1 : kd = 1
      · subst k1
        clear HP1 HP2 HC1 HC2 HWS HR37 HR1 hzw
        go_wp2_with (first
          | ((with_reducible show wpList _ _ _ (⟨_, .load 53 (.tmp 60), _, _, _, _⟩ :: _) _ _); refine wpList_load_tx rfl 53 (.tmp 60) rfl ga (off + k * 39) rfl C _ (HXr.out _ HTT.out.low) Tryd.underlying53 rfl (by rw [act15_info, HA39.out]) ?_)
          | ((with_reducible show wpList _ _ _ (⟨_, .store 53 _ _, _, _, _, _⟩ :: _) _ _)
             refine wpList_store_at rfl 53 (.tmp 11) (.tmp 61) rfl wr.heap.size 0 C ZA _ rfl rfl (Row.new wr 53 ZA) (by have := HZ39.out; have := HA39.out; omega) (by rw [act15_info, HA39.out]) HA1.out ?_
             intro w4 hr hg
             rw [splice_all (HA39.out.trans HZ39.out.symm)] at hr
             have hb4 := below_of_alloc_store hg
             have HR4 := Lib.hid hr
             have HT4 := Lib.hid (HTT.out.below hb4)
             generalize wr.heap.size = g11 at *
             have ck := (HCa.out _ _ HR4.out).1
             skip
             clear hr hg hb4))
        clear hk5 hzv
        clear ck
        have hT := HT4.out.below (Below.refl _ _).drew
        refine wp_region_noPanic ?_
        refine wp_region_held_drew (S := fun w' => Row w' g11 53 C) (by kernel_rfl) (HR4.out) (fun hHeld => ?_)
        generalize w4.drew = wq at *
        refine wpAnyH_take (i := 0) (v := .pointer (some ⟨B, 0, none⟩)) rfl (by kernel_rfl) (by kernel_rfl) (by kernel_rfl) (fun _ _ _ h => h) (Or.inl ⟨by rfl, fun w' hSw => by go_simp⟩) hHeld ?_
        try simp only [Act.put, List.getElem_toArray, List.getElem_cons_succ, List.getElem_cons_zero, List.setIfInBounds_toArray, List.set_cons_zero, List.set_cons_succ]
        refine wpAnyH_take (i := 1) (v := .pointer (some ⟨g11, 3, none⟩)) rfl (by kernel_rfl) (by kernel_rfl) (by kernel_rfl) (fun _ _ _ h => h) (Or.inl ⟨by rfl, fun w' hSw => by go_simp⟩) hHeld ?_
        try simp only [Act.put, List.getElem_toArray, List.getElem_cons_succ, List.getElem_cons_zero, List.setIfInBounds_toArray, List.set_cons_zero, List.set_cons_succ]
        refine' wpAnyH_take (i := 2) (v := _) rfl (by kernel_rfl) (by kernel_rfl) (by kernel_rfl) (fun _ _ _ h => h) (yieldsIf_load_mid (by rfl) _ _ rfl g11 3 rfl BC _ (fun w' hSw => (HCa.out _ _ hSw).2.2.2.2.2) Tryd.underlying30 rfl (by rw [bid_info, HB36.out])) hHeld ?_
        try simp only [Act.put, List.getElem_toArray, List.getElem_cons_succ, List.getElem_cons_zero, List.setIfInBounds_toArray, List.set_cons_zero, List.set_cons_succ]
        refine wpAnyH_take (i := 3) (v := .pointer (some ⟨g11, 1, none⟩)) rfl (by kernel_rfl) (by kernel_rfl) (by kernel_rfl) (fun _ _ _ h => h) (Or.inl ⟨by rfl, fun w' hSw => by go_simp⟩) hHeld ?_
        try simp only [Act.put, List.getElem_toArray, List.getElem_cons_succ, List.getElem_cons_zero, List.setIfInBounds_toArray, List.set_cons_zero, List.set_cons_succ]
        refine wpAnyH_take (i := 4) (v := .int .i64 now) rfl (by kernel_rfl) (by kernel_rfl) (by kernel_rfl) (fun _ _ _ h => h) (Or.inl ⟨by rfl, fun w' hSw => by have hq := hSw; have hd := (HCa.out _ _ hq).2.1; go_simp⟩) hHeld ?_
        try simp only [Act.put, List.getElem_toArray, List.getElem_cons_succ, List.getElem_cons_zero, List.setIfInBounds_toArray, List.set_cons_zero, List.set_cons_succ]
        refine wpAnyH_take (i := 6) (v := .pointer (some ⟨X, 0, none⟩)) rfl (by kernel_rfl) (by kernel_rfl) (by kernel_rfl) (fun _ _ _ h => h) (Or.inl ⟨by rfl, fun w' hSw => by go_simp⟩) hHeld ?_
        try simp only [Act.put, List.getElem_toArray, List.getElem_cons_succ, List.getElem_cons_zero, List.setIfInBounds_toArray, List.set_cons_zero, List.set_cons_succ]
        refine wpAnyH_take (i := 7) (v := .pointer (some ⟨g11, 3, none⟩)) rfl (by kernel_rfl) (by kernel_rfl) (by kernel_rfl) (fun _ _ _ h => h) (Or.inl ⟨by rfl, fun w' hSw => by go_simp⟩) hHeld ?_
        try simp only [Act.put, List.getElem_toArray, List.getElem_cons_succ, List.getElem_cons_zero, List.setIfInBounds_toArray, List.set_cons_zero, List.set_cons_succ]
        refine' wpAnyH_take (i := 8) (v := _) rfl (by kernel_rfl) (by kernel_rfl) (by kernel_rfl) (fun _ _ _ h => h) (yieldsIf_load_mid (by rfl) _ _ rfl g11 3 rfl BC _ (fun w' hSw => (HCa.out _ _ hSw).2.2.2.2.2) Tryd.underlying30 rfl (by rw [bid_info, HB36.out])) hHeld ?_
        try simp only [Act.put, List.getElem_toArray, List.getElem_cons_succ, List.getElem_cons_zero, List.setIfInBounds_toArray, List.set_cons_zero, List.set_cons_succ]
        refine wpAnyH_take (i := 9) (v := .pointer (some ⟨g11, 1, none⟩)) rfl (by kernel_rfl) (by kernel_rfl) (by kernel_rfl) (fun _ _ _ h => h) (Or.inl ⟨by rfl, fun w' hSw => by go_simp⟩) hHeld ?_
        try simp only [Act.put, List.getElem_toArray, List.getElem_cons_succ, List.getElem_cons_zero, List.setIfInBounds_toArray, List.set_cons_zero, List.set_cons_succ]
        refine wpAnyH_take (i := 10) (v := .int .i64 now) rfl (by kernel_rfl) (by kernel_rfl) (by kernel_rfl) (fun _ _ _ h => h) (Or.inl ⟨by rfl, fun w' hSw => by have hq := hSw; have hd := (HCa.out _ _ hq).2.1; go_simp⟩) hHeld ?_
        try simp only [Act.put, List.getElem_toArray, List.getElem_cons_succ, List.getElem_cons_zero, List.setIfInBounds_toArray, List.set_cons_zero, List.set_cons_succ]
        refine wpAnyH_ready (rs := [5]) (by kernel_rfl) (by simp) (AllReadyH.cons rfl (fun K1 hK1 => ?_) AllReadyH.nil)
        try simp only [Act.put, List.getElem_toArray, List.getElem_cons_succ, List.getElem_cons_zero, List.setIfInBounds_toArray, List.set_cons_zero, List.set_cons_succ]
        go_simp
        refine Calls.mono (HB1.out _ hT) ?_
        clear hT
        rintro e wc1 ⟨rfl, hT, hk2⟩
        refine hK1.out _ _ (hk2 _ _ _ (by decide) (by decide) (by decide) (by decide) (by decide) hHeld) (fun hHeld => ?_)
        clear hK1 K1
        try simp only [Act.put, List.getElem_toArray, List.getElem_cons_succ, List.getElem_cons_zero, List.setIfInBounds_toArray, List.set_cons_zero, List.set_cons_succ]
        refine wpAnyH_ready (rs := [11]) (by kernel_rfl) (by simp) (AllReadyH.cons rfl (fun K1 hK1 => ?_) AllReadyH.nil)
        try simp only [Act.put, List.getElem_toArray, List.getElem_cons_succ, List.getElem_cons_zero, List.setIfInBounds_toArray, List.set_cons_zero, List.set_cons_succ]
        go_simp
        refine Calls.mono (HB2.out _ hT) ?_
        clear hT
        rintro e wc3 ⟨rfl, hT, hk4⟩
        refine hK1.out _ _ (hk4 _ _ _ (by decide) (by decide) (by decide) (by decide) (by decide) hHeld) (fun hHeld => ?_)
        clear hK1 K1
        try simp only [Act.put, List.getElem_toArray, List.getElem_cons_succ, List.getElem_cons_zero, List.setIfInBounds_toArray, List.set_cons_zero, List.set_cons_succ]
        refine wpAnyH_take (i := 12) (v := .bool false) rfl (by kernel_rfl) (by kernel_rfl) (by kernel_rfl) (fun _ _ _ h => h) (Or.inl ⟨by rfl, fun w' hSw => by go_simp⟩) hHeld ?_
        try simp only [Act.put, List.getElem_toArray, List.getElem_cons_succ, List.getElem_cons_zero, List.setIfInBounds_toArray, List.set_cons_zero, List.set_cons_succ]
        refine wpAnyH_done (by kernel_rfl) ?_ _
        refine NoPanic.normal ?_
        have HT5 := Lib.hid hT
        have HR5 := Lib.hid hHeld
        clear hT hHeld
        go_wp2_with fail
        obtain ⟨q, hq9⟩ : ∃ q, (Au.ofR ro L1).length = q := ⟨_, rfl⟩
        have HG1 : Hid (∀ W, Sit w W B w.heap.size X Y G K f L1 (m + 1) L1 (m + 1) LK LK → Calls Tryd.prog 28 #[.pointer (some ⟨B, 0, none⟩), .int .i64 ro] W fun e w' => (∃ A c, e = .returned (.slice A q c) ∧ SlB w' w'.heap.size A c (Au.ofR ro L1)) ∧ Below W.heap.size W w') := Lib.hid (fun W h => by rw [← hq9]; exact Sit.bids ro HFr.out h)
        have HG2 : Hid (∀ W, Sit w W B w.heap.size X Y G K f L1 (m + 1) L1 (m + 1) LK LK → Calls Tryd.prog 29 #[.pointer (some ⟨X, 0, none⟩), .int .i64 ro] W fun e w' => (∃ A c, e = .returned (.slice A q c) ∧ SlB w' w'.heap.size A c (Au.ofR ro L1)) ∧ Below W.heap.size W w') := Lib.hid (fun W h => by rw [← hq9]; exact Sit.rbids ro h (by omega))
        have HSm : Hid (∀ W A1 d1 A2 d2, SlB W W.heap.size A1 d1 (Au.ofR ro L1) → SlB W W.heap.size A2 d2 (Au.ofR ro L1) → Calls Tryd.prog 27 #[.slice A1 q d1, .slice A2 q d2] W fun e w' => e = .returned (.bool true) ∧ Below W.heap.size W w') := Lib.hid (fun W A1 d1 A2 d2 h1 h2 => by rw [← hq9]; exact same15_any true A1 A2 d1 d2 _ _ W h1 h2 (by simp))
        clear hq9
        refine wp_region_noPanic ?_
        refine wp_region_held_drew (S := fun w' => Row w' g11 53 C ∧ Sit w w' B w.heap.size X Y G K f L1 (m + 1) L1 (m + 1) LK LK) (by kernel_rfl) (⟨HR5.out, HT5.out.below (Below.refl _ _).drew⟩) (fun hHeld => ?_)
        generalize wc3.drew = wq2 at *
        refine wpAnyH_take (i := 0) (v := .pointer (some ⟨B, 0, none⟩)) rfl (by kernel_rfl) (by kernel_rfl) (by kernel_rfl) (fun _ _ _ h => h) (Or.inl ⟨by rfl, fun w' hSw => by go_simp⟩) hHeld ?_
        try simp only [Act.put, List.getElem_toArray, List.getElem_cons_succ, List.getElem_cons_zero, List.setIfInBounds_toArray, List.set_cons_zero, List.set_cons_succ]
        refine wpAnyH_take (i := 1) (v := .pointer (some ⟨g11, 3, none⟩)) rfl (by kernel_rfl) (by kernel_rfl) (by kernel_rfl) (fun _ _ _ h => h) (Or.inl ⟨by rfl, fun w' hSw => by go_simp⟩) hHeld ?_
        try simp only [Act.put, List.getElem_toArray, List.getElem_cons_succ, List.getElem_cons_zero, List.setIfInBounds_toArray, List.set_cons_zero, List.set_cons_succ]
        refine wpAnyH_take (i := 2) (v := .pointer (some ⟨g11, 3, none⟩)) rfl (by kernel_rfl) (by kernel_rfl) (by kernel_rfl) (fun _ _ _ h => h) (Or.inl ⟨by rfl, fun w' hSw => by go_simp⟩) hHeld ?_
        try simp only [Act.put, List.getElem_toArray, List.getElem_cons_succ, List.getElem_cons_zero, List.setIfInBounds_toArray, List.set_cons_zero, List.set_cons_succ]
        refine wpAnyH_take (i := 3) (v := .int .i64 ro) rfl (by kernel_rfl) (by kernel_rfl) (by kernel_rfl) (fun _ _ _ h => h) (Or.inl ⟨by rfl, fun w' hSw => by have hq := hSw; have hd := (HCa.out _ _ hq.1).2.2.2.1; go_simp⟩) hHeld ?_
        try simp only [Act.put, List.getElem_toArray, List.getElem_cons_succ, List.getElem_cons_zero, List.setIfInBounds_toArray, List.set_cons_zero, List.set_cons_succ]
        refine wpAnyH_take (i := 5) (v := .pointer (some ⟨X, 0, none⟩)) rfl (by kernel_rfl) (by kernel_rfl) (by kernel_rfl) (fun _ _ _ h => h) (Or.inl ⟨by rfl, fun w' hSw => by go_simp⟩) hHeld ?_
        try simp only [Act.put, List.getElem_toArray, List.getElem_cons_succ, List.getElem_cons_zero, List.setIfInBounds_toArray, List.set_cons_zero, List.set_cons_succ]
        refine wpAnyH_take (i := 6) (v := .pointer (some ⟨g11, 3, none⟩)) rfl (by kernel_rfl) (by kernel_rfl) (by kernel_rfl) (fun _ _ _ h => h) (Or.inl ⟨by rfl, fun w' hSw => by go_simp⟩) hHeld ?_
        try simp only [Act.put, List.getElem_toArray, List.getElem_cons_succ, List.getElem_cons_zero, List.setIfInBounds_toArray, List.set_cons_zero, List.set_cons_succ]
        refine wpAnyH_take (i := 7) (v := .pointer (some ⟨g11, 3, none⟩)) rfl (by kernel_rfl) (by kernel_rfl) (by kernel_rfl) (fun _ _ _ h => h) (Or.inl ⟨by rfl, fun w' hSw => by go_simp⟩) hHeld ?_
        try simp only [Act.put, List.getElem_toArray, List.getElem_cons_succ, List.getElem_cons_zero, List.setIfInBounds_toArray, List.set_cons_zero, List.set_cons_succ]
        refine wpAnyH_take (i := 8) (v := .int .i64 ro) rfl (by kernel_rfl) (by kernel_rfl) (by kernel_rfl) (fun _ _ _ h => h) (Or.inl ⟨by rfl, fun w' hSw => by have hq := hSw; have hd := (HCa.out _ _ hq.1).2.2.2.1; go_simp⟩) hHeld ?_
        try simp only [Act.put, List.getElem_toArray, List.getElem_cons_succ, List.getElem_cons_zero, List.setIfInBounds_toArray, List.set_cons_zero, List.set_cons_succ]
        refine wpAnyH_ready (rs := [4]) (by kernel_rfl) (by simp) (AllReadyH.cons rfl (fun K1 hK1 => ?_) AllReadyH.nil)
        try simp only [Act.put, List.getElem_toArray, List.getElem_cons_succ, List.getElem_cons_zero, List.setIfInBounds_toArray, List.set_cons_zero, List.set_cons_succ]
        go_simp
        refine Calls.mono (HG1.out _ hHeld.2) ?_
        rintro e wa1 ⟨⟨A1, d1, rfl, hs1⟩, hc2⟩
        have SL1 := Lib.hid hs1
        clear hs1
        refine hK1.out _ _ (⟨hHeld.1.below hc2, hHeld.2.below hc2⟩) (fun hHeld => ?_)
        clear hK1 K1
        try simp only [Act.put, List.getElem_toArray, List.getElem_cons_succ, List.getElem_cons_zero, List.setIfInBounds_toArray, List.set_cons_zero, List.set_cons_succ]
        refine wpAnyH_ready (rs := [9]) (by kernel_rfl) (by simp) (AllReadyH.cons rfl (fun K1 hK1 => ?_) AllReadyH.nil)
        try simp only [Act.put, List.getElem_toArray, List.getElem_cons_succ, List.getElem_cons_zero, List.setIfInBounds_toArray, List.set_cons_zero, List.set_cons_succ]
        go_simp
        refine Calls.mono (HG2.out _ hHeld.2) ?_
        rintro e wa3 ⟨⟨A2, d2, rfl, hs2⟩, hc4⟩
        replace SL1 := Lib.hid ((SL1.out.below hc4).mono hc4.size)
        have SL2 := Lib.hid hs2
        clear hs2
        refine hK1.out _ _ (⟨hHeld.1.below hc4, hHeld.2.below hc4⟩) (fun hHeld => ?_)
        clear hK1 K1
        try simp only [Act.put, List.getElem_toArray, List.getElem_cons_succ, List.getElem_cons_zero, List.setIfInBounds_toArray, List.set_cons_zero, List.set_cons_succ]
        refine wpAnyH_ready (rs := [10]) (by kernel_rfl) (by simp) (AllReadyH.cons rfl (fun K1 hK1 => ?_) AllReadyH.nil)
        try simp only [Act.put, List.getElem_toArray, List.getElem_cons_succ, List.getElem_cons_zero, List.setIfInBounds_toArray, List.set_cons_zero, List.set_cons_succ]
        go_simp
        refine Calls.mono (HSm.out _ _ _ _ _ SL1.out SL2.out) ?_
        rintro e wa5 ⟨rfl, hc6⟩
        refine hK1.out _ _ (⟨hHeld.1.below hc6, hHeld.2.below hc6⟩) (fun hHeld => ?_)
        clear hK1 K1
        try simp only [Act.put, List.getElem_toArray, List.getElem_cons_succ, List.getElem_cons_zero, List.setIfInBounds_toArray, List.set_cons_zero, List.set_cons_succ]
        refine wpAnyH_take (i := 11) (v := .bool false) rfl (by kernel_rfl) (by kernel_rfl) (by kernel_rfl) (fun _ _ _ h => h) (Or.inl ⟨by rfl, fun w' hSw => by go_simp⟩) hHeld ?_
        try simp only [Act.put, List.getElem_toArray, List.getElem_cons_succ, List.getElem_cons_zero, List.setIfInBounds_toArray, List.set_cons_zero, List.set_cons_succ]
        refine wpAnyH_take (i := 12) (v := .bool false) rfl (by kernel_rfl) (by kernel_rfl) (by kernel_rfl) (fun _ _ _ h => h) (Or.inl ⟨by rfl, fun w' hSw => by go_simp⟩) hHeld ?_
        try simp only [Act.put, List.getElem_toArray, List.getElem_cons_succ, List.getElem_cons_zero, List.setIfInBounds_toArray, List.set_cons_zero, List.set_cons_succ]
        refine wpAnyH_take (i := 13) (v := .pointer (some ⟨K, 0, none⟩)) rfl (by kernel_rfl) (by kernel_rfl) (by kernel_rfl) (fun _ _ _ h => h) (Or.inl ⟨by rfl, fun w' hSw => by go_simp⟩) hHeld ?_
        try simp only [Act.put, List.getElem_toArray, List.getElem_cons_succ, List.getElem_cons_zero, List.setIfInBounds_toArray, List.set_cons_zero, List.set_cons_succ]
        refine wpAnyH_take (i := 15) (v := .pointer (some ⟨Y, 0, none⟩)) rfl (by kernel_rfl) (by kernel_rfl) (by kernel_rfl) (fun _ _ _ h => h) (Or.inl ⟨by rfl, fun w' hSw => by go_simp⟩) hHeld ?_
        try simp only [Act.put, List.getElem_toArray, List.getElem_cons_succ, List.getElem_cons_zero, List.setIfInBounds_toArray, List.set_cons_zero, List.set_cons_succ]
        refine wpAnyH_take (i := 16) (v := .pointer (some ⟨Y, 0, none⟩)) rfl (by kernel_rfl) (by kernel_rfl) (by kernel_rfl) (fun _ _ _ h => h) (Or.inl ⟨by rfl, fun w' hSw => by go_simp⟩) hHeld ?_
        try simp only [Act.put, List.getElem_toArray, List.getElem_cons_succ, List.getElem_cons_zero, List.setIfInBounds_toArray, List.set_cons_zero, List.set_cons_succ]
        refine wpAnyH_take (i := 17) (v := .pointer (some ⟨Y, 0, none⟩)) rfl (by kernel_rfl) (by kernel_rfl) (by kernel_rfl) (fun _ _ _ h => h) (Or.inl ⟨by rfl, fun w' hSw => by go_simp⟩) hHeld ?_
        try simp only [Act.put, List.getElem_toArray, List.getElem_cons_succ, List.getElem_cons_zero, List.setIfInBounds_toArray, List.set_cons_zero, List.set_cons_succ]
        refine wpAnyH_take (i := 18) (v := .slice (some ⟨G, 0, none⟩) 64 64) rfl (by kernel_rfl) (by kernel_rfl) (by kernel_rfl) (fun _ _ _ h => h) (Or.inl ⟨by rfl, fun w' hSw => by have hq := hSw; have hd := hq.2.y0; go_simp⟩) hHeld ?_
        try simp only [Act.put, List.getElem_toArray, List.getElem_cons_succ, List.getElem_cons_zero, List.setIfInBounds_toArray, List.set_cons_zero, List.set_cons_succ]
        refine wpAnyH_ready (rs := [14]) (by kernel_rfl) (by simp) (AllReadyH.cons rfl (fun K1 hK1 => ?_) AllReadyH.nil)
        try simp only [Act.put, List.getElem_toArray, List.getElem_cons_succ, List.getElem_cons_zero, List.setIfInBounds_toArray, List.set_cons_zero, List.set_cons_succ]
        go_simp
        refine Calls.mono (Sit.all hHeld.2) ?_
        rintro e wa7 ⟨rfl, hI, hc8⟩
        have HI := Lib.hid hI
        clear hI
        have hHeld2 := And.intro (hHeld.1.below hc8) (hHeld.2.below hc8)
        generalize wa5.heap.size = gI at *
        refine hK1.out _ _ (hHeld2) (fun hHeld => ?_)
        clear hK1 K1
        try simp only [Act.put, List.getElem_toArray, List.getElem_cons_succ, List.getElem_cons_zero, List.setIfInBounds_toArray, List.set_cons_zero, List.set_cons_succ]
        clear hHeld2
        refine wpAnyH_ready (rs := [19]) (by kernel_rfl) (by simp) (AllReadyH.cons rfl (fun K1 hK1 => ?_) AllReadyH.nil)
        try simp only [Act.put, List.getElem_toArray, List.getElem_cons_succ, List.getElem_cons_zero, List.setIfInBounds_toArray, List.set_cons_zero, List.set_cons_succ]
        go_simp
        refine Calls.mono (Sit.numbers gI hHeld.2 HI.out) ?_
        rintro e wa9 ⟨rfl, hc10⟩
        refine hK1.out _ _ (⟨hHeld.1.below hc10, hHeld.2.below hc10⟩) (fun hHeld => ?_)
        clear hK1 K1
        try simp only [Act.put, List.getElem_toArray, List.getElem_cons_succ, List.getElem_cons_zero, List.setIfInBounds_toArray, List.set_cons_zero, List.set_cons_succ]
        refine wpAnyH_take (i := 20) (v := .bool false) rfl (by kernel_rfl) (by kernel_rfl) (by kernel_rfl) (fun _ _ _ h => h) (Or.inl ⟨by rfl, fun w' hSw => by go_simp⟩) hHeld ?_
        try simp only [Act.put, List.getElem_toArray, List.getElem_cons_succ, List.getElem_cons_zero, List.setIfInBounds_toArray, List.set_cons_zero, List.set_cons_succ]
        refine wpAnyH_take (i := 21) (v := .bool false) rfl (by kernel_rfl) (by kernel_rfl) (by kernel_rfl) (fun _ _ _ h => h) (Or.inl ⟨by rfl, fun w' hSw => by go_simp⟩) hHeld ?_
        try simp only [Act.put, List.getElem_toArray, List.getElem_cons_succ, List.getElem_cons_zero, List.setIfInBounds_toArray, List.set_cons_zero, List.set_cons_succ]
        refine wpAnyH_done (by kernel_rfl) ?_ _
        refine NoPanic.normal ?_
        have HT9 := Lib.hid hHeld.2
        clear hHeld
        go_wp2_with fail
        exact ⟨⟨k + 1, L1, LK, (m + 1), by omega, by go_num, by omega, HT9.out⟩, by simp [intOf]; omega⟩
      have e1 : (kd == 1) = false := by simpa using k1
      by_cases k2 : kd = 2
      · subst k2
        clear HP1 HP2 HC1 HC2 HWS HR37 HR1 hzw
        go_wp2_with (first
          | ((with_reducible show wpList _ _ _ (⟨_, .load 53 (.tmp 60), _, _, _, _⟩ :: _) _ _); refine wpList_load_tx rfl 53 (.tmp 60) rfl ga (off + k * 39) rfl C _ (HXr.out _ HTT.out.low) Tryd.underlying53 rfl (by rw [act15_info, HA39.out]) ?_)
          | ((with_reducible show wpList _ _ _ (⟨_, .store 53 _ _, _, _, _, _⟩ :: _) _ _)
             refine wpList_store_at rfl 53 (.tmp 11) (.tmp 61) rfl wr.heap.size 0 C ZA _ rfl rfl (Row.new wr 53 ZA) (by have := HZ39.out; have := HA39.out; omega) (by rw [act15_info, HA39.out]) HA1.out ?_
             intro w4 hr hg
             rw [splice_all (HA39.out.trans HZ39.out.symm)] at hr
             have hb4 := below_of_alloc_store hg
             have HR4 := Lib.hid hr
             have HT4 := Lib.hid (HTT.out.below hb4)
             generalize wr.heap.size = g11 at *
             have ck := (HCa.out _ _ HR4.out).1
             skip
             clear hr hg hb4))
        clear hk5 hzv
        clear ck
        have hT := HT4.out.below (Below.refl _ _).drew
        refine wp_region_noPanic ?_
        refine wp_region_held_drew (S := fun w' => Row w' g11 53 C) (by kernel_rfl) (HR4.out) (fun hHeld => ?_)
        generalize w4.drew = wq at *
        refine wpAnyH_take (i := 0) (v := .pointer (some ⟨B, 0, none⟩)) rfl (by kernel_rfl) (by kernel_rfl) (by kernel_rfl) (fun _ _ _ h => h) (Or.inl ⟨by rfl, fun w' hSw => by go_simp⟩) hHeld ?_
        try simp only [Act.put, List.getElem_toArray, List.getElem_cons_succ, List.getElem_cons_zero, List.setIfInBounds_toArray, List.set_cons_zero, List.set_cons_succ]
        refine wpAnyH_take (i := 1) (v := .pointer (some ⟨g11, 3, none⟩)) rfl (by kernel_rfl) (by kernel_rfl) (by kernel_rfl) (fun _ _ _ h => h) (Or.inl ⟨by rfl, fun w' hSw => by go_simp⟩) hHeld ?_
        try simp only [Act.put, List.getElem_toArray, List.getElem_cons_succ, List.getElem_cons_zero, List.setIfInBounds_toArray, List.set_cons_zero, List.set_cons_succ]
        refine' wpAnyH_take (i := 2) (v := _) rfl (by kernel_rfl) (by kernel_rfl) (by kernel_rfl) (fun _ _ _ h => h) (yieldsIf_load_mid (by rfl) _ _ rfl g11 3 rfl BC _ (fun w' hSw => (HCa.out _ _ hSw).2.2.2.2.2) Tryd.underlying30 rfl (by rw [bid_info, HB36.out])) hHeld ?_
        try simp only [Act.put, List.getElem_toArray, List.getElem_cons_succ, List.getElem_cons_zero, List.setIfInBounds_toArray, List.set_cons_zero, List.set_cons_succ]
        refine wpAnyH_take (i := 3) (v := .pointer (some ⟨g11, 1, none⟩)) rfl (by kernel_rfl) (by kernel_rfl) (by kernel_rfl) (fun _ _ _ h => h) (Or.inl ⟨by rfl, fun w' hSw => by go_simp⟩) hHeld ?_
        try simp only [Act.put, List.getElem_toArray, List.getElem_cons_succ, List.getElem_cons_zero, List.setIfInBounds_toArray, List.set_cons_zero, List.set_cons_succ]
        refine wpAnyH_take (i := 4) (v := .int .i64 now) rfl (by kernel_rfl) (by kernel_rfl) (by kernel_rfl) (fun _ _ _ h => h) (Or.inl ⟨by rfl, fun w' hSw => by have hq := hSw; have hd := (HCa.out _ _ hq).2.1; go_simp⟩) hHeld ?_
        try simp only [Act.put, List.getElem_toArray, List.getElem_cons_succ, List.getElem_cons_zero, List.setIfInBounds_toArray, List.set_cons_zero, List.set_cons_succ]
        refine wpAnyH_take (i := 6) (v := .pointer (some ⟨X, 0, none⟩)) rfl (by kernel_rfl) (by kernel_rfl) (by kernel_rfl) (fun _ _ _ h => h) (Or.inl ⟨by rfl, fun w' hSw => by go_simp⟩) hHeld ?_
        try simp only [Act.put, List.getElem_toArray, List.getElem_cons_succ, List.getElem_cons_zero, List.setIfInBounds_toArray, List.set_cons_zero, List.set_cons_succ]
        refine wpAnyH_take (i := 7) (v := .pointer (some ⟨g11, 3, none⟩)) rfl (by kernel_rfl) (by kernel_rfl) (by kernel_rfl) (fun _ _ _ h => h) (Or.inl ⟨by rfl, fun w' hSw => by go_simp⟩) hHeld ?_
        try simp only [Act.put, List.getElem_toArray, List.getElem_cons_succ, List.getElem_cons_zero, List.setIfInBounds_toArray, List.set_cons_zero, List.set_cons_succ]
        refine' wpAnyH_take (i := 8) (v := _) rfl (by kernel_rfl) (by kernel_rfl) (by kernel_rfl) (fun _ _ _ h => h) (yieldsIf_load_mid (by rfl) _ _ rfl g11 3 rfl BC _ (fun w' hSw => (HCa.out _ _ hSw).2.2.2.2.2) Tryd.underlying30 rfl (by rw [bid_info, HB36.out])) hHeld ?_
        try simp only [Act.put, List.getElem_toArray, List.getElem_cons_succ, List.getElem_cons_zero, List.setIfInBounds_toArray, List.set_cons_zero, List.set_cons_succ]
        refine wpAnyH_take (i := 9) (v := .pointer (some ⟨g11, 1, none⟩)) rfl (by kernel_rfl) (by kernel_rfl) (by kernel_rfl) (fun _ _ _ h => h) (Or.inl ⟨by rfl, fun w' hSw => by go_simp⟩) hHeld ?_
        try simp only [Act.put, List.getElem_toArray, List.getElem_cons_succ, List.getElem_cons_zero, List.setIfInBounds_toArray, List.set_cons_zero, List.set_cons_succ]
        refine wpAnyH_take (i := 10) (v := .int .i64 now) rfl (by kernel_rfl) (by kernel_rfl) (by kernel_rfl) (fun _ _ _ h => h) (Or.inl ⟨by rfl, fun w' hSw => by have hq := hSw; have hd := (HCa.out _ _ hq).2.1; go_simp⟩) hHeld ?_
        try simp only [Act.put, List.getElem_toArray, List.getElem_cons_succ, List.getElem_cons_zero, List.setIfInBounds_toArray, List.set_cons_zero, List.set_cons_succ]
        refine wpAnyH_ready (rs := [5]) (by kernel_rfl) (by simp) (AllReadyH.cons rfl (fun K1 hK1 => ?_) AllReadyH.nil)
        try simp only [Act.put, List.getElem_toArray, List.getElem_cons_succ, List.getElem_cons_zero, List.setIfInBounds_toArray, List.set_cons_zero, List.set_cons_succ]
        go_simp
        refine Calls.mono (HB1.out _ hT) ?_
        clear hT
        rintro e wc1 ⟨rfl, hT, hk2⟩
        refine hK1.out _ _ (hk2 _ _ _ (by decide) (by decide) (by decide) (by decide) (by decide) hHeld) (fun hHeld => ?_)
        clear hK1 K1
        try simp only [Act.put, List.getElem_toArray, List.getElem_cons_succ, List.getElem_cons_zero, List.setIfInBounds_toArray, List.set_cons_zero, List.set_cons_succ]
        refine wpAnyH_ready (rs := [11]) (by kernel_rfl) (by simp) (AllReadyH.cons rfl (fun K1 hK1 => ?_) AllReadyH.nil)
        try simp only [Act.put, List.getElem_toArray, List.getElem_cons_succ, List.getElem_cons_zero, List.setIfInBounds_toArray, List.set_cons_zero, List.set_cons_succ]
        go_simp
        refine Calls.mono (HB2.out _ hT) ?_
        clear hT
        rintro e wc3 ⟨rfl, hT, hk4⟩
        refine hK1.out _ _ (hk4 _ _ _ (by decide) (by decide) (by decide) (by decide) (by decide) hHeld) (fun hHeld => ?_)
        clear hK1 K1
        try simp only [Act.put, List.getElem_toArray, List.getElem_cons_succ, List.getElem_cons_zero, List.setIfInBounds_toArray, List.set_cons_zero, List.set_cons_succ]
        refine wpAnyH_take (i := 12) (v := .bool false) rfl (by kernel_rfl) (by kernel_rfl) (by kernel_rfl) (fun _ _ _ h => h) (Or.inl ⟨by rfl, fun w' hSw => by go_simp⟩) hHeld ?_
        try simp only [Act.put, List.getElem_toArray, List.getElem_cons_succ, List.getElem_cons_zero, List.setIfInBounds_toArray, List.set_cons_zero, List.set_cons_succ]
        refine wpAnyH_done (by kernel_rfl) ?_ _
        refine NoPanic.normal ?_
        have HT5 := Lib.hid hT
        have HR5 := Lib.hid hHeld
        clear hT hHeld
        go_wp2_with fail
        obtain ⟨q, hq9⟩ : ∃ q, (Au.ofR ro L1).length = q := ⟨_, rfl⟩
        have HG1 : Hid (∀ W, Sit w W B w.heap.size X Y G K f L1 (m + 1) L1 (m + 1) LK LK → Calls Tryd.prog 28 #[.pointer (some ⟨B, 0, none⟩), .int .i64 ro] W fun e w' => (∃ A c, e = .returned (.slice A q c) ∧ SlB w' w'.heap.size A c (Au.ofR ro L1)) ∧ Below W.heap.size W w') := Lib.hid (fun W h => by rw [← hq9]; exact Sit.bids ro HFr.out h)
        have HG2 : Hid (∀ W, Sit w W B w.heap.size X Y G K f L1 (m + 1) L1 (m + 1) LK LK → Calls Tryd.prog 29 #[.pointer (some ⟨X, 0, none⟩), .int .i64 ro] W fun e w' => (∃ A c, e = .returned (.slice A q c) ∧ SlB w' w'.heap.size A c (Au.ofR ro L1)) ∧ Below W.heap.size W w') := Lib.hid (fun W h => by rw [← hq9]; exact Sit.rbids ro h (by omega))
        have HSm : Hid (∀ W A1 d1 A2 d2, SlB W W.heap.size A1 d1 (Au.ofR ro L1) → SlB W W.heap.size A2 d2 (Au.ofR ro L1) → Calls Tryd.prog 27 #[.slice A1 q d1, .slice A2 q d2] W fun e w' => e = .returned (.bool true) ∧ Below W.heap.size W w') := Lib.hid (fun W A1 d1 A2 d2 h1 h2 => by rw [← hq9]; exact same15_any true A1 A2 d1 d2 _ _ W h1 h2 (by simp))
        clear hq9
        refine wp_region_noPanic ?_
        refine wp_region_held_drew (S := fun w' => Row w' g11 53 C ∧ Sit w w' B w.heap.size X Y G K f L1 (m + 1) L1 (m + 1) LK LK) (by kernel_rfl) (⟨HR5.out, HT5.out.below (Below.refl _ _).drew⟩) (fun hHeld => ?_)
        generalize wc3.drew = wq2 at *
        refine wpAnyH_take (i := 0) (v := .pointer (some ⟨B, 0, none⟩)) rfl (by kernel_rfl) (by kernel_rfl) (by kernel_rfl) (fun _ _ _ h => h) (Or.inl ⟨by rfl, fun w' hSw => by go_simp⟩) hHeld ?_
        try simp only [Act.put, List.getElem_toArray, List.getElem_cons_succ, List.getElem_cons_zero, List.setIfInBounds_toArray, List.set_cons_zero, List.set_cons_succ]
        refine wpAnyH_take (i := 1) (v := .pointer (some ⟨g11, 3, none⟩)) rfl (by kernel_rfl) (by kernel_rfl) (by kernel_rfl) (fun _ _ _ h => h) (Or.inl ⟨by rfl, fun w' hSw => by go_simp⟩) hHeld ?_
        try simp only [Act.put, List.getElem_toArray, List.getElem_cons_succ, List.getElem_cons_zero, List.setIfInBounds_toArray, List.set_cons_zero, List.set_cons_succ]
        refine wpAnyH_take (i := 2) (v := .pointer (some ⟨g11, 3, none⟩)) rfl (by kernel_rfl) (by kernel_rfl) (by kernel_rfl) (fun _ _ _ h => h) (Or.inl ⟨by rfl, fun w' hSw => by go_simp⟩) hHeld ?_
        try simp only [Act.put, List.getElem_toArray, List.getElem_cons_succ, List.getElem_cons_zero, List.setIfInBounds_toArray, List.set_cons_zero, List.set_cons_succ]
        refine wpAnyH_take (i := 3) (v := .int .i64 ro) rfl (by kernel_rfl) (by kernel_rfl) (by kernel_rfl) (fun _ _ _ h => h) (Or.inl ⟨by rfl, fun w' hSw => by have hq := hSw; have hd := (HCa.out _ _ hq.1).2.2.2.1; go_simp⟩) hHeld ?_
        try simp only [Act.put, List.getElem_toArray, List.getElem_cons_succ, List.getElem_cons_zero, List.setIfInBounds_toArray, List.set_cons_zero, List.set_cons_succ]
        refine wpAnyH_take (i := 5) (v := .pointer (some ⟨X, 0, none⟩)) rfl (by kernel_rfl) (by kernel_rfl) (by kernel_rfl) (fun _ _ _ h => h) (Or.inl ⟨by rfl, fun w' hSw => by go_simp⟩) hHeld ?_
        try simp only [Act.put, List.getElem_toArray, List.getElem_cons_succ, List.getElem_cons_zero, List.setIfInBounds_toArray, List.set_cons_zero, List.set_cons_succ]
        refine wpAnyH_take (i := 6) (v := .pointer (some ⟨g11, 3, none⟩)) rfl (by kernel_rfl) (by kernel_rfl) (by kernel_rfl) (fun _ _ _ h => h) (Or.inl ⟨by rfl, fun w' hSw => by go_simp⟩) hHeld ?_
        try simp only [Act.put, List.getElem_toArray, List.getElem_cons_succ, List.getElem_cons_zero, List.setIfInBounds_toArray, List.set_cons_zero, List.set_cons_succ]
        refine wpAnyH_take (i := 7) (v := .pointer (some ⟨g11, 3, none⟩)) rfl (by kernel_rfl) (by kernel_rfl) (by kernel_rfl) (fun _ _ _ h => h) (Or.inl ⟨by rfl, fun w' hSw => by go_simp⟩) hHeld ?_
        try simp only [Act.put, List.getElem_toArray, List.getElem_cons_succ, List.getElem_cons_zero, List.setIfInBounds_toArray, List.set_cons_zero, List.set_cons_succ]
        refine wpAnyH_take (i := 8) (v := .int .i64 ro) rfl (by kernel_rfl) (by kernel_rfl) (by kernel_rfl) (fun _ _ _ h => h) (Or.inl ⟨by rfl, fun w' hSw => by have hq := hSw; have hd := (HCa.out _ _ hq.1).2.2.2.1; go_simp⟩) hHeld ?_
        try simp only [Act.put, List.getElem_toArray, List.getElem_cons_succ, List.getElem_cons_zero, List.setIfInBounds_toArray, List.set_cons_zero, List.set_cons_succ]
        refine wpAnyH_ready (rs := [4]) (by kernel_rfl) (by simp) (AllReadyH.cons rfl (fun K1 hK1 => ?_) AllReadyH.nil)
        try simp only [Act.put, List.getElem_toArray, List.getElem_cons_succ, List.getElem_cons_zero, List.setIfInBounds_toArray, List.set_cons_zero, List.set_cons_succ]
        go_simp
        refine Calls.mono (HG1.out _ hHeld.2) ?_
        rintro e wa1 ⟨⟨A1, d1, rfl, hs1⟩, hc2⟩
        have SL1 := Lib.hid hs1
        clear hs1
        refine hK1.out _ _ (⟨hHeld.1.below hc2, hHeld.2.below hc2⟩) (fun hHeld => ?_)
        clear hK1 K1
        try simp only [Act.put, List.getElem_toArray, List.getElem_cons_succ, List.getElem_cons_zero, List.setIfInBounds_toArray, List.set_cons_zero, List.set_cons_succ]
        refine wpAnyH_ready (rs := [9]) (by kernel_rfl) (by simp) (AllReadyH.cons rfl (fun K1 hK1 => ?_) AllReadyH.nil)
        try simp only [Act.put, List.getElem_toArray, List.getElem_cons_succ, List.getElem_cons_zero, List.setIfInBounds_toArray, List.set_cons_zero, List.set_cons_succ]
        go_simp
        refine Calls.mono (HG2.out _ hHeld.2) ?_
        rintro e wa3 ⟨⟨A2, d2, rfl, hs2⟩, hc4⟩
        replace SL1 := Lib.hid ((SL1.out.below hc4).mono hc4.size)
        have SL2 := Lib.hid hs2
        clear hs2
        refine hK1.out _ _ (⟨hHeld.1.below hc4, hHeld.2.below hc4⟩) (fun hHeld => ?_)
        clear hK1 K1
        try simp only [Act.put, List.getElem_toArray, List.getElem_cons_succ, List.getElem_cons_zero, List.setIfInBounds_toArray, List.set_cons_zero, List.set_cons_succ]
        refine wpAnyH_ready (rs := [10]) (by kernel_rfl) (by simp) (AllReadyH.cons rfl (fun K1 hK1 => ?_) AllReadyH.nil)
        try simp only [Act.put, List.getElem_toArray, List.getElem_cons_succ, List.getElem_cons_zero, List.setIfInBounds_toArray, List.set_cons_zero, List.set_cons_succ]
        go_simp
        refine Calls.mono (HSm.out _ _ _ _ _ SL1.out SL2.out) ?_
        rintro e wa5 ⟨rfl, hc6⟩
        refine hK1.out _ _ (⟨hHeld.1.below hc6, hHeld.2.below hc6⟩) (fun hHeld => ?_)
        clear hK1 K1
        try simp only [Act.put, List.getElem_toArray, List.getElem_cons_succ, List.getElem_cons_zero, List.setIfInBounds_toArray, List.set_cons_zero, List.set_cons_succ]
        refine wpAnyH_take (i := 11) (v := .bool false) rfl (by kernel_rfl) (by kernel_rfl) (by kernel_rfl) (fun _ _ _ h => h) (Or.inl ⟨by rfl, fun w' hSw => by go_simp⟩) hHeld ?_
        try simp only [Act.put, List.getElem_toArray, List.getElem_cons_succ, List.getElem_cons_zero, List.setIfInBounds_toArray, List.set_cons_zero, List.set_cons_succ]
        refine wpAnyH_take (i := 12) (v := .bool false) rfl (by kernel_rfl) (by kernel_rfl) (by kernel_rfl) (fun _ _ _ h => h) (Or.inl ⟨by rfl, fun w' hSw => by go_simp⟩) hHeld ?_
        try simp only [Act.put, List.getElem_toArray, List.getElem_cons_succ, List.getElem_cons_zero, List.setIfInBounds_toArray, List.set_cons_zero, List.set_cons_succ]
        refine wpAnyH_take (i := 13) (v := .pointer (some ⟨K, 0, none⟩)) rfl (by kernel_rfl) (by kernel_rfl) (by kernel_rfl) (fun _ _ _ h => h) (Or.inl ⟨by rfl, fun w' hSw => by go_simp⟩) hHeld ?_
        try simp only [Act.put, List.getElem_toArray, List.getElem_cons_succ, List.getElem_cons_zero, List.setIfInBounds_toArray, List.set_cons_zero, List.set_cons_succ]
        refine wpAnyH_take (i := 15) (v := .pointer (some ⟨Y, 0, none⟩)) rfl (by kernel_rfl) (by kernel_rfl) (by kernel_rfl) (fun _ _ _ h => h) (Or.inl ⟨by rfl, fun w' hSw => by go_simp⟩) hHeld ?_
        try simp only [Act.put, List.getElem_toArray, List.getElem_cons_succ, List.getElem_cons_zero, List.setIfInBounds_toArray, List.set_cons_zero, List.set_cons_succ]
        refine wpAnyH_take (i := 16) (v := .pointer (some ⟨Y, 0, none⟩)) rfl (by kernel_rfl) (by kernel_rfl) (by kernel_rfl) (fun _ _ _ h => h) (Or.inl ⟨by rfl, fun w' hSw => by go_simp⟩) hHeld ?_
        try simp only [Act.put, List.getElem_toArray, List.getElem_cons_succ, List.getElem_cons_zero, List.setIfInBounds_toArray, List.set_cons_zero, List.set_cons_succ]
        refine wpAnyH_take (i := 17) (v := .pointer (some ⟨Y, 0, none⟩)) rfl (by kernel_rfl) (by kernel_rfl) (by kernel_rfl) (fun _ _ _ h => h) (Or.inl ⟨by rfl, fun w' hSw => by go_simp⟩) hHeld ?_
        try simp only [Act.put, List.getElem_toArray, List.getElem_cons_succ, List.getElem_cons_zero, List.setIfInBounds_toArray, List.set_cons_zero, List.set_cons_succ]
        refine wpAnyH_take (i := 18) (v := .slice (some ⟨G, 0, none⟩) 64 64) rfl (by kernel_rfl) (by kernel_rfl) (by kernel_rfl) (fun _ _ _ h => h) (Or.inl ⟨by rfl, fun w' hSw => by have hq := hSw; have hd := hq.2.y0; go_simp⟩) hHeld ?_
        try simp only [Act.put, List.getElem_toArray, List.getElem_cons_succ, List.getElem_cons_zero, List.setIfInBounds_toArray, List.set_cons_zero, List.set_cons_succ]
        refine wpAnyH_ready (rs := [14]) (by kernel_rfl) (by simp) (AllReadyH.cons rfl (fun K1 hK1 => ?_) AllReadyH.nil)
        try simp only [Act.put, List.getElem_toArray, List.getElem_cons_succ, List.getElem_cons_zero, List.setIfInBounds_toArray, List.set_cons_zero, List.set_cons_succ]
        go_simp
        refine Calls.mono (Sit.all hHeld.2) ?_
        rintro e wa7 ⟨rfl, hI, hc8⟩
        have HI := Lib.hid hI
        clear hI
        have hHeld2 := And.intro (hHeld.1.below hc8) (hHeld.2.below hc8)
        generalize wa5.heap.size = gI at *
        refine hK1.out _ _ (hHeld2) (fun hHeld => ?_)
        clear hK1 K1
        try simp only [Act.put, List.getElem_toArray, List.getElem_cons_succ, List.getElem_cons_zero, List.setIfInBounds_toArray, List.set_cons_zero, List.set_cons_succ]
        clear hHeld2
        refine wpAnyH_ready (rs := [19]) (by kernel_rfl) (by simp) (AllReadyH.cons rfl (fun K1 hK1 => ?_) AllReadyH.nil)
        try simp only [Act.put, List.getElem_toArray, List.getElem_cons_succ, List.getElem_cons_zero, List.setIfInBounds_toArray, List.set_cons_zero, List.set_cons_succ]
        go_simp
        refine Calls.mono (Sit.numbers gI hHeld.2 HI.out) ?_
        rintro e wa9 ⟨rfl, hc10⟩
        refine hK1.out _ _ (⟨hHeld.1.below hc10, hHeld.2.below hc10⟩) (fun hHeld => ?_)
        clear hK1 K1
        try simp only [Act.put, List.getElem_toArray, List.getElem_cons_succ, List.getElem_cons_zero, List.setIfInBounds_toArray, List.set_cons_zero, List.set_cons_succ]
        refine wpAnyH_take (i := 20) (v := .bool false) rfl (by kernel_rfl) (by kernel_rfl) (by kernel_rfl) (fun _ _ _ h => h) (Or.inl ⟨by rfl, fun w' hSw => by go_simp⟩) hHeld ?_
        try simp only [Act.put, List.getElem_toArray, List.getElem_cons_succ, List.getElem_cons_zero, List.setIfInBounds_toArray, List.set_cons_zero, List.set_cons_succ]
        refine wpAnyH_take (i := 21) (v := .bool false) rfl (by kernel_rfl) (by kernel_rfl) (by kernel_rfl) (fun _ _ _ h => h) (Or.inl ⟨by rfl, fun w' hSw => by go_simp⟩) hHeld ?_
        try simp only [Act.put, List.getElem_toArray, List.getElem_cons_succ, List.getElem_cons_zero, List.setIfInBounds_toArray, List.set_cons_zero, List.set_cons_succ]
        refine wpAnyH_done (by kernel_rfl) ?_ _
        refine NoPanic.normal ?_
        have HT9 := Lib.hid hHeld.2
        clear hHeld
        go_wp2_with fail
        exact ⟨⟨k + 1, L1, LK, (m + 1), by omega, by go_num, by omega, HT9.out⟩, by simp [intOf]; omega⟩
      have e2 : (kd == 2) = false := by simpa using k2
      by_cases k3 : kd = 3
      · subst k3
        clear HB1 HB2 HC1 HC2 HWS HR37 HR1 hzw
        go_wp2_with (first
          | ((with_reducible show wpList _ _ _ (⟨_, .load 53 (.tmp 60), _, _, _, _⟩ :: _) _ _); refine wpList_load_tx rfl 53 (.tmp 60) rfl ga (off + k * 39) rfl C _ (HXr.out _ HTT.out.low) Tryd.underlying53 rfl (by rw [act15_info, HA39.out]) ?_)
          | ((with_reducible show wpList _ _ _ (⟨_, .store 53 _ _, _, _, _, _⟩ :: _) _ _)
             refine wpList_store_at rfl 53 (.tmp 11) (.tmp 61) rfl wr.heap.size 0 C ZA _ rfl rfl (Row.new wr 53 ZA) (by have := HZ39.out; have := HA39.out; omega) (by rw [act15_info, HA39.out]) HA1.out ?_
             intro w4 hr hg
             rw [splice_all (HA39.out.trans HZ39.out.symm)] at hr
             have hb4 := below_of_alloc_store hg
             have HR4 := Lib.hid hr
             have HT4 := Lib.hid (HTT.out.below hb4)
             generalize wr.heap.size = g11 at *
             have ck := (HCa.out _ _ HR4.out).1
             have c2 := (HCa.out _ _ HR4.out).2.2.1
             have c4 := (HCa.out _ _ HR4.out).2.2.2.2.1
             clear hr hg hb4))
        clear hk5 hzv
        clear ck
        refine (HP1.out _ HT4.out).mono ?_
        rintro _ w5 ⟨⟨u1, rfl⟩, hT5, hk5⟩
        have HTa := Lib.hid hT5
        have HRa := Lib.hid (hk5 _ _ _ (by decide) (by decide) (by decide) (by decide) (by decide) HR4.out)
        clear hT5 hk5 c2 c4
        have c2 := (HCa.out _ _ HRa.out).2.2.1
        have c4 := (HCa.out _ _ HRa.out).2.2.2.2.1
        go_wp2_with fail
        refine (HP2.out _ HTa.out).mono ?_
        rintro _ w6 ⟨⟨u2, rfl⟩, hT5, hk5⟩
        have HT5 := Lib.hid hT5
        have HR5 := Lib.hid (hk5 _ _ _ (by decide) (by decide) (by decide) (by decide) (by decide) HRa.out)
        clear hT5 hk5 c2 c4
        go_wp2_with fail
        obtain ⟨q, hq9⟩ : ∃ q, (Au.ofR ro L).length = q := ⟨_, rfl⟩
        have HG1 : Hid (∀ W, Sit w W B w.heap.size X Y G K f L m L m PK PK → Calls Tryd.prog 28 #[.pointer (some ⟨B, 0, none⟩), .int .i64 ro] W fun e w' => (∃ A c, e = .returned (.slice A q c) ∧ SlB w' w'.heap.size A c (Au.ofR ro L)) ∧ Below W.heap.size W w') := Lib.hid (fun W h => by rw [← hq9]; exact Sit.bids ro HFr.out h)
        have HG2 : Hid (∀ W, Sit w W B w.heap.size X Y G K f L m L m PK PK → Calls Tryd.prog 29 #[.pointer (some ⟨X, 0, none⟩), .int .i64 ro] W fun e w' => (∃ A c, e = .returned (.slice A q c) ∧ SlB w' w'.heap.size A c (Au.ofR ro L)) ∧ Below W.heap.size W w') := Lib.hid (fun W h => by rw [← hq9]; exact Sit.rbids ro h (by omega))
        have HSm : Hid (∀ W A1 d1 A2 d2, SlB W W.heap.size A1 d1 (Au.ofR ro L) → SlB W W.heap.size A2 d2 (Au.ofR ro L) → Calls Tryd.prog 27 #[.slice A1 q d1, .slice A2 q d2] W fun e w' => e = .returned (.bool true) ∧ Below W.heap.size W w') := Lib.hid (fun W A1 d1 A2 d2 h1 h2 => by rw [← hq9]; exact same15_any true A1 A2 d1 d2 _ _ W h1 h2 (by simp))
        clear hq9
        refine wp_region_noPanic ?_
        refine wp_region_held_drew (S := fun w' => Row w' g11 53 C ∧ Sit w w' B w.heap.size X Y G K f L m L m PK PK) (by kernel_rfl) (⟨HR5.out, HT5.out.below (Below.refl _ _).drew⟩) (fun hHeld => ?_)
        generalize w6.drew = wq2 at *
        refine wpAnyH_take (i := 0) (v := .pointer (some ⟨B, 0, none⟩)) rfl (by kernel_rfl) (by kernel_rfl) (by kernel_rfl) (fun _ _ _ h => h) (Or.inl ⟨by rfl, fun w' hSw => by go_simp⟩) hHeld ?_
        try simp only [Act.put, List.getElem_toArray, List.getElem_cons_succ, List.getElem_cons_zero, List.setIfInBounds_toArray, List.set_cons_zero, List.set_cons_succ]
        refine wpAnyH_take (i := 1) (v := .pointer (some ⟨g11, 3, none⟩)) rfl (by kernel_rfl) (by kernel_rfl) (by kernel_rfl) (fun _ _ _ h => h) (Or.inl ⟨by rfl, fun w' hSw => by go_simp⟩) hHeld ?_
        try simp only [Act.put, List.getElem_toArray, List.getElem_cons_succ, List.getElem_cons_zero, List.setIfInBounds_toArray, List.set_cons_zero, List.set_cons_succ]
        refine wpAnyH_take (i := 2) (v := .pointer (some ⟨g11, 3, none⟩)) rfl (by kernel_rfl) (by kernel_rfl) (by kernel_rfl) (fun _ _ _ h => h) (Or.inl ⟨by rfl, fun w' hSw => by go_simp⟩) hHeld ?_
        try simp only [Act.put, List.getElem_toArray, List.getElem_cons_succ, List.getElem_cons_zero, List.setIfInBounds_toArray, List.set_cons_zero, List.set_cons_succ]
        refine wpAnyH_take (i := 3) (v := .int .i64 ro) rfl (by kernel_rfl) (by kernel_rfl) (by kernel_rfl) (fun _ _ _ h => h) (Or.inl ⟨by rfl, fun w' hSw => by have hq := hSw; have hd := (HCa.out _ _ hq.1).2.2.2.1; go_simp⟩) hHeld ?_
        try simp only [Act.put, List.getElem_toArray, List.getElem_cons_succ, List.getElem_cons_zero, List.setIfInBounds_toArray, List.set_cons_zero, List.set_cons_succ]
        refine wpAnyH_take (i := 5) (v := .pointer (some ⟨X, 0, none⟩)) rfl (by kernel_rfl) (by kernel_rfl) (by kernel_rfl) (fun _ _ _ h => h) (Or.inl ⟨by rfl, fun w' hSw => by go_simp⟩) hHeld ?_
        try simp only [Act.put, List.getElem_toArray, List.getElem_cons_succ, List.getElem_cons_zero, List.setIfInBounds_toArray, List.set_cons_zero, List.set_cons_succ]
        refine wpAnyH_take (i := 6) (v := .pointer (some ⟨g11, 3, none⟩)) rfl (by kernel_rfl) (by kernel_rfl) (by kernel_rfl) (fun _ _ _ h => h) (Or.inl ⟨by rfl, fun w' hSw => by go_simp⟩) hHeld ?_
        try simp only [Act.put, List.getElem_toArray, List.getElem_cons_succ, List.getElem_cons_zero, List.setIfInBounds_toArray, List.set_cons_zero, List.set_cons_succ]
        refine wpAnyH_take (i := 7) (v := .pointer (some ⟨g11, 3, none⟩)) rfl (by kernel_rfl) (by kernel_rfl) (by kernel_rfl) (fun _ _ _ h => h) (Or.inl ⟨by rfl, fun w' hSw => by go_simp⟩) hHeld ?_
        try simp only [Act.put, List.getElem_toArray, List.getElem_cons_succ, List.getElem_cons_zero, List.setIfInBounds_toArray, List.set_cons_zero, List.set_cons_succ]
        refine wpAnyH_take (i := 8) (v := .int .i64 ro) rfl (by kernel_rfl) (by kernel_rfl) (by kernel_rfl) (fun _ _ _ h => h) (Or.inl ⟨by rfl, fun w' hSw => by have hq := hSw; have hd := (HCa.out _ _ hq.1).2.2.2.1; go_simp⟩) hHeld ?_
        try simp only [Act.put, List.getElem_toArray, List.getElem_cons_succ, List.getElem_cons_zero, List.setIfInBounds_toArray, List.set_cons_zero, List.set_cons_succ]
        refine wpAnyH_ready (rs := [4]) (by kernel_rfl) (by simp) (AllReadyH.cons rfl (fun K1 hK1 => ?_) AllReadyH.nil)
        try simp only [Act.put, List.getElem_toArray, List.getElem_cons_succ, List.getElem_cons_zero, List.setIfInBounds_toArray, List.set_cons_zero, List.set_cons_succ]
        go_simp
        refine Calls.mono (HG1.out _ hHeld.2) ?_
        rintro e wa1 ⟨⟨A1, d1, rfl, hs1⟩, hc2⟩
        have SL1 := Lib.hid hs1
        clear hs1
        refine hK1.out _ _ (⟨hHeld.1.below hc2, hHeld.2.below hc2⟩) (fun hHeld => ?_)
        clear hK1 K1
        try simp only [Act.put, List.getElem_toArray, List.getElem_cons_succ, List.getElem_cons_zero, List.setIfInBounds_toArray, List.set_cons_zero, List.set_cons_succ]
        refine wpAnyH_ready (rs := [9]) (by kernel_rfl) (by simp) (AllReadyH.cons rfl (fun K1 hK1 => ?_) AllReadyH.nil)
        try simp only [Act.put, List.getElem_toArray, List.getElem_cons_succ, List.getElem_cons_zero, List.setIfInBounds_toArray, List.set_cons_zero, List.set_cons_succ]
        go_simp
        refine Calls.mono (HG2.out _ hHeld.2) ?_
        rintro e wa3 ⟨⟨A2, d2, rfl, hs2⟩, hc4⟩
        replace SL1 := Lib.hid ((SL1.out.below hc4).mono hc4.size)
        have SL2 := Lib.hid hs2
        clear hs2
        refine hK1.out _ _ (⟨hHeld.1.below hc4, hHeld.2.below hc4⟩) (fun hHeld => ?_)
        clear hK1 K1
        try simp only [Act.put, List.getElem_toArray, List.getElem_cons_succ, List.getElem_cons_zero, List.setIfInBounds_toArray, List.set_cons_zero, List.set_cons_succ]
        refine wpAnyH_ready (rs := [10]) (by kernel_rfl) (by simp) (AllReadyH.cons rfl (fun K1 hK1 => ?_) AllReadyH.nil)
        try simp only [Act.put, List.getElem_toArray, List.getElem_cons_succ, List.getElem_cons_zero, List.setIfInBounds_toArray, List.set_cons_zero, List.set_cons_succ]
        go_simp
        refine Calls.mono (HSm.out _ _ _ _ _ SL1.out SL2.out) ?_
        rintro e wa5 ⟨rfl, hc6⟩
        refine hK1.out _ _ (⟨hHeld.1.below hc6, hHeld.2.below hc6⟩) (fun hHeld => ?_)
        clear hK1 K1
        try simp only [Act.put, List.getElem_toArray, List.getElem_cons_succ, List.getElem_cons_zero, List.setIfInBounds_toArray, List.set_cons_zero, List.set_cons_succ]
        refine wpAnyH_take (i := 11) (v := .bool false) rfl (by kernel_rfl) (by kernel_rfl) (by kernel_rfl) (fun _ _ _ h => h) (Or.inl ⟨by rfl, fun w' hSw => by go_simp⟩) hHeld ?_
        try simp only [Act.put, List.getElem_toArray, List.getElem_cons_succ, List.getElem_cons_zero, List.setIfInBounds_toArray, List.set_cons_zero, List.set_cons_succ]
        refine wpAnyH_take (i := 12) (v := .bool false) rfl (by kernel_rfl) (by kernel_rfl) (by kernel_rfl) (fun _ _ _ h => h) (Or.inl ⟨by rfl, fun w' hSw => by go_simp⟩) hHeld ?_
        try simp only [Act.put, List.getElem_toArray, List.getElem_cons_succ, List.getElem_cons_zero, List.setIfInBounds_toArray, List.set_cons_zero, List.set_cons_succ]
        refine wpAnyH_take (i := 13) (v := .pointer (some ⟨K, 0, none⟩)) rfl (by kernel_rfl) (by kernel_rfl) (by kernel_rfl) (fun _ _ _ h => h) (Or.inl ⟨by rfl, fun w' hSw => by go_simp⟩) hHeld ?_
        try simp only [Act.put, List.getElem_toArray, List.getElem_cons_succ, List.getElem_cons_zero, List.setIfInBounds_toArray, List.set_cons_zero, List.set_cons_succ]
        refine wpAnyH_take (i := 15) (v := .pointer (some ⟨Y, 0, none⟩)) rfl (by kernel_rfl) (by kernel_rfl) (by kernel_rfl) (fun _ _ _ h => h) (Or.inl ⟨by rfl, fun w' hSw => by go_simp⟩) hHeld ?_
        try simp only [Act.put, List.getElem_toArray, List.getElem_cons_succ, List.getElem_cons_zero, List.setIfInBounds_toArray, List.set_cons_zero, List.set_cons_succ]
        refine wpAnyH_take (i := 16) (v := .pointer (some ⟨Y, 0, none⟩)) rfl (by kernel_rfl) (by kernel_rfl) (by kernel_rfl) (fun _ _ _ h => h) (Or.inl ⟨by rfl, fun w' hSw => by go_simp⟩) hHeld ?_
        try simp only [Act.put, List.getElem_toArray, List.getElem_cons_succ, List.getElem_cons_zero, List.setIfInBounds_toArray, List.set_cons_zero, List.set_cons_succ]
        refine wpAnyH_take (i := 17) (v := .pointer (some ⟨Y, 0, none⟩)) rfl (by kernel_rfl) (by kernel_rfl) (by kernel_rfl) (fun _ _ _ h => h) (Or.inl ⟨by rfl, fun w' hSw => by go_simp⟩) hHeld ?_
        try simp only [Act.put, List.getElem_toArray, List.getElem_cons_succ, List.getElem_cons_zero, List.setIfInBounds_toArray, List.set_cons_zero, List.set_cons_succ]
        refine wpAnyH_take (i := 18) (v := .slice (some ⟨G, 0, none⟩) 64 64) rfl (by kernel_rfl) (by kernel_rfl) (by kernel_rfl) (fun _ _ _ h => h) (Or.inl ⟨by rfl, fun w' hSw => by have hq := hSw; have hd := hq.2.y0; go_simp⟩) hHeld ?_
        try simp only [Act.put, List.getElem_toArray, List.getElem_cons_succ, List.getElem_cons_zero, List.setIfInBounds_toArray, List.set_cons_zero, List.set_cons_succ]
        refine wpAnyH_ready (rs := [14]) (by kernel_rfl) (by simp) (AllReadyH.cons rfl (fun K1 hK1 => ?_) AllReadyH.nil)
        try simp only [Act.put, List.getElem_toArray, List.getElem_cons_succ, List.getElem_cons_zero, List.setIfInBounds_toArray, List.set_cons_zero, List.set_cons_succ]
        go_simp
        refine Calls.mono (Sit.all hHeld.2) ?_
        rintro e wa7 ⟨rfl, hI, hc8⟩
        have HI := Lib.hid hI
        clear hI
        have hHeld2 := And.intro (hHeld.1.below hc8) (hHeld.2.below hc8)
        generalize wa5.heap.size = gI at *
        refine hK1.out _ _ (hHeld2) (fun hHeld => ?_)
        clear hK1 K1
        try simp only [Act.put, List.getElem_toArray, List.getElem_cons_succ, List.getElem_cons_zero, List.setIfInBounds_toArray, List.set_cons_zero, List.set_cons_succ]
        clear hHeld2
        refine wpAnyH_ready (rs := [19]) (by kernel_rfl) (by simp) (AllReadyH.cons rfl (fun K1 hK1 => ?_) AllReadyH.nil)
        try simp only [Act.put, List.getElem_toArray, List.getElem_cons_succ, List.getElem_cons_zero, List.setIfInBounds_toArray, List.set_cons_zero, List.set_cons_succ]
        go_simp
        refine Calls.mono (Sit.numbers gI hHeld.2 HI.out) ?_
        rintro e wa9 ⟨rfl, hc10⟩
        refine hK1.out _ _ (⟨hHeld.1.below hc10, hHeld.2.below hc10⟩) (fun hHeld => ?_)
        clear hK1 K1
        try simp only [Act.put, List.getElem_toArray, List.getElem_cons_succ, List.getElem_cons_zero, List.setIfInBounds_toArray, List.set_cons_zero, List.set_cons_succ]
        refine wpAnyH_take (i := 20) (v := .bool false) rfl (by kernel_rfl) (by kernel_rfl) (by kernel_rfl) (fun _ _ _ h => h) (Or.inl ⟨by rfl, fun w' hSw => by go_simp⟩) hHeld ?_
        try simp only [Act.put, List.getElem_toArray, List.getElem_cons_succ, List.getElem_cons_zero, List.setIfInBounds_toArray, List.set_cons_zero, List.set_cons_succ]
        refine wpAnyH_take (i := 21) (v := .bool false) rfl (by kernel_rfl) (by kernel_rfl) (by kernel_rfl) (fun _ _ _ h => h) (Or.inl ⟨by rfl, fun w' hSw => by go_simp⟩) hHeld ?_
        try simp only [Act.put, List.getElem_toArray, List.getElem_cons_succ, List.getElem_cons_zero, List.setIfInBounds_toArray, List.set_cons_zero, List.set_cons_succ]
        refine wpAnyH_done (by kernel_rfl) ?_ _
        refine NoPanic.normal ?_
        have HT9 := Lib.hid hHeld.2
        clear hHeld
        go_wp2_with fail
        exact ⟨⟨k + 1, L, PK, m, by omega, by go_num, by omega, HT9.out⟩, by simp [intOf]; omega⟩
      have e3 : (kd == 3) = false := by simpa using k3
      clear k0 k1 k2 k3
      clear HB1 HB2 HP1 HP2
      have hws := HWS.out
      go_wp2_with (first
        | ((with_reducible show wpList _ _ _ (⟨_, .load 53 (.tmp 60), _, _, _, _⟩ :: _) _ _); refine wpList_load_tx rfl 53 (.tmp 60) rfl ga (off + k * 39) rfl C _ (HXr.out _ HTT.out.low) Tryd.underlying53 rfl (by rw [act15_info, HA39.out]) ?_)
        | ((with_reducible show wpList _ _ _ (⟨_, .store 53 _ _, _, _, _, _⟩ :: _) _ _)
           refine wpList_store_at rfl 53 (.tmp 11) (.tmp 61) rfl wr.heap.size 0 C ZA _ rfl rfl (Row.new wr 53 ZA) (by have := HZ39.out; have := HA39.out; omega) (by rw [act15_info, HA39.out]) HA1.out ?_
           intro w4 hr hg
           rw [splice_all (HA39.out.trans HZ39.out.symm)] at hr
           have hb4 := below_of_alloc_store hg
           have HR4 := Lib.hid hr
           have HT4 := Lib.hid (HTT.out.below hb4)
           generalize wr.heap.size = g11 at *
           have ck := (HCa.out _ _ HR4.out).1
           have c3 := (HCa.out _ _ HR4.out).2.2.2.1
           clear hr hg hb4))
      clear hk5 hzv
      clear ck
      refine (HC1.out _ HT4.out).mono ?_
      rintro _ w5 ⟨rfl, hT5, hk5⟩
      have HTa := Lib.hid hT5
      have HRa := Lib.hid (hk5 _ _ _ (by decide) (by decide) (by decide) (by decide) (by decide) HR4.out)
      clear hT5 hk5 c3
      go_wp2_with (first
        | ((with_reducible show wpList _ _ _ (⟨_, .store 32 (.tmp 12) _, _, _, _, _⟩ :: _) _ _)
           refine wpList_store_at rfl 32 (.tmp 12) (.tmp 71) rfl w5.heap.size 0 CR ZW _ rfl rfl (Row.new w5 32 ZW) (by have := HZ37.out; have := HR37.out; omega) (by rw [win_size, HR37.out]) HR1.out ?_
           intro w6 hr hg
           rw [splice_all (HR37.out.trans HZ37.out.symm)] at hr
           have hb4 := below_of_alloc_store hg
           have HWb := Lib.hid hr
           have HTb := Lib.hid (HTa.out.below hb4)
           have HRb := Lib.hid (HRa.out.below hb4)
           have c3 := (HCa.out _ _ HRb.out).2.2.2.1
           generalize w5.heap.size = g12 at *
           clear hr hg hb4))
      refine (HC2.out _ HTb.out).mono ?_
      rintro _ w7 ⟨rfl, hT5, hk5⟩
      have HTc := Lib.hid hT5
      have HRc := Lib.hid (hk5 _ _ _ (by decide) (by decide) (by decide) (by decide) (by decide) HRb.out)
      have HWc := Lib.hid (hk5 _ _ _ (by decide) (by decide) (by decide) (by decide) (by decide) HWb.out)
      clear hT5 hk5 c3
      go_wp2_with (first
        | ((with_reducible show wpList _ _ _ (⟨_, .load 32 (.tmp 12), _, _, _, _⟩ :: _) _ _); refine wpList_load_tx rfl 32 (.tmp 12) rfl g12 0 (rfl) CR _ (row_range HWd.out) Tryd.underlying32 rfl (by rw [win_size, HR37.out]) ?_)
        | ((with_reducible show wpList _ _ _ (⟨_, .load 32 (.tmp 14), _, _, _, _⟩ :: _) _ _); refine wpList_load_tx rfl 32 (.tmp 14) rfl g14 0 (rfl) CR _ (row_range HWe.out) Tryd.underlying32 rfl (by rw [win_size, HR37.out]) ?_)
        | ((with_reducible show wpList _ _ _ (⟨_, .store 32 (.tmp 14) _, _, _, _, _⟩ :: _) _ _)
           refine wpList_store_at rfl 32 (.tmp 14) (.tmp 80) rfl w7.heap.size 0 CR ZW _ rfl rfl (Row.new w7 32 ZW) (by have := HZ37.out; have := HR37.out; omega) (by rw [win_size, HR37.out]) HR1.out ?_
           intro w8 hr hg
           rw [splice_all (HR37.out.trans HZ37.out.symm)] at hr
           have hb4 := below_of_alloc_store hg
           have HWe := Lib.hid hr
           have HT5 := Lib.hid (HTc.out.below hb4)
           have HR5 := Lib.hid (HRc.out.below hb4)
           have HWd := Lib.hid (HWc.out.below hb4)
           generalize w7.heap.size = g14 at *
           clear hr hg hb4))
      clear hws
      obtain ⟨q, hq9⟩ : ∃ q, (Au.ofR ro D9).length = q := ⟨_, rfl⟩
      have HG1 : Hid (∀ W, Sit w W B w.heap.size X Y G K f D9 (m + 1) D9 (m + 1) TK TK → Calls Tryd.prog 28 #[.pointer (some ⟨B, 0, none⟩), .int .i64 ro] W fun e w' => (∃ A c, e = .returned (.slice A q c) ∧ SlB w' w'.heap.size A c (Au.ofR ro D9)) ∧ Below W.heap.size W w') := Lib.hid (fun W h => by rw [← hq9]; exact Sit.bids ro HFr.out h)
      have HG2 : Hid (∀ W, Sit w W B w.heap.size X Y G K f D9 (m + 1) D9 (m + 1) TK TK → Calls Tryd.prog 29 #[.pointer (some ⟨X, 0, none⟩), .int .i64 ro] W fun e w' => (∃ A c, e = .returned (.slice A q c) ∧ SlB w' w'.heap.size A c (Au.ofR ro D9)) ∧ Below W.heap.size W w') := Lib.hid (fun W h => by rw [← hq9]; exact Sit.rbids ro h (by omega))
      have HSm : Hid (∀ W A1 d1 A2 d2, SlB W W.heap.size A1 d1 (Au.ofR ro D9) → SlB W W.heap.size A2 d2 (Au.ofR ro D9) → Calls Tryd.prog 27 #[.slice A1 q d1, .slice A2 q d2] W fun e w' => e = .returned (.bool true) ∧ Below W.heap.size W w') := Lib.hid (fun W A1 d1 A2 d2 h1 h2 => by rw [← hq9]; exact same15_any true A1 A2 d1 d2 _ _ W h1 h2 (by simp))
      clear hq9
      refine wp_region_noPanic ?_
      refine wp_region_held_drew (S := fun w' => Row w' g11 53 C ∧ Sit w w' B w.heap.size X Y G K f D9 (m + 1) D9 (m + 1) TK TK) (by kernel_rfl) (⟨HR5.out, HT5.out.below (Below.refl _ _).drew⟩) (fun hHeld => ?_)
      generalize w8.drew = wq2 at *
      refine wpAnyH_take (i := 0) (v := .pointer (some ⟨B, 0, none⟩)) rfl (by kernel_rfl) (by kernel_rfl) (by kernel_rfl) (fun _ _ _ h => h) (Or.inl ⟨by rfl, fun w' hSw => by go_simp⟩) hHeld ?_
      try simp only [Act.put, List.getElem_toArray, List.getElem_cons_succ, List.getElem_cons_zero, List.setIfInBounds_toArray, List.set_cons_zero, List.set_cons_succ]
      refine wpAnyH_take (i := 1) (v := .pointer (some ⟨g11, 3, none⟩)) rfl (by kernel_rfl) (by kernel_rfl) (by kernel_rfl) (fun _ _ _ h => h) (Or.inl ⟨by rfl, fun w' hSw => by go_simp⟩) hHeld ?_
      try simp only [Act.put, List.getElem_toArray, List.getElem_cons_succ, List.getElem_cons_zero, List.setIfInBounds_toArray, List.set_cons_zero, List.set_cons_succ]
      refine wpAnyH_take (i := 2) (v := .pointer (some ⟨g11, 3, none⟩)) rfl (by kernel_rfl) (by kernel_rfl) (by kernel_rfl) (fun _ _ _ h => h) (Or.inl ⟨by rfl, fun w' hSw => by go_simp⟩) hHeld ?_
      try simp only [Act.put, List.getElem_toArray, List.getElem_cons_succ, List.getElem_cons_zero, List.setIfInBounds_toArray, List.set_cons_zero, List.set_cons_succ]
      refine wpAnyH_take (i := 3) (v := .int .i64 ro) rfl (by kernel_rfl) (by kernel_rfl) (by kernel_rfl) (fun _ _ _ h => h) (Or.inl ⟨by rfl, fun w' hSw => by have hq := hSw; have hd := (HCa.out _ _ hq.1).2.2.2.1; go_simp⟩) hHeld ?_
      try simp only [Act.put, List.getElem_toArray, List.getElem_cons_succ, List.getElem_cons_zero, List.setIfInBounds_toArray, List.set_cons_zero, List.set_cons_succ]
      refine wpAnyH_take (i := 5) (v := .pointer (some ⟨X, 0, none⟩)) rfl (by kernel_rfl) (by kernel_rfl) (by kernel_rfl) (fun _ _ _ h => h) (Or.inl ⟨by rfl, fun w' hSw => by go_simp⟩) hHeld ?_
      try simp only [Act.put, List.getElem_toArray, List.getElem_cons_succ, List.getElem_cons_zero, List.setIfInBounds_toArray, List.set_cons_zero, List.set_cons_succ]
      refine wpAnyH_take (i := 6) (v := .pointer (some ⟨g11, 3, none⟩)) rfl (by kernel_rfl) (by kernel_rfl) (by kernel_rfl) (fun _ _ _ h => h) (Or.inl ⟨by rfl, fun w' hSw => by go_simp⟩) hHeld ?_
      try simp only [Act.put, List.getElem_toArray, List.getElem_cons_succ, List.getElem_cons_zero, List.setIfInBounds_toArray, List.set_cons_zero, List.set_cons_succ]
      refine wpAnyH_take (i := 7) (v := .pointer (some ⟨g11, 3, none⟩)) rfl (by kernel_rfl) (by kernel_rfl) (by kernel_rfl) (fun _ _ _ h => h) (Or.inl ⟨by rfl, fun w' hSw => by go_simp⟩) hHeld ?_
      try simp only [Act.put, List.getElem_toArray, List.getElem_cons_succ, List.getElem_cons_zero, List.setIfInBounds_toArray, List.set_cons_zero, List.set_cons_succ]
      refine wpAnyH_take (i := 8) (v := .int .i64 ro) rfl (by kernel_rfl) (by kernel_rfl) (by kernel_rfl) (fun _ _ _ h => h) (Or.inl ⟨by rfl, fun w' hSw => by have hq := hSw; have hd := (HCa.out _ _ hq.1).2.2.2.1; go_simp⟩) hHeld ?_
      try simp only [Act.put, List.getElem_toArray, List.getElem_cons_succ, List.getElem_cons_zero, List.setIfInBounds_toArray, List.set_cons_zero, List.set_cons_succ]
      refine wpAnyH_ready (rs := [4]) (by kernel_rfl) (by simp) (AllReadyH.cons rfl (fun K1 hK1 => ?_) AllReadyH.nil)
      try simp only [Act.put, List.getElem_toArray, List.getElem_cons_succ, List.getElem_cons_zero, List.setIfInBounds_toArray, List.set_cons_zero, List.set_cons_succ]
      go_simp
      refine Calls.mono (HG1.out _ hHeld.2) ?_
      rintro e wa1 ⟨⟨A1, d1, rfl, hs1⟩, hc2⟩
      have SL1 := Lib.hid hs1
      clear hs1
      refine hK1.out _ _ (⟨hHeld.1.below hc2, hHeld.2.below hc2⟩) (fun hHeld => ?_)
      clear hK1 K1
      try simp only [Act.put, List.getElem_toArray, List.getElem_cons_succ, List.getElem_cons_zero, List.setIfInBounds_toArray, List.set_cons_zero, List.set_cons_succ]
      refine wpAnyH_ready (rs := [9]) (by kernel_rfl) (by simp) (AllReadyH.cons rfl (fun K1 hK1 => ?_) AllReadyH.nil)
      try simp only [Act.put, List.getElem_toArray, List.getElem_cons_succ, List.getElem_cons_zero, List.setIfInBounds_toArray, List.set_cons_zero, List.set_cons_succ]
      go_simp
      refine Calls.mono (HG2.out _ hHeld.2) ?_
      rintro e wa3 ⟨⟨A2, d2, rfl, hs2⟩, hc4⟩
      replace SL1 := Lib.hid ((SL1.out.below hc4).mono hc4.size)
      have SL2 := Lib.hid hs2
      clear hs2
      refine hK1.out _ _ (⟨hHeld.1.below hc4, hHeld.2.below hc4⟩) (fun hHeld => ?_)
      clear hK1 K1
      try simp only [Act.put, List.getElem_toArray, List.getElem_cons_succ, List.getElem_cons_zero, List.setIfInBounds_toArray, List.set_cons_zero, List.set_cons_succ]
      refine wpAnyH_ready (rs := [10]) (by kernel_rfl) (by simp) (AllReadyH.cons rfl (fun K1 hK1 => ?_) AllReadyH.nil)
      try simp only [Act.put, List.getElem_toArray, List.getElem_cons_succ, List.getElem_cons_zero, List.setIfInBounds_toArray, List.set_cons_zero, List.set_cons_succ]
      go_simp
      refine Calls.mono (HSm.out _ _ _ _ _ SL1.out SL2.out) ?_
      rintro e wa5 ⟨rfl, hc6⟩
      refine hK1.out _ _ (⟨hHeld.1.below hc6, hHeld.2.below hc6⟩) (fun hHeld => ?_)
      clear hK1 K1
      try simp only [Act.put, List.getElem_toArray, List.getElem_cons_succ, List.getElem_cons_zero, List.setIfInBounds_toArray, List.set_cons_zero, List.set_cons_succ]
      refine wpAnyH_take (i := 11) (v := .bool false) rfl (by kernel_rfl) (by kernel_rfl) (by kernel_rfl) (fun _ _ _ h => h) (Or.inl ⟨by rfl, fun w' hSw => by go_simp⟩) hHeld ?_
      try simp only [Act.put, List.getElem_toArray, List.getElem_cons_succ, List.getElem_cons_zero, List.setIfInBounds_toArray, List.set_cons_zero, List.set_cons_succ]
      refine wpAnyH_take (i := 12) (v := .bool false) rfl (by kernel_rfl) (by kernel_rfl) (by kernel_rfl) (fun _ _ _ h => h) (Or.inl ⟨by rfl, fun w' hSw => by go_simp⟩) hHeld ?_
      try simp only [Act.put, List.getElem_toArray, List.getElem_cons_succ, List.getElem_cons_zero, List.setIfInBounds_toArray, List.set_cons_zero, List.set_cons_succ]
      refine wpAnyH_take (i := 13) (v := .pointer (some ⟨K, 0, none⟩)) rfl (by kernel_rfl) (by kernel_rfl) (by kernel_rfl) (fun _ _ _ h => h) (Or.inl ⟨by rfl, fun w' hSw => by go_simp⟩) hHeld ?_
      try simp only [Act.put, List.getElem_toArray, List.getElem_cons_succ, List.getElem_cons_zero, List.setIfInBounds_toArray, List.set_cons_zero, List.set_cons_succ]
      refine wpAnyH_take (i := 15) (v := .pointer (some ⟨Y, 0, none⟩)) rfl (by kernel_rfl) (by kernel_rfl) (by kernel_rfl) (fun _ _ _ h => h) (Or.inl ⟨by rfl, fun w' hSw => by go_simp⟩) hHeld ?_
      try simp only [Act.put, List.getElem_toArray, List.getElem_cons_succ, List.getElem_cons_zero, List.setIfInBounds_toArray, List.set_cons_zero, List.set_cons_succ]
      refine wpAnyH_take (i := 16) (v := .pointer (some ⟨Y, 0, none⟩)) rfl (by kernel_rfl) (by kernel_rfl) (by kernel_rfl) (fun _ _ _ h => h) (Or.inl ⟨by rfl, fun w' hSw => by go_simp⟩) hHeld ?_
      try simp only [Act.put, List.getElem_toArray, List.getElem_cons_succ, List.getElem_cons_zero, List.setIfInBounds_toArray, List.set_cons_zero, List.set_cons_succ]
      refine wpAnyH_take (i := 17) (v := .pointer (some ⟨Y, 0, none⟩)) rfl (by kernel_rfl) (by kernel_rfl) (by kernel_rfl) (fun _ _ _ h => h) (Or.inl ⟨by rfl, fun w' hSw => by go_simp⟩) hHeld ?_
      try simp only [Act.put, List.getElem_toArray, List.getElem_cons_succ, List.getElem_cons_zero, List.setIfInBounds_toArray, List.set_cons_zero, List.set_cons_succ]
      refine wpAnyH_take (i := 18) (v := .slice (some ⟨G, 0, none⟩) 64 64) rfl (by kernel_rfl) (by kernel_rfl) (by kernel_rfl) (fun _ _ _ h => h) (Or.inl ⟨by rfl, fun w' hSw => by have hq := hSw; have hd := hq.2.y0; go_simp⟩) hHeld ?_
      try simp only [Act.put, List.getElem_toArray, List.getElem_cons_succ, List.getElem_cons_zero, List.setIfInBounds_toArray, List.set_cons_zero, List.set_cons_succ]
      refine wpAnyH_ready (rs := [14]) (by kernel_rfl) (by simp) (AllReadyH.cons rfl (fun K1 hK1 => ?_) AllReadyH.nil)
      try simp only [Act.put, List.getElem_toArray, List.getElem_cons_succ, List.getElem_cons_zero, List.setIfInBounds_toArray, List.set_cons_zero, List.set_cons_succ]
      go_simp
      refine Calls.mono (Sit.all hHeld.2) ?_
      rintro e wa7 ⟨rfl, hI, hc8⟩
      have HI := Lib.hid hI
      clear hI
      have hHeld2 := And.intro (hHeld.1.below hc8) (hHeld.2.below hc8)
      generalize wa5.heap.size = gI at *
      refine hK1.out _ _ (hHeld2) (fun hHeld => ?_)
      clear hK1 K1
      try simp only [Act.put, List.getElem_toArray, List.getElem_cons_succ, List.getElem_cons_zero, List.setIfInBounds_toArray, List.set_cons_zero, List.set_cons_succ]
      clear hHeld2
      refine wpAnyH_ready (rs := [19]) (by kernel_rfl) (by simp) (AllReadyH.cons rfl (fun K1 hK1 => ?_) AllReadyH.nil)
      try simp only [Act.put, List.getElem_toArray, List.getElem_cons_succ, List.getElem_cons_zero, List.setIfInBounds_toArray, List.set_cons_zero, List.set_cons_succ]
      go_simp
      refine Calls.mono (Sit.numbers gI hHeld.2 HI.out) ?_
      rintro e wa9 ⟨rfl, hc10⟩
      refine hK1.out _ _ (⟨hHeld.1.below hc10, hHeld.2.below hc10⟩) (fun hHeld => ?_)
      clear hK1 K1
      try simp only [Act.put, List.getElem_toArray, List.getElem_cons_succ, List.getElem_cons_zero, List.setIfInBounds_toArray, List.set_cons_zero, List.set_cons_succ]
      refine wpAnyH_take (i := 20) (v := .bool false) rfl (by kernel_rfl) (by kernel_rfl) (by kernel_rfl) (fun _ _ _ h => h) (Or.inl ⟨by rfl, fun w' hSw => by go_simp⟩) hHeld ?_
      try simp only [Act.put, List.getElem_toArray, List.getElem_cons_succ, List.getElem_cons_zero, List.setIfInBounds_toArray, List.set_cons_zero, List.set_cons_succ]
      refine wpAnyH_take (i := 21) (v := .bool false) rfl (by kernel_rfl) (by kernel_rfl) (by kernel_rfl) (fun _ _ _ h => h) (Or.inl ⟨by rfl, fun w' hSw => by go_simp⟩) hHeld ?_
      try simp only [Act.put, List.getElem_toArray, List.getElem_cons_succ, List.getElem_cons_zero, List.setIfInBounds_toArray, List.set_cons_zero, List.set_cons_succ]
      refine wpAnyH_done (by kernel_rfl) ?_ _
      refine NoPanic.normal ?_
      have HT9 := Lib.hid hHeld.2
      clear hHeld
      go_wp2_with fail
      exact ⟨⟨k + 1, D9, TK, (m + 1), by omega, by go_num, by omega, HT9.out⟩, by simp [intOf]; omega⟩
    · have key : ∀ (Q : Prop), ((¬ k < n → Q) ∧ (k < n → ¬ k < 120 → Q)) → Q := fun Q h => by
        by_cases q : k < n
        · exact h.2 q (fun q2 => hkn ⟨q, q2⟩)
        · exact h.1 q
      clear hkn
      refine key _ ⟨fun q => ?_, fun q q2 => ?_⟩
      · have hki : (n : Int) ≤ (k : Int) := by omega
        clear q key
        go_wp2_with fail
        go_ret
        exact ⟨rfl, HTT.out.low⟩
      · have hki : (k : Int) < (n : Int) := by omega
        have hk5 : (120 : Int) ≤ (k : Int) := by omega
        clear q q2 key
        go_wp2_with fail
        go_ret
        exact ⟨rfl, HTT.out.low⟩
end Go.Proofs.YtlapmdgkcidhnaaDoor
