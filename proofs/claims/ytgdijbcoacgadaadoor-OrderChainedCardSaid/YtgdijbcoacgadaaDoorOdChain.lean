/- the law OrderChained: its walk. -/
import Derived.Test.YtgdijbcoacgadaaDoorOdChainM
import Derived.Test.YtgdijbcoacgadaaDoorOrRread
namespace Go.Proofs.YtgdijbcoacgadaaDoor
open Go.RowKit
set_option linter.unusedVariables false
set_option linter.unusedSimpArgs false
set_option maxRecDepth 100000

set_option maxHeartbeats 12800000 in
theorem orderChained_any (hRS : RefSum) (l : List Act19) (A0 : Option Addr) (c0 : Nat) (w : World) (hin : Act19sAt w w.heap.size A0 l) (hT : Tab w) :
    Calls Tryd.prog 4 #[.slice A0 l.length c0] w fun e w' => e = .returned (.bool true) ∧ Below w.heap.size w w' := by
  have MD := Lib.hid (made19_any l A0 c0 w hin hT)
  have AW : Hid (∀ W, Below w.heap.size w W → Calls Tryd.prog 9 #[] W fun e w' => e = .returned (.bool true) ∧ Below W.heap.size W w') := Lib.hid (fun W hW => awake19_any W (hT.below hW hT.pos))
  have hle : (Od.made l).length ≤ 40 := Od.madeK_len l 40
  generalize Od.made l = rs at *
  generalize l.length = n0 at *
  clear hin hT
  have HZ32 := Lib.hid (Tx.bRow_len Tx.zero rfl)
  have HZh1 : Hid (∀ v ∈ (bRow Tx.zero).toList, v.oneCell' = true) := Lib.hid (hash_one _ rfl)
  have hzh : ∀ W : World, (zeroValue 28).run Tryd.prog W = .ok (.agg (bRow Tx.zero).toList.toArray) W := fun W => by rw [Array.toArray_toList]; exact hash_zv W
  have HBh : Hid (Tryd.prog.built 28 [] = some (bRow Tx.zero).toList.toArray) := Lib.hid (by rw [Array.toArray_toList]; exact hash_built)
  obtain ⟨ZH, hZH⟩ : ∃ ZH, (bRow Tx.zero).toList = ZH := ⟨_, rfl⟩
  rw [hZH] at HZ32 HZh1 hzh HBh
  have HZH := Lib.hid hZH
  clear hZH
  have hzv := rp_zv
  have HBt : Hid (Tryd.prog.built 30 [] = some Rp.zero.cells.toArray) := Lib.hid Rp.zero_built0
  have HZ68 := Lib.hid (Rp.cells_len Rp.zero_fits.prev Rp.zero_fits.hash)
  have HZ1 := Lib.hid (Rp.cells_one Rp.zero_fits.prev Rp.zero_fits.hash)
  obtain ⟨ZT, hZT⟩ : ∃ ZT, Rp.zero.cells = ZT := ⟨_, rfl⟩
  rw [hZT] at hzv HBt HZ68 HZ1
  have HZT := Lib.hid hZT
  clear hZT
  go_enter Tryd.func4, Tryd.ntmps4
  go_wp2_with fail
  refine MD.out.mono ?_
  rintro _ w1 ⟨rfl, ha1⟩
  have HU1 := Lib.hid ha1
  have HGd := Lib.hid ha1.good
  have hlen := Lib.hid hle
  clear ha1 MD
  obtain ⟨B, hB⟩ : ∃ B, w.heap.size = B := ⟨_, rfl⟩
  have HU1' : Hid (AwL w w1 B rs []) := by rw [← hB]; exact HU1
  rw [show (Value.pointer (some ⟨w.heap.size, 0, none⟩)) = .pointer (some ⟨B, 0, none⟩) by rw [hB]]
  clear HU1 hB
  go_wp2_with fail
  refine (AW.out _ HU1'.out.low).mono ?_
  rintro _ w2 ⟨rfl, hb2⟩
  have HU2 := Lib.hid (HU1'.out.below hb2)
  clear hb2 HU1' AW
  go_wp2_with fail
  refine HU2.out.all.mono ?_
  rintro _ w3 ⟨⟨u, rfl, ho⟩, hb3⟩
  obtain ⟨A, c, rfl, hs3⟩ := ho.slR19 HGd.out.fits (by have := hlen.out; omega)
  have HS3 := Lib.hid hs3
  have HU3 := Lib.hid (HU2.out.below hb3)
  clear ho hb3 hs3 HU2
  obtain ⟨n, hn⟩ : ∃ n, rs.length = n := ⟨_, rfl⟩
  rw [hn]
  have HN := Lib.hid hn
  have hn40 : n ≤ 40 := by have := hlen.out; omega
  clear hn
  have hmk : ∀ W : World, (Instr.makeSlice 47 (.int .i64 64) (.int .i64 64)).run Tryd.prog W = .ok (.slice (some ⟨W.heap.size, 0, none⟩) 64 64) (W.alloc (.cells (Is (Od.nexts [])).toArray 3)) := fun W => by kernel_rfl
  obtain ⟨Z64, hZ64⟩ : ∃ Z64, Is (Od.nexts []) = Z64 := ⟨_, rfl⟩
  rw [hZ64] at hmk
  have HZ64 := Lib.hid hZ64
  clear hZ64
  go_wp2_with (first
  | ((with_reducible show wpList _ _ _ (⟨_, .build 28 _, _, _, _, _⟩ :: _) _ _); refine wpList_buildL rfl 28 [] rfl (some 22) rfl _ rfl ZH.toArray HBh.out ?_)
  | (
     with_reducible show wpList _ _ _ (⟨_, .store 28 (.tmp 5) _, _, _, _, _⟩ :: _) _ _
     refine wpList_store_at rfl 28 (.tmp 5) (.tmp 22) rfl w3.heap.size 0 ZH ZH _ rfl rfl (Row.new w3 28 ZH) (by have := HZ32.out; have := HZ32.out; omega) (by rw [hash_info, HZ32.out]) HZh1.out ?_
     intro w4 hr hg
     rw [splice_all (HZ32.out.trans HZ32.out.symm)] at hr
     have hbx := below_own ((Below.refl w3.heap.size w3).alloc (Nat.le_refl _) (.cells ZH.toArray 28)) hg (fun k hk => by cases hk; exact Nat.le_refl _)
     have HU4 := Lib.hid (HU3.out.below hbx)
     have HS4 := Lib.hid ((HS3.out.below hbx))
     have HR4 := Lib.hid hr
     have HB34 := Lib.hid hbx
     clear hbx
     clear hr hg))
  have hb5 := (Below.refl w4.heap.size w4).alloc (Nat.le_refl _) (.cells Z64.toArray 3)
  have HR5 := Lib.hid (HR4.out.below hb5)
  have HR6 := Lib.hid (Row.new w4 3 Z64)
  have HS5 := Lib.hid (HS4.out.below (hb5.mono (Nat.le_of_lt HR4.out.lt)))
  have HG56 := Lib.hid HR4.out.lt
  have HGw := Lib.hid HU3.out.low.size
  obtain ⟨v, dv, hl3, _, _⟩ := HU3.out
  have HLt : Hid (∀ k, LS B v dv k → k < w3.heap.size) := Lib.hid (fun k hk => (hl3.lt k hk).2)
  have HL5 := Lib.hid ((hl3.below HB34.out).below hb5)
  have HLow5 := Lib.hid (two_below' HU4.out.low hb5)
  clear hl3 hb5 HR4 HS4 HU3 HU4 HS3 HB34
  generalize w4.alloc (.cells Z64.toArray 3) = w5 at *
  generalize w3.heap.size = g5 at *
  generalize w4.heap.size = g6 at *
  clear hmk
  have HSt : Hid (Row w5 g5 28 (bRow (Od.head (rs.take 0))).toList ∧ Row w5 g6 3 (Is (Od.nexts (rs.take 0))) ∧ Chg (fun q => q = g5 ∨ q = g6) w5 w5) := Lib.hid ⟨by rw [List.take_zero, Od.head_nil, HZH.out]; exact HR5.out, by rw [List.take_zero, HZ64.out]; exact HR6.out, Chg.refl _ _⟩
  clear HR5 HR6 HZ64
  have HRng : Hid (∀ W i (hi : i < rs.length), Chg (fun q => q = g5 ∨ q = g6) w5 W → ∃ gA oA, A = some ⟨gA, oA, none⟩ ∧ gA < W.heap.size ∧ W.rangeAt gA (oA + i * 68) rs[i].cells) := Lib.hid (fun W i hi hc => by
    obtain ⟨gA, oA, e, hg, _⟩ := HS5.out.1 (by intro e; rw [e] at hi; simp at hi)
    have hs := HS5.out.chg hc (by have := HG56.out; have := HSt.out.2.1.lt; omega) (fun a ha q => by
      rw [e] at ha
      injection ha with ha
      subst ha
      have := HG56.out
      simp only at q
      omega)
    obtain ⟨g2, o2, e2, _, hat⟩ := hs.1 (by intro e; rw [e] at hi; simp at hi)
    exact ⟨g2, o2, e2, by rw [e] at e2; injection e2 with e2; injection e2 with e2; have := HG56.out; have := HSt.out.2.1.lt; have := hc.size; omega, hat i hi⟩)
  go_loopw [7] (fun s7 wr => ∃ i : Nat, i ≤ n ∧ s7 = .int .i64 i ∧ Row wr g5 28 (bRow (Od.head (rs.take i))).toList ∧ Row wr g6 3 (Is (Od.nexts (rs.take i))) ∧ Chg (fun q => q = g5 ∨ q = g6) w5 wr) (fun s7 _ => n - (intOf s7).toNat)
  case atStart => exact ⟨0, Nat.zero_le _, rfl, HSt.out⟩
  case round =>
    obtain ⟨i, hi, rfl, hr5, hr6, hch⟩ := hrel
    have HR5 := Lib.hid hr5
    have HR6 := Lib.hid hr6
    have HCh := Lib.hid hch
    clear hr5 hr6 hch HSt
    have hi0 : (0 : Int) ≤ (i : Int) := by omega
    by_cases hin : i < n
    · have hii : (i : Int) < (n : Int) := by omega
      have hil : i < rs.length := by rw [HN.out]; exact hin
      obtain ⟨gA, oA, rfl, hgA, hrg⟩ := HRng.out _ i hil HCh.out
      have HKf := Lib.hid (HGd.out.fits _ (List.getElem_mem hil))
      have HKe := Lib.hid (HGd.out.link i hil)
      have hH32 := (HGd.out.take i).head
      have HLk : Hid (∀ W, Calls Tryd.prog 23 #[.agg (bRow (Od.head (rs.take i))).toList.toArray, .int .i64 i, .int .i64 rs[i].kind, .int .i64 rs[i].time, .string rs[i].body] W fun e w' => e = .returned (.tuple #[.agg rs[i].cells.toArray, .int .i64 0]) ∧ Below W.heap.size W w') := Lib.hid (fun W => by
        have := rlink5_any hRS i rs[i].kind rs[i].time rs[i].body (Od.head (rs.take i)) hH32 W
        rw [HKe.out] at this
        rw [Array.toArray_toList]
        exact this)
      have HRa : Hid (∀ W, Below wr.heap.size wr W → W.cell? ⟨gA, oA + i * 68, none⟩ = some (.int .i64 rs[i].index) ∧ W.cell? ⟨gA, oA + i * 68 + 1, none⟩ = some (.int .i64 rs[i].kind) ∧ W.cell? ⟨gA, oA + i * 68 + 2, none⟩ = some (.int .i64 rs[i].time) ∧ W.cell? ⟨gA, oA + i * 68 + 3, none⟩ = some (.string rs[i].body) ∧ W.rangeAt gA (oA + i * 68) rs[i].cells) := Lib.hid (fun W hW => by
        have q : W.rangeAt gA (oA + i * 68) rs[i].cells := fun j u hu => (hW.cell (p := ⟨gA, oA + i * 68 + j, none⟩) hgA).trans (hrg j u hu)
        obtain ⟨q0, q1, q2, q3, _⟩ := Rp.at HKf.out.prev q
        exact ⟨q0, q1, q2, q3, q⟩)
      have HC68 := Lib.hid (Rp.cells_len HKf.out.prev HKf.out.hash)
      have HC1 := Lib.hid (Rp.cells_one HKf.out.prev HKf.out.hash)
      have HP32 := Lib.hid (Tx.bRow_len _ hH32)
      obtain ⟨rk, hrk⟩ : ∃ rk, rs[i] = rk := ⟨_, rfl⟩
      have HRK : Hid (∃ h : i < rs.length, rs[i] = rk) := Lib.hid ⟨hil, hrk⟩
      rw [hrk] at HKf HKe HLk HRa HC68 HC1
      obtain ⟨C, hC⟩ : ∃ C, rk.cells = C := ⟨_, rfl⟩
      have HCC := Lib.hid hC
      rw [hC] at HLk HRa HC68 HC1
      generalize (bRow (Od.head (rs.take i))).toList = HP at *
      clear hrk hC hrg hgA hH32 hil
      go_wp2_with fail
      refine wp_region_held_drew (S := fun w' => Below wr.heap.size wr w') (by kernel_rfl) ((Below.refl _ _).drew) (fun hHeld => ?_)
      generalize wr.drew = wq at *
      refine' wpAnyH_take (i := 0) (v := _) rfl (by kernel_rfl) (by kernel_rfl) (by kernel_rfl) (fun _ _ _ h => h) (yieldsIf_load_mid (by rfl) _ _ rfl g5 0 rfl HP _ (fun w' hSw => (row_range (HR5.out.below hSw))) Tryd.underlying28 rfl (by rw [hash_info, HP32.out])) hHeld ?_
      try simp only [Act.put, List.getElem_toArray, List.getElem_cons_succ, List.getElem_cons_zero, List.setIfInBounds_toArray, List.set_cons_zero, List.set_cons_succ]
      refine wpAnyH_take (i := 1) (v := .int .i64 i) rfl (by kernel_rfl) (by kernel_rfl) (by kernel_rfl) (fun _ _ _ h => h) (Or.inl ⟨by rfl, fun w' hSw => by go_simp⟩) hHeld ?_
      try simp only [Act.put, List.getElem_toArray, List.getElem_cons_succ, List.getElem_cons_zero, List.setIfInBounds_toArray, List.set_cons_zero, List.set_cons_succ]
      refine wpAnyH_take (i := 2) (v := .slice (some ⟨gA, oA, none⟩) n c) rfl (by kernel_rfl) (by kernel_rfl) (by kernel_rfl) (fun _ _ _ h => h) (Or.inl ⟨by rfl, fun w' hSw => by go_simp⟩) hHeld ?_
      try simp only [Act.put, List.getElem_toArray, List.getElem_cons_succ, List.getElem_cons_zero, List.setIfInBounds_toArray, List.set_cons_zero, List.set_cons_succ]
      refine wpAnyH_take (i := 3) (v := .int .i64 i) rfl (by kernel_rfl) (by kernel_rfl) (by kernel_rfl) (fun _ _ _ h => h) (Or.inl ⟨by rfl, fun w' hSw => by go_simp⟩) hHeld ?_
      try simp only [Act.put, List.getElem_toArray, List.getElem_cons_succ, List.getElem_cons_zero, List.setIfInBounds_toArray, List.set_cons_zero, List.set_cons_succ]
      refine wpAnyH_take (i := 4) (v := .pointer (some ⟨gA, (oA + i * 68), none⟩)) rfl (by kernel_rfl) (by kernel_rfl) (by kernel_rfl) (fun _ _ _ h => h) (Or.inl ⟨by rfl, fun w' hSw => by go_simp⟩) hHeld ?_
      try simp only [Act.put, List.getElem_toArray, List.getElem_cons_succ, List.getElem_cons_zero, List.setIfInBounds_toArray, List.set_cons_zero, List.set_cons_succ]
      refine wpAnyH_take (i := 5) (v := .pointer (some ⟨gA, (oA + i * 68 + 1), none⟩)) rfl (by kernel_rfl) (by kernel_rfl) (by kernel_rfl) (fun _ _ _ h => h) (Or.inl ⟨by rfl, fun w' hSw => by go_simp⟩) hHeld ?_
      try simp only [Act.put, List.getElem_toArray, List.getElem_cons_succ, List.getElem_cons_zero, List.setIfInBounds_toArray, List.set_cons_zero, List.set_cons_succ]
      refine wpAnyH_take (i := 6) (v := .int .i64 rk.kind) rfl (by kernel_rfl) (by kernel_rfl) (by kernel_rfl) (fun _ _ _ h => h) (Or.inl ⟨by rfl, fun w' hSw => by have hq := hSw; have hd := (HRa.out _ hq).2.1; go_simp⟩) hHeld ?_
      try simp only [Act.put, List.getElem_toArray, List.getElem_cons_succ, List.getElem_cons_zero, List.setIfInBounds_toArray, List.set_cons_zero, List.set_cons_succ]
      refine wpAnyH_take (i := 7) (v := .slice (some ⟨gA, oA, none⟩) n c) rfl (by kernel_rfl) (by kernel_rfl) (by kernel_rfl) (fun _ _ _ h => h) (Or.inl ⟨by rfl, fun w' hSw => by go_simp⟩) hHeld ?_
      try simp only [Act.put, List.getElem_toArray, List.getElem_cons_succ, List.getElem_cons_zero, List.setIfInBounds_toArray, List.set_cons_zero, List.set_cons_succ]
      refine wpAnyH_take (i := 8) (v := .int .i64 i) rfl (by kernel_rfl) (by kernel_rfl) (by kernel_rfl) (fun _ _ _ h => h) (Or.inl ⟨by rfl, fun w' hSw => by go_simp⟩) hHeld ?_
      try simp only [Act.put, List.getElem_toArray, List.getElem_cons_succ, List.getElem_cons_zero, List.setIfInBounds_toArray, List.set_cons_zero, List.set_cons_succ]
      refine wpAnyH_take (i := 9) (v := .pointer (some ⟨gA, (oA + i * 68), none⟩)) rfl (by kernel_rfl) (by kernel_rfl) (by kernel_rfl) (fun _ _ _ h => h) (Or.inl ⟨by rfl, fun w' hSw => by go_simp⟩) hHeld ?_
      try simp only [Act.put, List.getElem_toArray, List.getElem_cons_succ, List.getElem_cons_zero, List.setIfInBounds_toArray, List.set_cons_zero, List.set_cons_succ]
      refine wpAnyH_take (i := 10) (v := .pointer (some ⟨gA, (oA + i * 68 + 2), none⟩)) rfl (by kernel_rfl) (by kernel_rfl) (by kernel_rfl) (fun _ _ _ h => h) (Or.inl ⟨by rfl, fun w' hSw => by go_simp⟩) hHeld ?_
      try simp only [Act.put, List.getElem_toArray, List.getElem_cons_succ, List.getElem_cons_zero, List.setIfInBounds_toArray, List.set_cons_zero, List.set_cons_succ]
      refine wpAnyH_take (i := 11) (v := .int .i64 rk.time) rfl (by kernel_rfl) (by kernel_rfl) (by kernel_rfl) (fun _ _ _ h => h) (Or.inl ⟨by rfl, fun w' hSw => by have hq := hSw; have hd := (HRa.out _ hq).2.2.1; go_simp⟩) hHeld ?_
      try simp only [Act.put, List.getElem_toArray, List.getElem_cons_succ, List.getElem_cons_zero, List.setIfInBounds_toArray, List.set_cons_zero, List.set_cons_succ]
      refine wpAnyH_take (i := 12) (v := .slice (some ⟨gA, oA, none⟩) n c) rfl (by kernel_rfl) (by kernel_rfl) (by kernel_rfl) (fun _ _ _ h => h) (Or.inl ⟨by rfl, fun w' hSw => by go_simp⟩) hHeld ?_
      try simp only [Act.put, List.getElem_toArray, List.getElem_cons_succ, List.getElem_cons_zero, List.setIfInBounds_toArray, List.set_cons_zero, List.set_cons_succ]
      refine wpAnyH_take (i := 13) (v := .int .i64 i) rfl (by kernel_rfl) (by kernel_rfl) (by kernel_rfl) (fun _ _ _ h => h) (Or.inl ⟨by rfl, fun w' hSw => by go_simp⟩) hHeld ?_
      try simp only [Act.put, List.getElem_toArray, List.getElem_cons_succ, List.getElem_cons_zero, List.setIfInBounds_toArray, List.set_cons_zero, List.set_cons_succ]
      refine wpAnyH_take (i := 14) (v := .pointer (some ⟨gA, (oA + i * 68), none⟩)) rfl (by kernel_rfl) (by kernel_rfl) (by kernel_rfl) (fun _ _ _ h => h) (Or.inl ⟨by rfl, fun w' hSw => by go_simp⟩) hHeld ?_
      try simp only [Act.put, List.getElem_toArray, List.getElem_cons_succ, List.getElem_cons_zero, List.setIfInBounds_toArray, List.set_cons_zero, List.set_cons_succ]
      refine wpAnyH_take (i := 15) (v := .pointer (some ⟨gA, (oA + i * 68 + 3), none⟩)) rfl (by kernel_rfl) (by kernel_rfl) (by kernel_rfl) (fun _ _ _ h => h) (Or.inl ⟨by rfl, fun w' hSw => by go_simp⟩) hHeld ?_
      try simp only [Act.put, List.getElem_toArray, List.getElem_cons_succ, List.getElem_cons_zero, List.setIfInBounds_toArray, List.set_cons_zero, List.set_cons_succ]
      refine wpAnyH_take (i := 16) (v := .string rk.body) rfl (by kernel_rfl) (by kernel_rfl) (by kernel_rfl) (fun _ _ _ h => h) (Or.inl ⟨by rfl, fun w' hSw => by have hq := hSw; have hd := (HRa.out _ hq).2.2.2.1; go_simp⟩) hHeld ?_
      try simp only [Act.put, List.getElem_toArray, List.getElem_cons_succ, List.getElem_cons_zero, List.setIfInBounds_toArray, List.set_cons_zero, List.set_cons_succ]
      refine wpAnyH_ready (rs := [17, 21]) (by kernel_rfl) (by simp) (AllReadyH.cons rfl (fun K1 hK1 => ?_) (AllReadyH.cons rfl (fun K1 hK1 => ?_) AllReadyH.nil))
      · skip
        try simp only [Act.put, List.getElem_toArray, List.getElem_cons_succ, List.getElem_cons_zero, List.setIfInBounds_toArray, List.set_cons_zero, List.set_cons_succ]
        go_simp
        refine Calls.mono (HLk.out _) ?_
        rintro e wc1 ⟨rfl, hb2⟩
        refine hK1.out _ _ (two_below' hHeld hb2) (fun hHeld => ?_)
        clear hK1 K1
        try simp only [Act.put, List.getElem_toArray, List.getElem_cons_succ, List.getElem_cons_zero, List.setIfInBounds_toArray, List.set_cons_zero, List.set_cons_succ]
        refine wpAnyH_take (i := 18) (v := .tuple #[.agg C.toArray, .int .i64 0]) rfl (by kernel_rfl) (by kernel_rfl) (by kernel_rfl) (fun _ _ _ h => h) (Or.inl ⟨by rfl, fun w' hSw => by go_simp⟩) hHeld ?_
        try simp only [Act.put, List.getElem_toArray, List.getElem_cons_succ, List.getElem_cons_zero, List.setIfInBounds_toArray, List.set_cons_zero, List.set_cons_succ]
        refine wpAnyH_take (i := 19) (v := .agg C.toArray) rfl (by kernel_rfl) (by kernel_rfl) (by kernel_rfl) (fun _ _ _ h => h) (Or.inl ⟨by rfl, fun w' hSw => by go_simp⟩) hHeld ?_
        try simp only [Act.put, List.getElem_toArray, List.getElem_cons_succ, List.getElem_cons_zero, List.setIfInBounds_toArray, List.set_cons_zero, List.set_cons_succ]
        refine wpAnyH_take (i := 20) (v := .int .i64 0) rfl (by kernel_rfl) (by kernel_rfl) (by kernel_rfl) (fun _ _ _ h => h) (Or.inl ⟨by rfl, fun w' hSw => by go_simp⟩) hHeld ?_
        try simp only [Act.put, List.getElem_toArray, List.getElem_cons_succ, List.getElem_cons_zero, List.setIfInBounds_toArray, List.set_cons_zero, List.set_cons_succ]
        refine wpAnyH_ready (rs := [21]) (by kernel_rfl) (by simp) (AllReadyH.cons rfl (fun K1 hK1 => ?_) AllReadyH.nil)
        try simp only [Act.put, List.getElem_toArray, List.getElem_cons_succ, List.getElem_cons_zero, List.setIfInBounds_toArray, List.set_cons_zero, List.set_cons_succ]
        go_simp
        have hd4 := (Below.refl wc1.heap.size wc1).alloc (Nat.le_refl _) (.cells ZT.toArray 30)
        have Hb8 : Row (wc1.alloc (.cells ZT.toArray 30)) wc1.heap.size 30 ZT := Row.new wc1 30 ZT
        have Hb8s := hHeld.size
        have hHeld2 := two_below' hHeld hd4
        generalize wc1.alloc (.cells ZT.toArray 30) = wa3 at *
        obtain ⟨gb5, gb5e⟩ : ∃ gb5, gb5 = wc1.heap.size := ⟨_, rfl⟩
        rw [← gb5e] at Hb8 Hb8s ⊢
        refine hK1.out _ _ (hHeld2) (fun hHeld => ?_)
        clear hK1 K1
        try simp only [Act.put, List.getElem_toArray, List.getElem_cons_succ, List.getElem_cons_zero, List.setIfInBounds_toArray, List.set_cons_zero, List.set_cons_succ]
        clear hHeld2 gb5e
        refine wpAnyH_ready (rs := [22]) (by kernel_rfl) (by simp) (AllReadyH.cons rfl (fun K1 hK1 => ?_) AllReadyH.nil)
        try simp only [Act.put, List.getElem_toArray, List.getElem_cons_succ, List.getElem_cons_zero, List.setIfInBounds_toArray, List.set_cons_zero, List.set_cons_succ]
        rw [if_pos (by rfl)]
        refine wp_store_at 30 (.tmp 8) (.tmp 49) rfl gb5 0 C _ _ rfl rfl Hb8 (by have := HZ68.out; have := HC68.out; omega) (by rw [rp_info, HC68.out]) HC1.out ?_
        intro ws6 hrS hgS
        rw [splice_all (HC68.out.trans HZ68.out.symm)] at hrS
        have HX8 := Lib.hid hrS
        have hHeld2 := below_own hHeld hgS (fun k hk => by cases hk; exact Hb8s)
        clear hrS hgS
        refine hK1.out _ _ (hHeld2) (fun hHeld => ?_)
        clear hK1 K1
        try simp only [Act.put, List.getElem_toArray, List.getElem_cons_succ, List.getElem_cons_zero, List.setIfInBounds_toArray, List.set_cons_zero, List.set_cons_succ]
        clear hHeld2
        refine wpAnyH_take (i := 23) (v := .int .i64 0) rfl (by kernel_rfl) (by kernel_rfl) (by kernel_rfl) (fun _ _ _ h => h) (Or.inl ⟨by rfl, fun w' hSw => by go_simp⟩) hHeld ?_
        try simp only [Act.put, List.getElem_toArray, List.getElem_cons_succ, List.getElem_cons_zero, List.setIfInBounds_toArray, List.set_cons_zero, List.set_cons_succ]
        refine wpAnyH_done (by kernel_rfl) ?_ _
        generalize ws6 = ws at *
        have HBs := Lib.hid hHeld
        clear hHeld
        have heqC : ∀ W : World, (Op.equalIn 10000 30 (.agg C.toArray) (.agg C.toArray)).run Tryd.prog W = .ok true W := fun W => by rw [← HCC.out]; exact rp_eqD W rk rk HKf.out HKf.out (by simp)
        have HCr : Hid (∀ {g : Nat} (W : World), Row W g 30 C → W.rangeAt g 0 rk.cells) := Lib.hid (fun W h => by rw [HCC.out]; exact row_range h)
        have HH32 := Lib.hid (Tx.bRow_len rk.hash HKf.out.hash)
        have HHh1 : Hid (∀ v ∈ (bRow rk.hash).toList, v.oneCell' = true) := Lib.hid (hash_one _ HKf.out.hash)
        by_cases hpos : 0 < i
        · obtain ⟨j, hj⟩ : ∃ j, i = j + 1 := ⟨i - 1, by omega⟩
          have HTp0 : Hid (∃ tp, tp ≤ rk.time ∧ ∀ W, Below wr.heap.size wr W → W.cell? ⟨gA, oA + j * 68 + 2, none⟩ = some (.int .i64 tp)) := Lib.hid (by
            obtain ⟨h, e⟩ := HRK.out
            have hjl : j < rs.length := by omega
            obtain ⟨g2, o2, e2, hg2, hat⟩ := HRng.out _ j hjl HCh.out
            injection e2 with e2
            injection e2 with e3 e4 e5
            subst e3
            subst e4
            refine ⟨rs[j].time, ?_, fun W hW => ?_⟩
            · subst hj
              rw [← e]
              exact HGd.out.rises j h
            · have q : W.rangeAt gA (oA + j * 68) rs[j].cells := fun q u hu => (hW.cell (p := ⟨gA, oA + j * 68 + q, none⟩) hg2).trans (hat q u hu)
              exact (Rp.at (HGd.out.fits _ (List.getElem_mem hjl)).prev q).2.2.1)
          obtain ⟨tp, htp, hTp⟩ := HTp0.out
          have HTp := Lib.hid hTp
          clear hTp HTp0
          have dtp : decide (rk.time < tp) = false := decide_eq_false (by omega)
          have dpos : decide ((i : Int) > 0) = true := decide_eq_true (by omega)
          have dpos2 : decide ((0 : Int) < (i : Int)) = true := decide_eq_true (by omega)
          have ej : IntKind.i64.wrap ((i : Int) - 1) = (j : Int) := by rw [IntWalk.i64_in _ (by omega)]; omega
          have hji : (j : Int) < (n : Int) := by omega
          have hj0 : (0 : Int) ≤ (j : Int) := by omega
          have hjj : j < n := by omega
          clear hj htp
          go_wp2_with fail
          refine wp_region_held_drew (S := fun w' => Below ws.heap.size ws w') (by kernel_rfl) ((Below.refl _ _).drew) (fun hHeld => ?_)
          generalize ws.drew = wt at *
          refine wpAnyH_take (i := 0) (v := .int .i64 0) rfl (by kernel_rfl) (by kernel_rfl) (by kernel_rfl) (fun _ _ _ h => h) (Or.inl ⟨by rfl, fun w' hSw => by go_simp⟩) hHeld ?_
          try simp only [Act.put, List.getElem_toArray, List.getElem_cons_succ, List.getElem_cons_zero, List.setIfInBounds_toArray, List.set_cons_zero, List.set_cons_succ]
          refine wpAnyH_take (i := 1) (v := .bool false) rfl (by kernel_rfl) (by kernel_rfl) (by kernel_rfl) (fun _ _ _ h => h) (Or.inl ⟨by rfl, fun w' hSw => by go_simp⟩) hHeld ?_
          try simp only [Act.put, List.getElem_toArray, List.getElem_cons_succ, List.getElem_cons_zero, List.setIfInBounds_toArray, List.set_cons_zero, List.set_cons_succ]
          refine wpAnyH_take (i := 2) (v := .bool false) rfl (by kernel_rfl) (by kernel_rfl) (by kernel_rfl) (fun _ _ _ h => h) (Or.inl ⟨by rfl, fun w' hSw => by go_simp⟩) hHeld ?_
          try simp only [Act.put, List.getElem_toArray, List.getElem_cons_succ, List.getElem_cons_zero, List.setIfInBounds_toArray, List.set_cons_zero, List.set_cons_succ]
          refine' wpAnyH_take (i := 3) (v := _) rfl (by kernel_rfl) (by kernel_rfl) (by kernel_rfl) (fun _ _ _ h => h) (yieldsIf_load_mid (by rfl) _ _ rfl gb5 0 rfl C _ (fun w' hSw => (row_range (HX8.out.below hSw))) Tryd.underlying30 rfl (by rw [rp_info, HC68.out])) hHeld ?_
          try simp only [Act.put, List.getElem_toArray, List.getElem_cons_succ, List.getElem_cons_zero, List.setIfInBounds_toArray, List.set_cons_zero, List.set_cons_succ]
          refine wpAnyH_take (i := 4) (v := .slice (some ⟨gA, oA, none⟩) n c) rfl (by kernel_rfl) (by kernel_rfl) (by kernel_rfl) (fun _ _ _ h => h) (Or.inl ⟨by rfl, fun w' hSw => by go_simp⟩) hHeld ?_
          try simp only [Act.put, List.getElem_toArray, List.getElem_cons_succ, List.getElem_cons_zero, List.setIfInBounds_toArray, List.set_cons_zero, List.set_cons_succ]
          refine wpAnyH_take (i := 5) (v := .int .i64 i) rfl (by kernel_rfl) (by kernel_rfl) (by kernel_rfl) (fun _ _ _ h => h) (Or.inl ⟨by rfl, fun w' hSw => by go_simp⟩) hHeld ?_
          try simp only [Act.put, List.getElem_toArray, List.getElem_cons_succ, List.getElem_cons_zero, List.setIfInBounds_toArray, List.set_cons_zero, List.set_cons_succ]
          refine wpAnyH_take (i := 6) (v := .pointer (some ⟨gA, (oA + i * 68), none⟩)) rfl (by kernel_rfl) (by kernel_rfl) (by kernel_rfl) (fun _ _ _ h => h) (Or.inl ⟨by rfl, fun w' hSw => by go_simp⟩) hHeld ?_
          try simp only [Act.put, List.getElem_toArray, List.getElem_cons_succ, List.getElem_cons_zero, List.setIfInBounds_toArray, List.set_cons_zero, List.set_cons_succ]
          refine' wpAnyH_take (i := 7) (v := _) rfl (by kernel_rfl) (by kernel_rfl) (by kernel_rfl) (fun _ _ _ h => h) (yieldsIf_load_mid (by rfl) _ _ rfl gA (oA + i * 68) rfl C _ (fun w' hSw => ((HRa.out _ (two_below' HBs.out hSw)).2.2.2.2)) Tryd.underlying30 rfl (by rw [rp_info, HC68.out])) hHeld ?_
          try simp only [Act.put, List.getElem_toArray, List.getElem_cons_succ, List.getElem_cons_zero, List.setIfInBounds_toArray, List.set_cons_zero, List.set_cons_succ]
          refine wpAnyH_take (i := 8) (v := .bool false) rfl (by kernel_rfl) (by kernel_rfl) (by kernel_rfl) (fun _ _ _ h => h) (Or.inl ⟨by rfl, fun w' hSw => by have hq := hSw; have hd := heqC w'; go_simp⟩) hHeld ?_
          try simp only [Act.put, List.getElem_toArray, List.getElem_cons_succ, List.getElem_cons_zero, List.setIfInBounds_toArray, List.set_cons_zero, List.set_cons_succ]
          refine wpAnyH_take (i := 9) (v := .bool false) rfl (by kernel_rfl) (by kernel_rfl) (by kernel_rfl) (fun _ _ _ h => h) (Or.inl ⟨by rfl, fun w' hSw => by go_simp⟩) hHeld ?_
          try simp only [Act.put, List.getElem_toArray, List.getElem_cons_succ, List.getElem_cons_zero, List.setIfInBounds_toArray, List.set_cons_zero, List.set_cons_succ]
          refine wpAnyH_take (i := 10) (v := .bool false) rfl (by kernel_rfl) (by kernel_rfl) (by kernel_rfl) (fun _ _ _ h => h) (Or.inl ⟨by rfl, fun w' hSw => by go_simp⟩) hHeld ?_
          try simp only [Act.put, List.getElem_toArray, List.getElem_cons_succ, List.getElem_cons_zero, List.setIfInBounds_toArray, List.set_cons_zero, List.set_cons_succ]
          refine wpAnyH_take (i := 11) (v := .int .i64 i) rfl (by kernel_rfl) (by kernel_rfl) (by kernel_rfl) (fun _ _ _ h => h) (Or.inl ⟨by rfl, fun w' hSw => by go_simp⟩) hHeld ?_
          try simp only [Act.put, List.getElem_toArray, List.getElem_cons_succ, List.getElem_cons_zero, List.setIfInBounds_toArray, List.set_cons_zero, List.set_cons_succ]
          refine wpAnyH_take (i := 12) (v := .bool true) rfl (by kernel_rfl) (by kernel_rfl) (by kernel_rfl) (fun _ _ _ h => h) (Or.inl ⟨by rfl, fun w' hSw => by go_simp⟩) hHeld ?_
          try simp only [Act.put, List.getElem_toArray, List.getElem_cons_succ, List.getElem_cons_zero, List.setIfInBounds_toArray, List.set_cons_zero, List.set_cons_succ]
          refine wpAnyH_take (i := 13) (v := .bool true) rfl (by kernel_rfl) (by kernel_rfl) (by kernel_rfl) (fun _ _ _ h => h) (Or.inl ⟨by rfl, fun w' hSw => by go_simp⟩) hHeld ?_
          try simp only [Act.put, List.getElem_toArray, List.getElem_cons_succ, List.getElem_cons_zero, List.setIfInBounds_toArray, List.set_cons_zero, List.set_cons_succ]
          refine wpAnyH_take (i := 14) (v := .slice (some ⟨gA, oA, none⟩) n c) rfl (by kernel_rfl) (by kernel_rfl) (by kernel_rfl) (fun _ _ _ h => h) (Or.inl ⟨by rfl, fun w' hSw => by go_simp⟩) hHeld ?_
          try simp only [Act.put, List.getElem_toArray, List.getElem_cons_succ, List.getElem_cons_zero, List.setIfInBounds_toArray, List.set_cons_zero, List.set_cons_succ]
          refine wpAnyH_take (i := 15) (v := .int .i64 i) rfl (by kernel_rfl) (by kernel_rfl) (by kernel_rfl) (fun _ _ _ h => h) (Or.inl ⟨by rfl, fun w' hSw => by go_simp⟩) hHeld ?_
          try simp only [Act.put, List.getElem_toArray, List.getElem_cons_succ, List.getElem_cons_zero, List.setIfInBounds_toArray, List.set_cons_zero, List.set_cons_succ]
          refine wpAnyH_take (i := 16) (v := .pointer (some ⟨gA, (oA + i * 68), none⟩)) rfl (by kernel_rfl) (by kernel_rfl) (by kernel_rfl) (fun _ _ _ h => h) (Or.inl ⟨by rfl, fun w' hSw => by go_simp⟩) hHeld ?_
          try simp only [Act.put, List.getElem_toArray, List.getElem_cons_succ, List.getElem_cons_zero, List.setIfInBounds_toArray, List.set_cons_zero, List.set_cons_succ]
          refine wpAnyH_take (i := 17) (v := .pointer (some ⟨gA, (oA + i * 68 + 2), none⟩)) rfl (by kernel_rfl) (by kernel_rfl) (by kernel_rfl) (fun _ _ _ h => h) (Or.inl ⟨by rfl, fun w' hSw => by go_simp⟩) hHeld ?_
          try simp only [Act.put, List.getElem_toArray, List.getElem_cons_succ, List.getElem_cons_zero, List.setIfInBounds_toArray, List.set_cons_zero, List.set_cons_succ]
          refine wpAnyH_take (i := 18) (v := .int .i64 rk.time) rfl (by kernel_rfl) (by kernel_rfl) (by kernel_rfl) (fun _ _ _ h => h) (Or.inl ⟨by rfl, fun w' hSw => by have hq := hSw; have hd := (HRa.out _ (two_below' HBs.out hq)).2.2.1; go_simp⟩) hHeld ?_
          try simp only [Act.put, List.getElem_toArray, List.getElem_cons_succ, List.getElem_cons_zero, List.setIfInBounds_toArray, List.set_cons_zero, List.set_cons_succ]
          refine wpAnyH_take (i := 19) (v := .slice (some ⟨gA, oA, none⟩) n c) rfl (by kernel_rfl) (by kernel_rfl) (by kernel_rfl) (fun _ _ _ h => h) (Or.inl ⟨by rfl, fun w' hSw => by go_simp⟩) hHeld ?_
          try simp only [Act.put, List.getElem_toArray, List.getElem_cons_succ, List.getElem_cons_zero, List.setIfInBounds_toArray, List.set_cons_zero, List.set_cons_succ]
          refine wpAnyH_take (i := 20) (v := .int .i64 i) rfl (by kernel_rfl) (by kernel_rfl) (by kernel_rfl) (fun _ _ _ h => h) (Or.inl ⟨by rfl, fun w' hSw => by go_simp⟩) hHeld ?_
          try simp only [Act.put, List.getElem_toArray, List.getElem_cons_succ, List.getElem_cons_zero, List.setIfInBounds_toArray, List.set_cons_zero, List.set_cons_succ]
          refine wpAnyH_take (i := 21) (v := .int .i64 j) rfl (by kernel_rfl) (by kernel_rfl) (by kernel_rfl) (fun _ _ _ h => h) (Or.inl ⟨by rfl, fun w' hSw => by go_simp⟩) hHeld ?_
          try simp only [Act.put, List.getElem_toArray, List.getElem_cons_succ, List.getElem_cons_zero, List.setIfInBounds_toArray, List.set_cons_zero, List.set_cons_succ]
          refine wpAnyH_take (i := 22) (v := .pointer (some ⟨gA, (oA + j * 68), none⟩)) rfl (by kernel_rfl) (by kernel_rfl) (by kernel_rfl) (fun _ _ _ h => h) (Or.inl ⟨by rfl, fun w' hSw => by go_simp⟩) hHeld ?_
          try simp only [Act.put, List.getElem_toArray, List.getElem_cons_succ, List.getElem_cons_zero, List.setIfInBounds_toArray, List.set_cons_zero, List.set_cons_succ]
          refine wpAnyH_take (i := 23) (v := .pointer (some ⟨gA, (oA + j * 68 + 2), none⟩)) rfl (by kernel_rfl) (by kernel_rfl) (by kernel_rfl) (fun _ _ _ h => h) (Or.inl ⟨by rfl, fun w' hSw => by go_simp⟩) hHeld ?_
          try simp only [Act.put, List.getElem_toArray, List.getElem_cons_succ, List.getElem_cons_zero, List.setIfInBounds_toArray, List.set_cons_zero, List.set_cons_succ]
          refine wpAnyH_take (i := 24) (v := .int .i64 tp) rfl (by kernel_rfl) (by kernel_rfl) (by kernel_rfl) (fun _ _ _ h => h) (Or.inl ⟨by rfl, fun w' hSw => by have hq := hSw; have hd := HTp.out _ (two_below' HBs.out hq); go_simp⟩) hHeld ?_
          try simp only [Act.put, List.getElem_toArray, List.getElem_cons_succ, List.getElem_cons_zero, List.setIfInBounds_toArray, List.set_cons_zero, List.set_cons_succ]
          refine wpAnyH_take (i := 25) (v := .bool false) rfl (by kernel_rfl) (by kernel_rfl) (by kernel_rfl) (fun _ _ _ h => h) (Or.inl ⟨by rfl, fun w' hSw => by go_simp⟩) hHeld ?_
          try simp only [Act.put, List.getElem_toArray, List.getElem_cons_succ, List.getElem_cons_zero, List.setIfInBounds_toArray, List.set_cons_zero, List.set_cons_succ]
          refine wpAnyH_take (i := 26) (v := .bool false) rfl (by kernel_rfl) (by kernel_rfl) (by kernel_rfl) (fun _ _ _ h => h) (Or.inl ⟨by rfl, fun w' hSw => by go_simp⟩) hHeld ?_
          try simp only [Act.put, List.getElem_toArray, List.getElem_cons_succ, List.getElem_cons_zero, List.setIfInBounds_toArray, List.set_cons_zero, List.set_cons_succ]
          refine wpAnyH_take (i := 27) (v := .bool false) rfl (by kernel_rfl) (by kernel_rfl) (by kernel_rfl) (fun _ _ _ h => h) (Or.inl ⟨by rfl, fun w' hSw => by go_simp⟩) hHeld ?_
          try simp only [Act.put, List.getElem_toArray, List.getElem_cons_succ, List.getElem_cons_zero, List.setIfInBounds_toArray, List.set_cons_zero, List.set_cons_succ]
          refine wpAnyH_done (by kernel_rfl) ?_ _
          clear ej dtp dpos dpos2 hji hj0 hjj
          have HBt := Lib.hid (two_below' HBs.out hHeld)
          have HX9 := Lib.hid (HX8.out.below hHeld)
          have HR5t := Lib.hid (HR5.out.below HBt.out)
          have HHr := Lib.hid (Rp.at HKf.out.prev (HCr.out _ HX9.out)).2.2.2.2
          rw [Nat.zero_add] at HHr
          clear hHeld HX8 HBs
          by_cases hk1 : rk.kind = 1
          · obtain ⟨t, ht1, ht2, ht3, ht4, ht5, ht6⟩ : ∃ t : Tx, Tx.read rk.body.data.toList = some t ∧ t.signedE = 0 ∧ t.nonce = (Od.cnt (rs.take i) t.frm : Int) ∧ Od.by_ rk = t.frm ∧ 0 ≤ t.frm ∧ t.frm ≤ 63 := by
              obtain ⟨h, e⟩ := HRK.out
              have := HGd.out.tx i h (by rw [e]; exact hk1)
              rwa [e] at this
            have htk := (Tx.read_err ht1).1
            obtain ⟨f, hf⟩ := Int.eq_ofNat_of_zero_le ht5
            have hf64 : f < 64 := by omega
            have hfi : (f : Int) < 64 := by omega
            have hf0 : (0 : Int) ≤ (f : Int) := by omega
            have HRD : Hid (∀ W, Calls Tryd.prog 24 #[.string rk.body] W fun e w' => e = .returned (.tuple #[.agg t.cells.toArray, .int .i64 0]) ∧ Below W.heap.size W w') := Lib.hid (fun W => (rread19_any rk.body W HKf.out.body).mono fun e w' ⟨q1, q2⟩ => by rw [ht1] at q1; exact ⟨q1, q2⟩)
            have HSg : Hid (∀ W, Calls Tryd.prog 25 #[.agg t.cells.toArray] W fun e w' => e = .returned (.int .i64 0) ∧ Below W.heap.size W w') := Lib.hid (fun W => by have := rsigned4_any t htk W hRS; rw [ht2] at this; exact this)
            have HNs : Hid (Od.nexts (rs.take (i + 1)) = (Od.nexts (rs.take i)).set f ((Od.cnt (rs.take i) (f : Int) : Int) + 1)) := Lib.hid (by obtain ⟨h, e⟩ := HRK.out; exact Od.nexts_step i h f (by rw [e, ht4, hf]) hf64)
            have HTc : Hid (∀ {g : Nat} (W : World), Row W g 50 t.cells → W.cell? ⟨g, 0, none⟩ = some (.int .i64 (f : Int)) ∧ W.cell? ⟨g, 1, none⟩ = some (.int .i64 (Od.cnt (rs.take i) (f : Int) : Int))) := Lib.hid (fun W h => ⟨by have := tx_range h 0 (.int .i64 t.frm) rfl; rw [hf] at this; exact this, by have := tx_range h 1 (.int .i64 t.nonce) rfl; rw [ht3, hf] at this; exact this⟩)
            have hN6 : (Is (Od.nexts (rs.take i))).length = 64 := by unfold Is; rw [List.length_map, Od.nexts_len]
            have HN6 : Hid (∀ {g : Nat} {T : TypeId} (W : World), Row W g T (Is (Od.nexts (rs.take i))) → W.cell? ⟨g, f, none⟩ = some (.int .i64 (Od.cnt (rs.take i) (f : Int) : Int))) := Lib.hid (fun W h => by
              rw [h.cell f (by rw [hN6]; exact hf64)]
              congr 1
              unfold Is
              rw [List.getElem_map, Od.nexts_get _ f hf64])
            have hcn40 : Od.cnt (rs.take i) (f : Int) ≤ 40 := by have := Od.cnt_le (rs.take i) (f : Int); rw [List.length_take] at this; omega
            have HT72 := Lib.hid (Tx.cells_length htk)
            have HT1 := Lib.hid (Tx.cells_one htk)
            have hzx : ∀ W : World, (zeroValue 50).run Tryd.prog W = .ok (.agg Tx.none.cells.toArray) W := tx_zv
            have HZX72 := Lib.hid (Tx.cells_length Tx.none_ok)
            obtain ⟨ZX, hZX⟩ : ∃ ZX, Tx.none.cells = ZX := ⟨_, rfl⟩
            rw [hZX] at hzx HZX72
            obtain ⟨CT, hCT⟩ : ∃ CT, t.cells = CT := ⟨_, rfl⟩
            rw [hCT] at HRD HSg HTc HT72 HT1
            obtain ⟨cn, hcn⟩ : ∃ cn : Nat, Od.cnt (rs.take i) (f : Int) = cn := ⟨_, rfl⟩
            rw [hcn] at HNs HTc HN6 hcn40
            have HL64 := Lib.hid hN6
            have dk : decide (rk.kind = 1) = true := decide_eq_true hk1
            have dkb : (rk.kind == 1) = true := by simpa using hk1
            have dkp : (rk.kind = 1) = True := by simpa using hk1
            have ecn : IntKind.i64.wrap ((cn : Int) + 1) = (cn : Int) + 1 := IntWalk.i64_in _ (by omega)
            clear ht1 ht2 ht3 ht4 ht5 ht6 htk hf hZX hCT hcn hk1 hN6
            go_wp2_with (first
              | ((with_reducible show wpList _ _ _ (⟨_, .load 28 (.tmp 79), _, _, _, _⟩ :: _) _ _); refine wpList_load_tx rfl 28 (.tmp 79) rfl gb5 36 (rfl) (bRow rk.hash).toList _ (HHr.out) Tryd.underlying28 rfl (by rw [hash_info, HH32.out]) ?_)
              | (
                 with_reducible show wpList _ _ _ (⟨_, .store 28 (.tmp 5) _, _, _, _, _⟩ :: _) _ _
                 refine wpList_store_at rfl 28 (.tmp 5) (.tmp 80) rfl g5 0 (bRow rk.hash).toList HP _ rfl rfl (HR5t.out) (by have := HP32.out; have := HH32.out; omega) (by rw [hash_info, HH32.out]) HHh1.out ?_
                 intro w6 hr hg
                 rw [splice_all (HH32.out.trans HP32.out.symm)] at hr
                 have HR5u : Hid (Row w6 g5 28 (bRow (Od.head (rs.take (i + 1)))).toList) := Lib.hid (by obtain ⟨h, e⟩ := HRK.out; rw [Od.head_next i h, e]; exact hr)
                 have HX6 := Lib.hid (HX9.out.kept hg (fun e => by injection e with e; have := Hb8s; have := HR5.out.lt; omega))
                 have HR6u := Lib.hid ((HR6.out.below HBt.out).kept hg (fun e => by injection e with e; have := HG56.out; omega))
                 have HChu := Lib.hid ((HCh.out.trans (Chg.of_below (S := fun _ => False) HBt.out) (fun _ q => q.elim)).trans (Chg.of_grown (S := fun q => q = g5) hg (fun k hk => by cases hk; exact .inl rfl)) (fun k hk => .inl (.inl hk)))
                 have ck := (Rp.at HKf.out.prev (HCr.out _ HX6.out)).2.1; rw [Nat.zero_add] at ck; have cb := (Rp.at HKf.out.prev (HCr.out _ HX6.out)).2.2.2.1; rw [Nat.zero_add] at cb
                 clear hr hg))
            refine (HRD.out _).mono ?_
            rintro _ w7 ⟨rfl, hb7⟩
            have HR5v := Lib.hid (HR5u.out.below hb7)
            have HR6v := Lib.hid (HR6u.out.below hb7)
            have HChv := Lib.hid (HChu.out.trans (Chg.of_below (S := fun _ => False) hb7) (fun _ q => q.elim))
            clear hb7 HR5u HR6u HChu HRD ck cb
            go_wp2_with (first
              | (
                 with_reducible show wpList _ _ _ (⟨_, .store 50 (.tmp 10) _, _, _, _, _⟩ :: _) _ _
                 refine wpList_store_at rfl 50 (.tmp 10) (.tmp 88) rfl w7.heap.size 0 CT ZX _ rfl rfl (Row.new w7 50 ZX) (by have := HZX72.out; have := HT72.out; omega) (by rw [tx_info, HT72.out]) HT1.out ?_
                 intro w8 hr hg
                 rw [splice_all (HT72.out.trans HZX72.out.symm)] at hr
                 have hbx := below_own ((Below.refl w7.heap.size w7).alloc (Nat.le_refl _) (.cells ZX.toArray 50)) hg (fun k hk => by cases hk; exact Nat.le_refl _)
                 have HR5w := Lib.hid (HR5v.out.below hbx)
                 have HR6w := Lib.hid (HR6v.out.below hbx)
                 have HChw := Lib.hid (HChv.out.trans (Chg.of_below (S := fun _ => False) hbx) (fun _ q => q.elim))
                 have HTx := Lib.hid hr
                 clear hbx
                 clear hr hg))
            generalize w7.heap.size = g10 at *
            clear HR5v HR6v HChv
            refine wp_region_held_drew (S := fun w' => Below w8.heap.size w8 w') (by kernel_rfl) ((Below.refl _ _).drew) (fun hHeld => ?_)
            generalize w8.drew = wx at *
            refine wpAnyH_take (i := 0) (v := .int .i64 0) rfl (by kernel_rfl) (by kernel_rfl) (by kernel_rfl) (fun _ _ _ h => h) (Or.inl ⟨by rfl, fun w' hSw => by go_simp⟩) hHeld ?_
            try simp only [Act.put, List.getElem_toArray, List.getElem_cons_succ, List.getElem_cons_zero, List.setIfInBounds_toArray, List.set_cons_zero, List.set_cons_succ]
            refine wpAnyH_take (i := 1) (v := .bool false) rfl (by kernel_rfl) (by kernel_rfl) (by kernel_rfl) (fun _ _ _ h => h) (Or.inl ⟨by rfl, fun w' hSw => by go_simp⟩) hHeld ?_
            try simp only [Act.put, List.getElem_toArray, List.getElem_cons_succ, List.getElem_cons_zero, List.setIfInBounds_toArray, List.set_cons_zero, List.set_cons_succ]
            refine wpAnyH_take (i := 2) (v := .bool false) rfl (by kernel_rfl) (by kernel_rfl) (by kernel_rfl) (fun _ _ _ h => h) (Or.inl ⟨by rfl, fun w' hSw => by go_simp⟩) hHeld ?_
            try simp only [Act.put, List.getElem_toArray, List.getElem_cons_succ, List.getElem_cons_zero, List.setIfInBounds_toArray, List.set_cons_zero, List.set_cons_succ]
            refine wpAnyH_take (i := 3) (v := .pointer (some ⟨g10, 1, none⟩)) rfl (by kernel_rfl) (by kernel_rfl) (by kernel_rfl) (fun _ _ _ h => h) (Or.inl ⟨by rfl, fun w' hSw => by go_simp⟩) hHeld ?_
            try simp only [Act.put, List.getElem_toArray, List.getElem_cons_succ, List.getElem_cons_zero, List.setIfInBounds_toArray, List.set_cons_zero, List.set_cons_succ]
            refine wpAnyH_take (i := 4) (v := .int .i64 cn) rfl (by kernel_rfl) (by kernel_rfl) (by kernel_rfl) (fun _ _ _ h => h) (Or.inl ⟨by rfl, fun w' hSw => by have hq := hSw; have hd := (HTc.out _ (HTx.out.below hq)).2; go_simp⟩) hHeld ?_
            try simp only [Act.put, List.getElem_toArray, List.getElem_cons_succ, List.getElem_cons_zero, List.setIfInBounds_toArray, List.set_cons_zero, List.set_cons_succ]
            refine wpAnyH_take (i := 5) (v := .slice (some ⟨g6, 0, none⟩) 64 64) rfl (by kernel_rfl) (by kernel_rfl) (by kernel_rfl) (fun _ _ _ h => h) (Or.inl ⟨by rfl, fun w' hSw => by go_simp⟩) hHeld ?_
            try simp only [Act.put, List.getElem_toArray, List.getElem_cons_succ, List.getElem_cons_zero, List.setIfInBounds_toArray, List.set_cons_zero, List.set_cons_succ]
            refine wpAnyH_take (i := 6) (v := .pointer (some ⟨g10, 0, none⟩)) rfl (by kernel_rfl) (by kernel_rfl) (by kernel_rfl) (fun _ _ _ h => h) (Or.inl ⟨by rfl, fun w' hSw => by go_simp⟩) hHeld ?_
            try simp only [Act.put, List.getElem_toArray, List.getElem_cons_succ, List.getElem_cons_zero, List.setIfInBounds_toArray, List.set_cons_zero, List.set_cons_succ]
            refine wpAnyH_take (i := 7) (v := .int .i64 f) rfl (by kernel_rfl) (by kernel_rfl) (by kernel_rfl) (fun _ _ _ h => h) (Or.inl ⟨by rfl, fun w' hSw => by have hq := hSw; have hd := (HTc.out _ (HTx.out.below hq)).1; go_simp⟩) hHeld ?_
            try simp only [Act.put, List.getElem_toArray, List.getElem_cons_succ, List.getElem_cons_zero, List.setIfInBounds_toArray, List.set_cons_zero, List.set_cons_succ]
            refine wpAnyH_take (i := 8) (v := .pointer (some ⟨g6, f, none⟩)) rfl (by kernel_rfl) (by kernel_rfl) (by kernel_rfl) (fun _ _ _ h => h) (Or.inl ⟨by rfl, fun w' hSw => by go_simp⟩) hHeld ?_
            try simp only [Act.put, List.getElem_toArray, List.getElem_cons_succ, List.getElem_cons_zero, List.setIfInBounds_toArray, List.set_cons_zero, List.set_cons_succ]
            refine wpAnyH_take (i := 9) (v := .int .i64 cn) rfl (by kernel_rfl) (by kernel_rfl) (by kernel_rfl) (fun _ _ _ h => h) (Or.inl ⟨by rfl, fun w' hSw => by have hq := hSw; have hd := HN6.out _ (HR6w.out.below hq); go_simp⟩) hHeld ?_
            try simp only [Act.put, List.getElem_toArray, List.getElem_cons_succ, List.getElem_cons_zero, List.setIfInBounds_toArray, List.set_cons_zero, List.set_cons_succ]
            refine wpAnyH_take (i := 10) (v := .bool false) rfl (by kernel_rfl) (by kernel_rfl) (by kernel_rfl) (fun _ _ _ h => h) (Or.inl ⟨by rfl, fun w' hSw => by go_simp⟩) hHeld ?_
            try simp only [Act.put, List.getElem_toArray, List.getElem_cons_succ, List.getElem_cons_zero, List.setIfInBounds_toArray, List.set_cons_zero, List.set_cons_succ]
            refine wpAnyH_take (i := 11) (v := .bool false) rfl (by kernel_rfl) (by kernel_rfl) (by kernel_rfl) (fun _ _ _ h => h) (Or.inl ⟨by rfl, fun w' hSw => by go_simp⟩) hHeld ?_
            try simp only [Act.put, List.getElem_toArray, List.getElem_cons_succ, List.getElem_cons_zero, List.setIfInBounds_toArray, List.set_cons_zero, List.set_cons_succ]
            refine wpAnyH_take (i := 12) (v := .bool false) rfl (by kernel_rfl) (by kernel_rfl) (by kernel_rfl) (fun _ _ _ h => h) (Or.inl ⟨by rfl, fun w' hSw => by go_simp⟩) hHeld ?_
            try simp only [Act.put, List.getElem_toArray, List.getElem_cons_succ, List.getElem_cons_zero, List.setIfInBounds_toArray, List.set_cons_zero, List.set_cons_succ]
            refine' wpAnyH_take (i := 13) (v := _) rfl (by kernel_rfl) (by kernel_rfl) (by kernel_rfl) (fun _ _ _ h => h) (yieldsIf_load_mid (by rfl) _ _ rfl g10 0 rfl CT _ (fun w' hSw => (row_range (HTx.out.below hSw))) Tryd.underlying50 rfl (by rw [tx_info, HT72.out])) hHeld ?_
            try simp only [Act.put, List.getElem_toArray, List.getElem_cons_succ, List.getElem_cons_zero, List.setIfInBounds_toArray, List.set_cons_zero, List.set_cons_succ]
            refine wpAnyH_ready (rs := [14]) (by kernel_rfl) (by simp) (AllReadyH.cons rfl (fun K1 hK1 => ?_) AllReadyH.nil)
            try simp only [Act.put, List.getElem_toArray, List.getElem_cons_succ, List.getElem_cons_zero, List.setIfInBounds_toArray, List.set_cons_zero, List.set_cons_succ]
            go_simp
            refine Calls.mono (HSg.out _) ?_
            rintro e wc1 ⟨rfl, hc2⟩
            refine hK1.out _ _ (two_below' hHeld hc2) (fun hHeld => ?_)
            clear hK1 K1
            try simp only [Act.put, List.getElem_toArray, List.getElem_cons_succ, List.getElem_cons_zero, List.setIfInBounds_toArray, List.set_cons_zero, List.set_cons_succ]
            refine wpAnyH_take (i := 15) (v := .bool false) rfl (by kernel_rfl) (by kernel_rfl) (by kernel_rfl) (fun _ _ _ h => h) (Or.inl ⟨by rfl, fun w' hSw => by go_simp⟩) hHeld ?_
            try simp only [Act.put, List.getElem_toArray, List.getElem_cons_succ, List.getElem_cons_zero, List.setIfInBounds_toArray, List.set_cons_zero, List.set_cons_succ]
            refine wpAnyH_take (i := 16) (v := .bool false) rfl (by kernel_rfl) (by kernel_rfl) (by kernel_rfl) (fun _ _ _ h => h) (Or.inl ⟨by rfl, fun w' hSw => by go_simp⟩) hHeld ?_
            try simp only [Act.put, List.getElem_toArray, List.getElem_cons_succ, List.getElem_cons_zero, List.setIfInBounds_toArray, List.set_cons_zero, List.set_cons_succ]
            refine wpAnyH_done (by kernel_rfl) ?_ _
            generalize wc1 = wy at *
            have HR5y := Lib.hid (HR5w.out.below hHeld)
            have HR6y := Lib.hid (HR6w.out.below hHeld)
            have HChy := Lib.hid (HChw.out.trans (Chg.of_below (S := fun _ => False) hHeld) (fun _ q => q.elim))
            have ct := (HTc.out _ (HTx.out.below hHeld)).1
            have c6 := HN6.out _ HR6y.out
            clear hHeld HR5w HR6w HChw HSg
            go_wp2_with (first
              | ((with_reducible show wpList _ _ _ (⟨_, .store 3 (.tmp 113) _, _, _, _, _⟩ :: _) _ _)
                 refine wpList_store_int rfl 3 (.tmp 113) (.tmp 112) rfl g6 f 3 (Is (Od.nexts (rs.take i))) ((cn : Int) + 1) rfl rfl HR6y.out (by rw [HL64.out]; exact hf64) (by kernel_rfl) ?_
                 intro w9 hr hg
                 have HR6z : Hid (Row w9 g6 3 (Is (Od.nexts (rs.take (i + 1))))) := Lib.hid (by rw [HNs.out]; unfold Is at hr ⊢; rw [List.map_set]; exact hr)
                 have HR5z := Lib.hid (HR5y.out.kept hg (fun e => by injection e with e; have := HG56.out; omega))
                 have HChz := Lib.hid (HChy.out.trans (Chg.of_grown (S := fun q => q = g6) hg (fun k hk => by cases hk; exact .inl rfl)) (fun k hk => .inl (.inr hk)))
                 clear hr hg))
            exact ⟨⟨i + 1, by omega, by go_num, HR5z.out, HR6z.out, HChz.out⟩, by simp [intOf]; omega⟩
          · have dk : decide (rk.kind = 1) = false := decide_eq_false hk1
            have dkb : (rk.kind == 1) = false := by simpa using hk1
            have dkp : (rk.kind = 1) = False := by simpa using hk1
            have HNk : Hid (Od.nexts (rs.take (i + 1)) = Od.nexts (rs.take i)) := Lib.hid (by obtain ⟨h, e⟩ := HRK.out; exact HGd.out.nexts_keep i h (by rw [e]; exact hk1))
            clear hk1
            go_wp2_with (first
              | ((with_reducible show wpList _ _ _ (⟨_, .load 28 (.tmp 79), _, _, _, _⟩ :: _) _ _); refine wpList_load_tx rfl 28 (.tmp 79) rfl gb5 36 (rfl) (bRow rk.hash).toList _ (HHr.out) Tryd.underlying28 rfl (by rw [hash_info, HH32.out]) ?_)
              | (
                 with_reducible show wpList _ _ _ (⟨_, .store 28 (.tmp 5) _, _, _, _, _⟩ :: _) _ _
                 refine wpList_store_at rfl 28 (.tmp 5) (.tmp 80) rfl g5 0 (bRow rk.hash).toList HP _ rfl rfl (HR5t.out) (by have := HP32.out; have := HH32.out; omega) (by rw [hash_info, HH32.out]) HHh1.out ?_
                 intro w6 hr hg
                 rw [splice_all (HH32.out.trans HP32.out.symm)] at hr
                 have HR5u : Hid (Row w6 g5 28 (bRow (Od.head (rs.take (i + 1)))).toList) := Lib.hid (by obtain ⟨h, e⟩ := HRK.out; rw [Od.head_next i h, e]; exact hr)
                 have HX6 := Lib.hid (HX9.out.kept hg (fun e => by injection e with e; have := Hb8s; have := HR5.out.lt; omega))
                 have HR6u := Lib.hid ((HR6.out.below HBt.out).kept hg (fun e => by injection e with e; have := HG56.out; omega))
                 have HChu := Lib.hid ((HCh.out.trans (Chg.of_below (S := fun _ => False) HBt.out) (fun _ q => q.elim)).trans (Chg.of_grown (S := fun q => q = g5) hg (fun k hk => by cases hk; exact .inl rfl)) (fun k hk => .inl (.inl hk)))
                 have ck := (Rp.at HKf.out.prev (HCr.out _ HX6.out)).2.1; rw [Nat.zero_add] at ck; have cb := (Rp.at HKf.out.prev (HCr.out _ HX6.out)).2.2.2.1; rw [Nat.zero_add] at cb
                 clear hr hg))
            exact ⟨⟨i + 1, by omega, by go_num, HR5u.out, by rw [HNk.out]; exact HR6u.out, HChu.out⟩, by simp [intOf]; omega⟩
        · have dpos : decide ((i : Int) > 0) = false := decide_eq_false (by omega)
          have dpos2 : decide ((0 : Int) < (i : Int)) = false := decide_eq_false (by omega)
          go_wp2_with fail
          refine wp_region_held_drew (S := fun w' => Below ws.heap.size ws w') (by kernel_rfl) ((Below.refl _ _).drew) (fun hHeld => ?_)
          generalize ws.drew = wt at *
          refine wpAnyH_take (i := 0) (v := .int .i64 0) rfl (by kernel_rfl) (by kernel_rfl) (by kernel_rfl) (fun _ _ _ h => h) (Or.inl ⟨by rfl, fun w' hSw => by go_simp⟩) hHeld ?_
          try simp only [Act.put, List.getElem_toArray, List.getElem_cons_succ, List.getElem_cons_zero, List.setIfInBounds_toArray, List.set_cons_zero, List.set_cons_succ]
          refine wpAnyH_take (i := 1) (v := .bool false) rfl (by kernel_rfl) (by kernel_rfl) (by kernel_rfl) (fun _ _ _ h => h) (Or.inl ⟨by rfl, fun w' hSw => by go_simp⟩) hHeld ?_
          try simp only [Act.put, List.getElem_toArray, List.getElem_cons_succ, List.getElem_cons_zero, List.setIfInBounds_toArray, List.set_cons_zero, List.set_cons_succ]
          refine wpAnyH_take (i := 2) (v := .bool false) rfl (by kernel_rfl) (by kernel_rfl) (by kernel_rfl) (fun _ _ _ h => h) (Or.inl ⟨by rfl, fun w' hSw => by go_simp⟩) hHeld ?_
          try simp only [Act.put, List.getElem_toArray, List.getElem_cons_succ, List.getElem_cons_zero, List.setIfInBounds_toArray, List.set_cons_zero, List.set_cons_succ]
          refine' wpAnyH_take (i := 3) (v := _) rfl (by kernel_rfl) (by kernel_rfl) (by kernel_rfl) (fun _ _ _ h => h) (yieldsIf_load_mid (by rfl) _ _ rfl gb5 0 rfl C _ (fun w' hSw => (row_range (HX8.out.below hSw))) Tryd.underlying30 rfl (by rw [rp_info, HC68.out])) hHeld ?_
          try simp only [Act.put, List.getElem_toArray, List.getElem_cons_succ, List.getElem_cons_zero, List.setIfInBounds_toArray, List.set_cons_zero, List.set_cons_succ]
          refine wpAnyH_take (i := 4) (v := .slice (some ⟨gA, oA, none⟩) n c) rfl (by kernel_rfl) (by kernel_rfl) (by kernel_rfl) (fun _ _ _ h => h) (Or.inl ⟨by rfl, fun w' hSw => by go_simp⟩) hHeld ?_
          try simp only [Act.put, List.getElem_toArray, List.getElem_cons_succ, List.getElem_cons_zero, List.setIfInBounds_toArray, List.set_cons_zero, List.set_cons_succ]
          refine wpAnyH_take (i := 5) (v := .int .i64 i) rfl (by kernel_rfl) (by kernel_rfl) (by kernel_rfl) (fun _ _ _ h => h) (Or.inl ⟨by rfl, fun w' hSw => by go_simp⟩) hHeld ?_
          try simp only [Act.put, List.getElem_toArray, List.getElem_cons_succ, List.getElem_cons_zero, List.setIfInBounds_toArray, List.set_cons_zero, List.set_cons_succ]
          refine wpAnyH_take (i := 6) (v := .pointer (some ⟨gA, (oA + i * 68), none⟩)) rfl (by kernel_rfl) (by kernel_rfl) (by kernel_rfl) (fun _ _ _ h => h) (Or.inl ⟨by rfl, fun w' hSw => by go_simp⟩) hHeld ?_
          try simp only [Act.put, List.getElem_toArray, List.getElem_cons_succ, List.getElem_cons_zero, List.setIfInBounds_toArray, List.set_cons_zero, List.set_cons_succ]
          refine' wpAnyH_take (i := 7) (v := _) rfl (by kernel_rfl) (by kernel_rfl) (by kernel_rfl) (fun _ _ _ h => h) (yieldsIf_load_mid (by rfl) _ _ rfl gA (oA + i * 68) rfl C _ (fun w' hSw => ((HRa.out _ (two_below' HBs.out hSw)).2.2.2.2)) Tryd.underlying30 rfl (by rw [rp_info, HC68.out])) hHeld ?_
          try simp only [Act.put, List.getElem_toArray, List.getElem_cons_succ, List.getElem_cons_zero, List.setIfInBounds_toArray, List.set_cons_zero, List.set_cons_succ]
          refine wpAnyH_take (i := 8) (v := .bool false) rfl (by kernel_rfl) (by kernel_rfl) (by kernel_rfl) (fun _ _ _ h => h) (Or.inl ⟨by rfl, fun w' hSw => by have hq := hSw; have hd := heqC w'; go_simp⟩) hHeld ?_
          try simp only [Act.put, List.getElem_toArray, List.getElem_cons_succ, List.getElem_cons_zero, List.setIfInBounds_toArray, List.set_cons_zero, List.set_cons_succ]
          refine wpAnyH_take (i := 9) (v := .bool false) rfl (by kernel_rfl) (by kernel_rfl) (by kernel_rfl) (fun _ _ _ h => h) (Or.inl ⟨by rfl, fun w' hSw => by go_simp⟩) hHeld ?_
          try simp only [Act.put, List.getElem_toArray, List.getElem_cons_succ, List.getElem_cons_zero, List.setIfInBounds_toArray, List.set_cons_zero, List.set_cons_succ]
          refine wpAnyH_take (i := 10) (v := .bool false) rfl (by kernel_rfl) (by kernel_rfl) (by kernel_rfl) (fun _ _ _ h => h) (Or.inl ⟨by rfl, fun w' hSw => by go_simp⟩) hHeld ?_
          try simp only [Act.put, List.getElem_toArray, List.getElem_cons_succ, List.getElem_cons_zero, List.setIfInBounds_toArray, List.set_cons_zero, List.set_cons_succ]
          refine wpAnyH_take (i := 11) (v := .int .i64 i) rfl (by kernel_rfl) (by kernel_rfl) (by kernel_rfl) (fun _ _ _ h => h) (Or.inl ⟨by rfl, fun w' hSw => by go_simp⟩) hHeld ?_
          try simp only [Act.put, List.getElem_toArray, List.getElem_cons_succ, List.getElem_cons_zero, List.setIfInBounds_toArray, List.set_cons_zero, List.set_cons_succ]
          refine wpAnyH_take (i := 12) (v := .bool false) rfl (by kernel_rfl) (by kernel_rfl) (by kernel_rfl) (fun _ _ _ h => h) (Or.inl ⟨by rfl, fun w' hSw => by go_simp⟩) hHeld ?_
          try simp only [Act.put, List.getElem_toArray, List.getElem_cons_succ, List.getElem_cons_zero, List.setIfInBounds_toArray, List.set_cons_zero, List.set_cons_succ]
          refine wpAnyH_take (i := 13) (v := .bool false) rfl (by kernel_rfl) (by kernel_rfl) (by kernel_rfl) (fun _ _ _ h => h) (Or.inl ⟨by rfl, fun w' hSw => by go_simp⟩) hHeld ?_
          try simp only [Act.put, List.getElem_toArray, List.getElem_cons_succ, List.getElem_cons_zero, List.setIfInBounds_toArray, List.set_cons_zero, List.set_cons_succ]
          refine wpAnyH_take (i := 14) (v := undef) rfl (by kernel_rfl) (by kernel_rfl) (by kernel_rfl) (fun _ _ _ h => h) (Or.inr ⟨by rfl, rfl⟩) hHeld ?_
          try simp only [Act.put, List.getElem_toArray, List.getElem_cons_succ, List.getElem_cons_zero, List.setIfInBounds_toArray, List.set_cons_zero, List.set_cons_succ]
          refine wpAnyH_take (i := 15) (v := undef) rfl (by kernel_rfl) (by kernel_rfl) (by kernel_rfl) (fun _ _ _ h => h) (Or.inr ⟨by rfl, rfl⟩) hHeld ?_
          try simp only [Act.put, List.getElem_toArray, List.getElem_cons_succ, List.getElem_cons_zero, List.setIfInBounds_toArray, List.set_cons_zero, List.set_cons_succ]
          refine wpAnyH_take (i := 16) (v := undef) rfl (by kernel_rfl) (by kernel_rfl) (by kernel_rfl) (fun _ _ _ h => h) (Or.inr ⟨by rfl, rfl⟩) hHeld ?_
          try simp only [Act.put, List.getElem_toArray, List.getElem_cons_succ, List.getElem_cons_zero, List.setIfInBounds_toArray, List.set_cons_zero, List.set_cons_succ]
          refine wpAnyH_take (i := 17) (v := undef) rfl (by kernel_rfl) (by kernel_rfl) (by kernel_rfl) (fun _ _ _ h => h) (Or.inr ⟨by rfl, rfl⟩) hHeld ?_
          try simp only [Act.put, List.getElem_toArray, List.getElem_cons_succ, List.getElem_cons_zero, List.setIfInBounds_toArray, List.set_cons_zero, List.set_cons_succ]
          refine wpAnyH_take (i := 18) (v := undef) rfl (by kernel_rfl) (by kernel_rfl) (by kernel_rfl) (fun _ _ _ h => h) (Or.inr ⟨by rfl, rfl⟩) hHeld ?_
          try simp only [Act.put, List.getElem_toArray, List.getElem_cons_succ, List.getElem_cons_zero, List.setIfInBounds_toArray, List.set_cons_zero, List.set_cons_succ]
          refine wpAnyH_take (i := 19) (v := undef) rfl (by kernel_rfl) (by kernel_rfl) (by kernel_rfl) (fun _ _ _ h => h) (Or.inr ⟨by rfl, rfl⟩) hHeld ?_
          try simp only [Act.put, List.getElem_toArray, List.getElem_cons_succ, List.getElem_cons_zero, List.setIfInBounds_toArray, List.set_cons_zero, List.set_cons_succ]
          refine wpAnyH_take (i := 20) (v := undef) rfl (by kernel_rfl) (by kernel_rfl) (by kernel_rfl) (fun _ _ _ h => h) (Or.inr ⟨by rfl, rfl⟩) hHeld ?_
          try simp only [Act.put, List.getElem_toArray, List.getElem_cons_succ, List.getElem_cons_zero, List.setIfInBounds_toArray, List.set_cons_zero, List.set_cons_succ]
          refine wpAnyH_take (i := 21) (v := undef) rfl (by kernel_rfl) (by kernel_rfl) (by kernel_rfl) (fun _ _ _ h => h) (Or.inr ⟨by rfl, rfl⟩) hHeld ?_
          try simp only [Act.put, List.getElem_toArray, List.getElem_cons_succ, List.getElem_cons_zero, List.setIfInBounds_toArray, List.set_cons_zero, List.set_cons_succ]
          refine wpAnyH_take (i := 22) (v := undef) rfl (by kernel_rfl) (by kernel_rfl) (by kernel_rfl) (fun _ _ _ h => h) (Or.inr ⟨by rfl, rfl⟩) hHeld ?_
          try simp only [Act.put, List.getElem_toArray, List.getElem_cons_succ, List.getElem_cons_zero, List.setIfInBounds_toArray, List.set_cons_zero, List.set_cons_succ]
          refine wpAnyH_take (i := 23) (v := undef) rfl (by kernel_rfl) (by kernel_rfl) (by kernel_rfl) (fun _ _ _ h => h) (Or.inr ⟨by rfl, rfl⟩) hHeld ?_
          try simp only [Act.put, List.getElem_toArray, List.getElem_cons_succ, List.getElem_cons_zero, List.setIfInBounds_toArray, List.set_cons_zero, List.set_cons_succ]
          refine wpAnyH_take (i := 24) (v := undef) rfl (by kernel_rfl) (by kernel_rfl) (by kernel_rfl) (fun _ _ _ h => h) (Or.inr ⟨by rfl, rfl⟩) hHeld ?_
          try simp only [Act.put, List.getElem_toArray, List.getElem_cons_succ, List.getElem_cons_zero, List.setIfInBounds_toArray, List.set_cons_zero, List.set_cons_succ]
          refine wpAnyH_take (i := 25) (v := undef) rfl (by kernel_rfl) (by kernel_rfl) (by kernel_rfl) (fun _ _ _ h => h) (Or.inr ⟨by rfl, rfl⟩) hHeld ?_
          try simp only [Act.put, List.getElem_toArray, List.getElem_cons_succ, List.getElem_cons_zero, List.setIfInBounds_toArray, List.set_cons_zero, List.set_cons_succ]
          refine wpAnyH_take (i := 26) (v := .bool false) rfl (by kernel_rfl) (by kernel_rfl) (by kernel_rfl) (fun _ _ _ h => h) (Or.inl ⟨by rfl, fun w' hSw => by go_simp⟩) hHeld ?_
          try simp only [Act.put, List.getElem_toArray, List.getElem_cons_succ, List.getElem_cons_zero, List.setIfInBounds_toArray, List.set_cons_zero, List.set_cons_succ]
          refine wpAnyH_take (i := 27) (v := .bool false) rfl (by kernel_rfl) (by kernel_rfl) (by kernel_rfl) (fun _ _ _ h => h) (Or.inl ⟨by rfl, fun w' hSw => by go_simp⟩) hHeld ?_
          try simp only [Act.put, List.getElem_toArray, List.getElem_cons_succ, List.getElem_cons_zero, List.setIfInBounds_toArray, List.set_cons_zero, List.set_cons_succ]
          refine wpAnyH_done (by kernel_rfl) ?_ _
          clear dpos dpos2
          have HBt := Lib.hid (two_below' HBs.out hHeld)
          have HX9 := Lib.hid (HX8.out.below hHeld)
          have HR5t := Lib.hid (HR5.out.below HBt.out)
          have HHr := Lib.hid (Rp.at HKf.out.prev (HCr.out _ HX9.out)).2.2.2.2
          rw [Nat.zero_add] at HHr
          clear hHeld HX8 HBs
          by_cases hk1 : rk.kind = 1
          · obtain ⟨t, ht1, ht2, ht3, ht4, ht5, ht6⟩ : ∃ t : Tx, Tx.read rk.body.data.toList = some t ∧ t.signedE = 0 ∧ t.nonce = (Od.cnt (rs.take i) t.frm : Int) ∧ Od.by_ rk = t.frm ∧ 0 ≤ t.frm ∧ t.frm ≤ 63 := by
              obtain ⟨h, e⟩ := HRK.out
              have := HGd.out.tx i h (by rw [e]; exact hk1)
              rwa [e] at this
            have htk := (Tx.read_err ht1).1
            obtain ⟨f, hf⟩ := Int.eq_ofNat_of_zero_le ht5
            have hf64 : f < 64 := by omega
            have hfi : (f : Int) < 64 := by omega
            have hf0 : (0 : Int) ≤ (f : Int) := by omega
            have HRD : Hid (∀ W, Calls Tryd.prog 24 #[.string rk.body] W fun e w' => e = .returned (.tuple #[.agg t.cells.toArray, .int .i64 0]) ∧ Below W.heap.size W w') := Lib.hid (fun W => (rread19_any rk.body W HKf.out.body).mono fun e w' ⟨q1, q2⟩ => by rw [ht1] at q1; exact ⟨q1, q2⟩)
            have HSg : Hid (∀ W, Calls Tryd.prog 25 #[.agg t.cells.toArray] W fun e w' => e = .returned (.int .i64 0) ∧ Below W.heap.size W w') := Lib.hid (fun W => by have := rsigned4_any t htk W hRS; rw [ht2] at this; exact this)
            have HNs : Hid (Od.nexts (rs.take (i + 1)) = (Od.nexts (rs.take i)).set f ((Od.cnt (rs.take i) (f : Int) : Int) + 1)) := Lib.hid (by obtain ⟨h, e⟩ := HRK.out; exact Od.nexts_step i h f (by rw [e, ht4, hf]) hf64)
            have HTc : Hid (∀ {g : Nat} (W : World), Row W g 50 t.cells → W.cell? ⟨g, 0, none⟩ = some (.int .i64 (f : Int)) ∧ W.cell? ⟨g, 1, none⟩ = some (.int .i64 (Od.cnt (rs.take i) (f : Int) : Int))) := Lib.hid (fun W h => ⟨by have := tx_range h 0 (.int .i64 t.frm) rfl; rw [hf] at this; exact this, by have := tx_range h 1 (.int .i64 t.nonce) rfl; rw [ht3, hf] at this; exact this⟩)
            have hN6 : (Is (Od.nexts (rs.take i))).length = 64 := by unfold Is; rw [List.length_map, Od.nexts_len]
            have HN6 : Hid (∀ {g : Nat} {T : TypeId} (W : World), Row W g T (Is (Od.nexts (rs.take i))) → W.cell? ⟨g, f, none⟩ = some (.int .i64 (Od.cnt (rs.take i) (f : Int) : Int))) := Lib.hid (fun W h => by
              rw [h.cell f (by rw [hN6]; exact hf64)]
              congr 1
              unfold Is
              rw [List.getElem_map, Od.nexts_get _ f hf64])
            have hcn40 : Od.cnt (rs.take i) (f : Int) ≤ 40 := by have := Od.cnt_le (rs.take i) (f : Int); rw [List.length_take] at this; omega
            have HT72 := Lib.hid (Tx.cells_length htk)
            have HT1 := Lib.hid (Tx.cells_one htk)
            have hzx : ∀ W : World, (zeroValue 50).run Tryd.prog W = .ok (.agg Tx.none.cells.toArray) W := tx_zv
            have HZX72 := Lib.hid (Tx.cells_length Tx.none_ok)
            obtain ⟨ZX, hZX⟩ : ∃ ZX, Tx.none.cells = ZX := ⟨_, rfl⟩
            rw [hZX] at hzx HZX72
            obtain ⟨CT, hCT⟩ : ∃ CT, t.cells = CT := ⟨_, rfl⟩
            rw [hCT] at HRD HSg HTc HT72 HT1
            obtain ⟨cn, hcn⟩ : ∃ cn : Nat, Od.cnt (rs.take i) (f : Int) = cn := ⟨_, rfl⟩
            rw [hcn] at HNs HTc HN6 hcn40
            have HL64 := Lib.hid hN6
            have dk : decide (rk.kind = 1) = true := decide_eq_true hk1
            have dkb : (rk.kind == 1) = true := by simpa using hk1
            have dkp : (rk.kind = 1) = True := by simpa using hk1
            have ecn : IntKind.i64.wrap ((cn : Int) + 1) = (cn : Int) + 1 := IntWalk.i64_in _ (by omega)
            clear ht1 ht2 ht3 ht4 ht5 ht6 htk hf hZX hCT hcn hk1 hN6
            go_wp2_with (first
              | ((with_reducible show wpList _ _ _ (⟨_, .load 28 (.tmp 79), _, _, _, _⟩ :: _) _ _); refine wpList_load_tx rfl 28 (.tmp 79) rfl gb5 36 (rfl) (bRow rk.hash).toList _ (HHr.out) Tryd.underlying28 rfl (by rw [hash_info, HH32.out]) ?_)
              | (
                 with_reducible show wpList _ _ _ (⟨_, .store 28 (.tmp 5) _, _, _, _, _⟩ :: _) _ _
                 refine wpList_store_at rfl 28 (.tmp 5) (.tmp 80) rfl g5 0 (bRow rk.hash).toList HP _ rfl rfl (HR5t.out) (by have := HP32.out; have := HH32.out; omega) (by rw [hash_info, HH32.out]) HHh1.out ?_
                 intro w6 hr hg
                 rw [splice_all (HH32.out.trans HP32.out.symm)] at hr
                 have HR5u : Hid (Row w6 g5 28 (bRow (Od.head (rs.take (i + 1)))).toList) := Lib.hid (by obtain ⟨h, e⟩ := HRK.out; rw [Od.head_next i h, e]; exact hr)
                 have HX6 := Lib.hid (HX9.out.kept hg (fun e => by injection e with e; have := Hb8s; have := HR5.out.lt; omega))
                 have HR6u := Lib.hid ((HR6.out.below HBt.out).kept hg (fun e => by injection e with e; have := HG56.out; omega))
                 have HChu := Lib.hid ((HCh.out.trans (Chg.of_below (S := fun _ => False) HBt.out) (fun _ q => q.elim)).trans (Chg.of_grown (S := fun q => q = g5) hg (fun k hk => by cases hk; exact .inl rfl)) (fun k hk => .inl (.inl hk)))
                 have ck := (Rp.at HKf.out.prev (HCr.out _ HX6.out)).2.1; rw [Nat.zero_add] at ck; have cb := (Rp.at HKf.out.prev (HCr.out _ HX6.out)).2.2.2.1; rw [Nat.zero_add] at cb
                 clear hr hg))
            refine (HRD.out _).mono ?_
            rintro _ w7 ⟨rfl, hb7⟩
            have HR5v := Lib.hid (HR5u.out.below hb7)
            have HR6v := Lib.hid (HR6u.out.below hb7)
            have HChv := Lib.hid (HChu.out.trans (Chg.of_below (S := fun _ => False) hb7) (fun _ q => q.elim))
            clear hb7 HR5u HR6u HChu HRD ck cb
            go_wp2_with (first
              | (
                 with_reducible show wpList _ _ _ (⟨_, .store 50 (.tmp 10) _, _, _, _, _⟩ :: _) _ _
                 refine wpList_store_at rfl 50 (.tmp 10) (.tmp 88) rfl w7.heap.size 0 CT ZX _ rfl rfl (Row.new w7 50 ZX) (by have := HZX72.out; have := HT72.out; omega) (by rw [tx_info, HT72.out]) HT1.out ?_
                 intro w8 hr hg
                 rw [splice_all (HT72.out.trans HZX72.out.symm)] at hr
                 have hbx := below_own ((Below.refl w7.heap.size w7).alloc (Nat.le_refl _) (.cells ZX.toArray 50)) hg (fun k hk => by cases hk; exact Nat.le_refl _)
                 have HR5w := Lib.hid (HR5v.out.below hbx)
                 have HR6w := Lib.hid (HR6v.out.below hbx)
                 have HChw := Lib.hid (HChv.out.trans (Chg.of_below (S := fun _ => False) hbx) (fun _ q => q.elim))
                 have HTx := Lib.hid hr
                 clear hbx
                 clear hr hg))
            generalize w7.heap.size = g10 at *
            clear HR5v HR6v HChv
            refine wp_region_held_drew (S := fun w' => Below w8.heap.size w8 w') (by kernel_rfl) ((Below.refl _ _).drew) (fun hHeld => ?_)
            generalize w8.drew = wx at *
            refine wpAnyH_take (i := 0) (v := .int .i64 0) rfl (by kernel_rfl) (by kernel_rfl) (by kernel_rfl) (fun _ _ _ h => h) (Or.inl ⟨by rfl, fun w' hSw => by go_simp⟩) hHeld ?_
            try simp only [Act.put, List.getElem_toArray, List.getElem_cons_succ, List.getElem_cons_zero, List.setIfInBounds_toArray, List.set_cons_zero, List.set_cons_succ]
            refine wpAnyH_take (i := 1) (v := .bool false) rfl (by kernel_rfl) (by kernel_rfl) (by kernel_rfl) (fun _ _ _ h => h) (Or.inl ⟨by rfl, fun w' hSw => by go_simp⟩) hHeld ?_
            try simp only [Act.put, List.getElem_toArray, List.getElem_cons_succ, List.getElem_cons_zero, List.setIfInBounds_toArray, List.set_cons_zero, List.set_cons_succ]
            refine wpAnyH_take (i := 2) (v := .bool false) rfl (by kernel_rfl) (by kernel_rfl) (by kernel_rfl) (fun _ _ _ h => h) (Or.inl ⟨by rfl, fun w' hSw => by go_simp⟩) hHeld ?_
            try simp only [Act.put, List.getElem_toArray, List.getElem_cons_succ, List.getElem_cons_zero, List.setIfInBounds_toArray, List.set_cons_zero, List.set_cons_succ]
            refine wpAnyH_take (i := 3) (v := .pointer (some ⟨g10, 1, none⟩)) rfl (by kernel_rfl) (by kernel_rfl) (by kernel_rfl) (fun _ _ _ h => h) (Or.inl ⟨by rfl, fun w' hSw => by go_simp⟩) hHeld ?_
            try simp only [Act.put, List.getElem_toArray, List.getElem_cons_succ, List.getElem_cons_zero, List.setIfInBounds_toArray, List.set_cons_zero, List.set_cons_succ]
            refine wpAnyH_take (i := 4) (v := .int .i64 cn) rfl (by kernel_rfl) (by kernel_rfl) (by kernel_rfl) (fun _ _ _ h => h) (Or.inl ⟨by rfl, fun w' hSw => by have hq := hSw; have hd := (HTc.out _ (HTx.out.below hq)).2; go_simp⟩) hHeld ?_
            try simp only [Act.put, List.getElem_toArray, List.getElem_cons_succ, List.getElem_cons_zero, List.setIfInBounds_toArray, List.set_cons_zero, List.set_cons_succ]
            refine wpAnyH_take (i := 5) (v := .slice (some ⟨g6, 0, none⟩) 64 64) rfl (by kernel_rfl) (by kernel_rfl) (by kernel_rfl) (fun _ _ _ h => h) (Or.inl ⟨by rfl, fun w' hSw => by go_simp⟩) hHeld ?_
            try simp only [Act.put, List.getElem_toArray, List.getElem_cons_succ, List.getElem_cons_zero, List.setIfInBounds_toArray, List.set_cons_zero, List.set_cons_succ]
            refine wpAnyH_take (i := 6) (v := .pointer (some ⟨g10, 0, none⟩)) rfl (by kernel_rfl) (by kernel_rfl) (by kernel_rfl) (fun _ _ _ h => h) (Or.inl ⟨by rfl, fun w' hSw => by go_simp⟩) hHeld ?_
            try simp only [Act.put, List.getElem_toArray, List.getElem_cons_succ, List.getElem_cons_zero, List.setIfInBounds_toArray, List.set_cons_zero, List.set_cons_succ]
            refine wpAnyH_take (i := 7) (v := .int .i64 f) rfl (by kernel_rfl) (by kernel_rfl) (by kernel_rfl) (fun _ _ _ h => h) (Or.inl ⟨by rfl, fun w' hSw => by have hq := hSw; have hd := (HTc.out _ (HTx.out.below hq)).1; go_simp⟩) hHeld ?_
            try simp only [Act.put, List.getElem_toArray, List.getElem_cons_succ, List.getElem_cons_zero, List.setIfInBounds_toArray, List.set_cons_zero, List.set_cons_succ]
            refine wpAnyH_take (i := 8) (v := .pointer (some ⟨g6, f, none⟩)) rfl (by kernel_rfl) (by kernel_rfl) (by kernel_rfl) (fun _ _ _ h => h) (Or.inl ⟨by rfl, fun w' hSw => by go_simp⟩) hHeld ?_
            try simp only [Act.put, List.getElem_toArray, List.getElem_cons_succ, List.getElem_cons_zero, List.setIfInBounds_toArray, List.set_cons_zero, List.set_cons_succ]
            refine wpAnyH_take (i := 9) (v := .int .i64 cn) rfl (by kernel_rfl) (by kernel_rfl) (by kernel_rfl) (fun _ _ _ h => h) (Or.inl ⟨by rfl, fun w' hSw => by have hq := hSw; have hd := HN6.out _ (HR6w.out.below hq); go_simp⟩) hHeld ?_
            try simp only [Act.put, List.getElem_toArray, List.getElem_cons_succ, List.getElem_cons_zero, List.setIfInBounds_toArray, List.set_cons_zero, List.set_cons_succ]
            refine wpAnyH_take (i := 10) (v := .bool false) rfl (by kernel_rfl) (by kernel_rfl) (by kernel_rfl) (fun _ _ _ h => h) (Or.inl ⟨by rfl, fun w' hSw => by go_simp⟩) hHeld ?_
            try simp only [Act.put, List.getElem_toArray, List.getElem_cons_succ, List.getElem_cons_zero, List.setIfInBounds_toArray, List.set_cons_zero, List.set_cons_succ]
            refine wpAnyH_take (i := 11) (v := .bool false) rfl (by kernel_rfl) (by kernel_rfl) (by kernel_rfl) (fun _ _ _ h => h) (Or.inl ⟨by rfl, fun w' hSw => by go_simp⟩) hHeld ?_
            try simp only [Act.put, List.getElem_toArray, List.getElem_cons_succ, List.getElem_cons_zero, List.setIfInBounds_toArray, List.set_cons_zero, List.set_cons_succ]
            refine wpAnyH_take (i := 12) (v := .bool false) rfl (by kernel_rfl) (by kernel_rfl) (by kernel_rfl) (fun _ _ _ h => h) (Or.inl ⟨by rfl, fun w' hSw => by go_simp⟩) hHeld ?_
            try simp only [Act.put, List.getElem_toArray, List.getElem_cons_succ, List.getElem_cons_zero, List.setIfInBounds_toArray, List.set_cons_zero, List.set_cons_succ]
            refine' wpAnyH_take (i := 13) (v := _) rfl (by kernel_rfl) (by kernel_rfl) (by kernel_rfl) (fun _ _ _ h => h) (yieldsIf_load_mid (by rfl) _ _ rfl g10 0 rfl CT _ (fun w' hSw => (row_range (HTx.out.below hSw))) Tryd.underlying50 rfl (by rw [tx_info, HT72.out])) hHeld ?_
            try simp only [Act.put, List.getElem_toArray, List.getElem_cons_succ, List.getElem_cons_zero, List.setIfInBounds_toArray, List.set_cons_zero, List.set_cons_succ]
            refine wpAnyH_ready (rs := [14]) (by kernel_rfl) (by simp) (AllReadyH.cons rfl (fun K1 hK1 => ?_) AllReadyH.nil)
            try simp only [Act.put, List.getElem_toArray, List.getElem_cons_succ, List.getElem_cons_zero, List.setIfInBounds_toArray, List.set_cons_zero, List.set_cons_succ]
            go_simp
            refine Calls.mono (HSg.out _) ?_
            rintro e wc1 ⟨rfl, hc2⟩
            refine hK1.out _ _ (two_below' hHeld hc2) (fun hHeld => ?_)
            clear hK1 K1
            try simp only [Act.put, List.getElem_toArray, List.getElem_cons_succ, List.getElem_cons_zero, List.setIfInBounds_toArray, List.set_cons_zero, List.set_cons_succ]
            refine wpAnyH_take (i := 15) (v := .bool false) rfl (by kernel_rfl) (by kernel_rfl) (by kernel_rfl) (fun _ _ _ h => h) (Or.inl ⟨by rfl, fun w' hSw => by go_simp⟩) hHeld ?_
            try simp only [Act.put, List.getElem_toArray, List.getElem_cons_succ, List.getElem_cons_zero, List.setIfInBounds_toArray, List.set_cons_zero, List.set_cons_succ]
            refine wpAnyH_take (i := 16) (v := .bool false) rfl (by kernel_rfl) (by kernel_rfl) (by kernel_rfl) (fun _ _ _ h => h) (Or.inl ⟨by rfl, fun w' hSw => by go_simp⟩) hHeld ?_
            try simp only [Act.put, List.getElem_toArray, List.getElem_cons_succ, List.getElem_cons_zero, List.setIfInBounds_toArray, List.set_cons_zero, List.set_cons_succ]
            refine wpAnyH_done (by kernel_rfl) ?_ _
            generalize wc1 = wy at *
            have HR5y := Lib.hid (HR5w.out.below hHeld)
            have HR6y := Lib.hid (HR6w.out.below hHeld)
            have HChy := Lib.hid (HChw.out.trans (Chg.of_below (S := fun _ => False) hHeld) (fun _ q => q.elim))
            have ct := (HTc.out _ (HTx.out.below hHeld)).1
            have c6 := HN6.out _ HR6y.out
            clear hHeld HR5w HR6w HChw HSg
            go_wp2_with (first
              | ((with_reducible show wpList _ _ _ (⟨_, .store 3 (.tmp 113) _, _, _, _, _⟩ :: _) _ _)
                 refine wpList_store_int rfl 3 (.tmp 113) (.tmp 112) rfl g6 f 3 (Is (Od.nexts (rs.take i))) ((cn : Int) + 1) rfl rfl HR6y.out (by rw [HL64.out]; exact hf64) (by kernel_rfl) ?_
                 intro w9 hr hg
                 have HR6z : Hid (Row w9 g6 3 (Is (Od.nexts (rs.take (i + 1))))) := Lib.hid (by rw [HNs.out]; unfold Is at hr ⊢; rw [List.map_set]; exact hr)
                 have HR5z := Lib.hid (HR5y.out.kept hg (fun e => by injection e with e; have := HG56.out; omega))
                 have HChz := Lib.hid (HChy.out.trans (Chg.of_grown (S := fun q => q = g6) hg (fun k hk => by cases hk; exact .inl rfl)) (fun k hk => .inl (.inr hk)))
                 clear hr hg))
            exact ⟨⟨i + 1, by omega, by go_num, HR5z.out, HR6z.out, HChz.out⟩, by simp [intOf]; omega⟩
          · have dk : decide (rk.kind = 1) = false := decide_eq_false hk1
            have dkb : (rk.kind == 1) = false := by simpa using hk1
            have dkp : (rk.kind = 1) = False := by simpa using hk1
            have HNk : Hid (Od.nexts (rs.take (i + 1)) = Od.nexts (rs.take i)) := Lib.hid (by obtain ⟨h, e⟩ := HRK.out; exact HGd.out.nexts_keep i h (by rw [e]; exact hk1))
            clear hk1
            go_wp2_with (first
              | ((with_reducible show wpList _ _ _ (⟨_, .load 28 (.tmp 79), _, _, _, _⟩ :: _) _ _); refine wpList_load_tx rfl 28 (.tmp 79) rfl gb5 36 (rfl) (bRow rk.hash).toList _ (HHr.out) Tryd.underlying28 rfl (by rw [hash_info, HH32.out]) ?_)
              | (
                 with_reducible show wpList _ _ _ (⟨_, .store 28 (.tmp 5) _, _, _, _, _⟩ :: _) _ _
                 refine wpList_store_at rfl 28 (.tmp 5) (.tmp 80) rfl g5 0 (bRow rk.hash).toList HP _ rfl rfl (HR5t.out) (by have := HP32.out; have := HH32.out; omega) (by rw [hash_info, HH32.out]) HHh1.out ?_
                 intro w6 hr hg
                 rw [splice_all (HH32.out.trans HP32.out.symm)] at hr
                 have HR5u : Hid (Row w6 g5 28 (bRow (Od.head (rs.take (i + 1)))).toList) := Lib.hid (by obtain ⟨h, e⟩ := HRK.out; rw [Od.head_next i h, e]; exact hr)
                 have HX6 := Lib.hid (HX9.out.kept hg (fun e => by injection e with e; have := Hb8s; have := HR5.out.lt; omega))
                 have HR6u := Lib.hid ((HR6.out.below HBt.out).kept hg (fun e => by injection e with e; have := HG56.out; omega))
                 have HChu := Lib.hid ((HCh.out.trans (Chg.of_below (S := fun _ => False) HBt.out) (fun _ q => q.elim)).trans (Chg.of_grown (S := fun q => q = g5) hg (fun k hk => by cases hk; exact .inl rfl)) (fun k hk => .inl (.inl hk)))
                 have ck := (Rp.at HKf.out.prev (HCr.out _ HX6.out)).2.1; rw [Nat.zero_add] at ck; have cb := (Rp.at HKf.out.prev (HCr.out _ HX6.out)).2.2.2.1; rw [Nat.zero_add] at cb
                 clear hr hg))
            exact ⟨⟨i + 1, by omega, by go_num, HR5u.out, by rw [HNk.out]; exact HR6u.out, HChu.out⟩, by simp [intOf]; omega⟩
      · skip
        try simp only [Act.put, List.getElem_toArray, List.getElem_cons_succ, List.getElem_cons_zero, List.setIfInBounds_toArray, List.set_cons_zero, List.set_cons_succ]
        go_simp
        have hd8 := (Below.refl wq.heap.size wq).alloc (Nat.le_refl _) (.cells ZT.toArray 30)
        have Hb8 : Row (wq.alloc (.cells ZT.toArray 30)) wq.heap.size 30 ZT := Row.new wq 30 ZT
        have Hb8s := hHeld.size
        have hHeld2 := two_below' hHeld hd8
        generalize wq.alloc (.cells ZT.toArray 30) = wa7 at *
        obtain ⟨gb9, gb9e⟩ : ∃ gb9, gb9 = wq.heap.size := ⟨_, rfl⟩
        rw [← gb9e] at Hb8 Hb8s ⊢
        refine hK1.out _ _ (hHeld2) (fun hHeld => ?_)
        clear hK1 K1
        try simp only [Act.put, List.getElem_toArray, List.getElem_cons_succ, List.getElem_cons_zero, List.setIfInBounds_toArray, List.set_cons_zero, List.set_cons_succ]
        clear hHeld2 gb9e
        refine wpAnyH_ready (rs := [17]) (by kernel_rfl) (by simp) (AllReadyH.cons rfl (fun K1 hK1 => ?_) AllReadyH.nil)
        try simp only [Act.put, List.getElem_toArray, List.getElem_cons_succ, List.getElem_cons_zero, List.setIfInBounds_toArray, List.set_cons_zero, List.set_cons_succ]
        go_simp
        refine Calls.mono (HLk.out _) ?_
        rintro e wc10 ⟨rfl, hb11⟩
        have Hb8 := Hb8.kept (grownBy_of_below hb11 none) (by simp)
        refine hK1.out _ _ (two_below' hHeld hb11) (fun hHeld => ?_)
        clear hK1 K1
        try simp only [Act.put, List.getElem_toArray, List.getElem_cons_succ, List.getElem_cons_zero, List.setIfInBounds_toArray, List.set_cons_zero, List.set_cons_succ]
        refine wpAnyH_take (i := 18) (v := .tuple #[.agg C.toArray, .int .i64 0]) rfl (by kernel_rfl) (by kernel_rfl) (by kernel_rfl) (fun _ _ _ h => h) (Or.inl ⟨by rfl, fun w' hSw => by go_simp⟩) hHeld ?_
        try simp only [Act.put, List.getElem_toArray, List.getElem_cons_succ, List.getElem_cons_zero, List.setIfInBounds_toArray, List.set_cons_zero, List.set_cons_succ]
        refine wpAnyH_take (i := 19) (v := .agg C.toArray) rfl (by kernel_rfl) (by kernel_rfl) (by kernel_rfl) (fun _ _ _ h => h) (Or.inl ⟨by rfl, fun w' hSw => by go_simp⟩) hHeld ?_
        try simp only [Act.put, List.getElem_toArray, List.getElem_cons_succ, List.getElem_cons_zero, List.setIfInBounds_toArray, List.set_cons_zero, List.set_cons_succ]
        refine wpAnyH_take (i := 20) (v := .int .i64 0) rfl (by kernel_rfl) (by kernel_rfl) (by kernel_rfl) (fun _ _ _ h => h) (Or.inl ⟨by rfl, fun w' hSw => by go_simp⟩) hHeld ?_
        try simp only [Act.put, List.getElem_toArray, List.getElem_cons_succ, List.getElem_cons_zero, List.setIfInBounds_toArray, List.set_cons_zero, List.set_cons_succ]
        refine wpAnyH_ready (rs := [22]) (by kernel_rfl) (by simp) (AllReadyH.cons rfl (fun K1 hK1 => ?_) AllReadyH.nil)
        try simp only [Act.put, List.getElem_toArray, List.getElem_cons_succ, List.getElem_cons_zero, List.setIfInBounds_toArray, List.set_cons_zero, List.set_cons_succ]
        rw [if_pos (by rfl)]
        refine wp_store_at 30 (.tmp 8) (.tmp 49) rfl gb9 0 C _ _ rfl rfl Hb8 (by have := HZ68.out; have := HC68.out; omega) (by rw [rp_info, HC68.out]) HC1.out ?_
        intro ws12 hrS hgS
        rw [splice_all (HC68.out.trans HZ68.out.symm)] at hrS
        have HX8 := Lib.hid hrS
        have hHeld2 := below_own hHeld hgS (fun k hk => by cases hk; exact Hb8s)
        clear hrS hgS
        refine hK1.out _ _ (hHeld2) (fun hHeld => ?_)
        clear hK1 K1
        try simp only [Act.put, List.getElem_toArray, List.getElem_cons_succ, List.getElem_cons_zero, List.setIfInBounds_toArray, List.set_cons_zero, List.set_cons_succ]
        clear hHeld2
        refine wpAnyH_take (i := 23) (v := .int .i64 0) rfl (by kernel_rfl) (by kernel_rfl) (by kernel_rfl) (fun _ _ _ h => h) (Or.inl ⟨by rfl, fun w' hSw => by go_simp⟩) hHeld ?_
        try simp only [Act.put, List.getElem_toArray, List.getElem_cons_succ, List.getElem_cons_zero, List.setIfInBounds_toArray, List.set_cons_zero, List.set_cons_succ]
        refine wpAnyH_done (by kernel_rfl) ?_ _
        generalize ws12 = ws at *
        have HBs := Lib.hid hHeld
        clear hHeld
        have heqC : ∀ W : World, (Op.equalIn 10000 30 (.agg C.toArray) (.agg C.toArray)).run Tryd.prog W = .ok true W := fun W => by rw [← HCC.out]; exact rp_eqD W rk rk HKf.out HKf.out (by simp)
        have HCr : Hid (∀ {g : Nat} (W : World), Row W g 30 C → W.rangeAt g 0 rk.cells) := Lib.hid (fun W h => by rw [HCC.out]; exact row_range h)
        have HH32 := Lib.hid (Tx.bRow_len rk.hash HKf.out.hash)
        have HHh1 : Hid (∀ v ∈ (bRow rk.hash).toList, v.oneCell' = true) := Lib.hid (hash_one _ HKf.out.hash)
        by_cases hpos : 0 < i
        · obtain ⟨j, hj⟩ : ∃ j, i = j + 1 := ⟨i - 1, by omega⟩
          have HTp0 : Hid (∃ tp, tp ≤ rk.time ∧ ∀ W, Below wr.heap.size wr W → W.cell? ⟨gA, oA + j * 68 + 2, none⟩ = some (.int .i64 tp)) := Lib.hid (by
            obtain ⟨h, e⟩ := HRK.out
            have hjl : j < rs.length := by omega
            obtain ⟨g2, o2, e2, hg2, hat⟩ := HRng.out _ j hjl HCh.out
            injection e2 with e2
            injection e2 with e3 e4 e5
            subst e3
            subst e4
            refine ⟨rs[j].time, ?_, fun W hW => ?_⟩
            · subst hj
              rw [← e]
              exact HGd.out.rises j h
            · have q : W.rangeAt gA (oA + j * 68) rs[j].cells := fun q u hu => (hW.cell (p := ⟨gA, oA + j * 68 + q, none⟩) hg2).trans (hat q u hu)
              exact (Rp.at (HGd.out.fits _ (List.getElem_mem hjl)).prev q).2.2.1)
          obtain ⟨tp, htp, hTp⟩ := HTp0.out
          have HTp := Lib.hid hTp
          clear hTp HTp0
          have dtp : decide (rk.time < tp) = false := decide_eq_false (by omega)
          have dpos : decide ((i : Int) > 0) = true := decide_eq_true (by omega)
          have dpos2 : decide ((0 : Int) < (i : Int)) = true := decide_eq_true (by omega)
          have ej : IntKind.i64.wrap ((i : Int) - 1) = (j : Int) := by rw [IntWalk.i64_in _ (by omega)]; omega
          have hji : (j : Int) < (n : Int) := by omega
          have hj0 : (0 : Int) ≤ (j : Int) := by omega
          have hjj : j < n := by omega
          clear hj htp
          go_wp2_with fail
          refine wp_region_held_drew (S := fun w' => Below ws.heap.size ws w') (by kernel_rfl) ((Below.refl _ _).drew) (fun hHeld => ?_)
          generalize ws.drew = wt at *
          refine wpAnyH_take (i := 0) (v := .int .i64 0) rfl (by kernel_rfl) (by kernel_rfl) (by kernel_rfl) (fun _ _ _ h => h) (Or.inl ⟨by rfl, fun w' hSw => by go_simp⟩) hHeld ?_
          try simp only [Act.put, List.getElem_toArray, List.getElem_cons_succ, List.getElem_cons_zero, List.setIfInBounds_toArray, List.set_cons_zero, List.set_cons_succ]
          refine wpAnyH_take (i := 1) (v := .bool false) rfl (by kernel_rfl) (by kernel_rfl) (by kernel_rfl) (fun _ _ _ h => h) (Or.inl ⟨by rfl, fun w' hSw => by go_simp⟩) hHeld ?_
          try simp only [Act.put, List.getElem_toArray, List.getElem_cons_succ, List.getElem_cons_zero, List.setIfInBounds_toArray, List.set_cons_zero, List.set_cons_succ]
          refine wpAnyH_take (i := 2) (v := .bool false) rfl (by kernel_rfl) (by kernel_rfl) (by kernel_rfl) (fun _ _ _ h => h) (Or.inl ⟨by rfl, fun w' hSw => by go_simp⟩) hHeld ?_
          try simp only [Act.put, List.getElem_toArray, List.getElem_cons_succ, List.getElem_cons_zero, List.setIfInBounds_toArray, List.set_cons_zero, List.set_cons_succ]
          refine' wpAnyH_take (i := 3) (v := _) rfl (by kernel_rfl) (by kernel_rfl) (by kernel_rfl) (fun _ _ _ h => h) (yieldsIf_load_mid (by rfl) _ _ rfl gb9 0 rfl C _ (fun w' hSw => (row_range (HX8.out.below hSw))) Tryd.underlying30 rfl (by rw [rp_info, HC68.out])) hHeld ?_
          try simp only [Act.put, List.getElem_toArray, List.getElem_cons_succ, List.getElem_cons_zero, List.setIfInBounds_toArray, List.set_cons_zero, List.set_cons_succ]
          refine wpAnyH_take (i := 4) (v := .slice (some ⟨gA, oA, none⟩) n c) rfl (by kernel_rfl) (by kernel_rfl) (by kernel_rfl) (fun _ _ _ h => h) (Or.inl ⟨by rfl, fun w' hSw => by go_simp⟩) hHeld ?_
          try simp only [Act.put, List.getElem_toArray, List.getElem_cons_succ, List.getElem_cons_zero, List.setIfInBounds_toArray, List.set_cons_zero, List.set_cons_succ]
          refine wpAnyH_take (i := 5) (v := .int .i64 i) rfl (by kernel_rfl) (by kernel_rfl) (by kernel_rfl) (fun _ _ _ h => h) (Or.inl ⟨by rfl, fun w' hSw => by go_simp⟩) hHeld ?_
          try simp only [Act.put, List.getElem_toArray, List.getElem_cons_succ, List.getElem_cons_zero, List.setIfInBounds_toArray, List.set_cons_zero, List.set_cons_succ]
          refine wpAnyH_take (i := 6) (v := .pointer (some ⟨gA, (oA + i * 68), none⟩)) rfl (by kernel_rfl) (by kernel_rfl) (by kernel_rfl) (fun _ _ _ h => h) (Or.inl ⟨by rfl, fun w' hSw => by go_simp⟩) hHeld ?_
          try simp only [Act.put, List.getElem_toArray, List.getElem_cons_succ, List.getElem_cons_zero, List.setIfInBounds_toArray, List.set_cons_zero, List.set_cons_succ]
          refine' wpAnyH_take (i := 7) (v := _) rfl (by kernel_rfl) (by kernel_rfl) (by kernel_rfl) (fun _ _ _ h => h) (yieldsIf_load_mid (by rfl) _ _ rfl gA (oA + i * 68) rfl C _ (fun w' hSw => ((HRa.out _ (two_below' HBs.out hSw)).2.2.2.2)) Tryd.underlying30 rfl (by rw [rp_info, HC68.out])) hHeld ?_
          try simp only [Act.put, List.getElem_toArray, List.getElem_cons_succ, List.getElem_cons_zero, List.setIfInBounds_toArray, List.set_cons_zero, List.set_cons_succ]
          refine wpAnyH_take (i := 8) (v := .bool false) rfl (by kernel_rfl) (by kernel_rfl) (by kernel_rfl) (fun _ _ _ h => h) (Or.inl ⟨by rfl, fun w' hSw => by have hq := hSw; have hd := heqC w'; go_simp⟩) hHeld ?_
          try simp only [Act.put, List.getElem_toArray, List.getElem_cons_succ, List.getElem_cons_zero, List.setIfInBounds_toArray, List.set_cons_zero, List.set_cons_succ]
          refine wpAnyH_take (i := 9) (v := .bool false) rfl (by kernel_rfl) (by kernel_rfl) (by kernel_rfl) (fun _ _ _ h => h) (Or.inl ⟨by rfl, fun w' hSw => by go_simp⟩) hHeld ?_
          try simp only [Act.put, List.getElem_toArray, List.getElem_cons_succ, List.getElem_cons_zero, List.setIfInBounds_toArray, List.set_cons_zero, List.set_cons_succ]
          refine wpAnyH_take (i := 10) (v := .bool false) rfl (by kernel_rfl) (by kernel_rfl) (by kernel_rfl) (fun _ _ _ h => h) (Or.inl ⟨by rfl, fun w' hSw => by go_simp⟩) hHeld ?_
          try simp only [Act.put, List.getElem_toArray, List.getElem_cons_succ, List.getElem_cons_zero, List.setIfInBounds_toArray, List.set_cons_zero, List.set_cons_succ]
          refine wpAnyH_take (i := 11) (v := .int .i64 i) rfl (by kernel_rfl) (by kernel_rfl) (by kernel_rfl) (fun _ _ _ h => h) (Or.inl ⟨by rfl, fun w' hSw => by go_simp⟩) hHeld ?_
          try simp only [Act.put, List.getElem_toArray, List.getElem_cons_succ, List.getElem_cons_zero, List.setIfInBounds_toArray, List.set_cons_zero, List.set_cons_succ]
          refine wpAnyH_take (i := 12) (v := .bool true) rfl (by kernel_rfl) (by kernel_rfl) (by kernel_rfl) (fun _ _ _ h => h) (Or.inl ⟨by rfl, fun w' hSw => by go_simp⟩) hHeld ?_
          try simp only [Act.put, List.getElem_toArray, List.getElem_cons_succ, List.getElem_cons_zero, List.setIfInBounds_toArray, List.set_cons_zero, List.set_cons_succ]
          refine wpAnyH_take (i := 13) (v := .bool true) rfl (by kernel_rfl) (by kernel_rfl) (by kernel_rfl) (fun _ _ _ h => h) (Or.inl ⟨by rfl, fun w' hSw => by go_simp⟩) hHeld ?_
          try simp only [Act.put, List.getElem_toArray, List.getElem_cons_succ, List.getElem_cons_zero, List.setIfInBounds_toArray, List.set_cons_zero, List.set_cons_succ]
          refine wpAnyH_take (i := 14) (v := .slice (some ⟨gA, oA, none⟩) n c) rfl (by kernel_rfl) (by kernel_rfl) (by kernel_rfl) (fun _ _ _ h => h) (Or.inl ⟨by rfl, fun w' hSw => by go_simp⟩) hHeld ?_
          try simp only [Act.put, List.getElem_toArray, List.getElem_cons_succ, List.getElem_cons_zero, List.setIfInBounds_toArray, List.set_cons_zero, List.set_cons_succ]
          refine wpAnyH_take (i := 15) (v := .int .i64 i) rfl (by kernel_rfl) (by kernel_rfl) (by kernel_rfl) (fun _ _ _ h => h) (Or.inl ⟨by rfl, fun w' hSw => by go_simp⟩) hHeld ?_
          try simp only [Act.put, List.getElem_toArray, List.getElem_cons_succ, List.getElem_cons_zero, List.setIfInBounds_toArray, List.set_cons_zero, List.set_cons_succ]
          refine wpAnyH_take (i := 16) (v := .pointer (some ⟨gA, (oA + i * 68), none⟩)) rfl (by kernel_rfl) (by kernel_rfl) (by kernel_rfl) (fun _ _ _ h => h) (Or.inl ⟨by rfl, fun w' hSw => by go_simp⟩) hHeld ?_
          try simp only [Act.put, List.getElem_toArray, List.getElem_cons_succ, List.getElem_cons_zero, List.setIfInBounds_toArray, List.set_cons_zero, List.set_cons_succ]
          refine wpAnyH_take (i := 17) (v := .pointer (some ⟨gA, (oA + i * 68 + 2), none⟩)) rfl (by kernel_rfl) (by kernel_rfl) (by kernel_rfl) (fun _ _ _ h => h) (Or.inl ⟨by rfl, fun w' hSw => by go_simp⟩) hHeld ?_
          try simp only [Act.put, List.getElem_toArray, List.getElem_cons_succ, List.getElem_cons_zero, List.setIfInBounds_toArray, List.set_cons_zero, List.set_cons_succ]
          refine wpAnyH_take (i := 18) (v := .int .i64 rk.time) rfl (by kernel_rfl) (by kernel_rfl) (by kernel_rfl) (fun _ _ _ h => h) (Or.inl ⟨by rfl, fun w' hSw => by have hq := hSw; have hd := (HRa.out _ (two_below' HBs.out hq)).2.2.1; go_simp⟩) hHeld ?_
          try simp only [Act.put, List.getElem_toArray, List.getElem_cons_succ, List.getElem_cons_zero, List.setIfInBounds_toArray, List.set_cons_zero, List.set_cons_succ]
          refine wpAnyH_take (i := 19) (v := .slice (some ⟨gA, oA, none⟩) n c) rfl (by kernel_rfl) (by kernel_rfl) (by kernel_rfl) (fun _ _ _ h => h) (Or.inl ⟨by rfl, fun w' hSw => by go_simp⟩) hHeld ?_
          try simp only [Act.put, List.getElem_toArray, List.getElem_cons_succ, List.getElem_cons_zero, List.setIfInBounds_toArray, List.set_cons_zero, List.set_cons_succ]
          refine wpAnyH_take (i := 20) (v := .int .i64 i) rfl (by kernel_rfl) (by kernel_rfl) (by kernel_rfl) (fun _ _ _ h => h) (Or.inl ⟨by rfl, fun w' hSw => by go_simp⟩) hHeld ?_
          try simp only [Act.put, List.getElem_toArray, List.getElem_cons_succ, List.getElem_cons_zero, List.setIfInBounds_toArray, List.set_cons_zero, List.set_cons_succ]
          refine wpAnyH_take (i := 21) (v := .int .i64 j) rfl (by kernel_rfl) (by kernel_rfl) (by kernel_rfl) (fun _ _ _ h => h) (Or.inl ⟨by rfl, fun w' hSw => by go_simp⟩) hHeld ?_
          try simp only [Act.put, List.getElem_toArray, List.getElem_cons_succ, List.getElem_cons_zero, List.setIfInBounds_toArray, List.set_cons_zero, List.set_cons_succ]
          refine wpAnyH_take (i := 22) (v := .pointer (some ⟨gA, (oA + j * 68), none⟩)) rfl (by kernel_rfl) (by kernel_rfl) (by kernel_rfl) (fun _ _ _ h => h) (Or.inl ⟨by rfl, fun w' hSw => by go_simp⟩) hHeld ?_
          try simp only [Act.put, List.getElem_toArray, List.getElem_cons_succ, List.getElem_cons_zero, List.setIfInBounds_toArray, List.set_cons_zero, List.set_cons_succ]
          refine wpAnyH_take (i := 23) (v := .pointer (some ⟨gA, (oA + j * 68 + 2), none⟩)) rfl (by kernel_rfl) (by kernel_rfl) (by kernel_rfl) (fun _ _ _ h => h) (Or.inl ⟨by rfl, fun w' hSw => by go_simp⟩) hHeld ?_
          try simp only [Act.put, List.getElem_toArray, List.getElem_cons_succ, List.getElem_cons_zero, List.setIfInBounds_toArray, List.set_cons_zero, List.set_cons_succ]
          refine wpAnyH_take (i := 24) (v := .int .i64 tp) rfl (by kernel_rfl) (by kernel_rfl) (by kernel_rfl) (fun _ _ _ h => h) (Or.inl ⟨by rfl, fun w' hSw => by have hq := hSw; have hd := HTp.out _ (two_below' HBs.out hq); go_simp⟩) hHeld ?_
          try simp only [Act.put, List.getElem_toArray, List.getElem_cons_succ, List.getElem_cons_zero, List.setIfInBounds_toArray, List.set_cons_zero, List.set_cons_succ]
          refine wpAnyH_take (i := 25) (v := .bool false) rfl (by kernel_rfl) (by kernel_rfl) (by kernel_rfl) (fun _ _ _ h => h) (Or.inl ⟨by rfl, fun w' hSw => by go_simp⟩) hHeld ?_
          try simp only [Act.put, List.getElem_toArray, List.getElem_cons_succ, List.getElem_cons_zero, List.setIfInBounds_toArray, List.set_cons_zero, List.set_cons_succ]
          refine wpAnyH_take (i := 26) (v := .bool false) rfl (by kernel_rfl) (by kernel_rfl) (by kernel_rfl) (fun _ _ _ h => h) (Or.inl ⟨by rfl, fun w' hSw => by go_simp⟩) hHeld ?_
          try simp only [Act.put, List.getElem_toArray, List.getElem_cons_succ, List.getElem_cons_zero, List.setIfInBounds_toArray, List.set_cons_zero, List.set_cons_succ]
          refine wpAnyH_take (i := 27) (v := .bool false) rfl (by kernel_rfl) (by kernel_rfl) (by kernel_rfl) (fun _ _ _ h => h) (Or.inl ⟨by rfl, fun w' hSw => by go_simp⟩) hHeld ?_
          try simp only [Act.put, List.getElem_toArray, List.getElem_cons_succ, List.getElem_cons_zero, List.setIfInBounds_toArray, List.set_cons_zero, List.set_cons_succ]
          refine wpAnyH_done (by kernel_rfl) ?_ _
          clear ej dtp dpos dpos2 hji hj0 hjj
          have HBt := Lib.hid (two_below' HBs.out hHeld)
          have HX9 := Lib.hid (HX8.out.below hHeld)
          have HR5t := Lib.hid (HR5.out.below HBt.out)
          have HHr := Lib.hid (Rp.at HKf.out.prev (HCr.out _ HX9.out)).2.2.2.2
          rw [Nat.zero_add] at HHr
          clear hHeld HX8 HBs
          by_cases hk1 : rk.kind = 1
          · obtain ⟨t, ht1, ht2, ht3, ht4, ht5, ht6⟩ : ∃ t : Tx, Tx.read rk.body.data.toList = some t ∧ t.signedE = 0 ∧ t.nonce = (Od.cnt (rs.take i) t.frm : Int) ∧ Od.by_ rk = t.frm ∧ 0 ≤ t.frm ∧ t.frm ≤ 63 := by
              obtain ⟨h, e⟩ := HRK.out
              have := HGd.out.tx i h (by rw [e]; exact hk1)
              rwa [e] at this
            have htk := (Tx.read_err ht1).1
            obtain ⟨f, hf⟩ := Int.eq_ofNat_of_zero_le ht5
            have hf64 : f < 64 := by omega
            have hfi : (f : Int) < 64 := by omega
            have hf0 : (0 : Int) ≤ (f : Int) := by omega
            have HRD : Hid (∀ W, Calls Tryd.prog 24 #[.string rk.body] W fun e w' => e = .returned (.tuple #[.agg t.cells.toArray, .int .i64 0]) ∧ Below W.heap.size W w') := Lib.hid (fun W => (rread19_any rk.body W HKf.out.body).mono fun e w' ⟨q1, q2⟩ => by rw [ht1] at q1; exact ⟨q1, q2⟩)
            have HSg : Hid (∀ W, Calls Tryd.prog 25 #[.agg t.cells.toArray] W fun e w' => e = .returned (.int .i64 0) ∧ Below W.heap.size W w') := Lib.hid (fun W => by have := rsigned4_any t htk W hRS; rw [ht2] at this; exact this)
            have HNs : Hid (Od.nexts (rs.take (i + 1)) = (Od.nexts (rs.take i)).set f ((Od.cnt (rs.take i) (f : Int) : Int) + 1)) := Lib.hid (by obtain ⟨h, e⟩ := HRK.out; exact Od.nexts_step i h f (by rw [e, ht4, hf]) hf64)
            have HTc : Hid (∀ {g : Nat} (W : World), Row W g 50 t.cells → W.cell? ⟨g, 0, none⟩ = some (.int .i64 (f : Int)) ∧ W.cell? ⟨g, 1, none⟩ = some (.int .i64 (Od.cnt (rs.take i) (f : Int) : Int))) := Lib.hid (fun W h => ⟨by have := tx_range h 0 (.int .i64 t.frm) rfl; rw [hf] at this; exact this, by have := tx_range h 1 (.int .i64 t.nonce) rfl; rw [ht3, hf] at this; exact this⟩)
            have hN6 : (Is (Od.nexts (rs.take i))).length = 64 := by unfold Is; rw [List.length_map, Od.nexts_len]
            have HN6 : Hid (∀ {g : Nat} {T : TypeId} (W : World), Row W g T (Is (Od.nexts (rs.take i))) → W.cell? ⟨g, f, none⟩ = some (.int .i64 (Od.cnt (rs.take i) (f : Int) : Int))) := Lib.hid (fun W h => by
              rw [h.cell f (by rw [hN6]; exact hf64)]
              congr 1
              unfold Is
              rw [List.getElem_map, Od.nexts_get _ f hf64])
            have hcn40 : Od.cnt (rs.take i) (f : Int) ≤ 40 := by have := Od.cnt_le (rs.take i) (f : Int); rw [List.length_take] at this; omega
            have HT72 := Lib.hid (Tx.cells_length htk)
            have HT1 := Lib.hid (Tx.cells_one htk)
            have hzx : ∀ W : World, (zeroValue 50).run Tryd.prog W = .ok (.agg Tx.none.cells.toArray) W := tx_zv
            have HZX72 := Lib.hid (Tx.cells_length Tx.none_ok)
            obtain ⟨ZX, hZX⟩ : ∃ ZX, Tx.none.cells = ZX := ⟨_, rfl⟩
            rw [hZX] at hzx HZX72
            obtain ⟨CT, hCT⟩ : ∃ CT, t.cells = CT := ⟨_, rfl⟩
            rw [hCT] at HRD HSg HTc HT72 HT1
            obtain ⟨cn, hcn⟩ : ∃ cn : Nat, Od.cnt (rs.take i) (f : Int) = cn := ⟨_, rfl⟩
            rw [hcn] at HNs HTc HN6 hcn40
            have HL64 := Lib.hid hN6
            have dk : decide (rk.kind = 1) = true := decide_eq_true hk1
            have dkb : (rk.kind == 1) = true := by simpa using hk1
            have dkp : (rk.kind = 1) = True := by simpa using hk1
            have ecn : IntKind.i64.wrap ((cn : Int) + 1) = (cn : Int) + 1 := IntWalk.i64_in _ (by omega)
            clear ht1 ht2 ht3 ht4 ht5 ht6 htk hf hZX hCT hcn hk1 hN6
            go_wp2_with (first
              | ((with_reducible show wpList _ _ _ (⟨_, .load 28 (.tmp 79), _, _, _, _⟩ :: _) _ _); refine wpList_load_tx rfl 28 (.tmp 79) rfl gb9 36 (rfl) (bRow rk.hash).toList _ (HHr.out) Tryd.underlying28 rfl (by rw [hash_info, HH32.out]) ?_)
              | (
                 with_reducible show wpList _ _ _ (⟨_, .store 28 (.tmp 5) _, _, _, _, _⟩ :: _) _ _
                 refine wpList_store_at rfl 28 (.tmp 5) (.tmp 80) rfl g5 0 (bRow rk.hash).toList HP _ rfl rfl (HR5t.out) (by have := HP32.out; have := HH32.out; omega) (by rw [hash_info, HH32.out]) HHh1.out ?_
                 intro w6 hr hg
                 rw [splice_all (HH32.out.trans HP32.out.symm)] at hr
                 have HR5u : Hid (Row w6 g5 28 (bRow (Od.head (rs.take (i + 1)))).toList) := Lib.hid (by obtain ⟨h, e⟩ := HRK.out; rw [Od.head_next i h, e]; exact hr)
                 have HX6 := Lib.hid (HX9.out.kept hg (fun e => by injection e with e; have := Hb8s; have := HR5.out.lt; omega))
                 have HR6u := Lib.hid ((HR6.out.below HBt.out).kept hg (fun e => by injection e with e; have := HG56.out; omega))
                 have HChu := Lib.hid ((HCh.out.trans (Chg.of_below (S := fun _ => False) HBt.out) (fun _ q => q.elim)).trans (Chg.of_grown (S := fun q => q = g5) hg (fun k hk => by cases hk; exact .inl rfl)) (fun k hk => .inl (.inl hk)))
                 have ck := (Rp.at HKf.out.prev (HCr.out _ HX6.out)).2.1; rw [Nat.zero_add] at ck; have cb := (Rp.at HKf.out.prev (HCr.out _ HX6.out)).2.2.2.1; rw [Nat.zero_add] at cb
                 clear hr hg))
            refine (HRD.out _).mono ?_
            rintro _ w7 ⟨rfl, hb7⟩
            have HR5v := Lib.hid (HR5u.out.below hb7)
            have HR6v := Lib.hid (HR6u.out.below hb7)
            have HChv := Lib.hid (HChu.out.trans (Chg.of_below (S := fun _ => False) hb7) (fun _ q => q.elim))
            clear hb7 HR5u HR6u HChu HRD ck cb
            go_wp2_with (first
              | (
                 with_reducible show wpList _ _ _ (⟨_, .store 50 (.tmp 10) _, _, _, _, _⟩ :: _) _ _
                 refine wpList_store_at rfl 50 (.tmp 10) (.tmp 88) rfl w7.heap.size 0 CT ZX _ rfl rfl (Row.new w7 50 ZX) (by have := HZX72.out; have := HT72.out; omega) (by rw [tx_info, HT72.out]) HT1.out ?_
                 intro w8 hr hg
                 rw [splice_all (HT72.out.trans HZX72.out.symm)] at hr
                 have hbx := below_own ((Below.refl w7.heap.size w7).alloc (Nat.le_refl _) (.cells ZX.toArray 50)) hg (fun k hk => by cases hk; exact Nat.le_refl _)
                 have HR5w := Lib.hid (HR5v.out.below hbx)
                 have HR6w := Lib.hid (HR6v.out.below hbx)
                 have HChw := Lib.hid (HChv.out.trans (Chg.of_below (S := fun _ => False) hbx) (fun _ q => q.elim))
                 have HTx := Lib.hid hr
                 clear hbx
                 clear hr hg))
            generalize w7.heap.size = g10 at *
            clear HR5v HR6v HChv
            refine wp_region_held_drew (S := fun w' => Below w8.heap.size w8 w') (by kernel_rfl) ((Below.refl _ _).drew) (fun hHeld => ?_)
            generalize w8.drew = wx at *
            refine wpAnyH_take (i := 0) (v := .int .i64 0) rfl (by kernel_rfl) (by kernel_rfl) (by kernel_rfl) (fun _ _ _ h => h) (Or.inl ⟨by rfl, fun w' hSw => by go_simp⟩) hHeld ?_
            try simp only [Act.put, List.getElem_toArray, List.getElem_cons_succ, List.getElem_cons_zero, List.setIfInBounds_toArray, List.set_cons_zero, List.set_cons_succ]
            refine wpAnyH_take (i := 1) (v := .bool false) rfl (by kernel_rfl) (by kernel_rfl) (by kernel_rfl) (fun _ _ _ h => h) (Or.inl ⟨by rfl, fun w' hSw => by go_simp⟩) hHeld ?_
            try simp only [Act.put, List.getElem_toArray, List.getElem_cons_succ, List.getElem_cons_zero, List.setIfInBounds_toArray, List.set_cons_zero, List.set_cons_succ]
            refine wpAnyH_take (i := 2) (v := .bool false) rfl (by kernel_rfl) (by kernel_rfl) (by kernel_rfl) (fun _ _ _ h => h) (Or.inl ⟨by rfl, fun w' hSw => by go_simp⟩) hHeld ?_
            try simp only [Act.put, List.getElem_toArray, List.getElem_cons_succ, List.getElem_cons_zero, List.setIfInBounds_toArray, List.set_cons_zero, List.set_cons_succ]
            refine wpAnyH_take (i := 3) (v := .pointer (some ⟨g10, 1, none⟩)) rfl (by kernel_rfl) (by kernel_rfl) (by kernel_rfl) (fun _ _ _ h => h) (Or.inl ⟨by rfl, fun w' hSw => by go_simp⟩) hHeld ?_
            try simp only [Act.put, List.getElem_toArray, List.getElem_cons_succ, List.getElem_cons_zero, List.setIfInBounds_toArray, List.set_cons_zero, List.set_cons_succ]
            refine wpAnyH_take (i := 4) (v := .int .i64 cn) rfl (by kernel_rfl) (by kernel_rfl) (by kernel_rfl) (fun _ _ _ h => h) (Or.inl ⟨by rfl, fun w' hSw => by have hq := hSw; have hd := (HTc.out _ (HTx.out.below hq)).2; go_simp⟩) hHeld ?_
            try simp only [Act.put, List.getElem_toArray, List.getElem_cons_succ, List.getElem_cons_zero, List.setIfInBounds_toArray, List.set_cons_zero, List.set_cons_succ]
            refine wpAnyH_take (i := 5) (v := .slice (some ⟨g6, 0, none⟩) 64 64) rfl (by kernel_rfl) (by kernel_rfl) (by kernel_rfl) (fun _ _ _ h => h) (Or.inl ⟨by rfl, fun w' hSw => by go_simp⟩) hHeld ?_
            try simp only [Act.put, List.getElem_toArray, List.getElem_cons_succ, List.getElem_cons_zero, List.setIfInBounds_toArray, List.set_cons_zero, List.set_cons_succ]
            refine wpAnyH_take (i := 6) (v := .pointer (some ⟨g10, 0, none⟩)) rfl (by kernel_rfl) (by kernel_rfl) (by kernel_rfl) (fun _ _ _ h => h) (Or.inl ⟨by rfl, fun w' hSw => by go_simp⟩) hHeld ?_
            try simp only [Act.put, List.getElem_toArray, List.getElem_cons_succ, List.getElem_cons_zero, List.setIfInBounds_toArray, List.set_cons_zero, List.set_cons_succ]
            refine wpAnyH_take (i := 7) (v := .int .i64 f) rfl (by kernel_rfl) (by kernel_rfl) (by kernel_rfl) (fun _ _ _ h => h) (Or.inl ⟨by rfl, fun w' hSw => by have hq := hSw; have hd := (HTc.out _ (HTx.out.below hq)).1; go_simp⟩) hHeld ?_
            try simp only [Act.put, List.getElem_toArray, List.getElem_cons_succ, List.getElem_cons_zero, List.setIfInBounds_toArray, List.set_cons_zero, List.set_cons_succ]
            refine wpAnyH_take (i := 8) (v := .pointer (some ⟨g6, f, none⟩)) rfl (by kernel_rfl) (by kernel_rfl) (by kernel_rfl) (fun _ _ _ h => h) (Or.inl ⟨by rfl, fun w' hSw => by go_simp⟩) hHeld ?_
            try simp only [Act.put, List.getElem_toArray, List.getElem_cons_succ, List.getElem_cons_zero, List.setIfInBounds_toArray, List.set_cons_zero, List.set_cons_succ]
            refine wpAnyH_take (i := 9) (v := .int .i64 cn) rfl (by kernel_rfl) (by kernel_rfl) (by kernel_rfl) (fun _ _ _ h => h) (Or.inl ⟨by rfl, fun w' hSw => by have hq := hSw; have hd := HN6.out _ (HR6w.out.below hq); go_simp⟩) hHeld ?_
            try simp only [Act.put, List.getElem_toArray, List.getElem_cons_succ, List.getElem_cons_zero, List.setIfInBounds_toArray, List.set_cons_zero, List.set_cons_succ]
            refine wpAnyH_take (i := 10) (v := .bool false) rfl (by kernel_rfl) (by kernel_rfl) (by kernel_rfl) (fun _ _ _ h => h) (Or.inl ⟨by rfl, fun w' hSw => by go_simp⟩) hHeld ?_
            try simp only [Act.put, List.getElem_toArray, List.getElem_cons_succ, List.getElem_cons_zero, List.setIfInBounds_toArray, List.set_cons_zero, List.set_cons_succ]
            refine wpAnyH_take (i := 11) (v := .bool false) rfl (by kernel_rfl) (by kernel_rfl) (by kernel_rfl) (fun _ _ _ h => h) (Or.inl ⟨by rfl, fun w' hSw => by go_simp⟩) hHeld ?_
            try simp only [Act.put, List.getElem_toArray, List.getElem_cons_succ, List.getElem_cons_zero, List.setIfInBounds_toArray, List.set_cons_zero, List.set_cons_succ]
            refine wpAnyH_take (i := 12) (v := .bool false) rfl (by kernel_rfl) (by kernel_rfl) (by kernel_rfl) (fun _ _ _ h => h) (Or.inl ⟨by rfl, fun w' hSw => by go_simp⟩) hHeld ?_
            try simp only [Act.put, List.getElem_toArray, List.getElem_cons_succ, List.getElem_cons_zero, List.setIfInBounds_toArray, List.set_cons_zero, List.set_cons_succ]
            refine' wpAnyH_take (i := 13) (v := _) rfl (by kernel_rfl) (by kernel_rfl) (by kernel_rfl) (fun _ _ _ h => h) (yieldsIf_load_mid (by rfl) _ _ rfl g10 0 rfl CT _ (fun w' hSw => (row_range (HTx.out.below hSw))) Tryd.underlying50 rfl (by rw [tx_info, HT72.out])) hHeld ?_
            try simp only [Act.put, List.getElem_toArray, List.getElem_cons_succ, List.getElem_cons_zero, List.setIfInBounds_toArray, List.set_cons_zero, List.set_cons_succ]
            refine wpAnyH_ready (rs := [14]) (by kernel_rfl) (by simp) (AllReadyH.cons rfl (fun K1 hK1 => ?_) AllReadyH.nil)
            try simp only [Act.put, List.getElem_toArray, List.getElem_cons_succ, List.getElem_cons_zero, List.setIfInBounds_toArray, List.set_cons_zero, List.set_cons_succ]
            go_simp
            refine Calls.mono (HSg.out _) ?_
            rintro e wc1 ⟨rfl, hc2⟩
            refine hK1.out _ _ (two_below' hHeld hc2) (fun hHeld => ?_)
            clear hK1 K1
            try simp only [Act.put, List.getElem_toArray, List.getElem_cons_succ, List.getElem_cons_zero, List.setIfInBounds_toArray, List.set_cons_zero, List.set_cons_succ]
            refine wpAnyH_take (i := 15) (v := .bool false) rfl (by kernel_rfl) (by kernel_rfl) (by kernel_rfl) (fun _ _ _ h => h) (Or.inl ⟨by rfl, fun w' hSw => by go_simp⟩) hHeld ?_
            try simp only [Act.put, List.getElem_toArray, List.getElem_cons_succ, List.getElem_cons_zero, List.setIfInBounds_toArray, List.set_cons_zero, List.set_cons_succ]
            refine wpAnyH_take (i := 16) (v := .bool false) rfl (by kernel_rfl) (by kernel_rfl) (by kernel_rfl) (fun _ _ _ h => h) (Or.inl ⟨by rfl, fun w' hSw => by go_simp⟩) hHeld ?_
            try simp only [Act.put, List.getElem_toArray, List.getElem_cons_succ, List.getElem_cons_zero, List.setIfInBounds_toArray, List.set_cons_zero, List.set_cons_succ]
            refine wpAnyH_done (by kernel_rfl) ?_ _
            generalize wc1 = wy at *
            have HR5y := Lib.hid (HR5w.out.below hHeld)
            have HR6y := Lib.hid (HR6w.out.below hHeld)
            have HChy := Lib.hid (HChw.out.trans (Chg.of_below (S := fun _ => False) hHeld) (fun _ q => q.elim))
            have ct := (HTc.out _ (HTx.out.below hHeld)).1
            have c6 := HN6.out _ HR6y.out
            clear hHeld HR5w HR6w HChw HSg
            go_wp2_with (first
              | ((with_reducible show wpList _ _ _ (⟨_, .store 3 (.tmp 113) _, _, _, _, _⟩ :: _) _ _)
                 refine wpList_store_int rfl 3 (.tmp 113) (.tmp 112) rfl g6 f 3 (Is (Od.nexts (rs.take i))) ((cn : Int) + 1) rfl rfl HR6y.out (by rw [HL64.out]; exact hf64) (by kernel_rfl) ?_
                 intro w9 hr hg
                 have HR6z : Hid (Row w9 g6 3 (Is (Od.nexts (rs.take (i + 1))))) := Lib.hid (by rw [HNs.out]; unfold Is at hr ⊢; rw [List.map_set]; exact hr)
                 have HR5z := Lib.hid (HR5y.out.kept hg (fun e => by injection e with e; have := HG56.out; omega))
                 have HChz := Lib.hid (HChy.out.trans (Chg.of_grown (S := fun q => q = g6) hg (fun k hk => by cases hk; exact .inl rfl)) (fun k hk => .inl (.inr hk)))
                 clear hr hg))
            exact ⟨⟨i + 1, by omega, by go_num, HR5z.out, HR6z.out, HChz.out⟩, by simp [intOf]; omega⟩
          · have dk : decide (rk.kind = 1) = false := decide_eq_false hk1
            have dkb : (rk.kind == 1) = false := by simpa using hk1
            have dkp : (rk.kind = 1) = False := by simpa using hk1
            have HNk : Hid (Od.nexts (rs.take (i + 1)) = Od.nexts (rs.take i)) := Lib.hid (by obtain ⟨h, e⟩ := HRK.out; exact HGd.out.nexts_keep i h (by rw [e]; exact hk1))
            clear hk1
            go_wp2_with (first
              | ((with_reducible show wpList _ _ _ (⟨_, .load 28 (.tmp 79), _, _, _, _⟩ :: _) _ _); refine wpList_load_tx rfl 28 (.tmp 79) rfl gb9 36 (rfl) (bRow rk.hash).toList _ (HHr.out) Tryd.underlying28 rfl (by rw [hash_info, HH32.out]) ?_)
              | (
                 with_reducible show wpList _ _ _ (⟨_, .store 28 (.tmp 5) _, _, _, _, _⟩ :: _) _ _
                 refine wpList_store_at rfl 28 (.tmp 5) (.tmp 80) rfl g5 0 (bRow rk.hash).toList HP _ rfl rfl (HR5t.out) (by have := HP32.out; have := HH32.out; omega) (by rw [hash_info, HH32.out]) HHh1.out ?_
                 intro w6 hr hg
                 rw [splice_all (HH32.out.trans HP32.out.symm)] at hr
                 have HR5u : Hid (Row w6 g5 28 (bRow (Od.head (rs.take (i + 1)))).toList) := Lib.hid (by obtain ⟨h, e⟩ := HRK.out; rw [Od.head_next i h, e]; exact hr)
                 have HX6 := Lib.hid (HX9.out.kept hg (fun e => by injection e with e; have := Hb8s; have := HR5.out.lt; omega))
                 have HR6u := Lib.hid ((HR6.out.below HBt.out).kept hg (fun e => by injection e with e; have := HG56.out; omega))
                 have HChu := Lib.hid ((HCh.out.trans (Chg.of_below (S := fun _ => False) HBt.out) (fun _ q => q.elim)).trans (Chg.of_grown (S := fun q => q = g5) hg (fun k hk => by cases hk; exact .inl rfl)) (fun k hk => .inl (.inl hk)))
                 have ck := (Rp.at HKf.out.prev (HCr.out _ HX6.out)).2.1; rw [Nat.zero_add] at ck; have cb := (Rp.at HKf.out.prev (HCr.out _ HX6.out)).2.2.2.1; rw [Nat.zero_add] at cb
                 clear hr hg))
            exact ⟨⟨i + 1, by omega, by go_num, HR5u.out, by rw [HNk.out]; exact HR6u.out, HChu.out⟩, by simp [intOf]; omega⟩
        · have dpos : decide ((i : Int) > 0) = false := decide_eq_false (by omega)
          have dpos2 : decide ((0 : Int) < (i : Int)) = false := decide_eq_false (by omega)
          go_wp2_with fail
          refine wp_region_held_drew (S := fun w' => Below ws.heap.size ws w') (by kernel_rfl) ((Below.refl _ _).drew) (fun hHeld => ?_)
          generalize ws.drew = wt at *
          refine wpAnyH_take (i := 0) (v := .int .i64 0) rfl (by kernel_rfl) (by kernel_rfl) (by kernel_rfl) (fun _ _ _ h => h) (Or.inl ⟨by rfl, fun w' hSw => by go_simp⟩) hHeld ?_
          try simp only [Act.put, List.getElem_toArray, List.getElem_cons_succ, List.getElem_cons_zero, List.setIfInBounds_toArray, List.set_cons_zero, List.set_cons_succ]
          refine wpAnyH_take (i := 1) (v := .bool false) rfl (by kernel_rfl) (by kernel_rfl) (by kernel_rfl) (fun _ _ _ h => h) (Or.inl ⟨by rfl, fun w' hSw => by go_simp⟩) hHeld ?_
          try simp only [Act.put, List.getElem_toArray, List.getElem_cons_succ, List.getElem_cons_zero, List.setIfInBounds_toArray, List.set_cons_zero, List.set_cons_succ]
          refine wpAnyH_take (i := 2) (v := .bool false) rfl (by kernel_rfl) (by kernel_rfl) (by kernel_rfl) (fun _ _ _ h => h) (Or.inl ⟨by rfl, fun w' hSw => by go_simp⟩) hHeld ?_
          try simp only [Act.put, List.getElem_toArray, List.getElem_cons_succ, List.getElem_cons_zero, List.setIfInBounds_toArray, List.set_cons_zero, List.set_cons_succ]
          refine' wpAnyH_take (i := 3) (v := _) rfl (by kernel_rfl) (by kernel_rfl) (by kernel_rfl) (fun _ _ _ h => h) (yieldsIf_load_mid (by rfl) _ _ rfl gb9 0 rfl C _ (fun w' hSw => (row_range (HX8.out.below hSw))) Tryd.underlying30 rfl (by rw [rp_info, HC68.out])) hHeld ?_
          try simp only [Act.put, List.getElem_toArray, List.getElem_cons_succ, List.getElem_cons_zero, List.setIfInBounds_toArray, List.set_cons_zero, List.set_cons_succ]
          refine wpAnyH_take (i := 4) (v := .slice (some ⟨gA, oA, none⟩) n c) rfl (by kernel_rfl) (by kernel_rfl) (by kernel_rfl) (fun _ _ _ h => h) (Or.inl ⟨by rfl, fun w' hSw => by go_simp⟩) hHeld ?_
          try simp only [Act.put, List.getElem_toArray, List.getElem_cons_succ, List.getElem_cons_zero, List.setIfInBounds_toArray, List.set_cons_zero, List.set_cons_succ]
          refine wpAnyH_take (i := 5) (v := .int .i64 i) rfl (by kernel_rfl) (by kernel_rfl) (by kernel_rfl) (fun _ _ _ h => h) (Or.inl ⟨by rfl, fun w' hSw => by go_simp⟩) hHeld ?_
          try simp only [Act.put, List.getElem_toArray, List.getElem_cons_succ, List.getElem_cons_zero, List.setIfInBounds_toArray, List.set_cons_zero, List.set_cons_succ]
          refine wpAnyH_take (i := 6) (v := .pointer (some ⟨gA, (oA + i * 68), none⟩)) rfl (by kernel_rfl) (by kernel_rfl) (by kernel_rfl) (fun _ _ _ h => h) (Or.inl ⟨by rfl, fun w' hSw => by go_simp⟩) hHeld ?_
          try simp only [Act.put, List.getElem_toArray, List.getElem_cons_succ, List.getElem_cons_zero, List.setIfInBounds_toArray, List.set_cons_zero, List.set_cons_succ]
          refine' wpAnyH_take (i := 7) (v := _) rfl (by kernel_rfl) (by kernel_rfl) (by kernel_rfl) (fun _ _ _ h => h) (yieldsIf_load_mid (by rfl) _ _ rfl gA (oA + i * 68) rfl C _ (fun w' hSw => ((HRa.out _ (two_below' HBs.out hSw)).2.2.2.2)) Tryd.underlying30 rfl (by rw [rp_info, HC68.out])) hHeld ?_
          try simp only [Act.put, List.getElem_toArray, List.getElem_cons_succ, List.getElem_cons_zero, List.setIfInBounds_toArray, List.set_cons_zero, List.set_cons_succ]
          refine wpAnyH_take (i := 8) (v := .bool false) rfl (by kernel_rfl) (by kernel_rfl) (by kernel_rfl) (fun _ _ _ h => h) (Or.inl ⟨by rfl, fun w' hSw => by have hq := hSw; have hd := heqC w'; go_simp⟩) hHeld ?_
          try simp only [Act.put, List.getElem_toArray, List.getElem_cons_succ, List.getElem_cons_zero, List.setIfInBounds_toArray, List.set_cons_zero, List.set_cons_succ]
          refine wpAnyH_take (i := 9) (v := .bool false) rfl (by kernel_rfl) (by kernel_rfl) (by kernel_rfl) (fun _ _ _ h => h) (Or.inl ⟨by rfl, fun w' hSw => by go_simp⟩) hHeld ?_
          try simp only [Act.put, List.getElem_toArray, List.getElem_cons_succ, List.getElem_cons_zero, List.setIfInBounds_toArray, List.set_cons_zero, List.set_cons_succ]
          refine wpAnyH_take (i := 10) (v := .bool false) rfl (by kernel_rfl) (by kernel_rfl) (by kernel_rfl) (fun _ _ _ h => h) (Or.inl ⟨by rfl, fun w' hSw => by go_simp⟩) hHeld ?_
          try simp only [Act.put, List.getElem_toArray, List.getElem_cons_succ, List.getElem_cons_zero, List.setIfInBounds_toArray, List.set_cons_zero, List.set_cons_succ]
          refine wpAnyH_take (i := 11) (v := .int .i64 i) rfl (by kernel_rfl) (by kernel_rfl) (by kernel_rfl) (fun _ _ _ h => h) (Or.inl ⟨by rfl, fun w' hSw => by go_simp⟩) hHeld ?_
          try simp only [Act.put, List.getElem_toArray, List.getElem_cons_succ, List.getElem_cons_zero, List.setIfInBounds_toArray, List.set_cons_zero, List.set_cons_succ]
          refine wpAnyH_take (i := 12) (v := .bool false) rfl (by kernel_rfl) (by kernel_rfl) (by kernel_rfl) (fun _ _ _ h => h) (Or.inl ⟨by rfl, fun w' hSw => by go_simp⟩) hHeld ?_
          try simp only [Act.put, List.getElem_toArray, List.getElem_cons_succ, List.getElem_cons_zero, List.setIfInBounds_toArray, List.set_cons_zero, List.set_cons_succ]
          refine wpAnyH_take (i := 13) (v := .bool false) rfl (by kernel_rfl) (by kernel_rfl) (by kernel_rfl) (fun _ _ _ h => h) (Or.inl ⟨by rfl, fun w' hSw => by go_simp⟩) hHeld ?_
          try simp only [Act.put, List.getElem_toArray, List.getElem_cons_succ, List.getElem_cons_zero, List.setIfInBounds_toArray, List.set_cons_zero, List.set_cons_succ]
          refine wpAnyH_take (i := 14) (v := undef) rfl (by kernel_rfl) (by kernel_rfl) (by kernel_rfl) (fun _ _ _ h => h) (Or.inr ⟨by rfl, rfl⟩) hHeld ?_
          try simp only [Act.put, List.getElem_toArray, List.getElem_cons_succ, List.getElem_cons_zero, List.setIfInBounds_toArray, List.set_cons_zero, List.set_cons_succ]
          refine wpAnyH_take (i := 15) (v := undef) rfl (by kernel_rfl) (by kernel_rfl) (by kernel_rfl) (fun _ _ _ h => h) (Or.inr ⟨by rfl, rfl⟩) hHeld ?_
          try simp only [Act.put, List.getElem_toArray, List.getElem_cons_succ, List.getElem_cons_zero, List.setIfInBounds_toArray, List.set_cons_zero, List.set_cons_succ]
          refine wpAnyH_take (i := 16) (v := undef) rfl (by kernel_rfl) (by kernel_rfl) (by kernel_rfl) (fun _ _ _ h => h) (Or.inr ⟨by rfl, rfl⟩) hHeld ?_
          try simp only [Act.put, List.getElem_toArray, List.getElem_cons_succ, List.getElem_cons_zero, List.setIfInBounds_toArray, List.set_cons_zero, List.set_cons_succ]
          refine wpAnyH_take (i := 17) (v := undef) rfl (by kernel_rfl) (by kernel_rfl) (by kernel_rfl) (fun _ _ _ h => h) (Or.inr ⟨by rfl, rfl⟩) hHeld ?_
          try simp only [Act.put, List.getElem_toArray, List.getElem_cons_succ, List.getElem_cons_zero, List.setIfInBounds_toArray, List.set_cons_zero, List.set_cons_succ]
          refine wpAnyH_take (i := 18) (v := undef) rfl (by kernel_rfl) (by kernel_rfl) (by kernel_rfl) (fun _ _ _ h => h) (Or.inr ⟨by rfl, rfl⟩) hHeld ?_
          try simp only [Act.put, List.getElem_toArray, List.getElem_cons_succ, List.getElem_cons_zero, List.setIfInBounds_toArray, List.set_cons_zero, List.set_cons_succ]
          refine wpAnyH_take (i := 19) (v := undef) rfl (by kernel_rfl) (by kernel_rfl) (by kernel_rfl) (fun _ _ _ h => h) (Or.inr ⟨by rfl, rfl⟩) hHeld ?_
          try simp only [Act.put, List.getElem_toArray, List.getElem_cons_succ, List.getElem_cons_zero, List.setIfInBounds_toArray, List.set_cons_zero, List.set_cons_succ]
          refine wpAnyH_take (i := 20) (v := undef) rfl (by kernel_rfl) (by kernel_rfl) (by kernel_rfl) (fun _ _ _ h => h) (Or.inr ⟨by rfl, rfl⟩) hHeld ?_
          try simp only [Act.put, List.getElem_toArray, List.getElem_cons_succ, List.getElem_cons_zero, List.setIfInBounds_toArray, List.set_cons_zero, List.set_cons_succ]
          refine wpAnyH_take (i := 21) (v := undef) rfl (by kernel_rfl) (by kernel_rfl) (by kernel_rfl) (fun _ _ _ h => h) (Or.inr ⟨by rfl, rfl⟩) hHeld ?_
          try simp only [Act.put, List.getElem_toArray, List.getElem_cons_succ, List.getElem_cons_zero, List.setIfInBounds_toArray, List.set_cons_zero, List.set_cons_succ]
          refine wpAnyH_take (i := 22) (v := undef) rfl (by kernel_rfl) (by kernel_rfl) (by kernel_rfl) (fun _ _ _ h => h) (Or.inr ⟨by rfl, rfl⟩) hHeld ?_
          try simp only [Act.put, List.getElem_toArray, List.getElem_cons_succ, List.getElem_cons_zero, List.setIfInBounds_toArray, List.set_cons_zero, List.set_cons_succ]
          refine wpAnyH_take (i := 23) (v := undef) rfl (by kernel_rfl) (by kernel_rfl) (by kernel_rfl) (fun _ _ _ h => h) (Or.inr ⟨by rfl, rfl⟩) hHeld ?_
          try simp only [Act.put, List.getElem_toArray, List.getElem_cons_succ, List.getElem_cons_zero, List.setIfInBounds_toArray, List.set_cons_zero, List.set_cons_succ]
          refine wpAnyH_take (i := 24) (v := undef) rfl (by kernel_rfl) (by kernel_rfl) (by kernel_rfl) (fun _ _ _ h => h) (Or.inr ⟨by rfl, rfl⟩) hHeld ?_
          try simp only [Act.put, List.getElem_toArray, List.getElem_cons_succ, List.getElem_cons_zero, List.setIfInBounds_toArray, List.set_cons_zero, List.set_cons_succ]
          refine wpAnyH_take (i := 25) (v := undef) rfl (by kernel_rfl) (by kernel_rfl) (by kernel_rfl) (fun _ _ _ h => h) (Or.inr ⟨by rfl, rfl⟩) hHeld ?_
          try simp only [Act.put, List.getElem_toArray, List.getElem_cons_succ, List.getElem_cons_zero, List.setIfInBounds_toArray, List.set_cons_zero, List.set_cons_succ]
          refine wpAnyH_take (i := 26) (v := .bool false) rfl (by kernel_rfl) (by kernel_rfl) (by kernel_rfl) (fun _ _ _ h => h) (Or.inl ⟨by rfl, fun w' hSw => by go_simp⟩) hHeld ?_
          try simp only [Act.put, List.getElem_toArray, List.getElem_cons_succ, List.getElem_cons_zero, List.setIfInBounds_toArray, List.set_cons_zero, List.set_cons_succ]
          refine wpAnyH_take (i := 27) (v := .bool false) rfl (by kernel_rfl) (by kernel_rfl) (by kernel_rfl) (fun _ _ _ h => h) (Or.inl ⟨by rfl, fun w' hSw => by go_simp⟩) hHeld ?_
          try simp only [Act.put, List.getElem_toArray, List.getElem_cons_succ, List.getElem_cons_zero, List.setIfInBounds_toArray, List.set_cons_zero, List.set_cons_succ]
          refine wpAnyH_done (by kernel_rfl) ?_ _
          clear dpos dpos2
          have HBt := Lib.hid (two_below' HBs.out hHeld)
          have HX9 := Lib.hid (HX8.out.below hHeld)
          have HR5t := Lib.hid (HR5.out.below HBt.out)
          have HHr := Lib.hid (Rp.at HKf.out.prev (HCr.out _ HX9.out)).2.2.2.2
          rw [Nat.zero_add] at HHr
          clear hHeld HX8 HBs
          by_cases hk1 : rk.kind = 1
          · obtain ⟨t, ht1, ht2, ht3, ht4, ht5, ht6⟩ : ∃ t : Tx, Tx.read rk.body.data.toList = some t ∧ t.signedE = 0 ∧ t.nonce = (Od.cnt (rs.take i) t.frm : Int) ∧ Od.by_ rk = t.frm ∧ 0 ≤ t.frm ∧ t.frm ≤ 63 := by
              obtain ⟨h, e⟩ := HRK.out
              have := HGd.out.tx i h (by rw [e]; exact hk1)
              rwa [e] at this
            have htk := (Tx.read_err ht1).1
            obtain ⟨f, hf⟩ := Int.eq_ofNat_of_zero_le ht5
            have hf64 : f < 64 := by omega
            have hfi : (f : Int) < 64 := by omega
            have hf0 : (0 : Int) ≤ (f : Int) := by omega
            have HRD : Hid (∀ W, Calls Tryd.prog 24 #[.string rk.body] W fun e w' => e = .returned (.tuple #[.agg t.cells.toArray, .int .i64 0]) ∧ Below W.heap.size W w') := Lib.hid (fun W => (rread19_any rk.body W HKf.out.body).mono fun e w' ⟨q1, q2⟩ => by rw [ht1] at q1; exact ⟨q1, q2⟩)
            have HSg : Hid (∀ W, Calls Tryd.prog 25 #[.agg t.cells.toArray] W fun e w' => e = .returned (.int .i64 0) ∧ Below W.heap.size W w') := Lib.hid (fun W => by have := rsigned4_any t htk W hRS; rw [ht2] at this; exact this)
            have HNs : Hid (Od.nexts (rs.take (i + 1)) = (Od.nexts (rs.take i)).set f ((Od.cnt (rs.take i) (f : Int) : Int) + 1)) := Lib.hid (by obtain ⟨h, e⟩ := HRK.out; exact Od.nexts_step i h f (by rw [e, ht4, hf]) hf64)
            have HTc : Hid (∀ {g : Nat} (W : World), Row W g 50 t.cells → W.cell? ⟨g, 0, none⟩ = some (.int .i64 (f : Int)) ∧ W.cell? ⟨g, 1, none⟩ = some (.int .i64 (Od.cnt (rs.take i) (f : Int) : Int))) := Lib.hid (fun W h => ⟨by have := tx_range h 0 (.int .i64 t.frm) rfl; rw [hf] at this; exact this, by have := tx_range h 1 (.int .i64 t.nonce) rfl; rw [ht3, hf] at this; exact this⟩)
            have hN6 : (Is (Od.nexts (rs.take i))).length = 64 := by unfold Is; rw [List.length_map, Od.nexts_len]
            have HN6 : Hid (∀ {g : Nat} {T : TypeId} (W : World), Row W g T (Is (Od.nexts (rs.take i))) → W.cell? ⟨g, f, none⟩ = some (.int .i64 (Od.cnt (rs.take i) (f : Int) : Int))) := Lib.hid (fun W h => by
              rw [h.cell f (by rw [hN6]; exact hf64)]
              congr 1
              unfold Is
              rw [List.getElem_map, Od.nexts_get _ f hf64])
            have hcn40 : Od.cnt (rs.take i) (f : Int) ≤ 40 := by have := Od.cnt_le (rs.take i) (f : Int); rw [List.length_take] at this; omega
            have HT72 := Lib.hid (Tx.cells_length htk)
            have HT1 := Lib.hid (Tx.cells_one htk)
            have hzx : ∀ W : World, (zeroValue 50).run Tryd.prog W = .ok (.agg Tx.none.cells.toArray) W := tx_zv
            have HZX72 := Lib.hid (Tx.cells_length Tx.none_ok)
            obtain ⟨ZX, hZX⟩ : ∃ ZX, Tx.none.cells = ZX := ⟨_, rfl⟩
            rw [hZX] at hzx HZX72
            obtain ⟨CT, hCT⟩ : ∃ CT, t.cells = CT := ⟨_, rfl⟩
            rw [hCT] at HRD HSg HTc HT72 HT1
            obtain ⟨cn, hcn⟩ : ∃ cn : Nat, Od.cnt (rs.take i) (f : Int) = cn := ⟨_, rfl⟩
            rw [hcn] at HNs HTc HN6 hcn40
            have HL64 := Lib.hid hN6
            have dk : decide (rk.kind = 1) = true := decide_eq_true hk1
            have dkb : (rk.kind == 1) = true := by simpa using hk1
            have dkp : (rk.kind = 1) = True := by simpa using hk1
            have ecn : IntKind.i64.wrap ((cn : Int) + 1) = (cn : Int) + 1 := IntWalk.i64_in _ (by omega)
            clear ht1 ht2 ht3 ht4 ht5 ht6 htk hf hZX hCT hcn hk1 hN6
            go_wp2_with (first
              | ((with_reducible show wpList _ _ _ (⟨_, .load 28 (.tmp 79), _, _, _, _⟩ :: _) _ _); refine wpList_load_tx rfl 28 (.tmp 79) rfl gb9 36 (rfl) (bRow rk.hash).toList _ (HHr.out) Tryd.underlying28 rfl (by rw [hash_info, HH32.out]) ?_)
              | (
                 with_reducible show wpList _ _ _ (⟨_, .store 28 (.tmp 5) _, _, _, _, _⟩ :: _) _ _
                 refine wpList_store_at rfl 28 (.tmp 5) (.tmp 80) rfl g5 0 (bRow rk.hash).toList HP _ rfl rfl (HR5t.out) (by have := HP32.out; have := HH32.out; omega) (by rw [hash_info, HH32.out]) HHh1.out ?_
                 intro w6 hr hg
                 rw [splice_all (HH32.out.trans HP32.out.symm)] at hr
                 have HR5u : Hid (Row w6 g5 28 (bRow (Od.head (rs.take (i + 1)))).toList) := Lib.hid (by obtain ⟨h, e⟩ := HRK.out; rw [Od.head_next i h, e]; exact hr)
                 have HX6 := Lib.hid (HX9.out.kept hg (fun e => by injection e with e; have := Hb8s; have := HR5.out.lt; omega))
                 have HR6u := Lib.hid ((HR6.out.below HBt.out).kept hg (fun e => by injection e with e; have := HG56.out; omega))
                 have HChu := Lib.hid ((HCh.out.trans (Chg.of_below (S := fun _ => False) HBt.out) (fun _ q => q.elim)).trans (Chg.of_grown (S := fun q => q = g5) hg (fun k hk => by cases hk; exact .inl rfl)) (fun k hk => .inl (.inl hk)))
                 have ck := (Rp.at HKf.out.prev (HCr.out _ HX6.out)).2.1; rw [Nat.zero_add] at ck; have cb := (Rp.at HKf.out.prev (HCr.out _ HX6.out)).2.2.2.1; rw [Nat.zero_add] at cb
                 clear hr hg))
            refine (HRD.out _).mono ?_
            rintro _ w7 ⟨rfl, hb7⟩
            have HR5v := Lib.hid (HR5u.out.below hb7)
            have HR6v := Lib.hid (HR6u.out.below hb7)
            have HChv := Lib.hid (HChu.out.trans (Chg.of_below (S := fun _ => False) hb7) (fun _ q => q.elim))
            clear hb7 HR5u HR6u HChu HRD ck cb
            go_wp2_with (first
              | (
                 with_reducible show wpList _ _ _ (⟨_, .store 50 (.tmp 10) _, _, _, _, _⟩ :: _) _ _
                 refine wpList_store_at rfl 50 (.tmp 10) (.tmp 88) rfl w7.heap.size 0 CT ZX _ rfl rfl (Row.new w7 50 ZX) (by have := HZX72.out; have := HT72.out; omega) (by rw [tx_info, HT72.out]) HT1.out ?_
                 intro w8 hr hg
                 rw [splice_all (HT72.out.trans HZX72.out.symm)] at hr
                 have hbx := below_own ((Below.refl w7.heap.size w7).alloc (Nat.le_refl _) (.cells ZX.toArray 50)) hg (fun k hk => by cases hk; exact Nat.le_refl _)
                 have HR5w := Lib.hid (HR5v.out.below hbx)
                 have HR6w := Lib.hid (HR6v.out.below hbx)
                 have HChw := Lib.hid (HChv.out.trans (Chg.of_below (S := fun _ => False) hbx) (fun _ q => q.elim))
                 have HTx := Lib.hid hr
                 clear hbx
                 clear hr hg))
            generalize w7.heap.size = g10 at *
            clear HR5v HR6v HChv
            refine wp_region_held_drew (S := fun w' => Below w8.heap.size w8 w') (by kernel_rfl) ((Below.refl _ _).drew) (fun hHeld => ?_)
            generalize w8.drew = wx at *
            refine wpAnyH_take (i := 0) (v := .int .i64 0) rfl (by kernel_rfl) (by kernel_rfl) (by kernel_rfl) (fun _ _ _ h => h) (Or.inl ⟨by rfl, fun w' hSw => by go_simp⟩) hHeld ?_
            try simp only [Act.put, List.getElem_toArray, List.getElem_cons_succ, List.getElem_cons_zero, List.setIfInBounds_toArray, List.set_cons_zero, List.set_cons_succ]
            refine wpAnyH_take (i := 1) (v := .bool false) rfl (by kernel_rfl) (by kernel_rfl) (by kernel_rfl) (fun _ _ _ h => h) (Or.inl ⟨by rfl, fun w' hSw => by go_simp⟩) hHeld ?_
            try simp only [Act.put, List.getElem_toArray, List.getElem_cons_succ, List.getElem_cons_zero, List.setIfInBounds_toArray, List.set_cons_zero, List.set_cons_succ]
            refine wpAnyH_take (i := 2) (v := .bool false) rfl (by kernel_rfl) (by kernel_rfl) (by kernel_rfl) (fun _ _ _ h => h) (Or.inl ⟨by rfl, fun w' hSw => by go_simp⟩) hHeld ?_
            try simp only [Act.put, List.getElem_toArray, List.getElem_cons_succ, List.getElem_cons_zero, List.setIfInBounds_toArray, List.set_cons_zero, List.set_cons_succ]
            refine wpAnyH_take (i := 3) (v := .pointer (some ⟨g10, 1, none⟩)) rfl (by kernel_rfl) (by kernel_rfl) (by kernel_rfl) (fun _ _ _ h => h) (Or.inl ⟨by rfl, fun w' hSw => by go_simp⟩) hHeld ?_
            try simp only [Act.put, List.getElem_toArray, List.getElem_cons_succ, List.getElem_cons_zero, List.setIfInBounds_toArray, List.set_cons_zero, List.set_cons_succ]
            refine wpAnyH_take (i := 4) (v := .int .i64 cn) rfl (by kernel_rfl) (by kernel_rfl) (by kernel_rfl) (fun _ _ _ h => h) (Or.inl ⟨by rfl, fun w' hSw => by have hq := hSw; have hd := (HTc.out _ (HTx.out.below hq)).2; go_simp⟩) hHeld ?_
            try simp only [Act.put, List.getElem_toArray, List.getElem_cons_succ, List.getElem_cons_zero, List.setIfInBounds_toArray, List.set_cons_zero, List.set_cons_succ]
            refine wpAnyH_take (i := 5) (v := .slice (some ⟨g6, 0, none⟩) 64 64) rfl (by kernel_rfl) (by kernel_rfl) (by kernel_rfl) (fun _ _ _ h => h) (Or.inl ⟨by rfl, fun w' hSw => by go_simp⟩) hHeld ?_
            try simp only [Act.put, List.getElem_toArray, List.getElem_cons_succ, List.getElem_cons_zero, List.setIfInBounds_toArray, List.set_cons_zero, List.set_cons_succ]
            refine wpAnyH_take (i := 6) (v := .pointer (some ⟨g10, 0, none⟩)) rfl (by kernel_rfl) (by kernel_rfl) (by kernel_rfl) (fun _ _ _ h => h) (Or.inl ⟨by rfl, fun w' hSw => by go_simp⟩) hHeld ?_
            try simp only [Act.put, List.getElem_toArray, List.getElem_cons_succ, List.getElem_cons_zero, List.setIfInBounds_toArray, List.set_cons_zero, List.set_cons_succ]
            refine wpAnyH_take (i := 7) (v := .int .i64 f) rfl (by kernel_rfl) (by kernel_rfl) (by kernel_rfl) (fun _ _ _ h => h) (Or.inl ⟨by rfl, fun w' hSw => by have hq := hSw; have hd := (HTc.out _ (HTx.out.below hq)).1; go_simp⟩) hHeld ?_
            try simp only [Act.put, List.getElem_toArray, List.getElem_cons_succ, List.getElem_cons_zero, List.setIfInBounds_toArray, List.set_cons_zero, List.set_cons_succ]
            refine wpAnyH_take (i := 8) (v := .pointer (some ⟨g6, f, none⟩)) rfl (by kernel_rfl) (by kernel_rfl) (by kernel_rfl) (fun _ _ _ h => h) (Or.inl ⟨by rfl, fun w' hSw => by go_simp⟩) hHeld ?_
            try simp only [Act.put, List.getElem_toArray, List.getElem_cons_succ, List.getElem_cons_zero, List.setIfInBounds_toArray, List.set_cons_zero, List.set_cons_succ]
            refine wpAnyH_take (i := 9) (v := .int .i64 cn) rfl (by kernel_rfl) (by kernel_rfl) (by kernel_rfl) (fun _ _ _ h => h) (Or.inl ⟨by rfl, fun w' hSw => by have hq := hSw; have hd := HN6.out _ (HR6w.out.below hq); go_simp⟩) hHeld ?_
            try simp only [Act.put, List.getElem_toArray, List.getElem_cons_succ, List.getElem_cons_zero, List.setIfInBounds_toArray, List.set_cons_zero, List.set_cons_succ]
            refine wpAnyH_take (i := 10) (v := .bool false) rfl (by kernel_rfl) (by kernel_rfl) (by kernel_rfl) (fun _ _ _ h => h) (Or.inl ⟨by rfl, fun w' hSw => by go_simp⟩) hHeld ?_
            try simp only [Act.put, List.getElem_toArray, List.getElem_cons_succ, List.getElem_cons_zero, List.setIfInBounds_toArray, List.set_cons_zero, List.set_cons_succ]
            refine wpAnyH_take (i := 11) (v := .bool false) rfl (by kernel_rfl) (by kernel_rfl) (by kernel_rfl) (fun _ _ _ h => h) (Or.inl ⟨by rfl, fun w' hSw => by go_simp⟩) hHeld ?_
            try simp only [Act.put, List.getElem_toArray, List.getElem_cons_succ, List.getElem_cons_zero, List.setIfInBounds_toArray, List.set_cons_zero, List.set_cons_succ]
            refine wpAnyH_take (i := 12) (v := .bool false) rfl (by kernel_rfl) (by kernel_rfl) (by kernel_rfl) (fun _ _ _ h => h) (Or.inl ⟨by rfl, fun w' hSw => by go_simp⟩) hHeld ?_
            try simp only [Act.put, List.getElem_toArray, List.getElem_cons_succ, List.getElem_cons_zero, List.setIfInBounds_toArray, List.set_cons_zero, List.set_cons_succ]
            refine' wpAnyH_take (i := 13) (v := _) rfl (by kernel_rfl) (by kernel_rfl) (by kernel_rfl) (fun _ _ _ h => h) (yieldsIf_load_mid (by rfl) _ _ rfl g10 0 rfl CT _ (fun w' hSw => (row_range (HTx.out.below hSw))) Tryd.underlying50 rfl (by rw [tx_info, HT72.out])) hHeld ?_
            try simp only [Act.put, List.getElem_toArray, List.getElem_cons_succ, List.getElem_cons_zero, List.setIfInBounds_toArray, List.set_cons_zero, List.set_cons_succ]
            refine wpAnyH_ready (rs := [14]) (by kernel_rfl) (by simp) (AllReadyH.cons rfl (fun K1 hK1 => ?_) AllReadyH.nil)
            try simp only [Act.put, List.getElem_toArray, List.getElem_cons_succ, List.getElem_cons_zero, List.setIfInBounds_toArray, List.set_cons_zero, List.set_cons_succ]
            go_simp
            refine Calls.mono (HSg.out _) ?_
            rintro e wc1 ⟨rfl, hc2⟩
            refine hK1.out _ _ (two_below' hHeld hc2) (fun hHeld => ?_)
            clear hK1 K1
            try simp only [Act.put, List.getElem_toArray, List.getElem_cons_succ, List.getElem_cons_zero, List.setIfInBounds_toArray, List.set_cons_zero, List.set_cons_succ]
            refine wpAnyH_take (i := 15) (v := .bool false) rfl (by kernel_rfl) (by kernel_rfl) (by kernel_rfl) (fun _ _ _ h => h) (Or.inl ⟨by rfl, fun w' hSw => by go_simp⟩) hHeld ?_
            try simp only [Act.put, List.getElem_toArray, List.getElem_cons_succ, List.getElem_cons_zero, List.setIfInBounds_toArray, List.set_cons_zero, List.set_cons_succ]
            refine wpAnyH_take (i := 16) (v := .bool false) rfl (by kernel_rfl) (by kernel_rfl) (by kernel_rfl) (fun _ _ _ h => h) (Or.inl ⟨by rfl, fun w' hSw => by go_simp⟩) hHeld ?_
            try simp only [Act.put, List.getElem_toArray, List.getElem_cons_succ, List.getElem_cons_zero, List.setIfInBounds_toArray, List.set_cons_zero, List.set_cons_succ]
            refine wpAnyH_done (by kernel_rfl) ?_ _
            generalize wc1 = wy at *
            have HR5y := Lib.hid (HR5w.out.below hHeld)
            have HR6y := Lib.hid (HR6w.out.below hHeld)
            have HChy := Lib.hid (HChw.out.trans (Chg.of_below (S := fun _ => False) hHeld) (fun _ q => q.elim))
            have ct := (HTc.out _ (HTx.out.below hHeld)).1
            have c6 := HN6.out _ HR6y.out
            clear hHeld HR5w HR6w HChw HSg
            go_wp2_with (first
              | ((with_reducible show wpList _ _ _ (⟨_, .store 3 (.tmp 113) _, _, _, _, _⟩ :: _) _ _)
                 refine wpList_store_int rfl 3 (.tmp 113) (.tmp 112) rfl g6 f 3 (Is (Od.nexts (rs.take i))) ((cn : Int) + 1) rfl rfl HR6y.out (by rw [HL64.out]; exact hf64) (by kernel_rfl) ?_
                 intro w9 hr hg
                 have HR6z : Hid (Row w9 g6 3 (Is (Od.nexts (rs.take (i + 1))))) := Lib.hid (by rw [HNs.out]; unfold Is at hr ⊢; rw [List.map_set]; exact hr)
                 have HR5z := Lib.hid (HR5y.out.kept hg (fun e => by injection e with e; have := HG56.out; omega))
                 have HChz := Lib.hid (HChy.out.trans (Chg.of_grown (S := fun q => q = g6) hg (fun k hk => by cases hk; exact .inl rfl)) (fun k hk => .inl (.inr hk)))
                 clear hr hg))
            exact ⟨⟨i + 1, by omega, by go_num, HR5z.out, HR6z.out, HChz.out⟩, by simp [intOf]; omega⟩
          · have dk : decide (rk.kind = 1) = false := decide_eq_false hk1
            have dkb : (rk.kind == 1) = false := by simpa using hk1
            have dkp : (rk.kind = 1) = False := by simpa using hk1
            have HNk : Hid (Od.nexts (rs.take (i + 1)) = Od.nexts (rs.take i)) := Lib.hid (by obtain ⟨h, e⟩ := HRK.out; exact HGd.out.nexts_keep i h (by rw [e]; exact hk1))
            clear hk1
            go_wp2_with (first
              | ((with_reducible show wpList _ _ _ (⟨_, .load 28 (.tmp 79), _, _, _, _⟩ :: _) _ _); refine wpList_load_tx rfl 28 (.tmp 79) rfl gb9 36 (rfl) (bRow rk.hash).toList _ (HHr.out) Tryd.underlying28 rfl (by rw [hash_info, HH32.out]) ?_)
              | (
                 with_reducible show wpList _ _ _ (⟨_, .store 28 (.tmp 5) _, _, _, _, _⟩ :: _) _ _
                 refine wpList_store_at rfl 28 (.tmp 5) (.tmp 80) rfl g5 0 (bRow rk.hash).toList HP _ rfl rfl (HR5t.out) (by have := HP32.out; have := HH32.out; omega) (by rw [hash_info, HH32.out]) HHh1.out ?_
                 intro w6 hr hg
                 rw [splice_all (HH32.out.trans HP32.out.symm)] at hr
                 have HR5u : Hid (Row w6 g5 28 (bRow (Od.head (rs.take (i + 1)))).toList) := Lib.hid (by obtain ⟨h, e⟩ := HRK.out; rw [Od.head_next i h, e]; exact hr)
                 have HX6 := Lib.hid (HX9.out.kept hg (fun e => by injection e with e; have := Hb8s; have := HR5.out.lt; omega))
                 have HR6u := Lib.hid ((HR6.out.below HBt.out).kept hg (fun e => by injection e with e; have := HG56.out; omega))
                 have HChu := Lib.hid ((HCh.out.trans (Chg.of_below (S := fun _ => False) HBt.out) (fun _ q => q.elim)).trans (Chg.of_grown (S := fun q => q = g5) hg (fun k hk => by cases hk; exact .inl rfl)) (fun k hk => .inl (.inl hk)))
                 have ck := (Rp.at HKf.out.prev (HCr.out _ HX6.out)).2.1; rw [Nat.zero_add] at ck; have cb := (Rp.at HKf.out.prev (HCr.out _ HX6.out)).2.2.2.1; rw [Nat.zero_add] at cb
                 clear hr hg))
            exact ⟨⟨i + 1, by omega, by go_num, HR5u.out, by rw [HNk.out]; exact HR6u.out, HChu.out⟩, by simp [intOf]; omega⟩

    · have hii : ¬ (i : Int) < (n : Int) := by omega
      have hri : rs.take i = rs := List.take_of_length_le (by rw [HN.out]; omega)
      rw [hri] at HR5
      have hH32 := HGd.out.head
      have HP32 := Lib.hid (Tx.bRow_len _ hH32)
      have heqH := fun W => hash_same19 W (Od.head rs) hH32
      have HLr := Lib.hid (HL5.out.chg HCh.out (fun k hk q => by have := HLt.out k hk; have := HG56.out; omega))
      have HHd : Hid (∀ W, Below wr.heap.size wr W → Calls Tryd.prog 26 #[.pointer (some ⟨B, 0, none⟩)] W fun e w' => e = .returned (.agg (bRow (Od.head rs)).toList.toArray) ∧ Below W.heap.size W w') := Lib.hid (fun W hW => by have := (HLr.out.below hW).head; rwa [← Array.toArray_toList (xs := bRow (Od.head rs))] at this)
      have HLz := Lib.hid (below_chg HLow5.out HCh.out HLow5.out.size (fun k hk => by have := HG56.out; have := HGw.out; omega))
      generalize (bRow (Od.head rs)).toList = HP at *
      clear hri hH32 hin
      go_wp2_with fail
      refine wp_region_held_drew (S := fun w' => Below wr.heap.size wr w') (by kernel_rfl) ((Below.refl _ _).drew) (fun hHeld => ?_)
      generalize wr.drew = wq at *
      refine wpAnyH_take (i := 0) (v := .pointer (some ⟨B, 0, none⟩)) rfl (by kernel_rfl) (by kernel_rfl) (by kernel_rfl) (fun _ _ _ h => h) (Or.inl ⟨by rfl, fun w' hSw => by go_simp⟩) hHeld ?_
      try simp only [Act.put, List.getElem_toArray, List.getElem_cons_succ, List.getElem_cons_zero, List.setIfInBounds_toArray, List.set_cons_zero, List.set_cons_succ]
      refine' wpAnyH_take (i := 2) (v := _) rfl (by kernel_rfl) (by kernel_rfl) (by kernel_rfl) (fun _ _ _ h => h) (yieldsIf_load_mid (by rfl) _ _ rfl g5 0 rfl HP _ (fun w' hSw => (row_range (HR5.out.below hSw))) Tryd.underlying28 rfl (by rw [hash_info, HP32.out])) hHeld ?_
      try simp only [Act.put, List.getElem_toArray, List.getElem_cons_succ, List.getElem_cons_zero, List.setIfInBounds_toArray, List.set_cons_zero, List.set_cons_succ]
      refine wpAnyH_ready (rs := [1]) (by kernel_rfl) (by simp) (AllReadyH.cons rfl (fun K1 hK1 => ?_) AllReadyH.nil)
      try simp only [Act.put, List.getElem_toArray, List.getElem_cons_succ, List.getElem_cons_zero, List.setIfInBounds_toArray, List.set_cons_zero, List.set_cons_succ]
      go_simp
      refine Calls.mono (HHd.out _ hHeld) ?_
      rintro e wc1 ⟨rfl, hc2⟩
      refine hK1.out _ _ (two_below' hHeld hc2) (fun hHeld => ?_)
      clear hK1 K1
      try simp only [Act.put, List.getElem_toArray, List.getElem_cons_succ, List.getElem_cons_zero, List.setIfInBounds_toArray, List.set_cons_zero, List.set_cons_succ]
      refine wpAnyH_take (i := 3) (v := .bool true) rfl (by kernel_rfl) (by kernel_rfl) (by kernel_rfl) (fun _ _ _ h => h) (Or.inl ⟨by rfl, fun w' hSw => by have hq := hSw; have hd := heqH w'; go_simp⟩) hHeld ?_
      try simp only [Act.put, List.getElem_toArray, List.getElem_cons_succ, List.getElem_cons_zero, List.setIfInBounds_toArray, List.set_cons_zero, List.set_cons_succ]
      refine wpAnyH_take (i := 4) (v := .bool true) rfl (by kernel_rfl) (by kernel_rfl) (by kernel_rfl) (fun _ _ _ h => h) (Or.inl ⟨by rfl, fun w' hSw => by go_simp⟩) hHeld ?_
      try simp only [Act.put, List.getElem_toArray, List.getElem_cons_succ, List.getElem_cons_zero, List.setIfInBounds_toArray, List.set_cons_zero, List.set_cons_succ]
      refine wpAnyH_done (by kernel_rfl) ?_ _
      go_wp2_with fail
      go_ret
      exact ⟨rfl, two_below' HLz.out hHeld⟩

end Go.Proofs.YtgdijbcoacgadaaDoor
