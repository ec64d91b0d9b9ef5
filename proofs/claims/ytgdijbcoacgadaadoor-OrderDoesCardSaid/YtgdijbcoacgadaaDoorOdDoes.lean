/- the law OrderDoes. -/
import Derived.Test.YtgdijbcoacgadaaDoorOdDuo
import Derived.Test.YtgdijbcoacgadaaDoorOdRmake
import Derived.Deep.CutBlock
import Derived.Deep.DeepCutAuto
import Derived.Deep.CutRange
namespace Go.Proofs.YtgdijbcoacgadaaDoor
open Go.RowKit
set_option linter.unusedVariables false
set_option linter.unusedSimpArgs false
set_option maxRecDepth 100000

def Act19.zero : Act19 := ⟨0, 0, ByteArray.empty, false, Rp.zero⟩
theorem Act19.zero_fits : Act19.zero.Fits := ⟨⟨by decide, by decide⟩, ⟨by decide, by decide⟩, by decide, trivial, Rp.zero_fits⟩
theorem act19_zv (W : World) : (zeroValue 32).run Tryd.prog W = .ok (.agg Act19.zero.cells.toArray) W := by kernel_rfl
theorem Act19.cells_one {x : Act19} (h : x.Fits) : ∀ v ∈ x.cells, v.oneCell' = true := by
  intro v hv
  unfold Act19.cells at hv
  simp only [List.mem_append, List.mem_singleton, List.not_mem_nil, or_false] at hv
  rcases hv with rfl | rfl | rfl | rfl | hv
  · rfl
  · rfl
  · rfl
  · rfl
  · exact Rp.cells_one h.r.prev h.r.hash v hv
set_option maxHeartbeats 25600000 in
theorem orderDoes_any (hRS : RefSum) (l : List Act19) (A0 : Option Addr) (c0 : Nat) (i who : Int) (w : World) (hin : Act19sAt w w.heap.size A0 l) (hT : Tab w) :
    Calls Tryd.prog 3 #[.slice A0 l.length c0, .int .i64 i, .int .i64 who] w fun e w' => e = .returned (.bool true) ∧ Below w.heap.size w w' := by
  have NW := Lib.hid (logNew_any w)
  have AW : Hid (∀ W, Below w.heap.size w W → Calls Tryd.prog 9 #[] W fun e w' => e = .returned (.bool true) ∧ Below W.heap.size W w') := Lib.hid (fun W hW => awake19_any W (hT.below hW hT.pos))
  have HT : Hid (∀ W, Below w.heap.size w W → Tab W) := Lib.hid (fun W hW => hT.below hW hT.pos)
  have HIn := Lib.hid hin
  obtain ⟨n, hn⟩ : ∃ n, n = l.length := ⟨_, rfl⟩
  rw [← hn]
  have HN := Lib.hid hn
  have hn1 : n ≤ 9223372036854775807 := by rw [hn]; exact hin.2.2.2
  clear hin hT hn
  have hzv := rp_zv
  have HBt : Hid (Tryd.prog.built 30 [] = some Rp.zero.cells.toArray) := Lib.hid Rp.zero_built0
  have HZ68 := Lib.hid (Rp.cells_len Rp.zero_fits.prev Rp.zero_fits.hash)
  have HZ1 := Lib.hid (Rp.cells_one Rp.zero_fits.prev Rp.zero_fits.hash)
  obtain ⟨ZT, hZT⟩ : ∃ ZT, Rp.zero.cells = ZT := ⟨_, rfl⟩
  rw [hZT] at hzv HBt HZ68 HZ1
  have HZT := Lib.hid hZT
  clear hZT
  have hza := act19_zv
  have HZA72 := Lib.hid (Act19.cells_len Act19.zero_fits)
  obtain ⟨ZA, hZA⟩ : ∃ ZA, Act19.zero.cells = ZA := ⟨_, rfl⟩
  rw [hZA] at hza HZA72
  clear hZA
  go_enter Tryd.func3, Tryd.ntmps3
  go_wp2_with fail
  refine NW.out.mono ?_
  rintro _ w1 ⟨rfl, hl1, hb1⟩
  have HD1 : Hid (Duo w w1 w.heap.size (.slice none 0 0) [] [] []) := Lib.hid ⟨_, _, hl1, OwnL.nil _ _ _ _ _, hb1, fun k hk => (by cases hk), fun x hx => by simp at hx⟩
  clear hl1 hb1 NW
  obtain ⟨B, hB⟩ : ∃ B, w.heap.size = B := ⟨_, rfl⟩
  have HD1' : Hid (Duo w w1 B (.slice none 0 0) [] [] []) := by rw [← hB]; exact HD1
  rw [show (Value.pointer (some ⟨w.heap.size, 0, none⟩)) = .pointer (some ⟨B, 0, none⟩) by rw [hB]]
  clear HD1 hB
  go_wp2_with fail
  refine (AW.out _ HD1'.out.low).mono ?_
  rintro _ w2 ⟨rfl, hb2⟩
  have HD2 := Lib.hid (HD1'.out.below hb2)
  clear hb2 HD1' AW
  go_upto_block 0 with fail
  go_cut [8, 9, 10, 11, 12, 13, 14, 15, 16, 17, 18] from 30 to 126 (fun s8 s9 s10 s11 s12 s13 s14 s15 s16 s17 s18 wc => ∃ (rs : List Rp) (A : Option Addr) (c : Nat), rs.length ≤ 40 ∧ s8 = .slice A rs.length c ∧ Duo w wc B (.slice A rs.length c) rs rs [])
  case first =>
    go_wp2_with fail
    go_loopw [8, 9] (fun s8 s9 wr => ∃ (k : Nat) (rs : List Rp) (A : Option Addr) (c : Nat), k ≤ n ∧ k ≤ 40 ∧ rs.length ≤ k ∧ s8 = .slice A rs.length c ∧ s9 = .int .i64 k ∧ Duo w wr B (.slice A rs.length c) rs rs []) (fun _ s9 _ => n - (intOf s9).toNat)
    case atStart => exact ⟨0, [], none, 0, Nat.zero_le _, Nat.zero_le _, Nat.le_refl _, rfl, rfl, HD2.out⟩
    case round =>
      obtain ⟨k, rs, A, c, hk, hk40, hrk, rfl, rfl, hd⟩ := hrel
      have HD := Lib.hid hd
      have HLen : Hid (rs.length ≤ 40) := Lib.hid (by omega)
      clear hd HD2
      by_cases hkn : k < n ∧ k < 40
      · have hki : (k : Int) < (n : Int) := by omega
        have hk5 : (k : Int) < 40 := by omega
        have hk0 : (0 : Int) ≤ (k : Int) := by omega
        have hka : k < l.length := by rw [← HN.out]; exact hkn.1
        obtain ⟨gA, off, rfl, hga, hcl⟩ := HIn.out.1 (by intro e; rw [e] at hka; simp at hka)
        have hxr := hcl k hka
        have hxi := HIn.out.2.2.1 _ (List.getElem_mem hka)
        have HFt := Lib.hid (And.intro HD.out.good.fits HD.out.good.times)
        generalize l[k] = x at hxr hxi
        have HX : Hid (∀ W, Below w.heap.size w W → True ∧ True ∧ True ∧ W.rangeAt gA (off + k * 72) x.cells) := Lib.hid (fun W hW => ⟨trivial, trivial, trivial, fun j v hv => (hW.cell (p := ⟨gA, off + k * 72 + j, none⟩) hga).trans (hxr j v hv)⟩)
        have HXf := Lib.hid hxi
        have HA72 := Lib.hid (Act19.cells_len hxi)
        have HA1 := Lib.hid (Act19.cells_one hxi)
        have HBx0 : Hid (∀ (W : World) g, Row W g 32 x.cells → W.cell? ⟨g, 0, none⟩ = some (.int .i64 x.kind) ∧ W.cell? ⟨g, 2, none⟩ = some (.string x.body) ∧ W.cell? ⟨g, 3, none⟩ = some (.bool x.load) ∧ W.rangeAt g 4 x.r.cells) := Lib.hid (fun W g h => ⟨by have := row_range h 0 _ rfl; exact this, by have := row_range h 2 _ rfl; exact this, by have := row_range h 3 _ rfl; exact this, (Act19.box h).2.2.2⟩)
        obtain ⟨CT, hCT⟩ : ∃ CT, x.cells = CT := ⟨_, rfl⟩
        rw [hCT] at HX HA72 HA1 HBx0
        have HCT := Lib.hid hCT
        obtain ⟨m, hm⟩ : ∃ m, rs.length = m := ⟨_, rfl⟩
        have HMm := Lib.hid hm
        rw [hm] at HD hrk
        have HMk0 : Hid (∀ W rl rows (kind time : Int) (body : ByteArray), body.size ≤ 140737488351232 → Duo w W B (.slice A m c) rl rs rows → Calls Tryd.prog 10 #[.slice A m c, .int .i64 kind, .string body, .int .i64 time] W fun e w' => e = .returned (.tuple #[.agg (Od.mk rs kind body time).1.cells.toArray, .int .i64 (Od.mk rs kind body time).2.2]) ∧ Below W.heap.size W w') := Lib.hid (fun W rl rows kind time body hs h => by
          have q := h
          rw [← HMm.out] at q
          have := rmake19_any hRS rs HD.out.good A c kind time body hs W (q.slR HFt.out.1 (by have := HLen.out; omega))
          rw [HMm.out] at this
          exact this)
        rw [hm]
        clear hxr hxi hga hcl hka hCT hm hkn
        cases hld : x.load with
        | true =>
          have HBx : Hid (∀ (W : World) g, Row W g 32 CT → W.cell? ⟨g, 3, none⟩ = some (.bool true) ∧ W.cell? ⟨g, 5, none⟩ = some (.int .i64 x.r.kind) ∧ W.cell? ⟨g, 6, none⟩ = some (.int .i64 x.r.time) ∧ W.cell? ⟨g, 7, none⟩ = some (.string x.r.body) ∧ W.rangeAt g 4 x.r.cells) := Lib.hid (fun W g h => by
            have hq := HBx0.out W g h
            have hr := hq.2.2.2
            have hat := Rp.at HXf.out.r.prev hr
            exact ⟨by rw [hq.2.2.1, hld], hat.2.1, hat.2.2.1, hat.2.2.2.1, hr⟩)
          have HLy : Hid (Od.fitsIn rs x.r → ∀ W rows, Duo w W B (.slice A m c) rs rs rows → Calls Tryd.prog 11 #[.pointer (some ⟨B, 0, none⟩), .agg x.r.cells.toArray] W fun e w' => e = .returned (.int .i64 0) ∧ Duo w w' B (.slice A m c) (rs ++ [x.r]) rs rows) := Lib.hid (fun hf W rows h => h.loadY (HT.out _ h.low) x.r HXf.out.r (by have := HLen.out; omega) hf)
          have HLn : Hid (¬ Od.fitsIn rs x.r → ∀ W rows, Duo w W B (.slice A m c) rs rs rows → Calls Tryd.prog 11 #[.pointer (some ⟨B, 0, none⟩), .agg x.r.cells.toArray] W fun e w' => e = .returned (.int .i64 7) ∧ Duo w w' B (.slice A m c) rs rs rows) := Lib.hid (fun hf W rows h => h.loadN (HT.out _ h.low) x.r HXf.out.r (by have := HLen.out; omega) hf)
          have HMr : Hid (∀ W rows, Duo w W B (.slice A m c) rs rs rows → Calls Tryd.prog 10 #[.slice A m c, .int .i64 x.r.kind, .string x.r.body, .int .i64 x.r.time] W fun e w' => e = .returned (.tuple #[.agg (Od.mk rs x.r.kind x.r.body x.r.time).1.cells.toArray, .int .i64 (Od.mk rs x.r.kind x.r.body x.r.time).2.2]) ∧ Below W.heap.size W w') := Lib.hid (fun W rows h => HMk0.out W rs rows x.r.kind x.r.time x.r.body HXf.out.r.body h)
          obtain ⟨R, hR⟩ : ∃ R, (Od.mk rs x.r.kind x.r.body x.r.time).1 = R := ⟨_, rfl⟩
          obtain ⟨ee, hee⟩ : ∃ ee, (Od.mk rs x.r.kind x.r.body x.r.time).2.2 = ee := ⟨_, rfl⟩
          have hRf : R.Fits := by rw [← hR]; exact Od.mk_fits HD.out.good _ _ _
          have HRf := Lib.hid hRf
          have hfit : Od.fitsIn rs x.r ↔ ee = 0 ∧ R = x.r := by unfold Od.fitsIn; rw [hR, hee]
          rw [hR, hee] at HMr
          have HXr := Lib.hid HXf.out.r
          have HCR68 := Lib.hid (Rp.cells_len hRf.prev hRf.hash)
          have HCR1 := Lib.hid (Rp.cells_one hRf.prev hRf.hash)
          have HCX68 := Lib.hid (Rp.cells_len HXf.out.r.prev HXf.out.r.hash)
          obtain ⟨CR, hCR⟩ : ∃ CR, R.cells = CR := ⟨_, rfl⟩
          have HCR := Lib.hid hCR
          clear hR hee hRf hld HBx0 HMk0
          by_cases h0 : ee = 0
          · subst h0
            by_cases hq : R = x.r
            · subst hq
              have HTE := Lib.hid (fun W => rp_eqD W x.r x.r HXr.out HXr.out (v := true) (by simp))
              have HL := Lib.hid (HLy.out (hfit.2 ⟨rfl, rfl⟩))
              rw [hCR] at HTE HL HMr HBx HCR68 HCR1 HCX68
              clear hfit HLy HLn hCR
              obtain ⟨xk, hxk⟩ : ∃ xk, x.r.kind = xk := ⟨_, rfl⟩
              obtain ⟨xt, hxt⟩ : ∃ xt, x.r.time = xt := ⟨_, rfl⟩
              obtain ⟨xb, hxb⟩ : ∃ xb, x.r.body = xb := ⟨_, rfl⟩
              rw [hxk, hxt, hxb] at HMr HBx
              clear hxk hxt hxb
              go_wp2_with (first
                | ((with_reducible show wpList _ _ _ (⟨_, .load 32 (.tmp 42), _, _, _, _⟩ :: _) _ _); refine wpList_load_tx rfl 32 (.tmp 42) rfl gA (off + k * 72) (rfl) CT _ ((HX.out _ HD.out.low).2.2.2) Tryd.underlying32 rfl (by rw [act19_info, HA72.out]) ?_)
                | (
                   with_reducible show wpList _ _ _ (⟨_, .store 32 (.tmp 10) _, _, _, _, _⟩ :: _) _ _
                   refine wpList_store_at rfl 32 (.tmp 10) (.tmp 43) rfl wr.heap.size 0 CT ZA _ rfl rfl (Row.new wr 32 ZA) (by have := HZA72.out; have := HA72.out; omega) (by rw [act19_info, HA72.out]) HA1.out ?_
                   intro w3 hr hg
                   rw [splice_all (HA72.out.trans HZA72.out.symm)] at hr
                   have HD3 := Lib.hid (HD.out.box hg hr)
                   obtain ⟨c3, c5, c6, c7, _⟩ := HBx.out _ _ hr
                   clear hr hg))
              have HMq := Lib.hid (HMr.out _ _ HD3.out)
              refine HMq.out.mono ?_
              rintro _ w4 ⟨rfl, hb4⟩
              have HD4 := Lib.hid (HD3.out.below hb4)
              clear hb4 c3 c5 c6 c7 HMr HMq
              generalize wr.heap.size = g10 at *
              go_wp2_with (first
                | (
                   with_reducible show wpList _ _ _ (⟨_, .store 30 (.tmp 11) _, _, _, _, _⟩ :: _) _ _
                   refine wpList_store_at rfl 30 (.tmp 11) (.tmp 58) rfl w4.heap.size 0 CR ZT _ rfl rfl (Row.new w4 30 ZT) (by have := HZ68.out; have := HCR68.out; omega) (by rw [rp_info, HCR68.out]) HCR1.out ?_
                   intro w5 hr hg
                   rw [splice_all (HCR68.out.trans HZ68.out.symm)] at hr
                   have HD5 := Lib.hid (HD4.out.box hg hr)
                   have HTE9 := HTE.out
                   clear hr hg)
                | ((with_reducible show wpList _ _ _ (⟨_, .load 30 (.tmp 11), _, _, _, _⟩ :: _) _ _); refine wpList_load_tx rfl 30 (.tmp 11) rfl w4.heap.size 0 (rfl) CR _ (row_range (HD5.out.row List.mem_cons_self)) Tryd.underlying30 rfl (by rw [rp_info, HCR68.out]) ?_)
                | ((with_reducible show wpList _ _ _ (⟨_, .load 30 (.tmp 64), _, _, _, _⟩ :: _) _ _); refine wpList_load_tx rfl 30 (.tmp 64) rfl g10 4 (rfl) CR _ ((HBx.out _ _ (HD5.out.row (by simp))).2.2.2.2) Tryd.underlying30 rfl (by rw [rp_info, HCX68.out]) ?_)
                | ((with_reducible show wpList _ _ _ (⟨_, .load 30 (.tmp 69), _, _, _, _⟩ :: _) _ _); refine wpList_load_tx rfl 30 (.tmp 69) rfl g10 4 (rfl) CR _ ((HBx.out _ _ (HD5.out.row (by simp))).2.2.2.2) Tryd.underlying30 rfl (by rw [rp_info, HCX68.out]) ?_))
              have HLq := Lib.hid (HL.out _ _ HD5.out)
              refine HLq.out.mono ?_
              rintro _ w6 ⟨rfl, hd6⟩
              have HD6 := Lib.hid hd6
              clear hd6 HLq HL HD5 HD4 HD3 HTE HTE9
              generalize w4.heap.size = g11 at *
              go_wp2_with (first
                | ((with_reducible show wpList _ _ _ (⟨_, .load 30 (.tmp 11), _, _, _, _⟩ :: _) _ _); refine wpList_load_tx rfl 30 (.tmp 11) rfl g11 0 (rfl) CR _ (row_range (HD6.out.row (T := 30) (by simp))) Tryd.underlying30 rfl (by rw [rp_info, HCR68.out]) ?_)
                | ((with_reducible show wpList _ _ _ (⟨_, .buildSlice 26 _ _, _, _, _, _⟩ :: _) _ _)
                   refine wpList_plain rfl fun _ hK => wp_buildRp (.tmp 86) rfl CR HCR68.out rfl (hK _ _ ?_)
                   have HDb := Lib.hid (HD6.out.alloc 30 CR))
                | ((with_reducible show wpList _ _ _ (⟨_, .call { callee := .builtin .append, args := _, argTypes := _ }, _, _, _, _⟩ :: _) _ _)
                   refine wpList_plain rfl fun _ hK => wp_appR (.tmp 85) (.tmp 87) rfl x.r HRf.out _ (by rw [HCR.out]; exact HDb.out.row List.mem_cons_self) w.heap.size (.slice A m c) rs HDb.out.own HDb.out.low.size (by have := HLen.out; omega) rfl rfl (fun v' w' ho hc hk => hK _ _ ?_)
                   have HDp := Lib.hid ((HDb.out.push ho hc hk).less (rows' := []) (by simp))
                   obtain ⟨A', c', rfl, _, _⟩ := ho.form
                   clear ho hc hk))
              exact ⟨⟨k + 1, rs ++ [x.r], A', c', by omega, by omega, by have := HMm.out; rw [List.length_append, List.length_singleton]; omega, by simp, by go_num, HDp.out⟩, by simp [intOf]; omega⟩
            · have HTE := Lib.hid (fun W => rp_eqD W R x.r HRf.out HXr.out (v := false) (by simpa using hq))
              have HL := Lib.hid (HLn.out (fun q => hq (hfit.1 q).2))
              clear hfit HLy HLn hq
              rw [hCR] at HTE HMr HCR68 HCR1
              obtain ⟨CX, hCX⟩ : ∃ CX, x.r.cells = CX := ⟨_, rfl⟩
              rw [hCX] at HTE HL HBx HCX68
              clear hCX hCR
              obtain ⟨xk, hxk⟩ : ∃ xk, x.r.kind = xk := ⟨_, rfl⟩
              obtain ⟨xt, hxt⟩ : ∃ xt, x.r.time = xt := ⟨_, rfl⟩
              obtain ⟨xb, hxb⟩ : ∃ xb, x.r.body = xb := ⟨_, rfl⟩
              rw [hxk, hxt, hxb] at HMr HBx
              clear hxk hxt hxb
              go_wp2_with (first
                | ((with_reducible show wpList _ _ _ (⟨_, .load 32 (.tmp 42), _, _, _, _⟩ :: _) _ _); refine wpList_load_tx rfl 32 (.tmp 42) rfl gA (off + k * 72) (rfl) CT _ ((HX.out _ HD.out.low).2.2.2) Tryd.underlying32 rfl (by rw [act19_info, HA72.out]) ?_)
                | (
                   with_reducible show wpList _ _ _ (⟨_, .store 32 (.tmp 10) _, _, _, _, _⟩ :: _) _ _
                   refine wpList_store_at rfl 32 (.tmp 10) (.tmp 43) rfl wr.heap.size 0 CT ZA _ rfl rfl (Row.new wr 32 ZA) (by have := HZA72.out; have := HA72.out; omega) (by rw [act19_info, HA72.out]) HA1.out ?_
                   intro w3 hr hg
                   rw [splice_all (HA72.out.trans HZA72.out.symm)] at hr
                   have HD3 := Lib.hid (HD.out.box hg hr)
                   obtain ⟨c3, c5, c6, c7, _⟩ := HBx.out _ _ hr
                   clear hr hg))
              have HMq := Lib.hid (HMr.out _ _ HD3.out)
              refine HMq.out.mono ?_
              rintro _ w4 ⟨rfl, hb4⟩
              have HD4 := Lib.hid (HD3.out.below hb4)
              clear hb4 c3 c5 c6 c7 HMr HMq
              generalize wr.heap.size = g10 at *
              go_wp2_with (first
                | (
                   with_reducible show wpList _ _ _ (⟨_, .store 30 (.tmp 11) _, _, _, _, _⟩ :: _) _ _
                   refine wpList_store_at rfl 30 (.tmp 11) (.tmp 58) rfl w4.heap.size 0 CR ZT _ rfl rfl (Row.new w4 30 ZT) (by have := HZ68.out; have := HCR68.out; omega) (by rw [rp_info, HCR68.out]) HCR1.out ?_
                   intro w5 hr hg
                   rw [splice_all (HCR68.out.trans HZ68.out.symm)] at hr
                   have HD5 := Lib.hid (HD4.out.box hg hr)
                   have HTE9 := HTE.out
                   clear hr hg)
                | ((with_reducible show wpList _ _ _ (⟨_, .load 30 (.tmp 11), _, _, _, _⟩ :: _) _ _); refine wpList_load_tx rfl 30 (.tmp 11) rfl w4.heap.size 0 (rfl) CR _ (row_range (HD5.out.row List.mem_cons_self)) Tryd.underlying30 rfl (by rw [rp_info, HCR68.out]) ?_)
                | ((with_reducible show wpList _ _ _ (⟨_, .load 30 (.tmp 64), _, _, _, _⟩ :: _) _ _); refine wpList_load_tx rfl 30 (.tmp 64) rfl g10 4 (rfl) CX _ ((HBx.out _ _ (HD5.out.row (by simp))).2.2.2.2) Tryd.underlying30 rfl (by rw [rp_info, HCX68.out]) ?_)
                | ((with_reducible show wpList _ _ _ (⟨_, .load 30 (.tmp 69), _, _, _, _⟩ :: _) _ _); refine wpList_load_tx rfl 30 (.tmp 69) rfl g10 4 (rfl) CX _ ((HBx.out _ _ (HD5.out.row (by simp))).2.2.2.2) Tryd.underlying30 rfl (by rw [rp_info, HCX68.out]) ?_))
              have HLq := Lib.hid (HL.out _ _ HD5.out)
              refine HLq.out.mono ?_
              rintro _ w6 ⟨rfl, hd6⟩
              have HD6 := Lib.hid hd6
              clear hd6 HLq HL HD5 HD4 HD3 HTE HTE9
              generalize w4.heap.size = g11 at *
              go_wp2_with fail
              exact ⟨⟨k + 1, rs, A, c, by omega, by omega, by have := HMm.out; omega, by rw [HMm.out], by go_num, by rw [HMm.out]; exact HD6.out.less (by simp)⟩, by simp [intOf]; omega⟩
          · have HL := Lib.hid (HLn.out (fun q => h0 (hfit.1 q).1))
            have dee : (ee == 0) = false := by simpa using h0
            have deep : (ee = 0) = False := by simpa using h0
            have deed : decide (ee = 0) = false := decide_eq_false h0
            clear hfit HLy HLn h0
            rw [hCR] at HMr HCR68 HCR1
            obtain ⟨CX, hCX⟩ : ∃ CX, x.r.cells = CX := ⟨_, rfl⟩
            rw [hCX] at HL HBx HCX68
            clear hCX hCR
            obtain ⟨xk, hxk⟩ : ∃ xk, x.r.kind = xk := ⟨_, rfl⟩
            obtain ⟨xt, hxt⟩ : ∃ xt, x.r.time = xt := ⟨_, rfl⟩
            obtain ⟨xb, hxb⟩ : ∃ xb, x.r.body = xb := ⟨_, rfl⟩
            rw [hxk, hxt, hxb] at HMr HBx
            clear hxk hxt hxb
            go_wp2_with (first
              | ((with_reducible show wpList _ _ _ (⟨_, .load 32 (.tmp 42), _, _, _, _⟩ :: _) _ _); refine wpList_load_tx rfl 32 (.tmp 42) rfl gA (off + k * 72) (rfl) CT _ ((HX.out _ HD.out.low).2.2.2) Tryd.underlying32 rfl (by rw [act19_info, HA72.out]) ?_)
              | (
                 with_reducible show wpList _ _ _ (⟨_, .store 32 (.tmp 10) _, _, _, _, _⟩ :: _) _ _
                 refine wpList_store_at rfl 32 (.tmp 10) (.tmp 43) rfl wr.heap.size 0 CT ZA _ rfl rfl (Row.new wr 32 ZA) (by have := HZA72.out; have := HA72.out; omega) (by rw [act19_info, HA72.out]) HA1.out ?_
                 intro w3 hr hg
                 rw [splice_all (HA72.out.trans HZA72.out.symm)] at hr
                 have HD3 := Lib.hid (HD.out.box hg hr)
                 obtain ⟨c3, c5, c6, c7, _⟩ := HBx.out _ _ hr
                 clear hr hg))
            have HMq := Lib.hid (HMr.out _ _ HD3.out)
            refine HMq.out.mono ?_
            rintro _ w4 ⟨rfl, hb4⟩
            have HD4 := Lib.hid (HD3.out.below hb4)
            clear hb4 c3 c5 c6 c7 HMr HMq
            generalize wr.heap.size = g10 at *
            go_wp2_with (first
              | (
                 with_reducible show wpList _ _ _ (⟨_, .store 30 (.tmp 11) _, _, _, _, _⟩ :: _) _ _
                 refine wpList_store_at rfl 30 (.tmp 11) (.tmp 58) rfl w4.heap.size 0 CR ZT _ rfl rfl (Row.new w4 30 ZT) (by have := HZ68.out; have := HCR68.out; omega) (by rw [rp_info, HCR68.out]) HCR1.out ?_
                 intro w5 hr hg
                 rw [splice_all (HCR68.out.trans HZ68.out.symm)] at hr
                 have HD5 := Lib.hid (HD4.out.box hg hr)
                 clear hr hg)
              | ((with_reducible show wpList _ _ _ (⟨_, .load 30 (.tmp 11), _, _, _, _⟩ :: _) _ _); refine wpList_load_tx rfl 30 (.tmp 11) rfl w4.heap.size 0 (rfl) CR _ (row_range (HD5.out.row List.mem_cons_self)) Tryd.underlying30 rfl (by rw [rp_info, HCR68.out]) ?_)
              | ((with_reducible show wpList _ _ _ (⟨_, .load 30 (.tmp 64), _, _, _, _⟩ :: _) _ _); refine wpList_load_tx rfl 30 (.tmp 64) rfl g10 4 (rfl) CX _ ((HBx.out _ _ (HD5.out.row (by simp))).2.2.2.2) Tryd.underlying30 rfl (by rw [rp_info, HCX68.out]) ?_)
              | ((with_reducible show wpList _ _ _ (⟨_, .load 30 (.tmp 69), _, _, _, _⟩ :: _) _ _); refine wpList_load_tx rfl 30 (.tmp 69) rfl g10 4 (rfl) CX _ ((HBx.out _ _ (HD5.out.row (by simp))).2.2.2.2) Tryd.underlying30 rfl (by rw [rp_info, HCX68.out]) ?_))
            have HLq := Lib.hid (HL.out _ _ HD5.out)
            refine HLq.out.mono ?_
            rintro _ w6 ⟨rfl, hd6⟩
            have HD6 := Lib.hid hd6
            clear hd6 HLq HL HD5 HD4 HD3
            generalize w4.heap.size = g11 at *
            go_wp2_with fail
            exact ⟨⟨k + 1, rs, A, c, by omega, by omega, by have := HMm.out; omega, by rw [HMm.out], by go_num, by rw [HMm.out]; exact HD6.out.less (by simp)⟩, by simp [intOf]; omega⟩
        | false =>
          have HBx : Hid (∀ (W : World) g, Row W g 32 CT → W.cell? ⟨g, 0, none⟩ = some (.int .i64 x.kind) ∧ W.cell? ⟨g, 2, none⟩ = some (.string x.body) ∧ W.cell? ⟨g, 3, none⟩ = some (.bool false)) := Lib.hid (fun W g h => by
            have hq := HBx0.out W g h
            exact ⟨hq.1, hq.2.1, by rw [hq.2.2.1, hld]⟩)
          have HTi : Hid (∀ W rl rows, Duo w W B (.slice A m c) rl rs rows → Calls Tryd.prog 13 #[.slice A m c, .agg CT.toArray] W fun e w' => e = .returned (.int .i64 (Od.timeOf rs x.later)) ∧ Below W.heap.size W w') := Lib.hid (fun W rl rows h => by
            have q := h
            rw [← HMm.out] at q
            have := time19_any x rs A c W (q.slR HFt.out.1 (by have := HLen.out; omega)) HFt.out.2
            rw [HMm.out, HCT.out] at this
            exact this)
          generalize Od.timeOf rs x.later = tm at *
          have HAd : Hid (∀ W rows, Duo w W B (.slice A m c) rs rs rows → Calls Tryd.prog 12 #[.pointer (some ⟨B, 0, none⟩), .int .i64 x.kind, .string x.body, .int .i64 tm] W fun e w' => e = .returned (.tuple #[.agg (Od.mk rs x.kind x.body tm).1.cells.toArray, .int .i64 (Od.mk rs x.kind x.body tm).2.2]) ∧ Duo w w' B (.slice A m c) (Od.addL rs x.kind x.body tm) rs rows) := Lib.hid (fun W rows h => h.add (HT.out _ h.low) x.kind x.body tm HXf.out.body (by have := HLen.out; omega))
          have HMk : Hid (∀ W rl rows, Duo w W B (.slice A m c) rl rs rows → Calls Tryd.prog 10 #[.slice A m c, .int .i64 x.kind, .string x.body, .int .i64 tm] W fun e w' => e = .returned (.tuple #[.agg (Od.mk rs x.kind x.body tm).1.cells.toArray, .int .i64 (Od.mk rs x.kind x.body tm).2.2]) ∧ Below W.heap.size W w') := Lib.hid (fun W rl rows h => HMk0.out W rl rows x.kind tm x.body HXf.out.body h)
          have hal : ((Od.mk rs x.kind x.body tm).2.2 = 0 → Od.addL rs x.kind x.body tm = rs ++ [(Od.mk rs x.kind x.body tm).1]) ∧ ((Od.mk rs x.kind x.body tm).2.2 ≠ 0 → Od.addL rs x.kind x.body tm = rs) := ⟨fun q => if_pos q, fun q => if_neg q⟩
          have hRf := Od.mk_fits HD.out.good x.kind x.body tm
          generalize Od.addL rs x.kind x.body tm = rs2 at *
          generalize (Od.mk rs x.kind x.body tm).1 = R at *
          generalize (Od.mk rs x.kind x.body tm).2.2 = ee at *
          have HAl := Lib.hid hal
          have HRf := Lib.hid hRf
          have HTE := Lib.hid (fun W => rp_eqD W R R hRf hRf (v := true) (by simp))
          have HCR68 := Lib.hid (Rp.cells_len hRf.prev hRf.hash)
          have HCR1 := Lib.hid (Rp.cells_one hRf.prev hRf.hash)
          obtain ⟨CR, hCR⟩ : ∃ CR, R.cells = CR := ⟨_, rfl⟩
          rw [hCR] at HCR68 HCR1 HTE HAd HMk
          have HCR := Lib.hid hCR
          clear hal hRf hCR hld HBx0 HMk0
          go_upto_region 17 with (first
            | ((with_reducible show wpList _ _ _ (⟨_, .load 32 (.tmp 42), _, _, _, _⟩ :: _) _ _); refine wpList_load_tx rfl 32 (.tmp 42) rfl gA (off + k * 72) (rfl) CT _ ((HX.out _ HD.out.low).2.2.2) Tryd.underlying32 rfl (by rw [act19_info, HA72.out]) ?_)
            | (
               with_reducible show wpList _ _ _ (⟨_, .store 32 (.tmp 10) _, _, _, _, _⟩ :: _) _ _
               refine wpList_store_at rfl 32 (.tmp 10) (.tmp 43) rfl wr.heap.size 0 CT ZA _ rfl rfl (Row.new wr 32 ZA) (by have := HZA72.out; have := HA72.out; omega) (by rw [act19_info, HA72.out]) HA1.out ?_
               intro w3 hr hg
               rw [splice_all (HA72.out.trans HZA72.out.symm)] at hr
               have HD3 := Lib.hid (HD.out.box hg hr)
               obtain ⟨_, _, c3⟩ := HBx.out _ _ hr
               clear hr hg))
          clear c3
          have HDx := HD3
          clear HD3
          generalize wr.heap.size = g10 at *
          go_cut [15, 16] from 30 to 126 (fun s15 s16 wc => ∃ g15, s15 = .pointer (some ⟨g15, 0, none⟩) ∧ s16 = .int .i64 ee ∧ Duo w wc B (.slice A m c) rs2 rs [(g15, 30, CR), (g10, 32, CT)])
          case first =>
            go_wp2_with fail
            have HDx := Lib.hid (HDx.out.below (Below.refl _ _).drew)
            refine wp_region_held_drew (S := fun w' => Row w' g10 32 CT ∧ Below w.heap.size w w') (by kernel_rfl) (⟨HDx.out.row (by simp), HDx.out.low⟩) (fun hHeld => ?_)
            generalize w3.drew = wq at *
            refine wpAnyH_take (i := 0) (v := .pointer (some ⟨B, 0, none⟩)) rfl (by kernel_rfl) (by kernel_rfl) (by kernel_rfl) (fun _ _ _ h => h) (Or.inl ⟨by rfl, fun w' hSw => by go_simp⟩) hHeld ?_
            try simp only [Act.put, List.getElem_toArray, List.getElem_cons_succ, List.getElem_cons_zero, List.setIfInBounds_toArray, List.set_cons_zero, List.set_cons_succ]
            refine wpAnyH_take (i := 1) (v := .pointer (some ⟨g10, 0, none⟩)) rfl (by kernel_rfl) (by kernel_rfl) (by kernel_rfl) (fun _ _ _ h => h) (Or.inl ⟨by rfl, fun w' hSw => by go_simp⟩) hHeld ?_
            try simp only [Act.put, List.getElem_toArray, List.getElem_cons_succ, List.getElem_cons_zero, List.setIfInBounds_toArray, List.set_cons_zero, List.set_cons_succ]
            refine wpAnyH_take (i := 2) (v := .int .i64 x.kind) rfl (by kernel_rfl) (by kernel_rfl) (by kernel_rfl) (fun _ _ _ h => h) (Or.inl ⟨by rfl, fun w' hSw => by have hq := hSw; have hd := (HBx.out _ _ hSw.1).1; go_simp⟩) hHeld ?_
            try simp only [Act.put, List.getElem_toArray, List.getElem_cons_succ, List.getElem_cons_zero, List.setIfInBounds_toArray, List.set_cons_zero, List.set_cons_succ]
            refine wpAnyH_take (i := 3) (v := .pointer (some ⟨g10, 2, none⟩)) rfl (by kernel_rfl) (by kernel_rfl) (by kernel_rfl) (fun _ _ _ h => h) (Or.inl ⟨by rfl, fun w' hSw => by go_simp⟩) hHeld ?_
            try simp only [Act.put, List.getElem_toArray, List.getElem_cons_succ, List.getElem_cons_zero, List.setIfInBounds_toArray, List.set_cons_zero, List.set_cons_succ]
            refine wpAnyH_take (i := 4) (v := .string x.body) rfl (by kernel_rfl) (by kernel_rfl) (by kernel_rfl) (fun _ _ _ h => h) (Or.inl ⟨by rfl, fun w' hSw => by have hq := hSw; have hd := (HBx.out _ _ hSw.1).2.1; go_simp⟩) hHeld ?_
            try simp only [Act.put, List.getElem_toArray, List.getElem_cons_succ, List.getElem_cons_zero, List.setIfInBounds_toArray, List.set_cons_zero, List.set_cons_succ]
            refine wpAnyH_take (i := 5) (v := .slice A m c) rfl (by kernel_rfl) (by kernel_rfl) (by kernel_rfl) (fun _ _ _ h => h) (Or.inl ⟨by rfl, fun w' hSw => by go_simp⟩) hHeld ?_
            try simp only [Act.put, List.getElem_toArray, List.getElem_cons_succ, List.getElem_cons_zero, List.setIfInBounds_toArray, List.set_cons_zero, List.set_cons_succ]
            refine' wpAnyH_take (i := 6) (v := _) rfl (by kernel_rfl) (by kernel_rfl) (by kernel_rfl) (fun _ _ _ h => h) (yieldsIf_load_mid (by rfl) _ _ rfl g10 0 rfl CT _ (fun w' hSw => (row_range hSw.1)) Tryd.underlying32 rfl (by rw [act19_info, HA72.out])) hHeld ?_
            try simp only [Act.put, List.getElem_toArray, List.getElem_cons_succ, List.getElem_cons_zero, List.setIfInBounds_toArray, List.set_cons_zero, List.set_cons_succ]
            refine wpAnyH_ready (rs := [7, 12]) (by kernel_rfl) (by simp) (AllReadyH.cons rfl (fun K1 hK1 => ?_) (AllReadyH.cons rfl (fun K1 hK1 => ?_) AllReadyH.nil))
            · skip
              try simp only [Act.put, List.getElem_toArray, List.getElem_cons_succ, List.getElem_cons_zero, List.setIfInBounds_toArray, List.set_cons_zero, List.set_cons_succ]
              go_simp
              refine Calls.mono (HTi.out _ _ _ HDx.out) ?_
              rintro e wc1 ⟨rfl, hb2⟩
              have HDx := Lib.hid (HDx.out.below hb2)
              refine hK1.out _ _ (⟨hHeld.1.below hb2, two_below' hHeld.2 hb2⟩) (fun hHeld => ?_)
              clear hK1 K1
              try simp only [Act.put, List.getElem_toArray, List.getElem_cons_succ, List.getElem_cons_zero, List.setIfInBounds_toArray, List.set_cons_zero, List.set_cons_succ]
              refine wpAnyH_ready (rs := [8, 12]) (by kernel_rfl) (by simp) (AllReadyH.cons rfl (fun K1 hK1 => ?_) (AllReadyH.cons rfl (fun K1 hK1 => ?_) AllReadyH.nil))
              · skip
                try simp only [Act.put, List.getElem_toArray, List.getElem_cons_succ, List.getElem_cons_zero, List.setIfInBounds_toArray, List.set_cons_zero, List.set_cons_succ]
                go_simp
                refine Calls.mono (HAd.out _ _ HDx.out) ?_
                rintro e wc3 ⟨rfl, hdd⟩
                have HDx := Lib.hid hdd
                clear hdd
                refine hK1.out _ _ (⟨HDx.out.row (by simp), HDx.out.low⟩) (fun hHeld => ?_)
                clear hK1 K1
                try simp only [Act.put, List.getElem_toArray, List.getElem_cons_succ, List.getElem_cons_zero, List.setIfInBounds_toArray, List.set_cons_zero, List.set_cons_succ]
                refine wpAnyH_take (i := 9) (v := .tuple #[.agg CR.toArray, .int .i64 ee]) rfl (by kernel_rfl) (by kernel_rfl) (by kernel_rfl) (fun _ _ _ h => h) (Or.inl ⟨by rfl, fun w' hSw => by go_simp⟩) hHeld ?_
                try simp only [Act.put, List.getElem_toArray, List.getElem_cons_succ, List.getElem_cons_zero, List.setIfInBounds_toArray, List.set_cons_zero, List.set_cons_succ]
                refine wpAnyH_take (i := 10) (v := .agg CR.toArray) rfl (by kernel_rfl) (by kernel_rfl) (by kernel_rfl) (fun _ _ _ h => h) (Or.inl ⟨by rfl, fun w' hSw => by go_simp⟩) hHeld ?_
                try simp only [Act.put, List.getElem_toArray, List.getElem_cons_succ, List.getElem_cons_zero, List.setIfInBounds_toArray, List.set_cons_zero, List.set_cons_succ]
                refine wpAnyH_take (i := 11) (v := .int .i64 ee) rfl (by kernel_rfl) (by kernel_rfl) (by kernel_rfl) (fun _ _ _ h => h) (Or.inl ⟨by rfl, fun w' hSw => by go_simp⟩) hHeld ?_
                try simp only [Act.put, List.getElem_toArray, List.getElem_cons_succ, List.getElem_cons_zero, List.setIfInBounds_toArray, List.set_cons_zero, List.set_cons_succ]
                refine wpAnyH_ready (rs := [12]) (by kernel_rfl) (by simp) (AllReadyH.cons rfl (fun K1 hK1 => ?_) AllReadyH.nil)
                try simp only [Act.put, List.getElem_toArray, List.getElem_cons_succ, List.getElem_cons_zero, List.setIfInBounds_toArray, List.set_cons_zero, List.set_cons_succ]
                go_simp
                have hd5 := (Below.refl wc3.heap.size wc3).alloc (Nat.le_refl _) (.cells ZT.toArray 30)
                have HNe := Lib.hid HDx.out.fresh
                have HDx := Lib.hid (HDx.out.alloc 30 ZT)
                have hHeld2 := And.intro (hHeld.1.below hd5) (two_below' hHeld.2 hd5)
                generalize wc3.alloc (.cells ZT.toArray 30) = wa4 at *
                obtain ⟨gb6, gb6e⟩ : ∃ gb6, gb6 = wc3.heap.size := ⟨_, rfl⟩
                rw [← gb6e] at HNe HDx ⊢
                refine hK1.out _ _ (hHeld2) (fun hHeld => ?_)
                clear hK1 K1
                try simp only [Act.put, List.getElem_toArray, List.getElem_cons_succ, List.getElem_cons_zero, List.setIfInBounds_toArray, List.set_cons_zero, List.set_cons_succ]
                clear hHeld2 gb6e
                refine wpAnyH_ready (rs := [13]) (by kernel_rfl) (by simp) (AllReadyH.cons rfl (fun K1 hK1 => ?_) AllReadyH.nil)
                try simp only [Act.put, List.getElem_toArray, List.getElem_cons_succ, List.getElem_cons_zero, List.setIfInBounds_toArray, List.set_cons_zero, List.set_cons_succ]
                rw [if_pos (by rfl)]
                refine wp_store_at 30 (.tmp 15) (.tmp 99) rfl gb6 0 CR ZT _ rfl rfl (HDx.out.row List.mem_cons_self) (by have := HZ68.out; have := HCR68.out; omega) (by rw [rp_info, HCR68.out]) HCR1.out ?_
                intro ws7 hrS hgS
                rw [splice_all (HCR68.out.trans HZ68.out.symm)] at hrS
                have HDx := Lib.hid (HDx.out.write hgS hrS HNe.out)
                clear hrS hgS
                refine hK1.out _ _ (⟨HDx.out.row (by simp), HDx.out.low⟩) (fun hHeld => ?_)
                clear hK1 K1
                try simp only [Act.put, List.getElem_toArray, List.getElem_cons_succ, List.getElem_cons_zero, List.setIfInBounds_toArray, List.set_cons_zero, List.set_cons_succ]
                refine wpAnyH_take (i := 14) (v := .int .i64 ee) rfl (by kernel_rfl) (by kernel_rfl) (by kernel_rfl) (fun _ _ _ h => h) (Or.inl ⟨by rfl, fun w' hSw => by go_simp⟩) hHeld ?_
                try simp only [Act.put, List.getElem_toArray, List.getElem_cons_succ, List.getElem_cons_zero, List.setIfInBounds_toArray, List.set_cons_zero, List.set_cons_succ]
                refine wpAnyH_done (by kernel_rfl) ?_ _
                go_wp2_with fail
                go_meet
                case rel => exact ⟨_, rfl, rfl, HDx.out⟩
              · skip
                try simp only [Act.put, List.getElem_toArray, List.getElem_cons_succ, List.getElem_cons_zero, List.setIfInBounds_toArray, List.set_cons_zero, List.set_cons_succ]
                go_simp
                have hd9 := (Below.refl wc1.heap.size wc1).alloc (Nat.le_refl _) (.cells ZT.toArray 30)
                have HNe := Lib.hid HDx.out.fresh
                have HDx := Lib.hid (HDx.out.alloc 30 ZT)
                have hHeld2 := And.intro (hHeld.1.below hd9) (two_below' hHeld.2 hd9)
                generalize wc1.alloc (.cells ZT.toArray 30) = wa8 at *
                obtain ⟨gb10, gb10e⟩ : ∃ gb10, gb10 = wc1.heap.size := ⟨_, rfl⟩
                rw [← gb10e] at HNe HDx ⊢
                refine hK1.out _ _ (hHeld2) (fun hHeld => ?_)
                clear hK1 K1
                try simp only [Act.put, List.getElem_toArray, List.getElem_cons_succ, List.getElem_cons_zero, List.setIfInBounds_toArray, List.set_cons_zero, List.set_cons_succ]
                clear hHeld2 gb10e
                refine wpAnyH_ready (rs := [8]) (by kernel_rfl) (by simp) (AllReadyH.cons rfl (fun K1 hK1 => ?_) AllReadyH.nil)
                try simp only [Act.put, List.getElem_toArray, List.getElem_cons_succ, List.getElem_cons_zero, List.setIfInBounds_toArray, List.set_cons_zero, List.set_cons_succ]
                go_simp
                refine Calls.mono (HAd.out _ _ HDx.out) ?_
                rintro e wc11 ⟨rfl, hdd⟩
                have HDx := Lib.hid hdd
                clear hdd
                refine hK1.out _ _ (⟨HDx.out.row (by simp), HDx.out.low⟩) (fun hHeld => ?_)
                clear hK1 K1
                try simp only [Act.put, List.getElem_toArray, List.getElem_cons_succ, List.getElem_cons_zero, List.setIfInBounds_toArray, List.set_cons_zero, List.set_cons_succ]
                refine wpAnyH_take (i := 9) (v := .tuple #[.agg CR.toArray, .int .i64 ee]) rfl (by kernel_rfl) (by kernel_rfl) (by kernel_rfl) (fun _ _ _ h => h) (Or.inl ⟨by rfl, fun w' hSw => by go_simp⟩) hHeld ?_
                try simp only [Act.put, List.getElem_toArray, List.getElem_cons_succ, List.getElem_cons_zero, List.setIfInBounds_toArray, List.set_cons_zero, List.set_cons_succ]
                refine wpAnyH_take (i := 10) (v := .agg CR.toArray) rfl (by kernel_rfl) (by kernel_rfl) (by kernel_rfl) (fun _ _ _ h => h) (Or.inl ⟨by rfl, fun w' hSw => by go_simp⟩) hHeld ?_
                try simp only [Act.put, List.getElem_toArray, List.getElem_cons_succ, List.getElem_cons_zero, List.setIfInBounds_toArray, List.set_cons_zero, List.set_cons_succ]
                refine wpAnyH_take (i := 11) (v := .int .i64 ee) rfl (by kernel_rfl) (by kernel_rfl) (by kernel_rfl) (fun _ _ _ h => h) (Or.inl ⟨by rfl, fun w' hSw => by go_simp⟩) hHeld ?_
                try simp only [Act.put, List.getElem_toArray, List.getElem_cons_succ, List.getElem_cons_zero, List.setIfInBounds_toArray, List.set_cons_zero, List.set_cons_succ]
                refine wpAnyH_ready (rs := [13]) (by kernel_rfl) (by simp) (AllReadyH.cons rfl (fun K1 hK1 => ?_) AllReadyH.nil)
                try simp only [Act.put, List.getElem_toArray, List.getElem_cons_succ, List.getElem_cons_zero, List.setIfInBounds_toArray, List.set_cons_zero, List.set_cons_succ]
                rw [if_pos (by rfl)]
                refine wp_store_at 30 (.tmp 15) (.tmp 99) rfl gb10 0 CR ZT _ rfl rfl (HDx.out.row List.mem_cons_self) (by have := HZ68.out; have := HCR68.out; omega) (by rw [rp_info, HCR68.out]) HCR1.out ?_
                intro ws12 hrS hgS
                rw [splice_all (HCR68.out.trans HZ68.out.symm)] at hrS
                have HDx := Lib.hid (HDx.out.write hgS hrS HNe.out)
                clear hrS hgS
                refine hK1.out _ _ (⟨HDx.out.row (by simp), HDx.out.low⟩) (fun hHeld => ?_)
                clear hK1 K1
                try simp only [Act.put, List.getElem_toArray, List.getElem_cons_succ, List.getElem_cons_zero, List.setIfInBounds_toArray, List.set_cons_zero, List.set_cons_succ]
                refine wpAnyH_take (i := 14) (v := .int .i64 ee) rfl (by kernel_rfl) (by kernel_rfl) (by kernel_rfl) (fun _ _ _ h => h) (Or.inl ⟨by rfl, fun w' hSw => by go_simp⟩) hHeld ?_
                try simp only [Act.put, List.getElem_toArray, List.getElem_cons_succ, List.getElem_cons_zero, List.setIfInBounds_toArray, List.set_cons_zero, List.set_cons_succ]
                refine wpAnyH_done (by kernel_rfl) ?_ _
                go_wp2_with fail
                go_meet
                case rel => exact ⟨_, rfl, rfl, HDx.out⟩
            · skip
              try simp only [Act.put, List.getElem_toArray, List.getElem_cons_succ, List.getElem_cons_zero, List.setIfInBounds_toArray, List.set_cons_zero, List.set_cons_succ]
              go_simp
              have hd14 := (Below.refl wq.heap.size wq).alloc (Nat.le_refl _) (.cells ZT.toArray 30)
              have HNe := Lib.hid HDx.out.fresh
              have HDx := Lib.hid (HDx.out.alloc 30 ZT)
              have hHeld2 := And.intro (hHeld.1.below hd14) (two_below' hHeld.2 hd14)
              generalize wq.alloc (.cells ZT.toArray 30) = wa13 at *
              obtain ⟨gb15, gb15e⟩ : ∃ gb15, gb15 = wq.heap.size := ⟨_, rfl⟩
              rw [← gb15e] at HNe HDx ⊢
              refine hK1.out _ _ (hHeld2) (fun hHeld => ?_)
              clear hK1 K1
              try simp only [Act.put, List.getElem_toArray, List.getElem_cons_succ, List.getElem_cons_zero, List.setIfInBounds_toArray, List.set_cons_zero, List.set_cons_succ]
              clear hHeld2 gb15e
              refine wpAnyH_ready (rs := [7]) (by kernel_rfl) (by simp) (AllReadyH.cons rfl (fun K1 hK1 => ?_) AllReadyH.nil)
              try simp only [Act.put, List.getElem_toArray, List.getElem_cons_succ, List.getElem_cons_zero, List.setIfInBounds_toArray, List.set_cons_zero, List.set_cons_succ]
              go_simp
              refine Calls.mono (HTi.out _ _ _ HDx.out) ?_
              rintro e wc16 ⟨rfl, hb17⟩
              have HDx := Lib.hid (HDx.out.below hb17)
              refine hK1.out _ _ (⟨hHeld.1.below hb17, two_below' hHeld.2 hb17⟩) (fun hHeld => ?_)
              clear hK1 K1
              try simp only [Act.put, List.getElem_toArray, List.getElem_cons_succ, List.getElem_cons_zero, List.setIfInBounds_toArray, List.set_cons_zero, List.set_cons_succ]
              refine wpAnyH_ready (rs := [8]) (by kernel_rfl) (by simp) (AllReadyH.cons rfl (fun K1 hK1 => ?_) AllReadyH.nil)
              try simp only [Act.put, List.getElem_toArray, List.getElem_cons_succ, List.getElem_cons_zero, List.setIfInBounds_toArray, List.set_cons_zero, List.set_cons_succ]
              go_simp
              refine Calls.mono (HAd.out _ _ HDx.out) ?_
              rintro e wc18 ⟨rfl, hdd⟩
              have HDx := Lib.hid hdd
              clear hdd
              refine hK1.out _ _ (⟨HDx.out.row (by simp), HDx.out.low⟩) (fun hHeld => ?_)
              clear hK1 K1
              try simp only [Act.put, List.getElem_toArray, List.getElem_cons_succ, List.getElem_cons_zero, List.setIfInBounds_toArray, List.set_cons_zero, List.set_cons_succ]
              refine wpAnyH_take (i := 9) (v := .tuple #[.agg CR.toArray, .int .i64 ee]) rfl (by kernel_rfl) (by kernel_rfl) (by kernel_rfl) (fun _ _ _ h => h) (Or.inl ⟨by rfl, fun w' hSw => by go_simp⟩) hHeld ?_
              try simp only [Act.put, List.getElem_toArray, List.getElem_cons_succ, List.getElem_cons_zero, List.setIfInBounds_toArray, List.set_cons_zero, List.set_cons_succ]
              refine wpAnyH_take (i := 10) (v := .agg CR.toArray) rfl (by kernel_rfl) (by kernel_rfl) (by kernel_rfl) (fun _ _ _ h => h) (Or.inl ⟨by rfl, fun w' hSw => by go_simp⟩) hHeld ?_
              try simp only [Act.put, List.getElem_toArray, List.getElem_cons_succ, List.getElem_cons_zero, List.setIfInBounds_toArray, List.set_cons_zero, List.set_cons_succ]
              refine wpAnyH_take (i := 11) (v := .int .i64 ee) rfl (by kernel_rfl) (by kernel_rfl) (by kernel_rfl) (fun _ _ _ h => h) (Or.inl ⟨by rfl, fun w' hSw => by go_simp⟩) hHeld ?_
              try simp only [Act.put, List.getElem_toArray, List.getElem_cons_succ, List.getElem_cons_zero, List.setIfInBounds_toArray, List.set_cons_zero, List.set_cons_succ]
              refine wpAnyH_ready (rs := [13]) (by kernel_rfl) (by simp) (AllReadyH.cons rfl (fun K1 hK1 => ?_) AllReadyH.nil)
              try simp only [Act.put, List.getElem_toArray, List.getElem_cons_succ, List.getElem_cons_zero, List.setIfInBounds_toArray, List.set_cons_zero, List.set_cons_succ]
              rw [if_pos (by rfl)]
              refine wp_store_at 30 (.tmp 15) (.tmp 99) rfl gb15 0 CR ZT _ rfl rfl (HDx.out.row List.mem_cons_self) (by have := HZ68.out; have := HCR68.out; omega) (by rw [rp_info, HCR68.out]) HCR1.out ?_
              intro ws19 hrS hgS
              rw [splice_all (HCR68.out.trans HZ68.out.symm)] at hrS
              have HDx := Lib.hid (HDx.out.write hgS hrS HNe.out)
              clear hrS hgS
              refine hK1.out _ _ (⟨HDx.out.row (by simp), HDx.out.low⟩) (fun hHeld => ?_)
              clear hK1 K1
              try simp only [Act.put, List.getElem_toArray, List.getElem_cons_succ, List.getElem_cons_zero, List.setIfInBounds_toArray, List.set_cons_zero, List.set_cons_succ]
              refine wpAnyH_take (i := 14) (v := .int .i64 ee) rfl (by kernel_rfl) (by kernel_rfl) (by kernel_rfl) (fun _ _ _ h => h) (Or.inl ⟨by rfl, fun w' hSw => by go_simp⟩) hHeld ?_
              try simp only [Act.put, List.getElem_toArray, List.getElem_cons_succ, List.getElem_cons_zero, List.setIfInBounds_toArray, List.set_cons_zero, List.set_cons_succ]
              refine wpAnyH_done (by kernel_rfl) ?_ _
              go_wp2_with fail
              go_meet
              case rel => exact ⟨_, rfl, rfl, HDx.out⟩
          case rest =>
            obtain ⟨g15, rfl, rfl, hd⟩ := hcut
            have HDx := Lib.hid hd
            clear hd HAd
            go_upto_region 18 with fail
            go_cut [17, 18] from 30 to 126 (fun s17 s18 wx => ∃ g17, s17 = .pointer (some ⟨g17, 0, none⟩) ∧ s18 = .int .i64 ee ∧ Duo w wx B (.slice A m c) rs2 rs [(g17, 30, CR), (g15, 30, CR), (g10, 32, CT)])
            case first =>
              go_wp2_with fail
              have HDx := Lib.hid (HDx.out.below (Below.refl _ _).drew)
              refine wp_region_held_drew (S := fun w' => Row w' g10 32 CT ∧ Below w.heap.size w w') (by kernel_rfl) (⟨HDx.out.row (by simp), HDx.out.low⟩) (fun hHeld => ?_)
              generalize wc.drew = wq at *
              refine wpAnyH_take (i := 0) (v := .slice A m c) rfl (by kernel_rfl) (by kernel_rfl) (by kernel_rfl) (fun _ _ _ h => h) (Or.inl ⟨by rfl, fun w' hSw => by go_simp⟩) hHeld ?_
              try simp only [Act.put, List.getElem_toArray, List.getElem_cons_succ, List.getElem_cons_zero, List.setIfInBounds_toArray, List.set_cons_zero, List.set_cons_succ]
              refine wpAnyH_take (i := 1) (v := .pointer (some ⟨g10, 0, none⟩)) rfl (by kernel_rfl) (by kernel_rfl) (by kernel_rfl) (fun _ _ _ h => h) (Or.inl ⟨by rfl, fun w' hSw => by go_simp⟩) hHeld ?_
              try simp only [Act.put, List.getElem_toArray, List.getElem_cons_succ, List.getElem_cons_zero, List.setIfInBounds_toArray, List.set_cons_zero, List.set_cons_succ]
              refine wpAnyH_take (i := 2) (v := .int .i64 x.kind) rfl (by kernel_rfl) (by kernel_rfl) (by kernel_rfl) (fun _ _ _ h => h) (Or.inl ⟨by rfl, fun w' hSw => by have hq := hSw; have hd := (HBx.out _ _ hSw.1).1; go_simp⟩) hHeld ?_
              try simp only [Act.put, List.getElem_toArray, List.getElem_cons_succ, List.getElem_cons_zero, List.setIfInBounds_toArray, List.set_cons_zero, List.set_cons_succ]
              refine wpAnyH_take (i := 3) (v := .pointer (some ⟨g10, 2, none⟩)) rfl (by kernel_rfl) (by kernel_rfl) (by kernel_rfl) (fun _ _ _ h => h) (Or.inl ⟨by rfl, fun w' hSw => by go_simp⟩) hHeld ?_
              try simp only [Act.put, List.getElem_toArray, List.getElem_cons_succ, List.getElem_cons_zero, List.setIfInBounds_toArray, List.set_cons_zero, List.set_cons_succ]
              refine wpAnyH_take (i := 4) (v := .string x.body) rfl (by kernel_rfl) (by kernel_rfl) (by kernel_rfl) (fun _ _ _ h => h) (Or.inl ⟨by rfl, fun w' hSw => by have hq := hSw; have hd := (HBx.out _ _ hSw.1).2.1; go_simp⟩) hHeld ?_
              try simp only [Act.put, List.getElem_toArray, List.getElem_cons_succ, List.getElem_cons_zero, List.setIfInBounds_toArray, List.set_cons_zero, List.set_cons_succ]
              refine wpAnyH_take (i := 5) (v := .slice A m c) rfl (by kernel_rfl) (by kernel_rfl) (by kernel_rfl) (fun _ _ _ h => h) (Or.inl ⟨by rfl, fun w' hSw => by go_simp⟩) hHeld ?_
              try simp only [Act.put, List.getElem_toArray, List.getElem_cons_succ, List.getElem_cons_zero, List.setIfInBounds_toArray, List.set_cons_zero, List.set_cons_succ]
              refine' wpAnyH_take (i := 6) (v := _) rfl (by kernel_rfl) (by kernel_rfl) (by kernel_rfl) (fun _ _ _ h => h) (yieldsIf_load_mid (by rfl) _ _ rfl g10 0 rfl CT _ (fun w' hSw => (row_range hSw.1)) Tryd.underlying32 rfl (by rw [act19_info, HA72.out])) hHeld ?_
              try simp only [Act.put, List.getElem_toArray, List.getElem_cons_succ, List.getElem_cons_zero, List.setIfInBounds_toArray, List.set_cons_zero, List.set_cons_succ]
              refine wpAnyH_ready (rs := [7, 12]) (by kernel_rfl) (by simp) (AllReadyH.cons rfl (fun K1 hK1 => ?_) (AllReadyH.cons rfl (fun K1 hK1 => ?_) AllReadyH.nil))
              · skip
                try simp only [Act.put, List.getElem_toArray, List.getElem_cons_succ, List.getElem_cons_zero, List.setIfInBounds_toArray, List.set_cons_zero, List.set_cons_succ]
                go_simp
                refine Calls.mono (HTi.out _ _ _ HDx.out) ?_
                rintro e wc1 ⟨rfl, hb2⟩
                have HDx := Lib.hid (HDx.out.below hb2)
                refine hK1.out _ _ (⟨hHeld.1.below hb2, two_below' hHeld.2 hb2⟩) (fun hHeld => ?_)
                clear hK1 K1
                try simp only [Act.put, List.getElem_toArray, List.getElem_cons_succ, List.getElem_cons_zero, List.setIfInBounds_toArray, List.set_cons_zero, List.set_cons_succ]
                refine wpAnyH_ready (rs := [8, 12]) (by kernel_rfl) (by simp) (AllReadyH.cons rfl (fun K1 hK1 => ?_) (AllReadyH.cons rfl (fun K1 hK1 => ?_) AllReadyH.nil))
                · skip
                  try simp only [Act.put, List.getElem_toArray, List.getElem_cons_succ, List.getElem_cons_zero, List.setIfInBounds_toArray, List.set_cons_zero, List.set_cons_succ]
                  go_simp
                  refine Calls.mono (HMk.out _ _ _ HDx.out) ?_
                  rintro e wc3 ⟨rfl, hb4⟩
                  have HDx := Lib.hid (HDx.out.below hb4)
                  refine hK1.out _ _ (⟨hHeld.1.below hb4, two_below' hHeld.2 hb4⟩) (fun hHeld => ?_)
                  clear hK1 K1
                  try simp only [Act.put, List.getElem_toArray, List.getElem_cons_succ, List.getElem_cons_zero, List.setIfInBounds_toArray, List.set_cons_zero, List.set_cons_succ]
                  refine wpAnyH_take (i := 9) (v := .tuple #[.agg CR.toArray, .int .i64 ee]) rfl (by kernel_rfl) (by kernel_rfl) (by kernel_rfl) (fun _ _ _ h => h) (Or.inl ⟨by rfl, fun w' hSw => by go_simp⟩) hHeld ?_
                  try simp only [Act.put, List.getElem_toArray, List.getElem_cons_succ, List.getElem_cons_zero, List.setIfInBounds_toArray, List.set_cons_zero, List.set_cons_succ]
                  refine wpAnyH_take (i := 10) (v := .agg CR.toArray) rfl (by kernel_rfl) (by kernel_rfl) (by kernel_rfl) (fun _ _ _ h => h) (Or.inl ⟨by rfl, fun w' hSw => by go_simp⟩) hHeld ?_
                  try simp only [Act.put, List.getElem_toArray, List.getElem_cons_succ, List.getElem_cons_zero, List.setIfInBounds_toArray, List.set_cons_zero, List.set_cons_succ]
                  refine wpAnyH_take (i := 11) (v := .int .i64 ee) rfl (by kernel_rfl) (by kernel_rfl) (by kernel_rfl) (fun _ _ _ h => h) (Or.inl ⟨by rfl, fun w' hSw => by go_simp⟩) hHeld ?_
                  try simp only [Act.put, List.getElem_toArray, List.getElem_cons_succ, List.getElem_cons_zero, List.setIfInBounds_toArray, List.set_cons_zero, List.set_cons_succ]
                  refine wpAnyH_ready (rs := [12]) (by kernel_rfl) (by simp) (AllReadyH.cons rfl (fun K1 hK1 => ?_) AllReadyH.nil)
                  try simp only [Act.put, List.getElem_toArray, List.getElem_cons_succ, List.getElem_cons_zero, List.setIfInBounds_toArray, List.set_cons_zero, List.set_cons_succ]
                  go_simp
                  have hd6 := (Below.refl wc3.heap.size wc3).alloc (Nat.le_refl _) (.cells ZT.toArray 30)
                  have HNe := Lib.hid HDx.out.fresh
                  have HDx := Lib.hid (HDx.out.alloc 30 ZT)
                  have hHeld2 := And.intro (hHeld.1.below hd6) (two_below' hHeld.2 hd6)
                  generalize wc3.alloc (.cells ZT.toArray 30) = wa5 at *
                  obtain ⟨gb7, gb7e⟩ : ∃ gb7, gb7 = wc3.heap.size := ⟨_, rfl⟩
                  rw [← gb7e] at HNe HDx ⊢
                  refine hK1.out _ _ (hHeld2) (fun hHeld => ?_)
                  clear hK1 K1
                  try simp only [Act.put, List.getElem_toArray, List.getElem_cons_succ, List.getElem_cons_zero, List.setIfInBounds_toArray, List.set_cons_zero, List.set_cons_succ]
                  clear hHeld2 gb7e
                  refine wpAnyH_ready (rs := [13]) (by kernel_rfl) (by simp) (AllReadyH.cons rfl (fun K1 hK1 => ?_) AllReadyH.nil)
                  try simp only [Act.put, List.getElem_toArray, List.getElem_cons_succ, List.getElem_cons_zero, List.setIfInBounds_toArray, List.set_cons_zero, List.set_cons_succ]
                  rw [if_pos (by rfl)]
                  refine wp_store_at 30 (.tmp 17) (.tmp 111) rfl gb7 0 CR ZT _ rfl rfl (HDx.out.row List.mem_cons_self) (by have := HZ68.out; have := HCR68.out; omega) (by rw [rp_info, HCR68.out]) HCR1.out ?_
                  intro ws8 hrS hgS
                  rw [splice_all (HCR68.out.trans HZ68.out.symm)] at hrS
                  have HDx := Lib.hid (HDx.out.write hgS hrS HNe.out)
                  clear hrS hgS
                  refine hK1.out _ _ (⟨HDx.out.row (by simp), HDx.out.low⟩) (fun hHeld => ?_)
                  clear hK1 K1
                  try simp only [Act.put, List.getElem_toArray, List.getElem_cons_succ, List.getElem_cons_zero, List.setIfInBounds_toArray, List.set_cons_zero, List.set_cons_succ]
                  refine wpAnyH_take (i := 14) (v := .int .i64 ee) rfl (by kernel_rfl) (by kernel_rfl) (by kernel_rfl) (fun _ _ _ h => h) (Or.inl ⟨by rfl, fun w' hSw => by go_simp⟩) hHeld ?_
                  try simp only [Act.put, List.getElem_toArray, List.getElem_cons_succ, List.getElem_cons_zero, List.setIfInBounds_toArray, List.set_cons_zero, List.set_cons_succ]
                  refine wpAnyH_done (by kernel_rfl) ?_ _
                  go_wp2_with fail
                  go_meet
                  case rel => exact ⟨_, rfl, rfl, HDx.out⟩
                · skip
                  try simp only [Act.put, List.getElem_toArray, List.getElem_cons_succ, List.getElem_cons_zero, List.setIfInBounds_toArray, List.set_cons_zero, List.set_cons_succ]
                  go_simp
                  have hd10 := (Below.refl wc1.heap.size wc1).alloc (Nat.le_refl _) (.cells ZT.toArray 30)
                  have HNe := Lib.hid HDx.out.fresh
                  have HDx := Lib.hid (HDx.out.alloc 30 ZT)
                  have hHeld2 := And.intro (hHeld.1.below hd10) (two_below' hHeld.2 hd10)
                  generalize wc1.alloc (.cells ZT.toArray 30) = wa9 at *
                  obtain ⟨gb11, gb11e⟩ : ∃ gb11, gb11 = wc1.heap.size := ⟨_, rfl⟩
                  rw [← gb11e] at HNe HDx ⊢
                  refine hK1.out _ _ (hHeld2) (fun hHeld => ?_)
                  clear hK1 K1
                  try simp only [Act.put, List.getElem_toArray, List.getElem_cons_succ, List.getElem_cons_zero, List.setIfInBounds_toArray, List.set_cons_zero, List.set_cons_succ]
                  clear hHeld2 gb11e
                  refine wpAnyH_ready (rs := [8]) (by kernel_rfl) (by simp) (AllReadyH.cons rfl (fun K1 hK1 => ?_) AllReadyH.nil)
                  try simp only [Act.put, List.getElem_toArray, List.getElem_cons_succ, List.getElem_cons_zero, List.setIfInBounds_toArray, List.set_cons_zero, List.set_cons_succ]
                  go_simp
                  refine Calls.mono (HMk.out _ _ _ HDx.out) ?_
                  rintro e wc12 ⟨rfl, hb13⟩
                  have HDx := Lib.hid (HDx.out.below hb13)
                  refine hK1.out _ _ (⟨hHeld.1.below hb13, two_below' hHeld.2 hb13⟩) (fun hHeld => ?_)
                  clear hK1 K1
                  try simp only [Act.put, List.getElem_toArray, List.getElem_cons_succ, List.getElem_cons_zero, List.setIfInBounds_toArray, List.set_cons_zero, List.set_cons_succ]
                  refine wpAnyH_take (i := 9) (v := .tuple #[.agg CR.toArray, .int .i64 ee]) rfl (by kernel_rfl) (by kernel_rfl) (by kernel_rfl) (fun _ _ _ h => h) (Or.inl ⟨by rfl, fun w' hSw => by go_simp⟩) hHeld ?_
                  try simp only [Act.put, List.getElem_toArray, List.getElem_cons_succ, List.getElem_cons_zero, List.setIfInBounds_toArray, List.set_cons_zero, List.set_cons_succ]
                  refine wpAnyH_take (i := 10) (v := .agg CR.toArray) rfl (by kernel_rfl) (by kernel_rfl) (by kernel_rfl) (fun _ _ _ h => h) (Or.inl ⟨by rfl, fun w' hSw => by go_simp⟩) hHeld ?_
                  try simp only [Act.put, List.getElem_toArray, List.getElem_cons_succ, List.getElem_cons_zero, List.setIfInBounds_toArray, List.set_cons_zero, List.set_cons_succ]
                  refine wpAnyH_take (i := 11) (v := .int .i64 ee) rfl (by kernel_rfl) (by kernel_rfl) (by kernel_rfl) (fun _ _ _ h => h) (Or.inl ⟨by rfl, fun w' hSw => by go_simp⟩) hHeld ?_
                  try simp only [Act.put, List.getElem_toArray, List.getElem_cons_succ, List.getElem_cons_zero, List.setIfInBounds_toArray, List.set_cons_zero, List.set_cons_succ]
                  refine wpAnyH_ready (rs := [13]) (by kernel_rfl) (by simp) (AllReadyH.cons rfl (fun K1 hK1 => ?_) AllReadyH.nil)
                  try simp only [Act.put, List.getElem_toArray, List.getElem_cons_succ, List.getElem_cons_zero, List.setIfInBounds_toArray, List.set_cons_zero, List.set_cons_succ]
                  rw [if_pos (by rfl)]
                  refine wp_store_at 30 (.tmp 17) (.tmp 111) rfl gb11 0 CR ZT _ rfl rfl (HDx.out.row List.mem_cons_self) (by have := HZ68.out; have := HCR68.out; omega) (by rw [rp_info, HCR68.out]) HCR1.out ?_
                  intro ws14 hrS hgS
                  rw [splice_all (HCR68.out.trans HZ68.out.symm)] at hrS
                  have HDx := Lib.hid (HDx.out.write hgS hrS HNe.out)
                  clear hrS hgS
                  refine hK1.out _ _ (⟨HDx.out.row (by simp), HDx.out.low⟩) (fun hHeld => ?_)
                  clear hK1 K1
                  try simp only [Act.put, List.getElem_toArray, List.getElem_cons_succ, List.getElem_cons_zero, List.setIfInBounds_toArray, List.set_cons_zero, List.set_cons_succ]
                  refine wpAnyH_take (i := 14) (v := .int .i64 ee) rfl (by kernel_rfl) (by kernel_rfl) (by kernel_rfl) (fun _ _ _ h => h) (Or.inl ⟨by rfl, fun w' hSw => by go_simp⟩) hHeld ?_
                  try simp only [Act.put, List.getElem_toArray, List.getElem_cons_succ, List.getElem_cons_zero, List.setIfInBounds_toArray, List.set_cons_zero, List.set_cons_succ]
                  refine wpAnyH_done (by kernel_rfl) ?_ _
                  go_wp2_with fail
                  go_meet
                  case rel => exact ⟨_, rfl, rfl, HDx.out⟩
              · skip
                try simp only [Act.put, List.getElem_toArray, List.getElem_cons_succ, List.getElem_cons_zero, List.setIfInBounds_toArray, List.set_cons_zero, List.set_cons_succ]
                go_simp
                have hd16 := (Below.refl wq.heap.size wq).alloc (Nat.le_refl _) (.cells ZT.toArray 30)
                have HNe := Lib.hid HDx.out.fresh
                have HDx := Lib.hid (HDx.out.alloc 30 ZT)
                have hHeld2 := And.intro (hHeld.1.below hd16) (two_below' hHeld.2 hd16)
                generalize wq.alloc (.cells ZT.toArray 30) = wa15 at *
                obtain ⟨gb17, gb17e⟩ : ∃ gb17, gb17 = wq.heap.size := ⟨_, rfl⟩
                rw [← gb17e] at HNe HDx ⊢
                refine hK1.out _ _ (hHeld2) (fun hHeld => ?_)
                clear hK1 K1
                try simp only [Act.put, List.getElem_toArray, List.getElem_cons_succ, List.getElem_cons_zero, List.setIfInBounds_toArray, List.set_cons_zero, List.set_cons_succ]
                clear hHeld2 gb17e
                refine wpAnyH_ready (rs := [7]) (by kernel_rfl) (by simp) (AllReadyH.cons rfl (fun K1 hK1 => ?_) AllReadyH.nil)
                try simp only [Act.put, List.getElem_toArray, List.getElem_cons_succ, List.getElem_cons_zero, List.setIfInBounds_toArray, List.set_cons_zero, List.set_cons_succ]
                go_simp
                refine Calls.mono (HTi.out _ _ _ HDx.out) ?_
                rintro e wc18 ⟨rfl, hb19⟩
                have HDx := Lib.hid (HDx.out.below hb19)
                refine hK1.out _ _ (⟨hHeld.1.below hb19, two_below' hHeld.2 hb19⟩) (fun hHeld => ?_)
                clear hK1 K1
                try simp only [Act.put, List.getElem_toArray, List.getElem_cons_succ, List.getElem_cons_zero, List.setIfInBounds_toArray, List.set_cons_zero, List.set_cons_succ]
                refine wpAnyH_ready (rs := [8]) (by kernel_rfl) (by simp) (AllReadyH.cons rfl (fun K1 hK1 => ?_) AllReadyH.nil)
                try simp only [Act.put, List.getElem_toArray, List.getElem_cons_succ, List.getElem_cons_zero, List.setIfInBounds_toArray, List.set_cons_zero, List.set_cons_succ]
                go_simp
                refine Calls.mono (HMk.out _ _ _ HDx.out) ?_
                rintro e wc20 ⟨rfl, hb21⟩
                have HDx := Lib.hid (HDx.out.below hb21)
                refine hK1.out _ _ (⟨hHeld.1.below hb21, two_below' hHeld.2 hb21⟩) (fun hHeld => ?_)
                clear hK1 K1
                try simp only [Act.put, List.getElem_toArray, List.getElem_cons_succ, List.getElem_cons_zero, List.setIfInBounds_toArray, List.set_cons_zero, List.set_cons_succ]
                refine wpAnyH_take (i := 9) (v := .tuple #[.agg CR.toArray, .int .i64 ee]) rfl (by kernel_rfl) (by kernel_rfl) (by kernel_rfl) (fun _ _ _ h => h) (Or.inl ⟨by rfl, fun w' hSw => by go_simp⟩) hHeld ?_
                try simp only [Act.put, List.getElem_toArray, List.getElem_cons_succ, List.getElem_cons_zero, List.setIfInBounds_toArray, List.set_cons_zero, List.set_cons_succ]
                refine wpAnyH_take (i := 10) (v := .agg CR.toArray) rfl (by kernel_rfl) (by kernel_rfl) (by kernel_rfl) (fun _ _ _ h => h) (Or.inl ⟨by rfl, fun w' hSw => by go_simp⟩) hHeld ?_
                try simp only [Act.put, List.getElem_toArray, List.getElem_cons_succ, List.getElem_cons_zero, List.setIfInBounds_toArray, List.set_cons_zero, List.set_cons_succ]
                refine wpAnyH_take (i := 11) (v := .int .i64 ee) rfl (by kernel_rfl) (by kernel_rfl) (by kernel_rfl) (fun _ _ _ h => h) (Or.inl ⟨by rfl, fun w' hSw => by go_simp⟩) hHeld ?_
                try simp only [Act.put, List.getElem_toArray, List.getElem_cons_succ, List.getElem_cons_zero, List.setIfInBounds_toArray, List.set_cons_zero, List.set_cons_succ]
                refine wpAnyH_ready (rs := [13]) (by kernel_rfl) (by simp) (AllReadyH.cons rfl (fun K1 hK1 => ?_) AllReadyH.nil)
                try simp only [Act.put, List.getElem_toArray, List.getElem_cons_succ, List.getElem_cons_zero, List.setIfInBounds_toArray, List.set_cons_zero, List.set_cons_succ]
                rw [if_pos (by rfl)]
                refine wp_store_at 30 (.tmp 17) (.tmp 111) rfl gb17 0 CR ZT _ rfl rfl (HDx.out.row List.mem_cons_self) (by have := HZ68.out; have := HCR68.out; omega) (by rw [rp_info, HCR68.out]) HCR1.out ?_
                intro ws22 hrS hgS
                rw [splice_all (HCR68.out.trans HZ68.out.symm)] at hrS
                have HDx := Lib.hid (HDx.out.write hgS hrS HNe.out)
                clear hrS hgS
                refine hK1.out _ _ (⟨HDx.out.row (by simp), HDx.out.low⟩) (fun hHeld => ?_)
                clear hK1 K1
                try simp only [Act.put, List.getElem_toArray, List.getElem_cons_succ, List.getElem_cons_zero, List.setIfInBounds_toArray, List.set_cons_zero, List.set_cons_succ]
                refine wpAnyH_take (i := 14) (v := .int .i64 ee) rfl (by kernel_rfl) (by kernel_rfl) (by kernel_rfl) (fun _ _ _ h => h) (Or.inl ⟨by rfl, fun w' hSw => by go_simp⟩) hHeld ?_
                try simp only [Act.put, List.getElem_toArray, List.getElem_cons_succ, List.getElem_cons_zero, List.setIfInBounds_toArray, List.set_cons_zero, List.set_cons_succ]
                refine wpAnyH_done (by kernel_rfl) ?_ _
                go_wp2_with fail
                go_meet
                case rel => exact ⟨_, rfl, rfl, HDx.out⟩
            case rest =>
              obtain ⟨g17, rfl, rfl, hd⟩ := hcut
              have HDy := Lib.hid hd
              clear hd HDx HTi HMk
              have HTE9 := HTE.out
              by_cases h0 : ee = 0
              · subst h0
                have hr2 := HAl.out.1 rfl
                subst hr2
                go_wp2_with (first
                  | ((with_reducible show wpList _ _ _ (⟨_, .load 30 (.tmp 15), _, _, _, _⟩ :: _) _ _); refine wpList_load_tx rfl 30 (.tmp 15) rfl g15 0 (rfl) CR _ (row_range (HDy.out.row (T := 30) (by simp))) Tryd.underlying30 rfl (by rw [rp_info, HCR68.out]) ?_)
                  | ((with_reducible show wpList _ _ _ (⟨_, .load 30 (.tmp 17), _, _, _, _⟩ :: _) _ _); refine wpList_load_tx rfl 30 (.tmp 17) rfl g17 0 (rfl) CR _ (row_range (HDy.out.row (T := 30) (by simp))) Tryd.underlying30 rfl (by rw [rp_info, HCR68.out]) ?_)
                  | ((with_reducible show wpList _ _ _ (⟨_, .buildSlice 26 _ _, _, _, _, _⟩ :: _) _ _)
                     refine wpList_plain rfl fun _ hK => wp_buildRp (.tmp 124) rfl CR HCR68.out rfl (hK _ _ ?_)
                     have HDb := Lib.hid (HDy.out.alloc 30 CR))
                  | ((with_reducible show wpList _ _ _ (⟨_, .call { callee := .builtin .append, args := _, argTypes := _ }, _, _, _, _⟩ :: _) _ _)
                     refine wpList_plain rfl fun _ hK => wp_appR (.tmp 123) (.tmp 125) rfl R HRf.out _ (by rw [HCR.out]; exact HDb.out.row List.mem_cons_self) w.heap.size (.slice A m c) rs HDb.out.own HDb.out.low.size (by have := HLen.out; omega) rfl rfl (fun v' w' ho hc hk => hK _ _ ?_)
                     have HDp := Lib.hid ((HDb.out.push ho hc hk).less (rows' := []) (by simp))
                     obtain ⟨A', c', rfl, _, _⟩ := ho.form
                     clear ho hc hk))
                go_roundw
                case rel => exact ⟨k + 1, rs ++ [R], A', c', by omega, by omega, by have := HMm.out; rw [List.length_append, List.length_singleton]; omega, by simp, by go_num, HDp.out⟩
                case measure => simp [intOf]; omega
              · have dee : (ee == 0) = false := by simpa using h0
                have deep : (ee = 0) = False := by simpa using h0
                have deed : decide (ee = 0) = false := decide_eq_false h0
                have hr2 := (HAl.out.2 h0).symm
                subst hr2
                clear h0
                go_wp2_with (first
                  | ((with_reducible show wpList _ _ _ (⟨_, .load 30 (.tmp 15), _, _, _, _⟩ :: _) _ _); refine wpList_load_tx rfl 30 (.tmp 15) rfl g15 0 (rfl) CR _ (row_range (HDy.out.row (T := 30) (by simp))) Tryd.underlying30 rfl (by rw [rp_info, HCR68.out]) ?_)
                  | ((with_reducible show wpList _ _ _ (⟨_, .load 30 (.tmp 17), _, _, _, _⟩ :: _) _ _); refine wpList_load_tx rfl 30 (.tmp 17) rfl g17 0 (rfl) CR _ (row_range (HDy.out.row (T := 30) (by simp))) Tryd.underlying30 rfl (by rw [rp_info, HCR68.out]) ?_))
                go_roundw
                case rel => exact ⟨k + 1, rs, A, c, by omega, by omega, by have := HMm.out; omega, by rw [HMm.out], by go_num, by rw [HMm.out]; exact HDy.out.less (by simp)⟩
                case measure => simp [intOf]; omega
      · have hend : ∀ (Q : Prop), ((¬ k < n → Q) ∧ (k < n → ¬ k < 40 → Q)) → Q := fun Q h => by
          by_cases q : k < n
          · exact h.2 q (fun q2 => hkn ⟨q, q2⟩)
          · exact h.1 q
        clear hkn
        refine hend _ ⟨fun q => ?_, fun q q2 => ?_⟩
        · have hki : ¬ ((k : Int) < (n : Int)) := by omega
          clear q hend
          go_wp2_with fail
          go_meet
          case rel => exact ⟨rs, A, c, HLen.out, rfl, HD.out⟩
        · have hki : (k : Int) < (n : Int) := by omega
          have hk5 : ¬ ((k : Int) < 40) := by omega
          clear q q2 hend
          go_wp2_with fail
          go_meet
          case rel => exact ⟨rs, A, c, HLen.out, rfl, HD.out⟩
  case rest =>
    obtain ⟨rs, A, c, hl40, rfl, hd⟩ := hcut
    have HD := Lib.hid hd
    have HLen := Lib.hid hl40
    clear hd hl40 HD2
    have HGd := Lib.hid (And.intro HD.out.good (And.intro HD.out.good.fits HD.out.good.head))
    obtain ⟨u, hu⟩ : ∃ u, Value.slice A rs.length c = u := ⟨_, rfl⟩
    have HSl : Hid (∀ W rows, Duo w W B u rs rs rows → SlR W W.heap.size A c rs) := Lib.hid (fun W rows h => by rw [← hu] at h; exact h.slR HGd.out.2.1 (by have := HLen.out; omega))
    rw [hu] at HD
    obtain ⟨m, hm⟩ : ∃ m, rs.length = m := ⟨_, rfl⟩
    have HMm := Lib.hid hm
    have hm40 : m ≤ 40 := by rw [← hm]; exact HLen.out
    rw [hm] at hu ⊢
    have HUu := Lib.hid hu
    clear hm hu
    go_upto_if 131 with fail
    go_cut [19] from 127 (fun s19 wx => ∃ (A2 : Option Addr) (c2 : Nat), s19 = .slice A2 (rs.drop (Od.lo rs.length i)).length c2 ∧ SlR wx wx.heap.size A2 c2 (rs.drop (Od.lo rs.length i)) ∧ Duo w wx B u rs rs [])
    case first =>
      by_cases h1 : (m : Int) < i
      · have d1 : decide (i > (m : Int)) = true := decide_eq_true h1
        have e0 : rs.drop (Od.lo rs.length i) = [] := by
          rw [HMm.out]
          unfold Od.lo
          rw [if_neg (by omega), if_neg (by omega)]
          exact List.drop_of_length_le (by rw [HMm.out]; exact Nat.le_refl _)
        have E0 := Lib.hid e0
        clear e0
        go_wp2_with fail
        go_meet
        case rel =>
          rw [E0.out]
          exact ⟨none, 0, rfl, ⟨fun q => absurd rfl q, fun _ => ⟨rfl, rfl⟩, by simp, by simp, by simp⟩, HD.out⟩
      · have d1 : decide (i > (m : Int)) = false := decide_eq_false h1
        by_cases h2 : 0 < i
        · obtain ⟨k, rfl⟩ : ∃ k : Nat, i = k := ⟨i.toNat, by omega⟩
          have d2 : decide ((k : Int) > 0) = true := decide_eq_true h2
          have hc : m ≤ c := by have := (HSl.out _ _ HD.out).2.2.1; rw [HMm.out] at this; exact this
          have hsl := slice19 A m k c (by omega) hc
          have hsr := (HSl.out _ _ HD.out).drop k (by rw [HMm.out]; omega)
          have elo : Od.lo rs.length (k : Int) = k := by rw [HMm.out]; unfold Od.lo; rw [if_neg (by omega), if_pos (by omega)]; rfl
          have Elo := Lib.hid elo
          have hdl : (rs.drop k).length = m - k := by rw [List.length_drop, HMm.out]
          obtain ⟨A2, hA2⟩ : ∃ A2, (if c = k then A else A.map (fun x => x.add (k * 68))) = A2 := ⟨_, rfl⟩
          obtain ⟨c2, hc2⟩ : ∃ c2, c - k = c2 := ⟨_, rfl⟩
          obtain ⟨m2, hm2⟩ : ∃ m2, m - k = m2 := ⟨_, rfl⟩
          rw [hA2, hc2] at hsr
          rw [hA2, hc2, hm2] at hsl
          have Hdl : Hid ((rs.drop k).length = m2) := Lib.hid (by rw [hdl, hm2])
          have HSr := Lib.hid hsr
          have h3 : (k : Int) ≤ (m : Int) := by omega
          clear hsr elo hdl hA2 hc2 hm2 hc
          go_wp2_with fail
          go_meet
          case rel =>
            rw [Elo.out]
            exact ⟨A2, c2, by rw [Hdl.out], HSr.out, HD.out⟩
        · have d2 : decide (i > 0) = false := decide_eq_false h2
          have elo : Od.lo rs.length i = 0 := by
            unfold Od.lo
            by_cases h3 : i < 0
            · rw [if_pos h3]
            · rw [if_neg h3, if_pos (by omega)]; omega
          have hsr := HSl.out _ _ HD.out
          have Elo := Lib.hid elo
          have HSr := Lib.hid hsr
          clear hsr elo
          go_wp2_with fail
          go_meet
          case rel =>
            rw [Elo.out, List.drop_zero]
            exact ⟨A, c, by rw [HMm.out], HSr.out, HD.out⟩
    case rest =>
      obtain ⟨A2, c2, rfl, hs2, hd⟩ := hcut
      have HS2 := Lib.hid hs2
      have HDw := Lib.hid hd
      clear hs2 hd HD
      generalize hRD : rs.drop (Od.lo rs.length i) = RD at *
      have HRD := Lib.hid hRD
      obtain ⟨q2, hq2⟩ : ∃ q2, RD.length = q2 := ⟨_, rfl⟩
      have HQ2 := Lib.hid hq2
      rw [hq2]
      clear hRD hq2
      by_cases hy : 0 ≤ i ∧ i < (m : Int)
      · obtain ⟨k, rfl⟩ : ∃ k : Nat, i = k := ⟨i.toNat, by omega⟩
        have hkl : k < rs.length := by rw [HMm.out]; omega
        have hx := HGd.out.2.1 _ (List.getElem_mem hkl)
        have AT := Lib.hid (HDw.out.atY k hkl)
        have HTE := Lib.hid (fun W => rp_eqD W rs[k] rs[k] hx hx (v := true) (by simp))
        have HRg : Hid (∀ W rows, Duo w W B u rs rs rows → ∃ gA oA, A = some ⟨gA, oA, none⟩ ∧ W.rangeAt gA (oA + k * 68) rs[k].cells) := Lib.hid (fun W rows h => by
          obtain ⟨gA, oA, e, _, hat⟩ := (HSl.out _ _ h).1 (by intro q; rw [q] at hkl; simp at hkl)
          exact ⟨gA, oA, e, hat k hkl⟩)
        have HCR68 := Lib.hid (Rp.cells_len hx.prev hx.hash)
        have HCR1 := Lib.hid (Rp.cells_one hx.prev hx.hash)
        generalize rs[k].cells = CR at *
        have hk0 : (0 : Int) ≤ (k : Int) := by omega
        have hkm : (k : Int) < (m : Int) := hy.2
        have d1 : decide ((k : Int) < 0) = false := decide_eq_false (by omega)
        have d2 : decide ((k : Int) ≥ (m : Int)) = false := decide_eq_false (by omega)
        have d2' : decide ((m : Int) ≤ (k : Int)) = false := decide_eq_false (by omega)
        clear hy hkl hx
        go_wp2_with fail
        refine AT.out.mono ?_
        rintro _ wt ⟨rfl, hbt⟩
        have HDt := Lib.hid (HDw.out.below hbt)
        have HSt := Lib.hid ((HS2.out.below hbt).mono hbt.size)
        clear hbt AT
        go_upto_region 32 with (first
          | (
             with_reducible show wpList _ _ _ (⟨_, .store 30 (.tmp 20) _, _, _, _, _⟩ :: _) _ _
             refine wpList_store_at rfl 30 (.tmp 20) (.tmp 141) rfl wt.heap.size 0 CR ZT _ rfl rfl (Row.new wt 30 ZT) (by have := HZ68.out; have := HCR68.out; omega) (by rw [rp_info, HCR68.out]) HCR1.out ?_
             intro wv hr hg
             rw [splice_all (HCR68.out.trans HZ68.out.symm)] at hr
             have hbx := below_own ((Below.refl wt.heap.size wt).alloc (Nat.le_refl _) (.cells ZT.toArray 30)) hg (fun k hk => by cases hk; exact Nat.le_refl _)
             have HDv := Lib.hid (HDt.out.below hbx)
             have HSv := Lib.hid ((HSt.out.below hbx).mono hbx.size)
             have HRv := Lib.hid hr
             clear hbx
             clear hr hg))
        obtain ⟨gA, oA, rfl, hrg⟩ := HRg.out _ _ HDv.out
        have HRg2 : Hid (∀ W, Below wv.heap.size wv W → W.rangeAt gA (oA + k * 68) CR) := Lib.hid (fun W hW => by
          obtain ⟨gB, oB, e, hrg2⟩ := HRg.out _ _ (HDv.out.below hW)
          cases e
          exact hrg2)
        clear hrg HRg
        go_wp2_with fail
        refine wp_region_noPanic ?_
        refine wp_region_held_drew (S := fun w' => Below wv.heap.size wv w') (by kernel_rfl) ((Below.refl _ _).drew) (fun hHeld => ?_)
        generalize wv.drew = wq at *
        refine wpAnyH_take (i := 0) (v := .int .i64 0) rfl (by kernel_rfl) (by kernel_rfl) (by kernel_rfl) (fun _ _ _ h => h) (Or.inl ⟨by rfl, fun w' hSw => by go_simp⟩) hHeld ?_
        try simp only [Act.put, List.getElem_toArray, List.getElem_cons_succ, List.getElem_cons_zero, List.setIfInBounds_toArray, List.set_cons_zero, List.set_cons_succ]
        refine wpAnyH_take (i := 1) (v := .bool false) rfl (by kernel_rfl) (by kernel_rfl) (by kernel_rfl) (fun _ _ _ h => h) (Or.inl ⟨by rfl, fun w' hSw => by go_simp⟩) hHeld ?_
        try simp only [Act.put, List.getElem_toArray, List.getElem_cons_succ, List.getElem_cons_zero, List.setIfInBounds_toArray, List.set_cons_zero, List.set_cons_succ]
        refine wpAnyH_take (i := 2) (v := .bool false) rfl (by kernel_rfl) (by kernel_rfl) (by kernel_rfl) (fun _ _ _ h => h) (Or.inl ⟨by rfl, fun w' hSw => by go_simp⟩) hHeld ?_
        try simp only [Act.put, List.getElem_toArray, List.getElem_cons_succ, List.getElem_cons_zero, List.setIfInBounds_toArray, List.set_cons_zero, List.set_cons_succ]
        refine' wpAnyH_take (i := 3) (v := _) rfl (by kernel_rfl) (by kernel_rfl) (by kernel_rfl) (fun _ _ _ h => h) (yieldsIf_load_mid (by rfl) _ _ rfl wt.heap.size 0 rfl CR _ (fun w' hSw => (row_range (HRv.out.below hSw))) Tryd.underlying30 rfl (by rw [rp_info, HCR68.out])) hHeld ?_
        try simp only [Act.put, List.getElem_toArray, List.getElem_cons_succ, List.getElem_cons_zero, List.setIfInBounds_toArray, List.set_cons_zero, List.set_cons_succ]
        refine wpAnyH_take (i := 4) (v := .slice (some ⟨gA, oA, none⟩) m c) rfl (by kernel_rfl) (by kernel_rfl) (by kernel_rfl) (fun _ _ _ h => h) (Or.inl ⟨by rfl, fun w' hSw => by go_simp⟩) hHeld ?_
        try simp only [Act.put, List.getElem_toArray, List.getElem_cons_succ, List.getElem_cons_zero, List.setIfInBounds_toArray, List.set_cons_zero, List.set_cons_succ]
        refine wpAnyH_take (i := 5) (v := .int .i64 k) rfl (by kernel_rfl) (by kernel_rfl) (by kernel_rfl) (fun _ _ _ h => h) (Or.inl ⟨by rfl, fun w' hSw => by go_simp⟩) hHeld ?_
        try simp only [Act.put, List.getElem_toArray, List.getElem_cons_succ, List.getElem_cons_zero, List.setIfInBounds_toArray, List.set_cons_zero, List.set_cons_succ]
        refine wpAnyH_take (i := 6) (v := .pointer (some ⟨gA, (oA + k * 68), none⟩)) rfl (by kernel_rfl) (by kernel_rfl) (by kernel_rfl) (fun _ _ _ h => h) (Or.inl ⟨by rfl, fun w' hSw => by go_simp⟩) hHeld ?_
        try simp only [Act.put, List.getElem_toArray, List.getElem_cons_succ, List.getElem_cons_zero, List.setIfInBounds_toArray, List.set_cons_zero, List.set_cons_succ]
        refine' wpAnyH_take (i := 7) (v := _) rfl (by kernel_rfl) (by kernel_rfl) (by kernel_rfl) (fun _ _ _ h => h) (yieldsIf_load_mid (by rfl) _ _ rfl gA (oA + k * 68) rfl CR _ (fun w' hSw => ((HRg2.out _ hSw))) Tryd.underlying30 rfl (by rw [rp_info, HCR68.out])) hHeld ?_
        try simp only [Act.put, List.getElem_toArray, List.getElem_cons_succ, List.getElem_cons_zero, List.setIfInBounds_toArray, List.set_cons_zero, List.set_cons_succ]
        refine wpAnyH_take (i := 8) (v := .bool false) rfl (by kernel_rfl) (by kernel_rfl) (by kernel_rfl) (fun _ _ _ h => h) (Or.inl ⟨by rfl, fun w' hSw => by have hq := hSw; have hd := HTE.out; go_simp⟩) hHeld ?_
        try simp only [Act.put, List.getElem_toArray, List.getElem_cons_succ, List.getElem_cons_zero, List.setIfInBounds_toArray, List.set_cons_zero, List.set_cons_succ]
        refine wpAnyH_take (i := 9) (v := .bool false) rfl (by kernel_rfl) (by kernel_rfl) (by kernel_rfl) (fun _ _ _ h => h) (Or.inl ⟨by rfl, fun w' hSw => by go_simp⟩) hHeld ?_
        try simp only [Act.put, List.getElem_toArray, List.getElem_cons_succ, List.getElem_cons_zero, List.setIfInBounds_toArray, List.set_cons_zero, List.set_cons_succ]
        refine wpAnyH_done (by kernel_rfl) ?_ _
        refine NoPanic.normal ?_
        have HDz := Lib.hid (HDv.out.below hHeld)
        have HSz := Lib.hid ((HSv.out.below hHeld).mono hHeld.size)
        clear hHeld HRg2
        go_upto_region 35 with fail
        go_cut [173] from 127 to 172 (fun s173 wx => s173 = .bool (decide (0 ≤ who ∧ who < 64)) ∧ Duo w wx B u rs rs [] ∧ SlR wx wx.heap.size A2 c2 RD)
        case first =>
          by_cases h1 : 0 ≤ who
          · have e1 : decide (who ≥ 0) = true := decide_eq_true h1
            have e1' : decide (0 ≤ who) = true := decide_eq_true h1
            by_cases h2 : who < 64
            · have e2 : decide (who < 64) = true := decide_eq_true h2
              go_wp2_with fail
              go_meet
              case rel => exact ⟨by rw [decide_eq_true (p := 0 ≤ who ∧ who < 64) (by omega)], HDz.out, HSz.out⟩
            · have e2 : decide (who < 64) = false := decide_eq_false h2
              go_wp2_with fail
              go_meet
              case rel => exact ⟨by rw [decide_eq_false (p := 0 ≤ who ∧ who < 64) (by omega)], HDz.out, HSz.out⟩
          · have e1 : decide (who ≥ 0) = false := decide_eq_false h1
            have e1' : decide (0 ≤ who) = false := decide_eq_false h1
            go_wp2_with fail
            go_meet
            case rel => exact ⟨by rw [decide_eq_false (p := 0 ≤ who ∧ who < 64) (by omega)], HDz.out, HSz.out⟩
        case rest =>
          obtain ⟨rfl, hd, hs⟩ := hcut
          have HDz := Lib.hid hd
          have HSz := Lib.hid hs
          clear hd hs
          obtain ⟨bw, hbw⟩ : ∃ bw, decide (0 ≤ who ∧ who < 64) = bw := ⟨_, rfl⟩
          rw [hbw]
          have HBw := Lib.hid hbw
          clear hbw
          go_upto_if 173 with fail
          go_cut [22] from 127 (fun s22 wx => s22 = .int .i64 (Od.nextOf rs who) ∧ Duo w wx B u rs rs [] ∧ SlR wx wx.heap.size A2 c2 RD)
          case first =>
            cases bw with
            | true =>
              have hw := of_decide_eq_true HBw.out
              have En := Lib.hid (show Od.nextOf rs who = Od.cnt rs who by unfold Od.nextOf; rw [if_pos hw])
              have RN := Lib.hid (rnext19_any rs _ c who hw.1 _ (HSl.out _ _ HDz.out))
              rw [HMm.out] at RN
              clear hw
              go_wp2_with fail
              refine RN.out.mono ?_
              rintro _ wn ⟨rfl, hbn⟩
              have HDn := Lib.hid (HDz.out.below hbn)
              have HSn := Lib.hid ((HSz.out.below hbn).mono hbn.size)
              clear hbn RN
              go_wp2_with fail
              go_meet
              case rel => exact ⟨by rw [En.out], HDn.out, HSn.out⟩
            | false =>
              have hw := of_decide_eq_false HBw.out
              have En := Lib.hid (show Od.nextOf rs who = 0 by unfold Od.nextOf; rw [if_neg hw])
              clear hw
              go_wp2_with fail
              go_meet
              case rel => exact ⟨by rw [En.out]; rfl, HDz.out, HSz.out⟩
          case rest =>
            obtain ⟨rfl, hd, hs⟩ := hcut
            have HDa := Lib.hid hd
            have HSa := Lib.hid hs
            have LN := Lib.hid hd.lenC
            rw [HMm.out] at LN
            clear hd hs HDz HSz
            go_wp2_with fail
            refine LN.out.mono ?_
            rintro _ _ ⟨rfl, rfl⟩
            clear LN
            have FR := Lib.hid (HDa.out.all (k : Int))
            rw [HRD.out] at FR
            go_wp2_with fail
            refine FR.out.mono ?_
            rintro _ wb ⟨⟨uu, rfl, ho⟩, hbb⟩
            obtain ⟨A3, c3, rfl, hs3⟩ := ho.slR19 (fun b hb => HS2.out.2.2.2.2 b hb) HS2.out.2.2.2.1
            have HDb := Lib.hid (HDa.out.below hbb)
            have SM := Lib.hid (same19_any RD A3 A2 c3 c2 wb hs3 ((HSa.out.below hbb).mono hbb.size))
            rw [HQ2.out] at SM ⊢
            clear ho hbb hs3 HDa HSa FR
            go_wp2_with fail
            refine SM.out.mono ?_
            rintro _ wd ⟨rfl, hbd⟩
            have HDd := Lib.hid (HDb.out.below hbd)
            have TK := Lib.hid (HDd.out.taken (k : Int))
            clear hbd SM HDb
            go_wp2_with fail
            refine TK.out.mono ?_
            rintro _ we ⟨rfl, hbe⟩
            have HDe := Lib.hid (HDd.out.below hbe)
            have RT := Lib.hid (rtaken_any rs _ c (k : Int) _ (HSl.out _ _ HDe.out))
            rw [← Od.taken_rtake HGd.out.1 (k : Int), HMm.out] at RT
            clear hbe TK HDd
            go_wp2_with fail
            refine RT.out.mono ?_
            rintro _ _ ⟨rfl, rfl⟩
            have NX := Lib.hid (HDe.out.nextC who)
            clear RT
            go_wp2_with fail
            refine NX.out.mono ?_
            rintro _ _ ⟨rfl, rfl⟩
            clear NX
            go_wp2_with fail
            go_ret
            exact ⟨by simp, HDe.out.low⟩
      · have AT := Lib.hid (HDw.out.atN i (by rw [HMm.out]; omega))
        rw [HZT.out] at AT
        have HTE := Lib.hid (fun W => rp_eqD W Rp.zero Rp.zero Rp.zero_fits Rp.zero_fits (v := true) (by simp))
        rw [HZT.out] at HTE
        have HZTb := HBt
        have HTE9 := HTE.out
        by_cases h1 : i < 0
        · have d1 : decide (i < 0) = true := decide_eq_true h1
          clear hy h1
          go_wp2_with fail
          refine AT.out.mono ?_
          rintro _ wt ⟨rfl, hbt⟩
          have HDt := Lib.hid (HDw.out.below hbt)
          have HSt := Lib.hid ((HS2.out.below hbt).mono hbt.size)
          clear hbt AT
          go_upto_if 157 with (first
            | (
               with_reducible show wpList _ _ _ (⟨_, .store 30 (.tmp 20) _, _, _, _, _⟩ :: _) _ _
               refine wpList_store_at rfl 30 (.tmp 20) (.tmp 141) rfl wt.heap.size 0 ZT ZT _ rfl rfl (Row.new wt 30 ZT) (by have := HZ68.out; have := HZ68.out; omega) (by rw [rp_info, HZ68.out]) HZ1.out ?_
               intro wv hr hg
               rw [splice_all (HZ68.out.trans HZ68.out.symm)] at hr
               have hbx := below_own ((Below.refl wt.heap.size wt).alloc (Nat.le_refl _) (.cells ZT.toArray 30)) hg (fun k hk => by cases hk; exact Nat.le_refl _)
               have HDv := Lib.hid (HDt.out.below hbx)
               have HSv := Lib.hid ((HSt.out.below hbx).mono hbx.size)
               have HRv := Lib.hid hr
               clear hbx
               clear hr hg)
            | ((with_reducible show wpList _ _ _ (⟨_, .load 30 (.tmp 20), _, _, _, _⟩ :: _) _ _); refine wpList_load_tx rfl 30 (.tmp 20) rfl wt.heap.size 0 (rfl) ZT _ (row_range HRv.out) Tryd.underlying30 rfl (by rw [rp_info, HZ68.out]) ?_)
            | ((with_reducible show wpList _ _ _ (⟨_, .build 30 _, _, _, _, _⟩ :: _) _ _); refine wpList_buildL rfl 30 [] rfl (some 155) rfl _ rfl ZT.toArray HZTb.out ?_))
          have HDz := HDv
          have HSz := HSv
          go_upto_region 35 with fail
          go_cut [173] from 127 to 172 (fun s173 wx => s173 = .bool (decide (0 ≤ who ∧ who < 64)) ∧ Duo w wx B u rs rs [] ∧ SlR wx wx.heap.size A2 c2 RD)
          case first =>
            by_cases h1 : 0 ≤ who
            · have e1 : decide (who ≥ 0) = true := decide_eq_true h1
              have e1' : decide (0 ≤ who) = true := decide_eq_true h1
              by_cases h2 : who < 64
              · have e2 : decide (who < 64) = true := decide_eq_true h2
                go_wp2_with fail
                go_meet
                case rel => exact ⟨by rw [decide_eq_true (p := 0 ≤ who ∧ who < 64) (by omega)], HDz.out, HSz.out⟩
              · have e2 : decide (who < 64) = false := decide_eq_false h2
                go_wp2_with fail
                go_meet
                case rel => exact ⟨by rw [decide_eq_false (p := 0 ≤ who ∧ who < 64) (by omega)], HDz.out, HSz.out⟩
            · have e1 : decide (who ≥ 0) = false := decide_eq_false h1
              have e1' : decide (0 ≤ who) = false := decide_eq_false h1
              go_wp2_with fail
              go_meet
              case rel => exact ⟨by rw [decide_eq_false (p := 0 ≤ who ∧ who < 64) (by omega)], HDz.out, HSz.out⟩
          case rest =>
            obtain ⟨rfl, hd, hs⟩ := hcut
            have HDz := Lib.hid hd
            have HSz := Lib.hid hs
            clear hd hs
            obtain ⟨bw, hbw⟩ : ∃ bw, decide (0 ≤ who ∧ who < 64) = bw := ⟨_, rfl⟩
            rw [hbw]
            have HBw := Lib.hid hbw
            clear hbw
            go_upto_if 173 with fail
            go_cut [22] from 127 (fun s22 wx => s22 = .int .i64 (Od.nextOf rs who) ∧ Duo w wx B u rs rs [] ∧ SlR wx wx.heap.size A2 c2 RD)
            case first =>
              cases bw with
              | true =>
                have hw := of_decide_eq_true HBw.out
                have En := Lib.hid (show Od.nextOf rs who = Od.cnt rs who by unfold Od.nextOf; rw [if_pos hw])
                have RN := Lib.hid (rnext19_any rs _ c who hw.1 _ (HSl.out _ _ HDz.out))
                rw [HMm.out] at RN
                clear hw
                go_wp2_with fail
                refine RN.out.mono ?_
                rintro _ wn ⟨rfl, hbn⟩
                have HDn := Lib.hid (HDz.out.below hbn)
                have HSn := Lib.hid ((HSz.out.below hbn).mono hbn.size)
                clear hbn RN
                go_wp2_with fail
                go_meet
                case rel => exact ⟨by rw [En.out], HDn.out, HSn.out⟩
              | false =>
                have hw := of_decide_eq_false HBw.out
                have En := Lib.hid (show Od.nextOf rs who = 0 by unfold Od.nextOf; rw [if_neg hw])
                clear hw
                go_wp2_with fail
                go_meet
                case rel => exact ⟨by rw [En.out]; rfl, HDz.out, HSz.out⟩
            case rest =>
              obtain ⟨rfl, hd, hs⟩ := hcut
              have HDa := Lib.hid hd
              have HSa := Lib.hid hs
              have LN := Lib.hid hd.lenC
              rw [HMm.out] at LN
              clear hd hs HDz HSz
              go_wp2_with fail
              refine LN.out.mono ?_
              rintro _ _ ⟨rfl, rfl⟩
              clear LN
              have FR := Lib.hid (HDa.out.all i)
              rw [HRD.out] at FR
              go_wp2_with fail
              refine FR.out.mono ?_
              rintro _ wb ⟨⟨uu, rfl, ho⟩, hbb⟩
              obtain ⟨A3, c3, rfl, hs3⟩ := ho.slR19 (fun b hb => HS2.out.2.2.2.2 b hb) HS2.out.2.2.2.1
              have HDb := Lib.hid (HDa.out.below hbb)
              have SM := Lib.hid (same19_any RD A3 A2 c3 c2 wb hs3 ((HSa.out.below hbb).mono hbb.size))
              rw [HQ2.out] at SM ⊢
              clear ho hbb hs3 HDa HSa FR
              go_wp2_with fail
              refine SM.out.mono ?_
              rintro _ wd ⟨rfl, hbd⟩
              have HDd := Lib.hid (HDb.out.below hbd)
              have TK := Lib.hid (HDd.out.taken i)
              clear hbd SM HDb
              go_wp2_with fail
              refine TK.out.mono ?_
              rintro _ we ⟨rfl, hbe⟩
              have HDe := Lib.hid (HDd.out.below hbe)
              have RT := Lib.hid (rtaken_any rs _ c i _ (HSl.out _ _ HDe.out))
              rw [← Od.taken_rtake HGd.out.1 i, HMm.out] at RT
              clear hbe TK HDd
              go_wp2_with fail
              refine RT.out.mono ?_
              rintro _ _ ⟨rfl, rfl⟩
              have NX := Lib.hid (HDe.out.nextC who)
              clear RT
              go_wp2_with fail
              refine NX.out.mono ?_
              rintro _ _ ⟨rfl, rfl⟩
              clear NX
              go_wp2_with fail
              go_ret
              exact ⟨by simp, HDe.out.low⟩
        · have d1 : decide (i < 0) = false := decide_eq_false h1
          have d2 : decide (i ≥ (m : Int)) = true := decide_eq_true (by omega)
          have d2' : decide ((m : Int) ≤ i) = true := decide_eq_true (by omega)
          clear hy h1
          go_wp2_with fail
          refine AT.out.mono ?_
          rintro _ wt ⟨rfl, hbt⟩
          have HDt := Lib.hid (HDw.out.below hbt)
          have HSt := Lib.hid ((HS2.out.below hbt).mono hbt.size)
          clear hbt AT
          go_upto_if 157 with (first
            | (
               with_reducible show wpList _ _ _ (⟨_, .store 30 (.tmp 20) _, _, _, _, _⟩ :: _) _ _
               refine wpList_store_at rfl 30 (.tmp 20) (.tmp 141) rfl wt.heap.size 0 ZT ZT _ rfl rfl (Row.new wt 30 ZT) (by have := HZ68.out; have := HZ68.out; omega) (by rw [rp_info, HZ68.out]) HZ1.out ?_
               intro wv hr hg
               rw [splice_all (HZ68.out.trans HZ68.out.symm)] at hr
               have hbx := below_own ((Below.refl wt.heap.size wt).alloc (Nat.le_refl _) (.cells ZT.toArray 30)) hg (fun k hk => by cases hk; exact Nat.le_refl _)
               have HDv := Lib.hid (HDt.out.below hbx)
               have HSv := Lib.hid ((HSt.out.below hbx).mono hbx.size)
               have HRv := Lib.hid hr
               clear hbx
               clear hr hg)
            | ((with_reducible show wpList _ _ _ (⟨_, .load 30 (.tmp 20), _, _, _, _⟩ :: _) _ _); refine wpList_load_tx rfl 30 (.tmp 20) rfl wt.heap.size 0 (rfl) ZT _ (row_range HRv.out) Tryd.underlying30 rfl (by rw [rp_info, HZ68.out]) ?_)
            | ((with_reducible show wpList _ _ _ (⟨_, .build 30 _, _, _, _, _⟩ :: _) _ _); refine wpList_buildL rfl 30 [] rfl (some 155) rfl _ rfl ZT.toArray HZTb.out ?_))
          have HDz := HDv
          have HSz := HSv
          go_upto_region 35 with fail
          go_cut [173] from 127 to 172 (fun s173 wx => s173 = .bool (decide (0 ≤ who ∧ who < 64)) ∧ Duo w wx B u rs rs [] ∧ SlR wx wx.heap.size A2 c2 RD)
          case first =>
            by_cases h1 : 0 ≤ who
            · have e1 : decide (who ≥ 0) = true := decide_eq_true h1
              have e1' : decide (0 ≤ who) = true := decide_eq_true h1
              by_cases h2 : who < 64
              · have e2 : decide (who < 64) = true := decide_eq_true h2
                go_wp2_with fail
                go_meet
                case rel => exact ⟨by rw [decide_eq_true (p := 0 ≤ who ∧ who < 64) (by omega)], HDz.out, HSz.out⟩
              · have e2 : decide (who < 64) = false := decide_eq_false h2
                go_wp2_with fail
                go_meet
                case rel => exact ⟨by rw [decide_eq_false (p := 0 ≤ who ∧ who < 64) (by omega)], HDz.out, HSz.out⟩
            · have e1 : decide (who ≥ 0) = false := decide_eq_false h1
              have e1' : decide (0 ≤ who) = false := decide_eq_false h1
              go_wp2_with fail
              go_meet
              case rel => exact ⟨by rw [decide_eq_false (p := 0 ≤ who ∧ who < 64) (by omega)], HDz.out, HSz.out⟩
          case rest =>
            obtain ⟨rfl, hd, hs⟩ := hcut
            have HDz := Lib.hid hd
            have HSz := Lib.hid hs
            clear hd hs
            obtain ⟨bw, hbw⟩ : ∃ bw, decide (0 ≤ who ∧ who < 64) = bw := ⟨_, rfl⟩
            rw [hbw]
            have HBw := Lib.hid hbw
            clear hbw
            go_upto_if 173 with fail
            go_cut [22] from 127 (fun s22 wx => s22 = .int .i64 (Od.nextOf rs who) ∧ Duo w wx B u rs rs [] ∧ SlR wx wx.heap.size A2 c2 RD)
            case first =>
              cases bw with
              | true =>
                have hw := of_decide_eq_true HBw.out
                have En := Lib.hid (show Od.nextOf rs who = Od.cnt rs who by unfold Od.nextOf; rw [if_pos hw])
                have RN := Lib.hid (rnext19_any rs _ c who hw.1 _ (HSl.out _ _ HDz.out))
                rw [HMm.out] at RN
                clear hw
                go_wp2_with fail
                refine RN.out.mono ?_
                rintro _ wn ⟨rfl, hbn⟩
                have HDn := Lib.hid (HDz.out.below hbn)
                have HSn := Lib.hid ((HSz.out.below hbn).mono hbn.size)
                clear hbn RN
                go_wp2_with fail
                go_meet
                case rel => exact ⟨by rw [En.out], HDn.out, HSn.out⟩
              | false =>
                have hw := of_decide_eq_false HBw.out
                have En := Lib.hid (show Od.nextOf rs who = 0 by unfold Od.nextOf; rw [if_neg hw])
                clear hw
                go_wp2_with fail
                go_meet
                case rel => exact ⟨by rw [En.out]; rfl, HDz.out, HSz.out⟩
            case rest =>
              obtain ⟨rfl, hd, hs⟩ := hcut
              have HDa := Lib.hid hd
              have HSa := Lib.hid hs
              have LN := Lib.hid hd.lenC
              rw [HMm.out] at LN
              clear hd hs HDz HSz
              go_wp2_with fail
              refine LN.out.mono ?_
              rintro _ _ ⟨rfl, rfl⟩
              clear LN
              have FR := Lib.hid (HDa.out.all i)
              rw [HRD.out] at FR
              go_wp2_with fail
              refine FR.out.mono ?_
              rintro _ wb ⟨⟨uu, rfl, ho⟩, hbb⟩
              obtain ⟨A3, c3, rfl, hs3⟩ := ho.slR19 (fun b hb => HS2.out.2.2.2.2 b hb) HS2.out.2.2.2.1
              have HDb := Lib.hid (HDa.out.below hbb)
              have SM := Lib.hid (same19_any RD A3 A2 c3 c2 wb hs3 ((HSa.out.below hbb).mono hbb.size))
              rw [HQ2.out] at SM ⊢
              clear ho hbb hs3 HDa HSa FR
              go_wp2_with fail
              refine SM.out.mono ?_
              rintro _ wd ⟨rfl, hbd⟩
              have HDd := Lib.hid (HDb.out.below hbd)
              have TK := Lib.hid (HDd.out.taken i)
              clear hbd SM HDb
              go_wp2_with fail
              refine TK.out.mono ?_
              rintro _ we ⟨rfl, hbe⟩
              have HDe := Lib.hid (HDd.out.below hbe)
              have RT := Lib.hid (rtaken_any rs _ c i _ (HSl.out _ _ HDe.out))
              rw [← Od.taken_rtake HGd.out.1 i, HMm.out] at RT
              clear hbe TK HDd
              go_wp2_with fail
              refine RT.out.mono ?_
              rintro _ _ ⟨rfl, rfl⟩
              have NX := Lib.hid (HDe.out.nextC who)
              clear RT
              go_wp2_with fail
              refine NX.out.mono ?_
              rintro _ _ ⟨rfl, rfl⟩
              clear NX
              go_wp2_with fail
              go_ret
              exact ⟨by simp, HDe.out.low⟩
end Go.Proofs.YtgdijbcoacgadaaDoor
