/- The law's made: a log behind some calls. -/
import Derived.Test.YtgdijbcoacgadaaDoorOdTime
namespace Go.Proofs.YtgdijbcoacgadaaDoor
open Go.RowKit
set_option linter.unusedVariables false
set_option linter.unusedSimpArgs false
set_option maxRecDepth 100000

theorem AwL.from {w0 W : World} {B : Nat} {rs : List Rp} {rows : List (Nat × List Value)} (h : AwL w0 W B rs rows) (i : Int) :
    Calls Tryd.prog 18 #[.pointer (some ⟨B, 0, none⟩), .int .i64 i] W fun e w' => (∃ u, e = .returned u ∧ OwnL w' W.heap.size 30 68 Rp.cells u (rs.drop (Od.lo rs.length i))) ∧ Below W.heap.size W w' := by
  obtain ⟨v, dv, h1, _, _⟩ := h
  exact h1.from i
theorem AwL.good {w0 W : World} {B : Nat} {rs : List Rp} {rows : List (Nat × List Value)} (h : AwL w0 W B rs rows) : Od.Good rs := by
  obtain ⟨v, dv, h1, _, _⟩ := h
  exact h1.good
theorem AwL.all {w0 W : World} {B : Nat} {rs : List Rp} {rows : List (Nat × List Value)} (h : AwL w0 W B rs rows) :
    Calls Tryd.prog 18 #[.pointer (some ⟨B, 0, none⟩), .int .i64 0] W fun e w' => (∃ u, e = .returned u ∧ OwnL w' W.heap.size 30 68 Rp.cells u rs) ∧ Below W.heap.size W w' := by
  have e : rs.drop (Od.lo rs.length 0) = rs := by
    have : Od.lo rs.length 0 = 0 := by unfold Od.lo; rw [if_neg (by decide), if_pos (by omega)]; rfl
    rw [this]
    rfl
  have := h.from 0
  rwa [e] at this
theorem act19_info : (Tryd.prog.info? 32).map (·.size) = some 72 := by kernel_rfl
def Od.step1 (rs : List Rp) (a : Act19) : List Rp := if a.load = true then rs else Od.addL rs a.kind a.body (Od.timeOf rs a.later)
def Od.madeK (l : List Act19) (k : Nat) : List Rp := (l.take k).foldl Od.step1 []
def Od.made (l : List Act19) : List Rp := Od.madeK l 40
theorem Od.madeK_next {l : List Act19} {k : Nat} (h : k < l.length) : Od.madeK l (k + 1) = Od.step1 (Od.madeK l k) l[k] := by
  unfold Od.madeK
  rw [← List.take_append_getElem h, List.foldl_append]
  rfl
theorem Od.step1_len (rs : List Rp) (a : Act19) : (Od.step1 rs a).length ≤ rs.length + 1 := by
  unfold Od.step1
  split
  · omega
  · exact Od.addL_len _ _ _ _
theorem Od.madeK_len (l : List Act19) : ∀ k, (Od.madeK l k).length ≤ k
  | 0 => Nat.le_refl _
  | k + 1 => by
    by_cases h : k < l.length
    · rw [Od.madeK_next h]
      have := Od.step1_len (Od.madeK l k) l[k]
      have := Od.madeK_len l k
      omega
    · have e : Od.madeK l (k + 1) = Od.madeK l k := by unfold Od.madeK; rw [List.take_of_length_le (by omega), List.take_of_length_le (by omega)]
      rw [e]
      have := Od.madeK_len l k
      omega
theorem Od.made_at {l : List Act19} {k : Nat} (h40 : k ≤ 40) (h : ¬ (k < l.length ∧ k < 40)) : Od.madeK l k = Od.made l := by
  unfold Od.made
  by_cases hk : k < 40
  · unfold Od.madeK; rw [List.take_of_length_le (by omega), List.take_of_length_le (by omega)]
  · rw [show k = 40 by omega]
set_option maxHeartbeats 6400000 in
theorem made19_any (l : List Act19) (A : Option Addr) (c : Nat) (w : World) (h : Act19sAt w w.heap.size A l) (hT : Tab w) :
    Calls Tryd.prog 22 #[.slice A l.length c] w fun e w' => e = .returned (.pointer (some ⟨w.heap.size, 0, none⟩)) ∧ AwL w w' w.heap.size (Od.made l) [] := by
  have NW := Lib.hid (logNew_any w)
  have HT : Hid (∀ W, Below w.heap.size w W → Tab W) := Lib.hid (fun W hW => hT.below hW hT.pos)
  have HIn := Lib.hid h
  obtain ⟨n, hn⟩ : ∃ n, n = l.length := ⟨_, rfl⟩
  rw [← hn]
  have HN := Lib.hid hn
  have hn1 : n ≤ 9223372036854775807 := by rw [hn]; exact h.2.2.2
  clear h hT hn
  go_enter Tryd.func22, Tryd.ntmps22
  go_wp2_with fail
  refine NW.out.mono ?_
  rintro _ w1 ⟨rfl, hl1, hb1⟩
  have HU1 : Hid (AwL w w1 w.heap.size [] []) := Lib.hid ⟨_, _, hl1, hb1, fun x hx => by simp at hx⟩
  clear hl1 hb1 NW
  obtain ⟨B, hB⟩ : ∃ B, w.heap.size = B := ⟨_, rfl⟩
  have HU1' : Hid (AwL w w1 B [] []) := by rw [← hB]; exact HU1
  have HBB := Lib.hid hB
  rw [show (Value.pointer (some ⟨w.heap.size, 0, none⟩)) = .pointer (some ⟨B, 0, none⟩) by rw [hB]]
  clear HU1 hB
  go_wp2_with fail
  go_loopw [4] (fun i wr => ∃ k : Nat, k ≤ n ∧ k ≤ 40 ∧ i = .int .i64 k ∧ AwL w wr B (Od.madeK l k) []) (fun i _ => n - (intOf i).toNat)
  case atStart => exact ⟨0, Nat.zero_le _, Nat.zero_le _, rfl, HU1'.out⟩
  case round =>
    obtain ⟨k, hk, hk40, rfl, hu⟩ := hrel
    have HUr := Lib.hid hu
    clear hu HU1'
    by_cases hkn : k < n ∧ k < 40
    · have hki : (k : Int) < (n : Int) := by omega
      have hk5 : (k : Int) < 40 := by omega
      have hk0 : (0 : Int) ≤ (k : Int) := by omega
      have hka : k < l.length := by rw [← HN.out]; exact hkn.1
      obtain ⟨gA, off, rfl, hga, hcl⟩ := HIn.out.1 (by intro e; rw [e] at hka; simp at hka)
      have hxr := hcl k hka
      have hxi := HIn.out.2.2.1 _ (List.getElem_mem hka)
      have hnx := Od.madeK_next hka
      have hgood := HUr.out.good
      have hlen := Od.madeK_len l k
      generalize l[k] = x at hxr hxi hnx
      have HE := Lib.hid hnx
      generalize Od.madeK l k = rs at *
      obtain ⟨oK, hoK⟩ : ∃ oK, off + k * 72 = oK := ⟨_, rfl⟩
      rw [hoK] at hxr
      have HX : Hid (∀ W, Below w.heap.size w W → W.cell? ⟨gA, oK, none⟩ = some (.int .i64 x.kind) ∧ W.cell? ⟨gA, oK + 2, none⟩ = some (.string x.body) ∧ W.cell? ⟨gA, oK + 3, none⟩ = some (.bool x.load) ∧ W.rangeAt gA oK x.cells) := Lib.hid (fun W hW => ⟨(hW.cell (p := ⟨gA, oK, none⟩) hga).trans (hxr 0 _ rfl), (hW.cell (p := ⟨gA, oK + 2, none⟩) hga).trans (hxr 2 _ rfl), (hW.cell (p := ⟨gA, oK + 3, none⟩) hga).trans (hxr 3 _ rfl), fun j v hv => (hW.cell (p := ⟨gA, oK + j, none⟩) hga).trans (hxr j v hv)⟩)
      have HA72 := Lib.hid (Act19.cells_len hxi)
      have HFt := Lib.hid (And.intro hgood.fits (And.intro (show rs.length ≤ 1000000 by omega) hgood.times))
      have HF : Hid (∀ W, AwL w W B rs [] → Calls Tryd.prog 18 #[.pointer (some ⟨B, 0, none⟩), .int .i64 0] W fun e w' => (∃ u, e = .returned u ∧ OwnL w' W.heap.size 30 68 Rp.cells u rs) ∧ Below W.heap.size W w') := Lib.hid (fun W h => h.all)
      have HTi : Hid (∀ W A c, SlR W W.heap.size A c rs → Calls Tryd.prog 13 #[.slice A rs.length c, .agg x.cells.toArray] W fun e w' => e = .returned (.int .i64 (Od.timeOf rs x.later)) ∧ Below W.heap.size W w') := Lib.hid (fun W A c h => time19_any x rs A c W h HFt.out.2.2)
      cases hld : x.load with
      | true =>
        have hst : Od.step1 rs x = rs := if_pos hld
        rw [hst] at HE
        rw [hld] at HX
        have c3 := (HX.out _ HUr.out.low).2.2.1
        clear hxr hxi hnx hgood hlen hga hcl hka hst hld
        generalize Od.timeOf rs x.later = tm at *
        generalize x.cells = CT at *
        generalize x.kind = ak at *
        generalize x.body = ab at *
        go_wp2_with fail
        exact ⟨⟨k + 1, by omega, by omega, by go_num, by rw [HE.out]; exact HUr.out⟩, by simp [intOf]; omega⟩
      | false =>
        have hst : Od.step1 rs x = Od.addL rs x.kind x.body (Od.timeOf rs x.later) := if_neg (by rw [hld]; simp)
        rw [hst] at HE
        rw [hld] at HX
        have c3 := (HX.out _ HUr.out.low).2.2.1
        have HAd : Hid (∀ W, AwL w W B rs [] → Calls Tryd.prog 12 #[.pointer (some ⟨B, 0, none⟩), .int .i64 x.kind, .string x.body, .int .i64 (Od.timeOf rs x.later)] W fun e w' => e = .returned (.tuple #[.agg (Od.addR rs x.kind x.body (Od.timeOf rs x.later)).1.cells.toArray, .int .i64 (Od.addR rs x.kind x.body (Od.timeOf rs x.later)).2]) ∧ AwL w w' B (Od.addL rs x.kind x.body (Od.timeOf rs x.later)) []) := Lib.hid (fun W h => h.add (HT.out _ h.low) _ _ _ hxi.body (by omega) _ _ rfl rfl)
        generalize Od.addL rs x.kind x.body (Od.timeOf rs x.later) = rs2 at *
        generalize (Od.addR rs x.kind x.body (Od.timeOf rs x.later)).1.cells = RR at *
        generalize (Od.addR rs x.kind x.body (Od.timeOf rs x.later)).2 = ee at *
        clear hxr hxi hnx hgood hlen hga hcl hka hst hld
        generalize Od.timeOf rs x.later = tm at *
        generalize x.cells = CT at *
        generalize x.kind = ak at *
        generalize x.body = ab at *
        go_wp2_with fail
        clear c3
        have HU := Lib.hid (HUr.out.below (Below.refl _ _).drew)
        refine wp_region_held_drew (S := fun w' => Below w.heap.size w w') (by kernel_rfl) (HUr.out.low.drew) (fun hHeld => ?_)
        generalize wr.drew = wq at *
        refine wpAnyH_take (i := 0) (v := .pointer (some ⟨B, 0, none⟩)) rfl (by kernel_rfl) (by kernel_rfl) (by kernel_rfl) (fun _ _ _ h => h) (Or.inl ⟨by rfl, fun w' hSw => by go_simp⟩) hHeld ?_
        try simp only [Act.put, List.getElem_toArray, List.getElem_cons_succ, List.getElem_cons_zero, List.setIfInBounds_toArray, List.set_cons_zero, List.set_cons_succ]
        refine wpAnyH_take (i := 1) (v := .slice (some ⟨gA, off, none⟩) n c) rfl (by kernel_rfl) (by kernel_rfl) (by kernel_rfl) (fun _ _ _ h => h) (Or.inl ⟨by rfl, fun w' hSw => by go_simp⟩) hHeld ?_
        try simp only [Act.put, List.getElem_toArray, List.getElem_cons_succ, List.getElem_cons_zero, List.setIfInBounds_toArray, List.set_cons_zero, List.set_cons_succ]
        refine wpAnyH_take (i := 2) (v := .int .i64 k) rfl (by kernel_rfl) (by kernel_rfl) (by kernel_rfl) (fun _ _ _ h => h) (Or.inl ⟨by rfl, fun w' hSw => by go_simp⟩) hHeld ?_
        try simp only [Act.put, List.getElem_toArray, List.getElem_cons_succ, List.getElem_cons_zero, List.setIfInBounds_toArray, List.set_cons_zero, List.set_cons_succ]
        refine wpAnyH_take (i := 3) (v := .pointer (some ⟨gA, oK, none⟩)) rfl (by kernel_rfl) (by kernel_rfl) (by kernel_rfl) (fun _ _ _ h => h) (Or.inl ⟨by rfl, fun w' hSw => by go_simp⟩) hHeld ?_
        try simp only [Act.put, List.getElem_toArray, List.getElem_cons_succ, List.getElem_cons_zero, List.setIfInBounds_toArray, List.set_cons_zero, List.set_cons_succ]
        refine wpAnyH_take (i := 4) (v := .pointer (some ⟨gA, oK, none⟩)) rfl (by kernel_rfl) (by kernel_rfl) (by kernel_rfl) (fun _ _ _ h => h) (Or.inl ⟨by rfl, fun w' hSw => by go_simp⟩) hHeld ?_
        try simp only [Act.put, List.getElem_toArray, List.getElem_cons_succ, List.getElem_cons_zero, List.setIfInBounds_toArray, List.set_cons_zero, List.set_cons_succ]
        refine wpAnyH_take (i := 5) (v := .int .i64 ak) rfl (by kernel_rfl) (by kernel_rfl) (by kernel_rfl) (fun _ _ _ h => h) (Or.inl ⟨by rfl, fun w' hSw => by have hq := hSw; have hd := (HX.out _ hq).1; go_simp⟩) hHeld ?_
        try simp only [Act.put, List.getElem_toArray, List.getElem_cons_succ, List.getElem_cons_zero, List.setIfInBounds_toArray, List.set_cons_zero, List.set_cons_succ]
        refine wpAnyH_take (i := 6) (v := .slice (some ⟨gA, off, none⟩) n c) rfl (by kernel_rfl) (by kernel_rfl) (by kernel_rfl) (fun _ _ _ h => h) (Or.inl ⟨by rfl, fun w' hSw => by go_simp⟩) hHeld ?_
        try simp only [Act.put, List.getElem_toArray, List.getElem_cons_succ, List.getElem_cons_zero, List.setIfInBounds_toArray, List.set_cons_zero, List.set_cons_succ]
        refine wpAnyH_take (i := 7) (v := .int .i64 k) rfl (by kernel_rfl) (by kernel_rfl) (by kernel_rfl) (fun _ _ _ h => h) (Or.inl ⟨by rfl, fun w' hSw => by go_simp⟩) hHeld ?_
        try simp only [Act.put, List.getElem_toArray, List.getElem_cons_succ, List.getElem_cons_zero, List.setIfInBounds_toArray, List.set_cons_zero, List.set_cons_succ]
        refine wpAnyH_take (i := 8) (v := .pointer (some ⟨gA, oK, none⟩)) rfl (by kernel_rfl) (by kernel_rfl) (by kernel_rfl) (fun _ _ _ h => h) (Or.inl ⟨by rfl, fun w' hSw => by go_simp⟩) hHeld ?_
        try simp only [Act.put, List.getElem_toArray, List.getElem_cons_succ, List.getElem_cons_zero, List.setIfInBounds_toArray, List.set_cons_zero, List.set_cons_succ]
        refine wpAnyH_take (i := 9) (v := .pointer (some ⟨gA, (oK + 2), none⟩)) rfl (by kernel_rfl) (by kernel_rfl) (by kernel_rfl) (fun _ _ _ h => h) (Or.inl ⟨by rfl, fun w' hSw => by go_simp⟩) hHeld ?_
        try simp only [Act.put, List.getElem_toArray, List.getElem_cons_succ, List.getElem_cons_zero, List.setIfInBounds_toArray, List.set_cons_zero, List.set_cons_succ]
        refine wpAnyH_take (i := 10) (v := .string ab) rfl (by kernel_rfl) (by kernel_rfl) (by kernel_rfl) (fun _ _ _ h => h) (Or.inl ⟨by rfl, fun w' hSw => by have hq := hSw; have hd := (HX.out _ hq).2.1; go_simp⟩) hHeld ?_
        try simp only [Act.put, List.getElem_toArray, List.getElem_cons_succ, List.getElem_cons_zero, List.setIfInBounds_toArray, List.set_cons_zero, List.set_cons_succ]
        refine wpAnyH_take (i := 11) (v := .pointer (some ⟨B, 0, none⟩)) rfl (by kernel_rfl) (by kernel_rfl) (by kernel_rfl) (fun _ _ _ h => h) (Or.inl ⟨by rfl, fun w' hSw => by go_simp⟩) hHeld ?_
        try simp only [Act.put, List.getElem_toArray, List.getElem_cons_succ, List.getElem_cons_zero, List.setIfInBounds_toArray, List.set_cons_zero, List.set_cons_succ]
        refine wpAnyH_take (i := 13) (v := .slice (some ⟨gA, off, none⟩) n c) rfl (by kernel_rfl) (by kernel_rfl) (by kernel_rfl) (fun _ _ _ h => h) (Or.inl ⟨by rfl, fun w' hSw => by go_simp⟩) hHeld ?_
        try simp only [Act.put, List.getElem_toArray, List.getElem_cons_succ, List.getElem_cons_zero, List.setIfInBounds_toArray, List.set_cons_zero, List.set_cons_succ]
        refine wpAnyH_take (i := 14) (v := .int .i64 k) rfl (by kernel_rfl) (by kernel_rfl) (by kernel_rfl) (fun _ _ _ h => h) (Or.inl ⟨by rfl, fun w' hSw => by go_simp⟩) hHeld ?_
        try simp only [Act.put, List.getElem_toArray, List.getElem_cons_succ, List.getElem_cons_zero, List.setIfInBounds_toArray, List.set_cons_zero, List.set_cons_succ]
        refine wpAnyH_take (i := 15) (v := .pointer (some ⟨gA, oK, none⟩)) rfl (by kernel_rfl) (by kernel_rfl) (by kernel_rfl) (fun _ _ _ h => h) (Or.inl ⟨by rfl, fun w' hSw => by go_simp⟩) hHeld ?_
        try simp only [Act.put, List.getElem_toArray, List.getElem_cons_succ, List.getElem_cons_zero, List.setIfInBounds_toArray, List.set_cons_zero, List.set_cons_succ]
        refine' wpAnyH_take (i := 16) (v := _) rfl (by kernel_rfl) (by kernel_rfl) (by kernel_rfl) (fun _ _ _ h => h) (yieldsIf_load_mid (by rfl) _ _ rfl gA oK rfl CT _ (fun w' hSw => ((HX.out _ hSw).2.2.2)) Tryd.underlying32 rfl (by rw [act19_info, HA72.out])) hHeld ?_
        try simp only [Act.put, List.getElem_toArray, List.getElem_cons_succ, List.getElem_cons_zero, List.setIfInBounds_toArray, List.set_cons_zero, List.set_cons_succ]
        refine wpAnyH_ready (rs := [12]) (by kernel_rfl) (by simp) (AllReadyH.cons rfl (fun K1 hK1 => ?_) AllReadyH.nil)
        try simp only [Act.put, List.getElem_toArray, List.getElem_cons_succ, List.getElem_cons_zero, List.setIfInBounds_toArray, List.set_cons_zero, List.set_cons_succ]
        go_simp
        refine Calls.mono (HF.out _ HU.out) ?_
        rintro e wc1 ⟨⟨u9, rfl, ho9⟩, hb2⟩
        obtain ⟨A9, c9, rfl, hs9⟩ := ho9.slR19 HFt.out.1 HFt.out.2.1
        have HU := Lib.hid (HU.out.below hb2)
        have HS9 := Lib.hid hs9
        clear ho9 hs9
        refine hK1.out _ _ (two_below' hHeld hb2) (fun hHeld => ?_)
        clear hK1 K1
        try simp only [Act.put, List.getElem_toArray, List.getElem_cons_succ, List.getElem_cons_zero, List.setIfInBounds_toArray, List.set_cons_zero, List.set_cons_succ]
        refine wpAnyH_ready (rs := [17]) (by kernel_rfl) (by simp) (AllReadyH.cons rfl (fun K1 hK1 => ?_) AllReadyH.nil)
        try simp only [Act.put, List.getElem_toArray, List.getElem_cons_succ, List.getElem_cons_zero, List.setIfInBounds_toArray, List.set_cons_zero, List.set_cons_succ]
        go_simp
        refine Calls.mono (HTi.out _ _ _ HS9.out) ?_
        rintro e wc3 ⟨rfl, hb4⟩
        have HU := Lib.hid (HU.out.below hb4)
        refine hK1.out _ _ (two_below' hHeld hb4) (fun hHeld => ?_)
        clear hK1 K1
        try simp only [Act.put, List.getElem_toArray, List.getElem_cons_succ, List.getElem_cons_zero, List.setIfInBounds_toArray, List.set_cons_zero, List.set_cons_succ]
        refine wpAnyH_ready (rs := [18]) (by kernel_rfl) (by simp) (AllReadyH.cons rfl (fun K1 hK1 => ?_) AllReadyH.nil)
        try simp only [Act.put, List.getElem_toArray, List.getElem_cons_succ, List.getElem_cons_zero, List.setIfInBounds_toArray, List.set_cons_zero, List.set_cons_succ]
        go_simp
        refine Calls.mono (HAd.out _ HU.out) ?_
        rintro e wc5 ⟨rfl, hu⟩
        have HU2 := Lib.hid hu
        clear hu
        refine hK1.out _ _ (HU2.out.low) (fun hHeld => ?_)
        clear hK1 K1
        try simp only [Act.put, List.getElem_toArray, List.getElem_cons_succ, List.getElem_cons_zero, List.setIfInBounds_toArray, List.set_cons_zero, List.set_cons_succ]
        refine wpAnyH_done (by kernel_rfl) ?_ _
        go_wp2_with fail
        exact ⟨⟨k + 1, by omega, by omega, by go_num, by rw [HE.out]; exact HU2.out⟩, by simp [intOf]; omega⟩
    · have hE := Od.made_at hk40 (by rw [← HN.out]; exact hkn)
      rw [hE] at HUr
      by_cases hk1 : k < n
      · have hki : (k : Int) < (n : Int) := by omega
        have hk5 : ¬ ((k : Int) < 40) := by omega
        clear hkn hE
        go_wp2_with fail
        go_ret
        exact ⟨by rw [HBB.out]; rfl, by rw [HBB.out]; exact HUr.out⟩
      · have hki : ¬ ((k : Int) < (n : Int)) := by omega
        clear hkn hE
        go_wp2_with fail
        go_ret
        exact ⟨by rw [HBB.out]; rfl, by rw [HBB.out]; exact HUr.out⟩
end Go.Proofs.YtgdijbcoacgadaaDoor
