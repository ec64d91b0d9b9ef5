/- the law OrderLoads. -/
import Derived.Test.YtgdijbcoacgadaaDoorOdSame
namespace Go.Proofs.YtgdijbcoacgadaaDoor
open Go.RowKit
set_option linter.unusedVariables false
set_option linter.unusedSimpArgs false
set_option maxRecDepth 100000

theorem Od.made_good {w0 W : World} {B : Nat} {l : List Act19} {rows : List (Nat × List Value)} (h : AwL w0 W B (Od.made l) rows) : Od.Good (Od.made l) ∧ (Od.made l).length ≤ 40 := ⟨h.good, Od.madeK_len l 40⟩
theorem take_snoc {α : Type} {l : List α} {k : Nat} (h : k < l.length) : l.take k ++ [l[k]] = l.take (k + 1) := List.take_append_getElem h
set_option maxHeartbeats 12800000 in
theorem orderLoads_any (l : List Act19) (A0 : Option Addr) (c0 : Nat) (sk : Int) (hsk : 0 ≤ sk ∧ sk ≤ 255) (w : World) (hin : Act19sAt w w.heap.size A0 l) (hT : Tab w) :
    Calls Tryd.prog 5 #[.slice A0 l.length c0, .int .u8 sk] w fun e w' => e = .returned (.bool true) ∧ Below w.heap.size w w' := by
  have MD := Lib.hid (made19_any l A0 c0 w hin hT)
  have HT : Hid (∀ W, Below w.heap.size w W → Tab W) := Lib.hid (fun W hW => hT.below hW hT.pos)
  have NW := Lib.hid logNew_any
  have AW : Hid (∀ W, Below w.heap.size w W → Calls Tryd.prog 9 #[] W fun e w' => e = .returned (.bool true) ∧ Below W.heap.size W w') := Lib.hid (fun W hW => awake19_any W (hT.below hW hT.pos))
  have hle : (Od.made l).length ≤ 40 := Od.madeK_len l 40
  generalize Od.made l = rs at *
  generalize l.length = n0 at *
  clear hin hT
  go_enter Tryd.func5, Tryd.ntmps5
  go_wp2_with fail
  refine MD.out.mono ?_
  rintro _ w1 ⟨rfl, ha1⟩
  have hgood := ha1.good
  have hlen := Lib.hid hle
  obtain ⟨v, dv, hl1, hb1, _⟩ := ha1
  have HL1 := Lib.hid hl1
  have HB1 := Lib.hid hb1
  have HGd := Lib.hid hgood
  clear hl1 hb1 hgood MD
  obtain ⟨B, hB⟩ : ∃ B, w.heap.size = B := ⟨_, rfl⟩
  have HL1' : Hid (LogAt w1 w.heap.size B v dv rs) := by rw [← hB]; exact HL1
  rw [show (Value.pointer (some ⟨w.heap.size, 0, none⟩)) = .pointer (some ⟨B, 0, none⟩) by rw [hB]]
  clear HL1 hB
  have HL1 := HL1'
  clear HL1'
  have HLt : Hid (∀ k, LS B v dv k → k < w1.heap.size) := Lib.hid (fun k hk => (HL1.out.lt k hk).2)
  go_wp2_with fail
  refine (NW.out w1).mono ?_
  rintro _ w2 ⟨rfl, hm2, hb2⟩
  have HM2 := Lib.hid hm2
  have HL2 := Lib.hid (HL1.out.below hb2)
  have HB2 := Lib.hid (two_below' HB1.out hb2)
  have HBm : Hid (w.heap.size ≤ w1.heap.size) := Lib.hid HB1.out.size
  have HSz2 : Hid (w1.heap.size < w2.heap.size) := Lib.hid HM2.out.row.lt
  clear hm2 hb2 HL1 HB1
  generalize w1.heap.size = Bm at *
  go_wp2_with fail
  refine (NW.out w2).mono ?_
  rintro _ w3 ⟨rfl, hn3, hb3⟩
  have HN3 := Lib.hid hn3
  have HM3 := Lib.hid (HM2.out.below hb3)
  have HL3 := Lib.hid (HL2.out.below hb3)
  have HB3 := Lib.hid (two_below' HB2.out hb3)
  have HBn : Hid (w.heap.size ≤ w2.heap.size) := Lib.hid HB2.out.size
  have HSz3 : Hid (w2.heap.size < w3.heap.size) := Lib.hid HN3.out.row.lt
  clear hn3 hb3 HL2 HM2 HB2 NW
  generalize w2.heap.size = Bn at *
  go_wp2_with fail
  refine (AW.out _ HB3.out).mono ?_
  rintro _ w4 ⟨rfl, hb4⟩
  have HN4 := Lib.hid (HN3.out.below hb4)
  have HM4 := Lib.hid (HM3.out.below hb4)
  have HL4 := Lib.hid (HL3.out.below hb4)
  have HB4 := Lib.hid (two_below' HB3.out hb4)
  have HSz4 : Hid (Bn < w4.heap.size) := Lib.hid (Nat.lt_of_lt_of_le HSz3.out hb4.size)
  clear hb4 HN3 HM3 HL3 HB3 AW HSz3
  go_wp2_with fail
  refine (HL4.out.all).mono ?_
  rintro _ w5 ⟨⟨u, rfl, ho⟩, hb5⟩
  have hA5 : ∀ k, u.ownBlock = some k → w4.heap.size ≤ k := fun k hk => (ho.own.lt k hk).1
  obtain ⟨A, c, rfl, hs5⟩ := ho.slR19 HGd.out.fits (by have := hlen.out; omega)
  have HAw : Hid (∀ a, A = some a → w4.heap.size ≤ a.block) := Lib.hid (fun a ha => by
    subst ha
    rcases ho.own.2 with ⟨e3, hn⟩ | ⟨g, cap, cur, e3, hbs, _⟩
    · injection e3 with e1 e2 e3
      cases e1
    · injection e3 with e1 e2 e3
      cases e1
      exact hbs)
  have HS5 := Lib.hid hs5
  have HN5 := Lib.hid (HN4.out.below hb5)
  have HM5 := Lib.hid (HM4.out.below hb5)
  have HL5 := Lib.hid (HL4.out.below hb5)
  have HB5 := Lib.hid (two_below' HB4.out hb5)
  have HSz5 : Hid (Bn < w5.heap.size) := Lib.hid (Nat.lt_of_lt_of_le HSz4.out hb5.size)
  clear ho hb5 hA5 hs5 HN4 HM4 HL4 HB4
  have HLSn : Hid (∀ q k : Nat, LS q (.slice none 0 0) (.slice none 0 0) k → k = q) := Lib.hid (fun q k hk => by
    rcases hk with h | h | h
    · exact h
    · cases h
    · cases h)
  obtain ⟨n, hn⟩ : ∃ n, rs.length = n := ⟨_, rfl⟩
  rw [hn]
  have HN := Lib.hid hn
  have hn40 : n ≤ 40 := by have := hlen.out; omega
  clear hn
  -- all stays
  have HSA : Hid (∀ W, LTo w5 W Bm Bm (.slice none 0 0) (.slice none 0 0) rs → SlR W W.heap.size A c rs) := Lib.hid (fun W h => (HS5.out.chg h.chg19 (Nat.le_refl _) (fun a ha q => by have := HAw.out a ha; have := HLSn.out _ _ q; have := HSz4.out; have := HSz2.out; omega)).mono h.chg19.size)
  have HLow5 : Hid (∀ W a, LTo w5 W Bm Bm (.slice none 0 0) (.slice none 0 0) a → Below w.heap.size w W) := Lib.hid (fun W a h => below_chg HB5.out h.chg19 HB5.out.size (fun k hk => by have := HLSn.out _ _ hk; have := HBm.out; omega))
  have HLd : Hid (∀ W i (hi : i < rs.length), LTo w5 W Bm Bm (.slice none 0 0) (.slice none 0 0) (rs.take i) → Calls Tryd.prog 11 #[.pointer (some ⟨Bm, 0, none⟩), .agg rs[i].cells.toArray] W fun e w' => e = .returned (.int .i64 0) ∧ LTo w5 w' Bm Bm (.slice none 0 0) (.slice none 0 0) (rs.take (i + 1))) := Lib.hid (fun W i hi h => by
    have := h.loadY rs[i] (HGd.out.fits _ (List.getElem_mem hi)) (HT.out _ (HLow5.out _ _ h)) (by rw [List.length_take]; have := hlen.out; omega) (HGd.out.loads i hi)
    rwa [take_snoc hi] at this)
  have HRn : Hid (∀ W a i (hi : i < rs.length), LTo w5 W Bm Bm (.slice none 0 0) (.slice none 0 0) a → ∃ gA oA, A = some ⟨gA, oA, none⟩ ∧ W.rangeAt gA (oA + i * 68) rs[i].cells) := Lib.hid (fun W a i hi h => by
    have hs := HS5.out.chg h.chg19 (Nat.le_refl _) (fun a ha q => by have := HAw.out a ha; have := HLSn.out _ _ q; have := HSz4.out; have := HSz2.out; omega)
    obtain ⟨gA, oA, e, _, hat⟩ := hs.1 (by intro e; rw [e] at hi; simp at hi)
    exact ⟨gA, oA, e, hat i hi⟩)
  have HSt : Hid (LTo w5 w5 Bm Bm (.slice none 0 0) (.slice none 0 0) (rs.take 0)) := Lib.hid (HM5.out.to (Below.refl _ _))
  go_wp2_with fail
  go_loopw [9] (fun s9 wr => ∃ i : Nat, i ≤ n ∧ s9 = .int .i64 i ∧ LTo w5 wr Bm Bm (.slice none 0 0) (.slice none 0 0) (rs.take i)) (fun s9 _ => n - (intOf s9).toNat)
  case atStart => exact ⟨0, Nat.zero_le _, rfl, HSt.out⟩
  case round =>
    obtain ⟨i, hi, rfl, ht⟩ := hrel
    have HTo := Lib.hid ht
    clear ht HSt
    have hi0 : (0 : Int) ≤ (i : Int) := by omega
    by_cases hin : i < n
    · have hii : (i : Int) < (n : Int) := by omega
      have hil : i < rs.length := by rw [HN.out]; exact hin
      obtain ⟨gA, oA, rfl, hrg⟩ := HRn.out _ _ i hil HTo.out
      have hf := HGd.out.fits _ (List.getElem_mem hil)
      have HC68 := Lib.hid (Rp.cells_len hf.prev hf.hash)
      have CL := Lib.hid (HLd.out wr i hil HTo.out)
      have HRg := Lib.hid hrg
      clear hrg hf
      generalize rs[i].cells = C at *
      clear hil
      go_wp2_with (first
      | ((with_reducible show wpList _ _ _ (⟨_, .load 30 (.tmp 41), _, _, _, _⟩ :: _) _ _); refine wpList_load_tx rfl 30 (.tmp 41) rfl gA (oA + i * 68) (rfl) C _ (HRg.out) Tryd.underlying30 rfl (by rw [rp_info, HC68.out]) ?_))
      refine CL.out.mono ?_
      rintro _ w6 ⟨rfl, ht6⟩
      have HT6 := Lib.hid ht6
      clear ht6 CL
      go_wp2_with fail
      exact ⟨⟨i + 1, by omega, by go_num, HT6.out⟩, by simp [intOf]; omega⟩
    · have hii : ¬ (i : Int) < (n : Int) := by omega
      have hri : rs.take i = rs := List.take_of_length_le (by rw [HN.out]; omega)
      rw [hri] at HTo
      clear hri hin HLd HRn
      go_wp2_with fail
      refine (HTo.out.all).mono ?_
      rintro _ w7 ⟨⟨u2, rfl, ho⟩, hb7⟩
      obtain ⟨A2, c2, rfl, hs7⟩ := ho.slR19 HGd.out.fits (by have := hlen.out; omega)
      have HTo7 := Lib.hid (HTo.out.below19 hb7)
      have HS7 := Lib.hid hs7
      have HSA7 := Lib.hid (HSA.out _ HTo7.out)
      have SM := Lib.hid (same19_any rs A2 A c2 c w7 HS7.out HSA7.out)
      rw [HN.out] at SM ⊢
      clear ho hb7 hs7 HS7 HTo
      go_wp2_with fail
      refine SM.out.mono ?_
      rintro _ w8 ⟨rfl, hb8⟩
      have HTo8 := Lib.hid (HTo7.out.below19 hb8)
      clear hb8 SM HTo7 HSA7
      have HH1 := Lib.hid HTo8.out.head
      have heqH := fun W => (hash_eq W (Od.head rs) (Od.head rs) HGd.out.head HGd.out.head).trans (by rw [decide_eq_true rfl])
      have HLl : Hid (∀ W, LTo w5 W Bm Bm (.slice none 0 0) (.slice none 0 0) rs → LogAt W w.heap.size B v dv rs) := Lib.hid (fun W h => HL5.out.chg h.chg19 (fun k hk q => by have := HLSn.out _ _ q; have := HLt.out k hk; omega))
      have HH2 : Hid (∀ W, LTo w5 W Bm Bm (.slice none 0 0) (.slice none 0 0) rs → Calls Tryd.prog 26 #[.pointer (some ⟨B, 0, none⟩)] W fun e w' => e = .returned (.agg (bRow (Od.head rs))) ∧ Below W.heap.size W w') := Lib.hid (fun W h => (HLl.out W h).head)
      generalize bRow (Od.head rs) = HA at *
      go_wp2_with fail
      refine HH1.out.mono ?_
      rintro _ w9 ⟨rfl, hb9⟩
      have HTo9 := Lib.hid (HTo8.out.below19 hb9)
      clear hb9 HH1 HTo8
      go_wp2_with fail
      refine (HH2.out _ HTo9.out).mono ?_
      rintro _ w10 ⟨rfl, hb10⟩
      have HToA := Lib.hid (HTo9.out.below19 hb10)
      have HLowA := Lib.hid (HLow5.out _ _ HToA.out)
      clear hb10 HH2 HTo9 HLl
      by_cases hn0 : n = 0
      · subst hn0
        go_wp2_with fail
        go_ret
        exact ⟨rfl, HLowA.out⟩
      · have dn : ((n : Int) = 0) = False := by simp; omega
        have dn'' : (n = 0) = False := by simp; omega
        have dnb : ((n : Int) == 0) = false := by simp; omega
        have dnd : decide ((n : Int) = 0) = false := decide_eq_false (by omega)
        have dnd2 : decide (n = 0) = false := decide_eq_false (by omega)
        obtain ⟨k, hk⟩ : ∃ k : Nat, sk % (n : Int) = (k : Int) := Int.eq_ofNat_of_zero_le (Int.emod_nonneg _ (by omega))
        have hkn : k < n := by have := Int.emod_lt_of_pos sk (show (0 : Int) < (n : Int) by omega); omega
        have hrem : Int.tmod sk (n : Int) = (k : Int) := by rw [Int.tmod_eq_emod_of_nonneg hsk.1]; exact hk
        have esk : IntKind.i64.wrap sk = sk := IntWalk.i64_in _ (by omega)
        have ekk : IntKind.i64.wrap (k : Int) = (k : Int) := IntWalk.i64_in _ (by omega)
        have HNA : Hid (LogAt w10 Bn Bn (.slice none 0 0) (.slice none 0 0) []) := Lib.hid (HN5.out.chg HToA.out.chg19 (fun k hk q => by have := HLSn.out _ _ q; have := HLSn.out _ _ hk; have := HSz2.out; omega))
        have HSAA := Lib.hid (HSA.out _ HToA.out)
        have HBnA : Hid (Bn < w10.heap.size) := Lib.hid HNA.out.row.lt
        clear HSA HLow5 HToA HN5 HM5 HL5 HS5
        have HLow : Hid (∀ W a, LTo w10 W Bn Bn (.slice none 0 0) (.slice none 0 0) a → Below w.heap.size w W) := Lib.hid (fun W a h => below_chg HLowA.out h.chg19 HLowA.out.size (fun k hk => by have := HLSn.out _ _ hk; have := HBn.out; omega))
        have HRn : Hid (∀ W a i (hi : i < rs.length), LTo w10 W Bn Bn (.slice none 0 0) (.slice none 0 0) a → ∃ gA oA, A = some ⟨gA, oA, none⟩ ∧ W.rangeAt gA (oA + i * 68) rs[i].cells) := Lib.hid (fun W a i hi h => by
          have hs := HSAA.out.chg h.chg19 (Nat.le_refl _) (fun a ha q => by have := HAw.out a ha; have := HLSn.out _ _ q; have := HSz4.out; omega)
          obtain ⟨gA, oA, e, _, hat⟩ := hs.1 (by intro e; rw [e] at hi; simp at hi)
          exact ⟨gA, oA, e, hat i hi⟩)
        have HLy : Hid (∀ W i (hi : i < rs.length), LTo w10 W Bn Bn (.slice none 0 0) (.slice none 0 0) (rs.take i) → Calls Tryd.prog 11 #[.pointer (some ⟨Bn, 0, none⟩), .agg rs[i].cells.toArray] W fun e w' => e = .returned (.int .i64 0) ∧ LTo w10 w' Bn Bn (.slice none 0 0) (.slice none 0 0) (rs.take (i + 1))) := Lib.hid (fun W i hi h => by
          have := h.loadY rs[i] (HGd.out.fits _ (List.getElem_mem hi)) (HT.out _ (HLow.out _ _ h)) (by rw [List.length_take]; have := hlen.out; omega) (HGd.out.loads i hi)
          rwa [take_snoc hi] at this)
        have HLn : Hid (∀ W i (hi : i < rs.length), k < i → LTo w10 W Bn Bn (.slice none 0 0) (.slice none 0 0) (rs.take k) → Calls Tryd.prog 11 #[.pointer (some ⟨Bn, 0, none⟩), .agg rs[i].cells.toArray] W fun e w' => e = .returned (.int .i64 7) ∧ LTo w10 w' Bn Bn (.slice none 0 0) (.slice none 0 0) (rs.take k)) := Lib.hid (fun W i hi hki h =>
          h.loadN rs[i] (HGd.out.fits _ (List.getElem_mem hi)) (HT.out _ (HLow.out _ _ h)) (by rw [List.length_take]; have := hlen.out; omega) (HGd.out.noload k i hki hi))
        have HSt : Hid (LTo w10 w10 Bn Bn (.slice none 0 0) (.slice none 0 0) (rs.take (min 0 k))) := Lib.hid (by rw [Nat.zero_min]; exact HNA.out.to (Below.refl _ _))
        clear HNA HSAA hk hsk HT hn0
        go_wp2_with fail
        clear hrem esk ekk
        generalize wr = wo at *
        go_loopw [11] (fun s11 wr => ∃ i : Nat, i ≤ n ∧ s11 = .int .i64 i ∧ LTo w10 wr Bn Bn (.slice none 0 0) (.slice none 0 0) (rs.take (min i k))) (fun s11 _ => n - (intOf s11).toNat)
        case atStart => exact ⟨0, Nat.zero_le _, rfl, HSt.out⟩
        case round =>
          obtain ⟨j, hj, rfl, ht⟩ := hrel
          have HTo := Lib.hid ht
          clear ht HSt
          have hj0 : (0 : Int) ≤ (j : Int) := by omega
          by_cases hjn : j < n
          · have hjj : (j : Int) < (n : Int) := by omega
            have hjl : j < rs.length := by rw [HN.out]; exact hjn
            rcases Nat.lt_trichotomy j k with hjk | hjk | hjk
            · rw [Nat.min_eq_left (by omega)] at HTo
              obtain ⟨gA, oA, rfl, hrg⟩ := HRn.out _ _ j hjl HTo.out
              have hf := HGd.out.fits _ (List.getElem_mem hjl)
              have HC68 := Lib.hid (Rp.cells_len hf.prev hf.hash)
              have CL := Lib.hid (HLy.out wr j hjl HTo.out)
              have HRg := Lib.hid hrg
              clear hrg hf
              generalize rs[j].cells = C at *
              clear hjl
              have d1 : ((j : Int) = (k : Int)) = False := by simp; omega
              have d1b : ((j : Int) == (k : Int)) = false := by simp; omega
              have d1e : ((j : Int) != (k : Int)) = true := by simp; omega
              have d1f : (j != k) = true := by simp; omega
              have d1g : (j == k) = false := by simp; omega
              have d1c : decide ((j : Int) = (k : Int)) = false := decide_eq_false (by omega)
              have d1n : (j = k) = False := by simp; omega
              have d2 : decide ((j : Int) < (k : Int)) = true := decide_eq_true (by omega)
              have d2n : decide (j < k) = true := decide_eq_true (by omega)
              go_wp2_with (first
              | ((with_reducible show wpList _ _ _ (⟨_, .load 30 (.tmp 83), _, _, _, _⟩ :: _) _ _); refine wpList_load_tx rfl 30 (.tmp 83) rfl gA (oA + j * 68) (rfl) C _ (HRg.out) Tryd.underlying30 rfl (by rw [rp_info, HC68.out]) ?_))
              refine CL.out.mono ?_
              rintro _ w6 ⟨rfl, ht6⟩
              have HT6 := Lib.hid ht6
              clear ht6 CL
              go_wp2_with fail
              exact ⟨⟨j + 1, by omega, by go_num, by rw [Nat.min_eq_left (by omega)]; exact HT6.out⟩, by simp [intOf]; omega⟩
            · subst hjk
              rw [Nat.min_self] at HTo
              go_wp2_with fail
              exact ⟨⟨j + 1, by omega, by go_num, by rw [Nat.min_eq_right (by omega)]; exact HTo.out⟩, by simp [intOf]; omega⟩
            · rw [Nat.min_eq_right (by omega)] at HTo
              obtain ⟨gA, oA, rfl, hrg⟩ := HRn.out _ _ j hjl HTo.out
              have hf := HGd.out.fits _ (List.getElem_mem hjl)
              have HC68 := Lib.hid (Rp.cells_len hf.prev hf.hash)
              have CL := Lib.hid (HLn.out wr j hjl hjk HTo.out)
              have HRg := Lib.hid hrg
              clear hrg hf
              generalize rs[j].cells = C at *
              clear hjl
              have d1 : ((j : Int) = (k : Int)) = False := by simp; omega
              have d1b : ((j : Int) == (k : Int)) = false := by simp; omega
              have d1e : ((j : Int) != (k : Int)) = true := by simp; omega
              have d1f : (j != k) = true := by simp; omega
              have d1g : (j == k) = false := by simp; omega
              have d1c : decide ((j : Int) = (k : Int)) = false := decide_eq_false (by omega)
              have d1n : (j = k) = False := by simp; omega
              have d2 : decide ((j : Int) < (k : Int)) = false := decide_eq_false (by omega)
              have d2n : decide (j < k) = false := decide_eq_false (by omega)
              go_wp2_with (first
              | ((with_reducible show wpList _ _ _ (⟨_, .load 30 (.tmp 83), _, _, _, _⟩ :: _) _ _); refine wpList_load_tx rfl 30 (.tmp 83) rfl gA (oA + j * 68) (rfl) C _ (HRg.out) Tryd.underlying30 rfl (by rw [rp_info, HC68.out]) ?_))
              refine CL.out.mono ?_
              rintro _ w6 ⟨rfl, ht6⟩
              have HT6 := Lib.hid ht6
              clear ht6 CL
              go_wp2_with fail
              exact ⟨⟨j + 1, by omega, by go_num, by rw [Nat.min_eq_right (by omega)]; exact HT6.out⟩, by simp [intOf]; omega⟩
          · have hjj : ¬ (j : Int) < (n : Int) := by omega
            have HLk : Hid (Calls Tryd.prog 16 #[.pointer (some ⟨Bn, 0, none⟩)] wr fun e w' => e = .returned (.int .i64 k) ∧ wr = w') := Lib.hid (by
              have := HTo.out.lenC
              rwa [show (rs.take (min j k)).length = k by rw [List.length_take, HN.out]; omega] at this)
            have HLowZ := Lib.hid (HLow.out _ _ HTo.out)
            clear HTo HLow HLy HLn HRn
            go_wp2_with fail
            refine HLk.out.mono ?_
            rintro _ _ ⟨rfl, rfl⟩
            go_wp2_with fail
            go_ret
            exact ⟨by simp, HLowZ.out⟩
end Go.Proofs.YtgdijbcoacgadaaDoor
