/- The law DigestTurned: what its function returns. -/
import Derived.Test.YtdifbndpgbdkbaaDoorShaProof2
import Derived.Test.YtdifbndpgbdkbaaDoorShaProves2
import Derived.Test.YtdifbndpgbdkbaaDoorShaAwk
import Derived.Test.YtdifbndpgbdkbaaDoorSealLaw3
namespace Go.Proofs.YtdifbndpgbdkbaaDoor
open Go.RowKit
set_option linter.unusedVariables false
set_option linter.unusedSimpArgs false

theorem hcells_at (P : List (List UInt8)) (h : ∀ p ∈ P, p.length = 32) : ∀ (k j : Nat), k < P.length → j < 32 → (hcells P)[k * 32 + j]? = (bRow (P.getD k []))[j]? := by
  induction P with
  | nil => intro k j hk; simp at hk
  | cons p P ih =>
    intro k j hk hj
    have h1 : (bRow p).toList.length = 32 := by rw [Array.length_toList, bRow_size p (by rw [h p (by simp)]; omega)]
    have e : hcells (p :: P) = (bRow p).toList ++ hcells P := by unfold hcells; simp
    rw [e]
    cases k with
    | zero =>
      rw [List.getElem?_append_left (by omega)]
      simp [List.getD]
    | succ k =>
      rw [List.getElem?_append_right (by omega), h1, show (k + 1) * 32 + j - 32 = k * 32 + j by omega, ih (fun q hq => h q (by simp [hq])) k j (by simpa using hk) hj]
      simp [List.getD]
/-- hashes that a call has laid in a row -/
theorem owns_hashes {w : World} {base : Nat} {v : Value} {P : List (List UInt8)} (h : w.ownsRow base 24 32 v P.length (hcells P)) (h32 : ∀ p ∈ P, p.length = 32) :
    ∃ A cap, v = .slice A P.length cap ∧ Hashes w A P := by
  obtain ⟨hl, ⟨rfl, h0⟩ | ⟨g, cap, cur, rfl, hg, hh, hnc, hcm, hcs, htk⟩⟩ := h
  · rw [h0]
    exact ⟨none, 0, rfl, fun hne => absurd (List.eq_nil_of_length_eq_zero h0) hne⟩
  · have hgs : g < w.heap.size := by
      rcases Nat.lt_or_ge g w.heap.size with h1 | h1
      · exact h1
      · rw [Array.getElem?_eq_none h1] at hh; cases hh
    refine ⟨some ⟨g, 0, none⟩, cap, rfl, fun hne => ⟨g, 0, rfl, hgs, fun k hk j v hj => ?_⟩⟩
    have hp : (P.getD k []).length = 32 := by
      rw [List.getD_eq_getElem?_getD, List.getElem?_eq_getElem hk, Option.getD_some]
      exact h32 _ (List.getElem_mem hk)
    have hj32 : j < 32 := by
      have := (List.getElem?_eq_some_iff.1 hj).1
      rw [Array.length_toList, bRow_size _ (by omega)] at this
      exact this
    rw [cell_of_row w g _ cur _ (0, 0) hh]
    have h2 := hcells_at P h32 k j hk hj32
    rw [← htk, List.getElem?_take, if_pos (by omega)] at h2
    have e : 0 + k * 32 + j = k * 32 + j := by omega
    rw [e, ← Array.getElem?_toList, h2]
    simpa using hj
theorem Lies.take_min {w : World} {B b off : Nat} {L : List (List UInt8)} (h : Lies w B b off L) : Lies w B b off (L.take 100) := h.take 100
set_option maxHeartbeats 2000000 in
set_option maxRecDepth 100000 in
theorem turned_out (A : Option Addr) (n cap : Nat) (i bit : Int) (w : World) (hT : Tab w) (hc : n ≤ cap) (hn : n ≤ 9223372036854775807) (h : i < 0 ∨ ((min n 100 : Nat) : Int) ≤ i) :
    Calls Tryd.prog 8 #[.slice A n cap, .int .i64 i, .int .i64 bit] w fun e w' => e = .returned (.bool true) ∧ Below w.heap.size w w' := by
  have HT := Lib.hid hT
  have hpos := hT.pos
  have hf := few_any A n cap w hc hn
  generalize min n 100 = m at *
  have HF := Lib.hid hf
  clear hT hf
  by_cases h0 : i < 0
  · go_enter Tryd.func8, Tryd.ntmps8
    go_wp2_with fail
    refine HF.out.mono ?_
    rintro e w' ⟨rfl, rfl⟩
    go_wp2_with fail
    refine (awake_any w HT.out).mono ?_
    rintro e w1 ⟨rfl, hb1⟩
    go_wp2_with fail
    refine (awake_any w1 (HT.out.below hb1 hpos)).mono ?_
    rintro e w2 ⟨rfl, hb2⟩
    go_wp2_with fail
    go_ret
    exact ⟨rfl, hb1.trans (hb2.mono hb1.size)⟩
  · have h1 : 0 ≤ i := by omega
    have h2 : (m : Int) ≤ i := by omega
    clear h0 h
    go_enter Tryd.func8, Tryd.ntmps8
    go_wp2_with fail
    refine HF.out.mono ?_
    rintro e w' ⟨rfl, rfl⟩
    go_wp2_with fail
    refine (awake_any w HT.out).mono ?_
    rintro e w1 ⟨rfl, hb1⟩
    go_wp2_with fail
    refine (awake_any w1 (HT.out.below hb1 hpos)).mono ?_
    rintro e w2 ⟨rfl, hb2⟩
    go_wp2_with fail
    go_ret
    exact ⟨rfl, hb1.trans (hb2.mono hb1.size)⟩
theorem u64_parts (bit : Int) : ∃ (u q : Int) (j k : Nat), IntKind.u64.wrap bit = u ∧ 0 ≤ u ∧ IntKind.u64.wrap (u / 8) = q ∧ IntKind.u64.wrap (u.tdiv 8) = q ∧ 0 ≤ q ∧ q % 32 = (j : Int) ∧ q.tmod 32 = (j : Int) ∧ u % 8 = (k : Int) ∧ u.tmod 8 = (k : Int) ∧ j < 32 ∧ k < 8 := by
  have h0 : 0 ≤ IntKind.u64.wrap bit ∧ IntKind.u64.wrap bit < 18446744073709551616 := by rw [IntKind.wrap_u64]; omega
  generalize IntKind.u64.wrap bit = u at *
  have ht : u.tdiv 8 = u / 8 := Int.tdiv_eq_ediv_of_nonneg h0.1
  have hq : IntKind.u64.wrap (u / 8) = u / 8 := by rw [IntKind.wrap_u64]; omega
  refine ⟨u, u / 8, (u / 8 % 32).toNat, (u % 8).toNat, rfl, h0.1, hq, by rw [ht, hq], by omega, by omega, ?_, by omega, ?_, by omega, by omega⟩
  · rw [Int.tmod_eq_emod_of_nonneg (by omega)]; omega
  · rw [Int.tmod_eq_emod_of_nonneg h0.1]; omega
set_option maxHeartbeats 4000000 in
set_option maxRecDepth 100000 in
theorem turned_in (L : List (List UInt8)) (b off n cap i : Nat) (bit : Int) (w : World) (hT : Tab w) (hL : Lies w w.heap.size b off L) (hS : Small L) (hLn : L.length = min n 100) (hc : n ≤ cap) (hn : n ≤ 9223372036854775807) (hi : i < L.length) (hS2 : ∀ k, k < L.length → (L.getD k []).length ≤ 140737488351232) :
    Calls Tryd.prog 8 #[.slice (some ⟨b, off, none⟩) n cap, .int .i64 i, .int .i64 bit] w fun e w' => e = .returned (.bool true) ∧ Below w.heap.size w w' := by
  obtain ⟨u, q, j, k, e1, hu0, e2, e3, hq0, e4, e5, e6, e7, hj, hk⟩ := u64_parts bit
  have hj1 : (j : Int) < 32 := by omega
  have hj0 : (0 : Int) ≤ (j : Int) := by omega
  have hk1 : (k : Int) < 8 := by omega
  have hk0 : (0 : Int) ≤ (k : Int) := by omega
  have HT := Lib.hid hT
  have hpos := hT.pos
  have hf := few_any (some ⟨b, off, none⟩) n cap w hc hn
  rw [← hLn] at hf
  have hcap : L.length ≤ cap := by omega
  have hbig : L.length ≤ 9223372036854775807 := by omega
  have hpf := fun (w' : World) (hb : Below w.heap.size w w') => Proof_in L b off cap i w' (hT.below hb hpos) ((hL.below hb (Nat.le_refl _)).mono hb.size) hS hcap hbig hi
  have hrt := fun (w' : World) (hb : Below w.heap.size w w') => root_some L.length L b off cap w' rfl (hT.below hb hpos) ((hL.below hb (Nat.le_refl _)).mono hb.size) hS hcap hbig
  have hP32 := Sha.proof_all L.length L i rfl
  have hnot := Sha.proves_other
  obtain ⟨R, hR⟩ : ∃ R, R = Sha.root L := ⟨_, rfl⟩
  have hRl : R.length = 32 := by rw [hR, Sha.root_len]
  rw [← hR] at hrt
  have hcell := hL.2 i hi
  have hblt := hL.1
  have hi1 : (i : Int) < (L.length : Int) := by omega
  have HF := Lib.hid hf
  have HPF := Lib.hid hpf
  have HRT := Lib.hid hrt
  have HP32 := Lib.hid hP32
  have HR := Lib.hid hR
  have HRl := Lib.hid hRl
  have HCell := Lib.hid hcell
  have I24 := Lib.hid (i24_any R (by omega))
  have Hold := Lib.hid (bRow_same [] R (by simp) (by omega))
  have HLn := Lib.hid hLn
  have HS2 := Lib.hid hS2
  clear hT hL hS hf hpf hrt hP32 hR hRl hcell hLn hc hn hnot hS2
  go_enter Tryd.func8, Tryd.ntmps8
  go_wp2_with fail
  refine HF.out.mono ?_
  rintro e w' ⟨rfl, rfl⟩
  go_wp2_with fail
  refine (awake_any w HT.out).mono ?_
  rintro e w1 ⟨rfl, hb1⟩
  go_wp2_with fail
  refine (HPF.out w1 hb1).mono ?_
  rintro e w2 ⟨v, rfl, hown, hb2⟩
  have hb2 := hb1.trans (hb2.mono hb1.size)
  have HO := Lib.hid hown
  clear hown
  go_wp2_with fail
  refine (HRT.out w2 hb2).mono ?_
  rintro e w3 ⟨rfl, hb3⟩
  have HO3 := Lib.hid (owns_below HO.out hb3)
  have hb3 := hb2.trans (hb3.mono hb2.size)
  have hlt3 : w.heap.size ≤ w3.heap.size := hb3.size
  go_wp2_with (refine wpList_store_named rfl 24 (.tmp 9) (.tmp 32) rfl w3.heap.size (bRow R) rfl rfl (bRow []) (Holds.new2 rfl rfl) I24.out Hold.out (bRow_one _) ?_; intro w5 hw5
               have H5 := Lib.hid (show Holds w5 w3.heap.size (bRow R) by rw [hw5]; exact (Holds.new2 rfl rfl).row _)
               have hb5r := (show Below w3.heap.size w3 w5 by rw [hw5]; exact below_setRow ((Below.refl _ _).alloc (Nat.le_refl _) _) (Nat.le_refl _) _)
               have hb5 := hb3.trans (hb5r.mono hb3.size)
               have HO5 := Lib.hid (owns_below HO3.out hb5r)
               have qx := (H5.out.cell j).trans (bRow_at R HRl.out j hj)
               have qf := H5.out.free j
               obtain ⟨y, hy, hyne⟩ := flip_any (R.getD j 0) k hk
               have hUR := set_ne R j y (by rw [HRl.out]; omega) hyne
               have hUl : (R.set j y).length = 32 := by rw [List.length_set, HRl.out]
               have h8 := H5.out.set_ j (.int .u8 (y.toNat : Int))
               rw [bRow_put R HRl.out] at h8
               have H8 := Lib.hid h8
               have hb8r := hb5r.setCell (p := ⟨w3.heap.size, j, none⟩) (Nat.le_refl _) (.int .u8 (y.toNat : Int))
               have hb8 := hb3.trans (hb8r.mono hb3.size)
               have HO8 := Lib.hid (owns_below HO3.out hb8r)
               have HUR := Lib.hid hUR
               have HUl := Lib.hid hUl
               clear hw5 hyne h8 hUR hUl
               generalize (R.getD j 0) = x0 at *)
  clear e1 e2 e3 e4 e5 e6 e7 hu0 hq0
  have hP32 := HP32.out
  obtain ⟨B, c, rfl, hHs⟩ := owns_hashes HO8.out hP32
  have hpr : Sha.proves (R.set j y) L.length i (L.getD i []) (Sha.proof L i) = false := Sha.proves_other (R.set j y) L i hi (by rw [← HR.out]; exact HUR.out)
  have hs : (⟨(L.getD i []).toArray⟩ : ByteArray).size ≤ 1152921504606846000 := by
    show (L.getD i []).length ≤ _
    have := HS2.out i hi
    omega
  have hcp : ∀ w' : World, Below (w5.setCell ⟨w3.heap.size, j, none⟩ (.int .u8 (y.toNat : Int))).heap.size (w5.setCell ⟨w3.heap.size, j, none⟩ (.int .u8 (y.toNat : Int))) w' →
      Calls Tryd.prog 24 #[.agg (bRow (R.set j y)), .int .i64 L.length, .int .i64 i, S (L.getD i []), .slice B (Sha.proof L i).length c] w' fun e w'' => e = .returned (.bool false) ∧ Below w'.heap.size w' w'' := fun w' hb => by
    have h := Proves_any (R.set j y) L.length i ⟨(L.getD i []).toArray⟩ B (Sha.proof L i) c w' (HT.out.below (hb8.trans (hb.mono hb8.size)) hpos) HUl.out (hHs.below hb (Nat.le_refl _)) hP32 (by omega) hs
    rw [if_neg (by omega), Int.toNat_natCast, Int.toNat_natCast] at h
    have h2 : Sha.proves (R.set j y) L.length i (⟨(L.getD i []).toArray⟩ : ByteArray).data.toList (Sha.proof L i) = false := hpr
    rw [h2] at h
    exact h
  have HCP := Lib.hid hcp
  generalize (Sha.proof L i).length = m at *
  have hcell := fun (w' : World) (hb : Below (w5.setCell ⟨w3.heap.size, j, none⟩ (.int .u8 (y.toNat : Int))).heap.size (w5.setCell ⟨w3.heap.size, j, none⟩ (.int .u8 (y.toNat : Int))) w') =>
    ((hb8.trans (hb.mono hb8.size)).cell (p := ⟨b, off + i, none⟩) hblt).trans HCell.out
  have HC2 := Lib.hid hcell
  clear hcp hpr hs hHs hP32 qx qf hy hcell
  obtain ⟨w8, hw8⟩ : ∃ w8, w8 = w5.setCell ⟨w3.heap.size, j, none⟩ (.int .u8 (y.toNat : Int)) := ⟨_, rfl⟩
  rw [← hw8] at HCP H8 hb8 HC2
  rw [← hw8]
  clear hw8 HO8 hb8r
  have hu := Tryd.underlying24
  have hUi : (Tryd.prog.info? 24).map (·.size) = some (bRow (R.set j y)).toList.length := by
    have := i24_any (R.set j y) (by rw [HUl.out]; omega)
    rw [Array.length_toList]; exact this
  have HN8 : Hid (w3.heap.size < w8.heap.size) := H8.out.lt
  generalize bRow (R.set j y) = T at *
  generalize L.getD i [] = tx at *
  clear HPF HO HO3 HO5 HUR HUl HS2
  have hkeep0 : Below w8.heap.size w8 w8.drew := (Below.refl _ _).drew
  refine wp_region_noPanic ?_
  refine wp_region_held_drew (S := fun w' => Below w8.heap.size w8 w') (by kernel_rfl) (hkeep0) (fun hHeld => ?_)
  generalize w8.drew = w9 at *
  refine wpAnyH_take (i := 0) (v := .int .i64 0) rfl (by kernel_rfl) (by kernel_rfl) (by kernel_rfl) (fun _ _ _ h => h) (Or.inl ⟨by rfl, fun w' hSw => by go_simp⟩) hHeld ?_
  try simp only [Act.put, List.getElem_toArray, List.getElem_cons_succ, List.getElem_cons_zero, List.setIfInBounds_toArray, List.set_cons_zero, List.set_cons_succ]
  refine wpAnyH_take (i := 1) (v := .bool true) rfl (by kernel_rfl) (by kernel_rfl) (by kernel_rfl) (fun _ _ _ h => h) (Or.inl ⟨by rfl, fun w' hSw => by go_simp⟩) hHeld ?_
  try simp only [Act.put, List.getElem_toArray, List.getElem_cons_succ, List.getElem_cons_zero, List.setIfInBounds_toArray, List.set_cons_zero, List.set_cons_succ]
  refine wpAnyH_take (i := 2) (v := .bool true) rfl (by kernel_rfl) (by kernel_rfl) (by kernel_rfl) (fun _ _ _ h => h) (Or.inl ⟨by rfl, fun w' hSw => by go_simp⟩) hHeld ?_
  try simp only [Act.put, List.getElem_toArray, List.getElem_cons_succ, List.getElem_cons_zero, List.setIfInBounds_toArray, List.set_cons_zero, List.set_cons_succ]
  refine' wpAnyH_take (i := 3) (v := _) rfl (by kernel_rfl) (by kernel_rfl) (by kernel_rfl) (fun _ _ _ h => h) (yieldsIf_load_mid (by rfl) _ _ rfl w3.heap.size 0 rfl T.toList _ (fun w' hSw => (fun jj v hj2 => (hSw.cell (p := ⟨w3.heap.size, 0 + jj, none⟩) HN8.out).trans (by rw [Nat.zero_add, H8.out.cell jj]; simpa using hj2))) hu rfl hUi) hHeld ?_
  try simp only [Act.put, List.getElem_toArray, List.getElem_cons_succ, List.getElem_cons_zero, List.setIfInBounds_toArray, List.set_cons_zero, List.set_cons_succ]
  refine wpAnyH_take (i := 4) (v := .slice (some ⟨b, off, none⟩) L.length cap) rfl (by kernel_rfl) (by kernel_rfl) (by kernel_rfl) (fun _ _ _ h => h) (Or.inl ⟨by rfl, fun w' hSw => by go_simp⟩) hHeld ?_
  try simp only [Act.put, List.getElem_toArray, List.getElem_cons_succ, List.getElem_cons_zero, List.setIfInBounds_toArray, List.set_cons_zero, List.set_cons_succ]
  refine wpAnyH_take (i := 5) (v := .int .i64 L.length) rfl (by kernel_rfl) (by kernel_rfl) (by kernel_rfl) (fun _ _ _ h => h) (Or.inl ⟨by rfl, fun w' hSw => by go_simp⟩) hHeld ?_
  try simp only [Act.put, List.getElem_toArray, List.getElem_cons_succ, List.getElem_cons_zero, List.setIfInBounds_toArray, List.set_cons_zero, List.set_cons_succ]
  refine wpAnyH_take (i := 6) (v := .int .i64 i) rfl (by kernel_rfl) (by kernel_rfl) (by kernel_rfl) (fun _ _ _ h => h) (Or.inl ⟨by rfl, fun w' hSw => by go_simp⟩) hHeld ?_
  try simp only [Act.put, List.getElem_toArray, List.getElem_cons_succ, List.getElem_cons_zero, List.setIfInBounds_toArray, List.set_cons_zero, List.set_cons_succ]
  refine wpAnyH_take (i := 7) (v := .slice (some ⟨b, off, none⟩) L.length cap) rfl (by kernel_rfl) (by kernel_rfl) (by kernel_rfl) (fun _ _ _ h => h) (Or.inl ⟨by rfl, fun w' hSw => by go_simp⟩) hHeld ?_
  try simp only [Act.put, List.getElem_toArray, List.getElem_cons_succ, List.getElem_cons_zero, List.setIfInBounds_toArray, List.set_cons_zero, List.set_cons_succ]
  refine wpAnyH_take (i := 8) (v := .int .i64 i) rfl (by kernel_rfl) (by kernel_rfl) (by kernel_rfl) (fun _ _ _ h => h) (Or.inl ⟨by rfl, fun w' hSw => by go_simp⟩) hHeld ?_
  try simp only [Act.put, List.getElem_toArray, List.getElem_cons_succ, List.getElem_cons_zero, List.setIfInBounds_toArray, List.set_cons_zero, List.set_cons_succ]
  refine wpAnyH_take (i := 9) (v := .pointer (some ⟨b, off + i, none⟩)) rfl (by kernel_rfl) (by kernel_rfl) (by kernel_rfl) (fun _ _ _ h => h) (Or.inl ⟨by rfl, fun w' hSw => by go_simp⟩) hHeld ?_
  try simp only [Act.put, List.getElem_toArray, List.getElem_cons_succ, List.getElem_cons_zero, List.setIfInBounds_toArray, List.set_cons_zero, List.set_cons_succ]
  refine wpAnyH_take (i := 10) (v := S tx) rfl (by kernel_rfl) (by kernel_rfl) (by kernel_rfl) (fun _ _ _ h => h) (Or.inl ⟨by rfl, fun w' hSw => by have hq := hSw; have hcl := HC2.out w' hq; go_simp⟩) hHeld ?_
  try simp only [Act.put, List.getElem_toArray, List.getElem_cons_succ, List.getElem_cons_zero, List.setIfInBounds_toArray, List.set_cons_zero, List.set_cons_succ]
  refine wpAnyH_take (i := 11) (v := .slice B m c) rfl (by kernel_rfl) (by kernel_rfl) (by kernel_rfl) (fun _ _ _ h => h) (Or.inl ⟨by rfl, fun w' hSw => by go_simp⟩) hHeld ?_
  try simp only [Act.put, List.getElem_toArray, List.getElem_cons_succ, List.getElem_cons_zero, List.setIfInBounds_toArray, List.set_cons_zero, List.set_cons_succ]
  refine wpAnyH_ready (rs := [12]) (by kernel_rfl) (by simp) (AllReadyH.cons rfl (fun K1 hK1 => ?_) AllReadyH.nil)
  try simp only [Act.put, List.getElem_toArray, List.getElem_cons_succ, List.getElem_cons_zero, List.setIfInBounds_toArray, List.set_cons_zero, List.set_cons_succ]
  go_simp
  refine Calls.mono (HCP.out _ hHeld) ?_
  rintro e wa ⟨rfl, hba⟩
  refine hK1.out _ _ (hHeld.trans (hba.mono hHeld.size)) (fun hHeld => ?_)
  clear hK1 K1
  try simp only [Act.put, List.getElem_toArray, List.getElem_cons_succ, List.getElem_cons_zero, List.setIfInBounds_toArray, List.set_cons_zero, List.set_cons_succ]
  refine wpAnyH_take (i := 13) (v := .bool true) rfl (by kernel_rfl) (by kernel_rfl) (by kernel_rfl) (fun _ _ _ h => h) (Or.inl ⟨by rfl, fun w' hSw => by go_simp⟩) hHeld ?_
  try simp only [Act.put, List.getElem_toArray, List.getElem_cons_succ, List.getElem_cons_zero, List.setIfInBounds_toArray, List.set_cons_zero, List.set_cons_succ]
  refine wpAnyH_take (i := 14) (v := .bool true) rfl (by kernel_rfl) (by kernel_rfl) (by kernel_rfl) (fun _ _ _ h => h) (Or.inl ⟨by rfl, fun w' hSw => by go_simp⟩) hHeld ?_
  try simp only [Act.put, List.getElem_toArray, List.getElem_cons_succ, List.getElem_cons_zero, List.setIfInBounds_toArray, List.set_cons_zero, List.set_cons_succ]
  refine wpAnyH_take (i := 15) (v := .bool true) rfl (by kernel_rfl) (by kernel_rfl) (by kernel_rfl) (fun _ _ _ h => h) (Or.inl ⟨by rfl, fun w' hSw => by go_simp⟩) hHeld ?_
  try simp only [Act.put, List.getElem_toArray, List.getElem_cons_succ, List.getElem_cons_zero, List.setIfInBounds_toArray, List.set_cons_zero, List.set_cons_succ]
  refine wpAnyH_done (by kernel_rfl) ?_ _
  refine NoPanic.normal ?_
  have hbe := hb8.trans (hHeld.mono hb8.size)
  clear hkeep0 hHeld
  go_wp2_with fail
  go_ret
  exact ⟨rfl, hbe⟩
end Go.Proofs.YtdifbndpgbdkbaaDoor
