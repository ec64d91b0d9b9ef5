/- The law DigestChains: what its function returns. -/
import Derived.Test.YtdifbndpgbdkbaaDoorShaAwk
import Derived.Test.YtdifbndpgbdkbaaDoorShaRef4
import Derived.Test.YtdifbndpgbdkbaaDoorKeptR
import Derived.Deep.RegionHeld3
namespace Go.Proofs.YtdifbndpgbdkbaaDoor
open Go.RowKit
set_option linter.unusedVariables false
set_option linter.unusedSimpArgs false

/-- below stands what stood; a block is known whole -/
def KeptC (w : World) (b : Nat) (cs : Array Value) (w' : World) : Prop := Below w.heap.size w w' ∧ Holds w' b cs
theorem KeptC.step {w w' w'' : World} {b : Nat} {cs : Array Value} (h : KeptC w b cs w') (hb : Below w'.heap.size w' w'') : KeptC w b cs w'' := ⟨h.1.trans (hb.mono h.1.size), h.2.below hb h.2.lt⟩
theorem KeptC.range {w w' : World} {b : Nat} {cs : Array Value} (h : KeptC w b cs w') : w'.rangeAt b 0 cs.toList := fun j v hj => by
  rw [Nat.zero_add, h.2.cell j]; simpa using hj
set_option maxHeartbeats 4000000 in
set_option maxRecDepth 100000 in
theorem chains_any (hRS : RefSum) (h : List UInt8) (s : ByteArray) (w : World) (hT : Tab w) (hh : h.length = 32) (hs : s.size ≤ 140737488354900) :
    Calls Tryd.prog 4 #[.agg (bRow h), .string s] w fun e w' => e = .returned (.bool true) ∧ Below w.heap.size w w' := by
  have hpos := hT.pos
  obtain ⟨T, hTT⟩ : ∃ T, T = bRow h := ⟨_, rfl⟩
  obtain ⟨R, hR⟩ : ∃ R, R = Sha.sum (h ++ s.data.toList) := ⟨_, rfl⟩
  have hRl : R.length = 32 := by rw [hR, Sha.sum_len]
  have a1 : ∀ w', KeptC w w.heap.size T w' → Calls Tryd.prog 13 #[] w' fun e w'' => e = .returned (.bool true) ∧ Below w'.heap.size w' w'' := fun w' hk => awake_any w' (hT.below hk.1 hpos)
  have a2 : ∀ w', KeptC w w.heap.size T w' → Calls Tryd.prog 16 #[.agg T, .string s] w' fun e w'' => e = .returned (.agg (bRow R)) ∧ Below w'.heap.size w' w'' := fun w' hk => by
    rw [hTT, hR]; exact chain_any h s w' (hT.below hk.1 hpos) hh (by omega)
  have a3 : ∀ w', KeptC w w.heap.size T w' → Calls Tryd.prog 17 #[.agg T, .string s] w' fun e w'' => e = .returned (.agg (bRow R)) ∧ Below w'.heap.size w' w'' := fun w' hk => by
    rw [hTT, hR]; exact refChain_any hRS h s w' hh hs
  have hsz : ((⟨h.toArray⟩ : ByteArray) ++ s).size = 32 + s.size := by rw [ByteArray.size_append, ← hh]; rfl
  have hdl : ((⟨h.toArray⟩ : ByteArray) ++ s).data.toList = h ++ s.data.toList := by rw [ByteArray.data_append]; simp
  have a4 : ∀ w', KeptC w w.heap.size T w' → Calls Tryd.prog 14 #[.string ((⟨h.toArray⟩ : ByteArray) ++ s)] w' fun e w'' => e = .returned (.agg (bRow R)) ∧ Below w'.heap.size w' w'' := fun w' hk => by
    have := sum_any ((⟨h.toArray⟩ : ByteArray) ++ s) w' (hT.below hk.1 hpos) (by rw [hsz]; omega)
    rw [hdl] at this
    rw [hR]; exact this
  have hbig : ¬ (9223372036854775807 < h.length + s.size) := by omega
  have heqs : ∀ W, (Op.equalIn 10000 24 (.agg (bRow R)) (.agg (bRow R))).run Tryd.prog W = .ok true W := fun W => (hash_eq W R R hRl hRl).trans (by rw [decide_eq_true rfl])
  have A1 := Lib.hid a1
  have A2 := Lib.hid a2
  have A3 := Lib.hid a3
  have A4 := Lib.hid a4
  have hTs : T.toList.length = 32 := by rw [hTT, Array.length_toList, bRow_size h (by omega)]
  have hTi : (Tryd.prog.info? 24).map (·.size) = some T.toList.length := by rw [hTs]; kernel_rfl
  have hu := Tryd.underlying24
  have HTT := Lib.hid hTT
  have HH := Lib.hid hh
  clear hT a1 a2 a3 a4 hTT hh hRS hs hsz hdl hR hRl
  go_enter Tryd.func4, Tryd.ntmps4
  go_wp2_with fail
  have hkeep0 : KeptC w w.heap.size T (w.alloc (.cells (bRow h) 24)).drew := ⟨((Below.refl _ _).alloc (Nat.le_refl _) _).drew, by rw [HTT.out]; exact (Holds.new _ _ _).drew⟩
  refine wp_region_noPanic ?_
  refine wp_region_held_drew (S := fun w' => KeptC w w.heap.size T w') (by kernel_rfl) (hkeep0) (fun hHeld => ?_)
  generalize (w.alloc (.cells (bRow h) 24)).drew = w6 at *
  refine wpAnyH_ready (rs := [0]) (by kernel_rfl) (by simp) (AllReadyH.cons rfl (fun K1 hK1 => ?_) AllReadyH.nil)
  try simp only [Act.put, List.getElem_toArray, List.getElem_cons_succ, List.getElem_cons_zero, List.setIfInBounds_toArray, List.set_cons_zero, List.set_cons_succ]
  go_simp
  refine Calls.mono (A1.out _ hHeld) ?_
  rintro e wa ⟨rfl, hba⟩
  refine hK1.out _ _ (KeptC.step hHeld hba) (fun hHeld => ?_)
  clear hK1 K1
  try simp only [Act.put, List.getElem_toArray, List.getElem_cons_succ, List.getElem_cons_zero, List.setIfInBounds_toArray, List.set_cons_zero, List.set_cons_succ]
  refine wpAnyH_take (i := 1) (v := .bool true) rfl (by kernel_rfl) (by kernel_rfl) (by kernel_rfl) (fun _ _ _ h => h) (Or.inl ⟨by rfl, fun w' hSw => by go_simp⟩) hHeld ?_
  try simp only [Act.put, List.getElem_toArray, List.getElem_cons_succ, List.getElem_cons_zero, List.setIfInBounds_toArray, List.set_cons_zero, List.set_cons_succ]
  refine' wpAnyH_take (i := 2) (v := _) rfl (by kernel_rfl) (by kernel_rfl) (by kernel_rfl) (fun _ _ _ h => h) (yieldsIf_load_mid (by rfl) _ _ rfl w.heap.size 0 rfl T.toList _ (fun w' hSw => KeptC.range hSw) hu rfl hTi) hHeld ?_
  try simp only [Act.put, List.getElem_toArray, List.getElem_cons_succ, List.getElem_cons_zero, List.setIfInBounds_toArray, List.set_cons_zero, List.set_cons_succ]
  refine wpAnyH_take (i := 3) (v := .string s) rfl (by kernel_rfl) (by kernel_rfl) (by kernel_rfl) (fun _ _ _ h => h) (Or.inl ⟨by rfl, fun w' hSw => by go_simp⟩) hHeld ?_
  try simp only [Act.put, List.getElem_toArray, List.getElem_cons_succ, List.getElem_cons_zero, List.setIfInBounds_toArray, List.set_cons_zero, List.set_cons_succ]
  refine' wpAnyH_take (i := 5) (v := _) rfl (by kernel_rfl) (by kernel_rfl) (by kernel_rfl) (fun _ _ _ h => h) (yieldsIf_load_mid (by rfl) _ _ rfl w.heap.size 0 rfl T.toList _ (fun w' hSw => KeptC.range hSw) hu rfl hTi) hHeld ?_
  try simp only [Act.put, List.getElem_toArray, List.getElem_cons_succ, List.getElem_cons_zero, List.setIfInBounds_toArray, List.set_cons_zero, List.set_cons_succ]
  refine wpAnyH_take (i := 6) (v := .string s) rfl (by kernel_rfl) (by kernel_rfl) (by kernel_rfl) (fun _ _ _ h => h) (Or.inl ⟨by rfl, fun w' hSw => by go_simp⟩) hHeld ?_
  try simp only [Act.put, List.getElem_toArray, List.getElem_cons_succ, List.getElem_cons_zero, List.setIfInBounds_toArray, List.set_cons_zero, List.set_cons_succ]
  refine wpAnyH_ready (rs := [4]) (by kernel_rfl) (by simp) (AllReadyH.cons rfl (fun K1 hK1 => ?_) AllReadyH.nil)
  try simp only [Act.put, List.getElem_toArray, List.getElem_cons_succ, List.getElem_cons_zero, List.setIfInBounds_toArray, List.set_cons_zero, List.set_cons_succ]
  go_simp
  refine Calls.mono (A2.out _ hHeld) ?_
  rintro e wb ⟨rfl, hbb⟩
  refine hK1.out _ _ (KeptC.step hHeld hbb) (fun hHeld => ?_)
  clear hK1 K1
  try simp only [Act.put, List.getElem_toArray, List.getElem_cons_succ, List.getElem_cons_zero, List.setIfInBounds_toArray, List.set_cons_zero, List.set_cons_succ]
  refine wpAnyH_ready (rs := [7]) (by kernel_rfl) (by simp) (AllReadyH.cons rfl (fun K1 hK1 => ?_) AllReadyH.nil)
  try simp only [Act.put, List.getElem_toArray, List.getElem_cons_succ, List.getElem_cons_zero, List.setIfInBounds_toArray, List.set_cons_zero, List.set_cons_succ]
  go_simp
  refine Calls.mono (A3.out _ hHeld) ?_
  rintro e wc ⟨rfl, hbc⟩
  refine hK1.out _ _ (KeptC.step hHeld hbc) (fun hHeld => ?_)
  clear hK1 K1
  try simp only [Act.put, List.getElem_toArray, List.getElem_cons_succ, List.getElem_cons_zero, List.setIfInBounds_toArray, List.set_cons_zero, List.set_cons_succ]
  refine wpAnyH_take (i := 8) (v := .bool true) rfl (by kernel_rfl) (by kernel_rfl) (by kernel_rfl) (fun _ _ _ h => h) (Or.inl ⟨by rfl, fun w' hSw => by go_simp⟩) hHeld ?_
  try simp only [Act.put, List.getElem_toArray, List.getElem_cons_succ, List.getElem_cons_zero, List.setIfInBounds_toArray, List.set_cons_zero, List.set_cons_succ]
  refine wpAnyH_take (i := 9) (v := .bool true) rfl (by kernel_rfl) (by kernel_rfl) (by kernel_rfl) (fun _ _ _ h => h) (Or.inl ⟨by rfl, fun w' hSw => by go_simp⟩) hHeld ?_
  try simp only [Act.put, List.getElem_toArray, List.getElem_cons_succ, List.getElem_cons_zero, List.setIfInBounds_toArray, List.set_cons_zero, List.set_cons_succ]
  refine wpAnyH_take (i := 10) (v := .bool true) rfl (by kernel_rfl) (by kernel_rfl) (by kernel_rfl) (fun _ _ _ h => h) (Or.inl ⟨by rfl, fun w' hSw => by go_simp⟩) hHeld ?_
  try simp only [Act.put, List.getElem_toArray, List.getElem_cons_succ, List.getElem_cons_zero, List.setIfInBounds_toArray, List.set_cons_zero, List.set_cons_succ]
  refine' wpAnyH_take (i := 11) (v := _) rfl (by kernel_rfl) (by kernel_rfl) (by kernel_rfl) (fun _ _ _ h => h) (yieldsIf_load_mid (by rfl) _ _ rfl w.heap.size 0 rfl T.toList _ (fun w' hSw => KeptC.range hSw) hu rfl hTi) hHeld ?_
  try simp only [Act.put, List.getElem_toArray, List.getElem_cons_succ, List.getElem_cons_zero, List.setIfInBounds_toArray, List.set_cons_zero, List.set_cons_succ]
  refine wpAnyH_take (i := 12) (v := .string s) rfl (by kernel_rfl) (by kernel_rfl) (by kernel_rfl) (fun _ _ _ h => h) (Or.inl ⟨by rfl, fun w' hSw => by go_simp⟩) hHeld ?_
  try simp only [Act.put, List.getElem_toArray, List.getElem_cons_succ, List.getElem_cons_zero, List.setIfInBounds_toArray, List.set_cons_zero, List.set_cons_succ]
  refine wpAnyH_take (i := 14) (v := .slice (some ⟨w.heap.size, 0, none⟩) 32 32) rfl (by kernel_rfl) (by kernel_rfl) (by kernel_rfl) (fun _ _ _ h => h) (Or.inl ⟨by rfl, fun w' hSw => by go_simp⟩) hHeld ?_
  try simp only [Act.put, List.getElem_toArray, List.getElem_cons_succ, List.getElem_cons_zero, List.setIfInBounds_toArray, List.set_cons_zero, List.set_cons_succ]
  refine wpAnyH_take (i := 15) (v := S h) rfl (by kernel_rfl) (by kernel_rfl) (by kernel_rfl) (fun _ _ _ h => h) (Or.inl ⟨by rfl, fun w' hSw => by have hq := hSw; have hcv := hash_text w' w.heap.size h HH.out (by have := hq.2; rw [HTT.out] at this; exact this); go_simp⟩) hHeld ?_
  try simp only [Act.put, List.getElem_toArray, List.getElem_cons_succ, List.getElem_cons_zero, List.setIfInBounds_toArray, List.set_cons_zero, List.set_cons_succ]
  refine wpAnyH_take (i := 16) (v := .string s) rfl (by kernel_rfl) (by kernel_rfl) (by kernel_rfl) (fun _ _ _ h => h) (Or.inl ⟨by rfl, fun w' hSw => by go_simp⟩) hHeld ?_
  try simp only [Act.put, List.getElem_toArray, List.getElem_cons_succ, List.getElem_cons_zero, List.setIfInBounds_toArray, List.set_cons_zero, List.set_cons_succ]
  refine wpAnyH_take (i := 17) (v := .string ((⟨h.toArray⟩ : ByteArray) ++ s)) rfl (by kernel_rfl) (by kernel_rfl) (by kernel_rfl) (fun _ _ _ h => h) (Or.inl ⟨by rfl, fun w' hSw => by go_simp⟩) hHeld ?_
  try simp only [Act.put, List.getElem_toArray, List.getElem_cons_succ, List.getElem_cons_zero, List.setIfInBounds_toArray, List.set_cons_zero, List.set_cons_succ]
  refine wpAnyH_ready (rs := [13]) (by kernel_rfl) (by simp) (AllReadyH.cons rfl (fun K1 hK1 => ?_) AllReadyH.nil)
  try simp only [Act.put, List.getElem_toArray, List.getElem_cons_succ, List.getElem_cons_zero, List.setIfInBounds_toArray, List.set_cons_zero, List.set_cons_succ]
  go_simp
  refine Calls.mono (A2.out _ hHeld) ?_
  rintro e wd ⟨rfl, hbd⟩
  refine hK1.out _ _ (KeptC.step hHeld hbd) (fun hHeld => ?_)
  clear hK1 K1
  try simp only [Act.put, List.getElem_toArray, List.getElem_cons_succ, List.getElem_cons_zero, List.setIfInBounds_toArray, List.set_cons_zero, List.set_cons_succ]
  refine wpAnyH_ready (rs := [18]) (by kernel_rfl) (by simp) (AllReadyH.cons rfl (fun K1 hK1 => ?_) AllReadyH.nil)
  try simp only [Act.put, List.getElem_toArray, List.getElem_cons_succ, List.getElem_cons_zero, List.setIfInBounds_toArray, List.set_cons_zero, List.set_cons_succ]
  go_simp
  refine Calls.mono (A4.out _ hHeld) ?_
  rintro e we ⟨rfl, hbe⟩
  refine hK1.out _ _ (KeptC.step hHeld hbe) (fun hHeld => ?_)
  clear hK1 K1
  try simp only [Act.put, List.getElem_toArray, List.getElem_cons_succ, List.getElem_cons_zero, List.setIfInBounds_toArray, List.set_cons_zero, List.set_cons_succ]
  refine wpAnyH_take (i := 19) (v := .bool true) rfl (by kernel_rfl) (by kernel_rfl) (by kernel_rfl) (fun _ _ _ h => h) (Or.inl ⟨by rfl, fun w' hSw => by go_simp⟩) hHeld ?_
  try simp only [Act.put, List.getElem_toArray, List.getElem_cons_succ, List.getElem_cons_zero, List.setIfInBounds_toArray, List.set_cons_zero, List.set_cons_succ]
  refine wpAnyH_take (i := 20) (v := .bool true) rfl (by kernel_rfl) (by kernel_rfl) (by kernel_rfl) (fun _ _ _ h => h) (Or.inl ⟨by rfl, fun w' hSw => by go_simp⟩) hHeld ?_
  try simp only [Act.put, List.getElem_toArray, List.getElem_cons_succ, List.getElem_cons_zero, List.setIfInBounds_toArray, List.set_cons_zero, List.set_cons_succ]
  refine wpAnyH_take (i := 21) (v := .bool true) rfl (by kernel_rfl) (by kernel_rfl) (by kernel_rfl) (fun _ _ _ h => h) (Or.inl ⟨by rfl, fun w' hSw => by go_simp⟩) hHeld ?_
  try simp only [Act.put, List.getElem_toArray, List.getElem_cons_succ, List.getElem_cons_zero, List.setIfInBounds_toArray, List.set_cons_zero, List.set_cons_succ]
  refine wpAnyH_done (by kernel_rfl) ?_ _
  refine NoPanic.normal ?_
  have hbe2 := hHeld.1
  clear hkeep0 hHeld
  go_wp2_with fail
  go_ret
  exact ⟨rfl, hbe2⟩
end Go.Proofs.YtdifbndpgbdkbaaDoor
