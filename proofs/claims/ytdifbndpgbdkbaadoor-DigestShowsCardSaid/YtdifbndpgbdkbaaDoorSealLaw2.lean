/- The law SealChecks: what its function returns. -/
import Derived.Test.YtdifbndpgbdkbaaDoorSealOpen
import Derived.Test.YtdifbndpgbdkbaaDoorKeptR
import Derived.Deep.RegionHeld3
namespace Go.Proofs.YtdifbndpgbdkbaaDoor
open Go.RowKit
set_option linter.unusedVariables false
set_option linter.unusedSimpArgs false

/-- below stands what stood; a block is known whole -/
def KeptB (w : World) (b : Nat) (cs : Array Value) (w' : World) : Prop := Below w.heap.size w w' ∧ Holds w' b cs
theorem KeptB.step {w w' w'' : World} {b : Nat} {cs : Array Value} (h : KeptB w b cs w') (hb : Below w'.heap.size w' w'') : KeptB w b cs w'' := ⟨h.1.trans (hb.mono h.1.size), h.2.below hb h.2.lt⟩
theorem saidRow_size (who dom : Int) (body : ByteArray) (t : List UInt8) (ht : t.length = 32) : (saidRow who dom body t).size = 35 := by
  unfold saidRow
  have := bRow_size t (by omega)
  simp [this]
/-- what is held of who says what -/
def Says (w : World) (who dom : Int) (body : ByteArray) (t : List UInt8) (T : Array Value) (w' : World) : Prop :=
  KeptB w w.heap.size (saidRow who dom body t) w' ∧ T = bRow t
theorem Says.all {w w' : World} {who dom : Int} {body : ByteArray} {t : List UInt8} {T : Array Value} (h : Says w who dom body t T w') :
    Says w who dom body t T w' ∧ w'.cell? ⟨w.heap.size, 0, none⟩ = some (.int .i64 who) ∧ w'.cell? ⟨w.heap.size, 1, none⟩ = some (.int .i64 dom) ∧ w'.cell? ⟨w.heap.size, 2, none⟩ = some (.string body) ∧ w'.rangeAt w.heap.size 3 T.toList := by
  refine ⟨h, (h.1.2.cell 0).trans rfl, (h.1.2.cell 1).trans rfl, (h.1.2.cell 2).trans rfl, fun j v hj => ?_⟩
  rw [h.1.2.cell (3 + j)]
  rw [h.2] at hj
  unfold saidRow
  rw [List.getElem?_toArray, List.getElem?_append_right (by simp)]
  simpa using hj
theorem Says.step {w w1 w2 : World} {who dom : Int} {body : ByteArray} {t : List UInt8} {T : Array Value} (h : Says w who dom body t T w1) (hb : Below w1.heap.size w1 w2) : Says w who dom body t T w2 := ⟨h.1.step hb, h.2⟩
theorem says_step {w w' w'' : World} {who dom : Int} {body : ByteArray} {t : List UInt8} {T : Array Value} (hb : Below w'.heap.size w' w'')
    (h : Says w who dom body t T w' ∧ w'.cell? ⟨w.heap.size, 0, none⟩ = some (.int .i64 who) ∧ w'.cell? ⟨w.heap.size, 1, none⟩ = some (.int .i64 dom) ∧ w'.cell? ⟨w.heap.size, 2, none⟩ = some (.string body) ∧ w'.rangeAt w.heap.size 3 T.toList) :
    Says w who dom body t T w'' ∧ w''.cell? ⟨w.heap.size, 0, none⟩ = some (.int .i64 who) ∧ w''.cell? ⟨w.heap.size, 1, none⟩ = some (.int .i64 dom) ∧ w''.cell? ⟨w.heap.size, 2, none⟩ = some (.string body) ∧ w''.rangeAt w.heap.size 3 T.toList :=
  Says.all ⟨h.1.1.step hb, h.1.2⟩
set_option maxHeartbeats 4000000 in
set_option maxRecDepth 100000 in
theorem sealChecks_any (hRS : RefSum) (who dom : Int) (body : ByteArray) (t : List UInt8) (w : World) (hT : Tab w) (ht : t.length = 32) (hs : body.size ≤ 140737488354900) :
    Calls Tryd.prog 11 #[.agg (saidRow who dom body t)] w fun e w' => e = .returned (.bool true) ∧ Below w.heap.size w w' := by
  have hpos := hT.pos
  obtain ⟨T, hTT⟩ : ∃ T, T = bRow t := ⟨_, rfl⟩
  have a1 : ∀ w', Says w who dom body t T w' → Calls Tryd.prog 28 #[] w' fun e w'' => e = .returned (.bool true) ∧ Below w'.heap.size w' w'' := fun w' h => awake3_any w' (hT.below h.1.1 hpos)
  have a2 : ∀ w', Says w who dom body t T w' → Calls Tryd.prog 31 #[.int .i64 who, .int .i64 dom, .string body, .agg T] w' fun e w'' => e = .returned (.int .i64 (Seal.check2 who dom body.data.toList t)) ∧ Below w'.heap.size w' w'' := fun w' h => by
    rw [hTT]; exact Check_any who dom body t w' (hT.below h.1.1 hpos) ht hs
  have a3 : ∀ w', Says w who dom body t T w' → Calls Tryd.prog 32 #[.int .i64 who, .int .i64 dom, .string body, .agg T] w' fun e w'' => e = .returned (.int .i64 (Seal.check2 who dom body.data.toList t)) ∧ Below w'.heap.size w' w'' := fun w' h => by
    rw [hTT]; exact refCheck_any hRS who dom body t w' ht hs
  generalize Seal.check2 who dom body.data.toList t = c0 at *
  have A1 := Lib.hid a1
  have A2 := Lib.hid a2
  have A3 := Lib.hid a3
  have hTs : T.toList.length = 32 := by rw [hTT, Array.length_toList, bRow_size t (by omega)]
  have hTi : (Tryd.prog.info? 24).map (·.size) = some T.toList.length := by rw [hTs]; kernel_rfl
  have hu := Tryd.underlying24
  have HTT := Lib.hid hTT
  clear hT a1 a2 a3 hTT ht hRS hs
  go_enter Tryd.func11, Tryd.ntmps11
  go_wp2_with fail
  have hkeep0 : Says w who dom body t T (w.alloc (.cells (saidRow who dom body t) 52)).drew := ⟨⟨((Below.refl _ _).alloc (Nat.le_refl _) _).drew, (Holds.new _ _ _).drew⟩, HTT.out⟩
  refine wp_region_noPanic ?_
  refine wp_region_held_drew (S := fun w' => Says w who dom body t T w') (by kernel_rfl) (hkeep0) (fun hHeld => ?_)
  generalize (w.alloc (.cells (saidRow who dom body t) 52)).drew = w6 at *
  refine wpAnyH_ready (rs := [0]) (by kernel_rfl) (by simp) (AllReadyH.cons rfl (fun K1 hK1 => ?_) AllReadyH.nil)
  try simp only [Act.put, List.getElem_toArray, List.getElem_cons_succ, List.getElem_cons_zero, List.setIfInBounds_toArray, List.set_cons_zero, List.set_cons_succ]
  go_simp
  refine Calls.mono (A1.out _ hHeld) ?_
  rintro e wa ⟨rfl, hba⟩
  refine hK1.out _ _ (Says.step hHeld hba) (fun hHeld => ?_)
  clear hK1 K1
  try simp only [Act.put, List.getElem_toArray, List.getElem_cons_succ, List.getElem_cons_zero, List.setIfInBounds_toArray, List.set_cons_zero, List.set_cons_succ]
  refine wpAnyH_take (i := 1) (v := .bool true) rfl (by kernel_rfl) (by kernel_rfl) (by kernel_rfl) (fun _ _ _ h => h) (Or.inl ⟨by rfl, fun w' hSw => by go_simp⟩) hHeld ?_
  try simp only [Act.put, List.getElem_toArray, List.getElem_cons_succ, List.getElem_cons_zero, List.setIfInBounds_toArray, List.set_cons_zero, List.set_cons_succ]
  refine wpAnyH_take (i := 2) (v := .pointer (some ⟨w.heap.size, 0, none⟩)) rfl (by kernel_rfl) (by kernel_rfl) (by kernel_rfl) (fun _ _ _ h => h) (Or.inl ⟨by rfl, fun w' hSw => by go_simp⟩) hHeld ?_
  try simp only [Act.put, List.getElem_toArray, List.getElem_cons_succ, List.getElem_cons_zero, List.setIfInBounds_toArray, List.set_cons_zero, List.set_cons_succ]
  refine wpAnyH_take (i := 3) (v := .int .i64 who) rfl (by kernel_rfl) (by kernel_rfl) (by kernel_rfl) (fun _ _ _ h => h) (Or.inl ⟨by rfl, fun w' hSw => by have hq := hSw; obtain ⟨_, q0, q1, q2, _⟩ := hq.all; go_simp⟩) hHeld ?_
  try simp only [Act.put, List.getElem_toArray, List.getElem_cons_succ, List.getElem_cons_zero, List.setIfInBounds_toArray, List.set_cons_zero, List.set_cons_succ]
  refine wpAnyH_take (i := 4) (v := .pointer (some ⟨w.heap.size, 1, none⟩)) rfl (by kernel_rfl) (by kernel_rfl) (by kernel_rfl) (fun _ _ _ h => h) (Or.inl ⟨by rfl, fun w' hSw => by go_simp⟩) hHeld ?_
  try simp only [Act.put, List.getElem_toArray, List.getElem_cons_succ, List.getElem_cons_zero, List.setIfInBounds_toArray, List.set_cons_zero, List.set_cons_succ]
  refine wpAnyH_take (i := 5) (v := .int .i64 dom) rfl (by kernel_rfl) (by kernel_rfl) (by kernel_rfl) (fun _ _ _ h => h) (Or.inl ⟨by rfl, fun w' hSw => by have hq := hSw; obtain ⟨_, q0, q1, q2, _⟩ := hq.all; go_simp⟩) hHeld ?_
  try simp only [Act.put, List.getElem_toArray, List.getElem_cons_succ, List.getElem_cons_zero, List.setIfInBounds_toArray, List.set_cons_zero, List.set_cons_succ]
  refine wpAnyH_take (i := 6) (v := .pointer (some ⟨w.heap.size, 2, none⟩)) rfl (by kernel_rfl) (by kernel_rfl) (by kernel_rfl) (fun _ _ _ h => h) (Or.inl ⟨by rfl, fun w' hSw => by go_simp⟩) hHeld ?_
  try simp only [Act.put, List.getElem_toArray, List.getElem_cons_succ, List.getElem_cons_zero, List.setIfInBounds_toArray, List.set_cons_zero, List.set_cons_succ]
  refine wpAnyH_take (i := 7) (v := .string body) rfl (by kernel_rfl) (by kernel_rfl) (by kernel_rfl) (fun _ _ _ h => h) (Or.inl ⟨by rfl, fun w' hSw => by have hq := hSw; obtain ⟨_, q0, q1, q2, _⟩ := hq.all; go_simp⟩) hHeld ?_
  try simp only [Act.put, List.getElem_toArray, List.getElem_cons_succ, List.getElem_cons_zero, List.setIfInBounds_toArray, List.set_cons_zero, List.set_cons_succ]
  refine wpAnyH_take (i := 8) (v := .pointer (some ⟨w.heap.size, 3, none⟩)) rfl (by kernel_rfl) (by kernel_rfl) (by kernel_rfl) (fun _ _ _ h => h) (Or.inl ⟨by rfl, fun w' hSw => by go_simp⟩) hHeld ?_
  try simp only [Act.put, List.getElem_toArray, List.getElem_cons_succ, List.getElem_cons_zero, List.setIfInBounds_toArray, List.set_cons_zero, List.set_cons_succ]
  refine' wpAnyH_take (i := 9) (v := _) rfl (by kernel_rfl) (by kernel_rfl) (by kernel_rfl) (fun _ _ _ h => h) (yieldsIf_load_mid (by rfl) _ _ rfl w.heap.size 3 rfl T.toList _ (fun w' hSw => hSw.all.2.2.2.2) hu rfl hTi) hHeld ?_
  try simp only [Act.put, List.getElem_toArray, List.getElem_cons_succ, List.getElem_cons_zero, List.setIfInBounds_toArray, List.set_cons_zero, List.set_cons_succ]
  refine wpAnyH_take (i := 11) (v := .pointer (some ⟨w.heap.size, 0, none⟩)) rfl (by kernel_rfl) (by kernel_rfl) (by kernel_rfl) (fun _ _ _ h => h) (Or.inl ⟨by rfl, fun w' hSw => by go_simp⟩) hHeld ?_
  try simp only [Act.put, List.getElem_toArray, List.getElem_cons_succ, List.getElem_cons_zero, List.setIfInBounds_toArray, List.set_cons_zero, List.set_cons_succ]
  refine wpAnyH_take (i := 12) (v := .int .i64 who) rfl (by kernel_rfl) (by kernel_rfl) (by kernel_rfl) (fun _ _ _ h => h) (Or.inl ⟨by rfl, fun w' hSw => by have hq := hSw; obtain ⟨_, q0, q1, q2, _⟩ := hq.all; go_simp⟩) hHeld ?_
  try simp only [Act.put, List.getElem_toArray, List.getElem_cons_succ, List.getElem_cons_zero, List.setIfInBounds_toArray, List.set_cons_zero, List.set_cons_succ]
  refine wpAnyH_take (i := 13) (v := .pointer (some ⟨w.heap.size, 1, none⟩)) rfl (by kernel_rfl) (by kernel_rfl) (by kernel_rfl) (fun _ _ _ h => h) (Or.inl ⟨by rfl, fun w' hSw => by go_simp⟩) hHeld ?_
  try simp only [Act.put, List.getElem_toArray, List.getElem_cons_succ, List.getElem_cons_zero, List.setIfInBounds_toArray, List.set_cons_zero, List.set_cons_succ]
  refine wpAnyH_take (i := 14) (v := .int .i64 dom) rfl (by kernel_rfl) (by kernel_rfl) (by kernel_rfl) (fun _ _ _ h => h) (Or.inl ⟨by rfl, fun w' hSw => by have hq := hSw; obtain ⟨_, q0, q1, q2, _⟩ := hq.all; go_simp⟩) hHeld ?_
  try simp only [Act.put, List.getElem_toArray, List.getElem_cons_succ, List.getElem_cons_zero, List.setIfInBounds_toArray, List.set_cons_zero, List.set_cons_succ]
  refine wpAnyH_take (i := 15) (v := .pointer (some ⟨w.heap.size, 2, none⟩)) rfl (by kernel_rfl) (by kernel_rfl) (by kernel_rfl) (fun _ _ _ h => h) (Or.inl ⟨by rfl, fun w' hSw => by go_simp⟩) hHeld ?_
  try simp only [Act.put, List.getElem_toArray, List.getElem_cons_succ, List.getElem_cons_zero, List.setIfInBounds_toArray, List.set_cons_zero, List.set_cons_succ]
  refine wpAnyH_take (i := 16) (v := .string body) rfl (by kernel_rfl) (by kernel_rfl) (by kernel_rfl) (fun _ _ _ h => h) (Or.inl ⟨by rfl, fun w' hSw => by have hq := hSw; obtain ⟨_, q0, q1, q2, _⟩ := hq.all; go_simp⟩) hHeld ?_
  try simp only [Act.put, List.getElem_toArray, List.getElem_cons_succ, List.getElem_cons_zero, List.setIfInBounds_toArray, List.set_cons_zero, List.set_cons_succ]
  refine wpAnyH_take (i := 17) (v := .pointer (some ⟨w.heap.size, 3, none⟩)) rfl (by kernel_rfl) (by kernel_rfl) (by kernel_rfl) (fun _ _ _ h => h) (Or.inl ⟨by rfl, fun w' hSw => by go_simp⟩) hHeld ?_
  try simp only [Act.put, List.getElem_toArray, List.getElem_cons_succ, List.getElem_cons_zero, List.setIfInBounds_toArray, List.set_cons_zero, List.set_cons_succ]
  refine' wpAnyH_take (i := 18) (v := _) rfl (by kernel_rfl) (by kernel_rfl) (by kernel_rfl) (fun _ _ _ h => h) (yieldsIf_load_mid (by rfl) _ _ rfl w.heap.size 3 rfl T.toList _ (fun w' hSw => hSw.all.2.2.2.2) hu rfl hTi) hHeld ?_
  try simp only [Act.put, List.getElem_toArray, List.getElem_cons_succ, List.getElem_cons_zero, List.setIfInBounds_toArray, List.set_cons_zero, List.set_cons_succ]
  refine wpAnyH_ready (rs := [10]) (by kernel_rfl) (by simp) (AllReadyH.cons rfl (fun K1 hK1 => ?_) AllReadyH.nil)
  try simp only [Act.put, List.getElem_toArray, List.getElem_cons_succ, List.getElem_cons_zero, List.setIfInBounds_toArray, List.set_cons_zero, List.set_cons_succ]
  go_simp
  refine Calls.mono (A2.out _ hHeld) ?_
  rintro e wb ⟨rfl, hbb⟩
  refine hK1.out _ _ (Says.step hHeld hbb) (fun hHeld => ?_)
  clear hK1 K1
  try simp only [Act.put, List.getElem_toArray, List.getElem_cons_succ, List.getElem_cons_zero, List.setIfInBounds_toArray, List.set_cons_zero, List.set_cons_succ]
  refine wpAnyH_ready (rs := [19]) (by kernel_rfl) (by simp) (AllReadyH.cons rfl (fun K1 hK1 => ?_) AllReadyH.nil)
  try simp only [Act.put, List.getElem_toArray, List.getElem_cons_succ, List.getElem_cons_zero, List.setIfInBounds_toArray, List.set_cons_zero, List.set_cons_succ]
  go_simp
  refine Calls.mono (A3.out _ hHeld) ?_
  rintro e wc ⟨rfl, hbc⟩
  refine hK1.out _ _ (Says.step hHeld hbc) (fun hHeld => ?_)
  clear hK1 K1
  try simp only [Act.put, List.getElem_toArray, List.getElem_cons_succ, List.getElem_cons_zero, List.setIfInBounds_toArray, List.set_cons_zero, List.set_cons_succ]
  refine wpAnyH_take (i := 20) (v := .bool true) rfl (by kernel_rfl) (by kernel_rfl) (by kernel_rfl) (fun _ _ _ h => h) (Or.inl ⟨by rfl, fun w' hSw => by go_simp⟩) hHeld ?_
  try simp only [Act.put, List.getElem_toArray, List.getElem_cons_succ, List.getElem_cons_zero, List.setIfInBounds_toArray, List.set_cons_zero, List.set_cons_succ]
  refine wpAnyH_take (i := 21) (v := .bool true) rfl (by kernel_rfl) (by kernel_rfl) (by kernel_rfl) (fun _ _ _ h => h) (Or.inl ⟨by rfl, fun w' hSw => by go_simp⟩) hHeld ?_
  try simp only [Act.put, List.getElem_toArray, List.getElem_cons_succ, List.getElem_cons_zero, List.setIfInBounds_toArray, List.set_cons_zero, List.set_cons_succ]
  refine wpAnyH_take (i := 22) (v := .bool true) rfl (by kernel_rfl) (by kernel_rfl) (by kernel_rfl) (fun _ _ _ h => h) (Or.inl ⟨by rfl, fun w' hSw => by go_simp⟩) hHeld ?_
  try simp only [Act.put, List.getElem_toArray, List.getElem_cons_succ, List.getElem_cons_zero, List.setIfInBounds_toArray, List.set_cons_zero, List.set_cons_succ]
  refine wpAnyH_done (by kernel_rfl) ?_ _
  refine NoPanic.normal ?_
  have hbe := hHeld.1.1
  clear hkeep0 hHeld
  go_wp2_with fail
  go_ret
  exact ⟨rfl, hbe⟩
end Go.Proofs.YtdifbndpgbdkbaaDoor
