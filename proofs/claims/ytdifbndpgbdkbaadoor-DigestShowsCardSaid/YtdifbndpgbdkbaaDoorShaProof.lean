/- digest.proof, Proof: what they return. -/
import Derived.Test.YtdifbndpgbdkbaaDoorShaProves
import Derived.Deep.RegionHeld3
import Derived.Great.BuildSlice
namespace Go.Proofs.YtdifbndpgbdkbaaDoor
open Go.RowKit
set_option linter.unusedVariables false
set_option linter.unusedSimpArgs false

/-- the cells of hashes, one behind the other -/
def hcells (P : List (List UInt8)) : List Value := P.flatMap fun p => (bRow p).toList
theorem hcells_len (P : List (List UInt8)) (h : ∀ p ∈ P, p.length = 32) : (hcells P).length = P.length * 32 := by
  induction P with
  | nil => rfl
  | cons p P ih =>
    have h1 : (bRow p).toList.length = 32 := by rw [Array.length_toList, bRow_size p (by rw [h p (by simp)]; omega)]
    have h2 := ih (fun q hq => h q (by simp [hq]))
    unfold hcells at h2 ⊢
    rw [List.flatMap_cons, List.length_append, h1, h2, List.length_cons]
    omega
theorem hcells_snoc (P : List (List UInt8)) (p : List UInt8) : hcells (P ++ [p]) = hcells P ++ (bRow p).toList := by unfold hcells; simp
theorem owns_below {w w' : World} {base : Nat} {e : TypeId} {size : Nat} {v : Value} {n : Nat} {xs : List Value} (h : w.ownsRow base e size v n xs) (hb : Below w.heap.size w w') : w'.ownsRow base e size v n xs := by
  obtain ⟨hl, h0 | ⟨g, cap, cur, rfl, hg, hh, hnc⟩⟩ := h
  · exact ⟨hl, .inl h0⟩
  · have hgs : g < w.heap.size := by
      rcases Nat.lt_or_ge g w.heap.size with h1 | h1
      · exact h1
      · rw [Array.getElem?_eq_none h1] at hh; cases hh
    exact ⟨hl, .inr ⟨g, cap, cur, rfl, hg, (hb.block g hgs).trans hh, hnc⟩⟩
theorem owns_base {w : World} {base b2 : Nat} {e : TypeId} {size : Nat} {v : Value} {n : Nat} {xs : List Value} (h : w.ownsRow base e size v n xs) (hb : b2 ≤ base) : w.ownsRow b2 e size v n xs := by
  obtain ⟨hl, h0 | ⟨g, cap, cur, rfl, hg, hh⟩⟩ := h
  · exact ⟨hl, .inl h0⟩
  · exact ⟨hl, .inr ⟨g, cap, cur, rfl, Nat.le_trans hb hg, hh⟩⟩
theorem below_own32 {w' w1 : World} {base size : Nat} {e : TypeId} {v : Value} {n : Nat} {xs : List Value} (h : w'.ownsRow base e size v n xs) (hs : base ≤ w'.heap.size) (hg : w'.grownBy w1 v.ownBlock) : Below base w' w1 := by
  refine (Below.refl base w').grown hg hs (fun g hg2 => ?_)
  rcases h.2 with ⟨rfl, _⟩ | ⟨g', cap, cur, rfl, hb, _⟩
  · simp [Value.ownBlock] at hg2
  · have : g' = g := by simpa [Value.ownBlock] using hg2
    omega
theorem hash_info : (Tryd.prog.info? 24).map (fun i => (i.zero, i.size, i.bytes)) = some (some (.agg (bRow [])), 32, 32) := by kernel_rfl
theorem fill_hash (R : List UInt8) (hR : R.length = 32) (cells : Array Value) (hc : cells.size = 32) : Instr.fill (fun i => some (i * 32, 32)) cells [(0, Value.agg (bRow R))] = some (bRow R) := by
  have hs : (bRow R).size = 32 := bRow_size R (by omega)
  have := Go.Great.fill_whole (s := 32) (by decide) [Value.agg (bRow R)] cells (fun v hv => by
    obtain rfl : v = Value.agg (bRow R) := by simpa using hv
    exact hs) (by rw [hc]; rfl)
  simp [Value.cells] at this
  exact this
theorem proof_end (L : List (List UInt8)) (A : Option Addr) (i : Int) (cap : Nat) (w : World) :
    Calls Tryd.prog 42 #[.slice A 1 cap, .int .i64 i] w fun e w' => ∃ v, e = .returned v ∧ w'.ownsRow w.heap.size 24 32 v 0 (hcells []) ∧ Below w.heap.size w w' := by
  go_enter Tryd.func42, Tryd.ntmps42
  go_wp2_with fail
  go_ret
  exact ⟨_, rfl, ⟨rfl, .inl ⟨rfl, rfl⟩⟩, Below.refl _ _⟩

set_option maxHeartbeats 4000000 in
set_option maxRecDepth 100000 in
theorem proof_left_ (L : List (List UInt8)) (b off cap i : Nat) (w : World) (hT : Tab w) (hL : Lies w w.heap.size b off L) (hS : Small L) (h2 : 2 ≤ L.length) (hc : L.length ≤ cap) (hn : L.length ≤ 9223372036854775807) (hi : i < L.length) (hik : i < Sha.half L.length)
    (ih : ∀ (M : List (List UInt8)) (b off cap i : Nat) (w : World), M.length < L.length → Lies w w.heap.size b off M → Small M → M.length ≤ cap → i < M.length → Tab w →
      Calls Tryd.prog 42 #[.slice (some ⟨b, off, none⟩) M.length cap, .int .i64 i] w fun e w' => ∃ v, e = .returned v ∧ w'.ownsRow w.heap.size 24 32 v (Sha.proof M i).length (hcells (Sha.proof M i)) ∧ Below w.heap.size w w') :
    Calls Tryd.prog 42 #[.slice (some ⟨b, off, none⟩) L.length cap, .int .i64 i] w fun e w' => ∃ v, e = .returned v ∧ w'.ownsRow w.heap.size 24 32 v (Sha.proof L i).length (hcells (Sha.proof L i)) ∧ Below w.heap.size w w' := by
  have hpos := hT.pos
  have d1 : ((L.length : Int) == 1) = false := by simp only [beq_eq_false_iff_ne]; omega
  have hl := Sha.half_lt L.length h2
  have hp := Sha.half_pos L.length
  have hpr := Sha.proof_left L i h2 hik
  have hlog : (Sha.path L.length i).length ≤ 63 := Sha.path_len_log 63 L.length i (by omega)
  have hplen := Sha.proof_len L.length L i rfl
  have hhalf := half_any L.length w h2 hn
  generalize Sha.half L.length = k at *
  have hlt1 : (L.take k).length = k := by rw [List.length_take]; omega
  have hlt2 : (L.drop k).length = L.length - k := List.length_drop ..
  obtain ⟨R, hR⟩ : ∃ R, R = Sha.root (L.drop k) := ⟨_, rfl⟩
  have hRl : R.length = 32 := by rw [hR, Sha.root_len]
  obtain ⟨Pr, hPr⟩ : ∃ Pr, Pr = Sha.proof (L.take k) (i) := ⟨_, rfl⟩
  rw [← hR, ← hPr] at hpr
  have hPl : Pr.length + 1 ≤ 63 := by rw [hpr, List.length_append] at hplen; simp at hplen; omega
  have c1 : ∀ w', Below w.heap.size w w' → Calls Tryd.prog 42 #[.slice (some ⟨b, off, none⟩) k cap, .int .i64 ((i : Nat) : Int)] w' fun e w'' => ∃ v, e = .returned v ∧ w''.ownsRow w'.heap.size 24 32 v Pr.length (hcells Pr) ∧ Below w'.heap.size w' w'' := by
    intro w' hb
    have := ih (L.take k) b (off) (cap) (i) w' (by omega) (((hL.below hb (Nat.le_refl _)).mono hb.size).take k) (hS.take k) (by omega) (by omega) (hT.below hb hpos)
    rw [hlt1, ← hPr] at this
    skip
    exact this
  have c2 : ∀ w', Below w.heap.size w w' → Calls Tryd.prog 20 #[.slice (some ⟨b, off + k, none⟩) (L.length - k) (cap - k)] w' fun e w'' => e = .returned (.agg (bRow R)) ∧ Below w'.heap.size w' w'' := by
    intro w' hb
    have := root_some _ (L.drop k) b (off + k) (cap - k) w' rfl (hT.below hb hpos) (((hL.below hb (Nat.le_refl _)).mono hb.size).drop k) (hS.drop k) (by omega) (by omega)
    rw [hlt2, ← hR] at this
    exact this
  obtain ⟨i0, hii, hz0, hz1, hz2⟩ := info_parts hash_info
  have HI := Lib.hid hii
  have HZ0 := Lib.hid hz0
  have HZ1 := Lib.hid hz1
  have HZ2 := Lib.hid hz2
  have C1 := Lib.hid c1
  have C2 := Lib.hid c2
  have HPR := Lib.hid hpr
  have HRl := Lib.hid hRl
  have HHalf := Lib.hid hhalf
  have hl' : (k : Int) < (L.length : Int) := by omega
  have hkc : (k : Int) ≤ (cap : Int) := by omega
  have hkL : (k : Int) ≤ (L.length : Int) := by omega
  have hLc : (L.length : Int) ≤ (cap : Int) := by omega
  have hck : ¬ cap = k := by omega
  have hck2 : ¬ (cap : Int) = (k : Int) := by omega
  have hk0 : (0 : Int) ≤ (k : Int) := by omega
  have hikc : (i : Int) < (k : Int) := by omega
  skip
  clear hT hL hS ih c1 c2 hpr hRl hhalf hii hz0 hz1 hz2 hlt1 hlt2 hR hPr hplen hlog hik
  go_enter Tryd.func42, Tryd.ntmps42
  go_wp2_with fail
  refine HHalf.out.mono ?_
  rintro e wx ⟨rfl, rfl⟩
  go_wp2_with fail
  have hkeep0 : Below wx.heap.size wx wx.drew := (Below.refl _ _).drew
  refine wp_region_noPanic ?_
  refine wp_region_held_drew (S := fun w' => Below wx.heap.size wx w') (by kernel_rfl) (hkeep0) (fun hHeld => ?_)
  have hbase0 : wx.heap.size ≤ wx.drew.heap.size := Nat.le_refl _
  generalize wx.drew = w6 at *
  refine wpAnyH_take (i := 0) (v := .slice (some ⟨b, off, none⟩) L.length cap) rfl (by kernel_rfl) (by kernel_rfl) (by kernel_rfl) (fun _ _ _ h => h) (Or.inl ⟨by rfl, fun w' hSw => by go_simp⟩) hHeld ?_
  try simp only [Act.put, List.getElem_toArray, List.getElem_cons_succ, List.getElem_cons_zero, List.setIfInBounds_toArray, List.set_cons_zero, List.set_cons_succ]
  refine wpAnyH_take (i := 1) (v := .int .i64 (k : Int)) rfl (by kernel_rfl) (by kernel_rfl) (by kernel_rfl) (fun _ _ _ h => h) (Or.inl ⟨by rfl, fun w' hSw => by go_simp⟩) hHeld ?_
  try simp only [Act.put, List.getElem_toArray, List.getElem_cons_succ, List.getElem_cons_zero, List.setIfInBounds_toArray, List.set_cons_zero, List.set_cons_succ]
  refine wpAnyH_take (i := 2) (v := .slice (some ⟨b, off, none⟩) k cap) rfl (by kernel_rfl) (by kernel_rfl) (by kernel_rfl) (fun _ _ _ h => h) (Or.inl ⟨by rfl, fun w' hSw => by go_simp⟩) hHeld ?_
  try simp only [Act.put, List.getElem_toArray, List.getElem_cons_succ, List.getElem_cons_zero, List.setIfInBounds_toArray, List.set_cons_zero, List.set_cons_succ]
  refine wpAnyH_take (i := 3) (v := .int .i64 (i : Int)) rfl (by kernel_rfl) (by kernel_rfl) (by kernel_rfl) (fun _ _ _ h => h) (Or.inl ⟨by rfl, fun w' hSw => by go_simp⟩) hHeld ?_
  try simp only [Act.put, List.getElem_toArray, List.getElem_cons_succ, List.getElem_cons_zero, List.setIfInBounds_toArray, List.set_cons_zero, List.set_cons_succ]
  refine wpAnyH_take (i := 5) (v := .slice (some ⟨b, off, none⟩) L.length cap) rfl (by kernel_rfl) (by kernel_rfl) (by kernel_rfl) (fun _ _ _ h => h) (Or.inl ⟨by rfl, fun w' hSw => by go_simp⟩) hHeld ?_
  try simp only [Act.put, List.getElem_toArray, List.getElem_cons_succ, List.getElem_cons_zero, List.setIfInBounds_toArray, List.set_cons_zero, List.set_cons_succ]
  refine wpAnyH_take (i := 6) (v := .int .i64 (k : Int)) rfl (by kernel_rfl) (by kernel_rfl) (by kernel_rfl) (fun _ _ _ h => h) (Or.inl ⟨by rfl, fun w' hSw => by go_simp⟩) hHeld ?_
  try simp only [Act.put, List.getElem_toArray, List.getElem_cons_succ, List.getElem_cons_zero, List.setIfInBounds_toArray, List.set_cons_zero, List.set_cons_succ]
  refine wpAnyH_take (i := 7) (v := .slice (some ⟨b, off + k, none⟩) (L.length - k) (cap - k)) rfl (by kernel_rfl) (by kernel_rfl) (by kernel_rfl) (fun _ _ _ h => h) (Or.inl ⟨by rfl, fun w' hSw => by go_simp⟩) hHeld ?_
  try simp only [Act.put, List.getElem_toArray, List.getElem_cons_succ, List.getElem_cons_zero, List.setIfInBounds_toArray, List.set_cons_zero, List.set_cons_succ]
  refine wpAnyH_ready (rs := [4]) (by kernel_rfl) (by simp) (AllReadyH.cons rfl (fun K1 hK1 => ?_) AllReadyH.nil)
  try simp only [Act.put, List.getElem_toArray, List.getElem_cons_succ, List.getElem_cons_zero, List.setIfInBounds_toArray, List.set_cons_zero, List.set_cons_succ]
  go_simp
  refine Calls.mono (C1.out _ hHeld) ?_
  rintro e wa ⟨v, rfl, howa, hba⟩
  refine hK1.out _ _ (hHeld.trans (hba.mono hHeld.size)) (fun hHeld => ?_)
  clear hK1 K1
  try simp only [Act.put, List.getElem_toArray, List.getElem_cons_succ, List.getElem_cons_zero, List.setIfInBounds_toArray, List.set_cons_zero, List.set_cons_succ]
  have hHeldA := hHeld
  refine wpAnyH_ready (rs := [8]) (by kernel_rfl) (by simp) (AllReadyH.cons rfl (fun K1 hK1 => ?_) AllReadyH.nil)
  try simp only [Act.put, List.getElem_toArray, List.getElem_cons_succ, List.getElem_cons_zero, List.setIfInBounds_toArray, List.set_cons_zero, List.set_cons_succ]
  go_simp
  refine Calls.mono (C2.out _ hHeld) ?_
  rintro e wb ⟨rfl, hbb⟩
  refine hK1.out _ _ (hHeld.trans (hbb.mono hHeld.size)) (fun hHeld => ?_)
  clear hK1 K1
  try simp only [Act.put, List.getElem_toArray, List.getElem_cons_succ, List.getElem_cons_zero, List.setIfInBounds_toArray, List.set_cons_zero, List.set_cons_succ]
  refine wpAnyH_ready (rs := [9]) (by kernel_rfl) (by simp) (AllReadyH.cons rfl (fun K1 hK1 => ?_) AllReadyH.nil)
  try simp only [Act.put, List.getElem_toArray, List.getElem_cons_succ, List.getElem_cons_zero, List.setIfInBounds_toArray, List.set_cons_zero, List.set_cons_succ]
  rw [if_pos (by rfl)]
  refine wp_buildSlice 32 24 1 _ rfl (bRow R) i0 (.agg (bRow [])) Tryd.underlying32 HI.out HZ0.out (by rw [HZ1.out]; decide) (by rw [HZ1.out]; decide) (by rw [HZ1.out, Array.toList_map]; exact fill_hash R HRl.out _ (by rw [Array.size_map, Array.size_range])) ?_
  have hwc : Holds (wb.alloc (.cells (bRow R) 24)) wb.heap.size (bRow R) := Holds.new _ _ _
  have howc := owns_below (owns_below howa hbb) ((Below.refl wb.heap.size wb).alloc (Nat.le_refl _) (.cells (bRow R) 24))
  have hsc : wb.heap.size < (wb.alloc (.cells (bRow R) 24)).heap.size := by simp
  have hHeldC := hHeld.alloc hHeld.size (.cells (bRow R) 24)
  generalize hwcc : wb.alloc (.cells (bRow R) 24) = wc at *
  refine hK1.out _ _ (hHeldC) (fun hHeld => ?_)
  clear hK1 K1 hwcc
  try simp only [Act.put, List.getElem_toArray, List.getElem_cons_succ, List.getElem_cons_zero, List.setIfInBounds_toArray, List.set_cons_zero, List.set_cons_succ]
  refine wpAnyH_ready (rs := [10]) (by kernel_rfl) (by simp) (AllReadyH.cons rfl (fun K1 hK1 => ?_) AllReadyH.nil)
  try simp only [Act.put, List.getElem_toArray, List.getElem_cons_succ, List.getElem_cons_zero, List.setIfInBounds_toArray, List.set_cons_zero, List.set_cons_succ]
  rw [if_pos (by rfl)]
  refine wp_append_own wc _ _ 32 rfl wx.heap.size 24 i0 (.agg (bRow [])) 32 32 Tryd.underlying32 HI.out HZ0.out HZ1.out HZ2.out (by show (bRow []).size = 32; exact bRow_size [] (by simp)) (by decide) v Pr.length (hcells Pr) rfl (owns_base howc hbase0) ⟨wb.heap.size, 0, none⟩ 1 1 (bRow R).toList rfl
    (by rw [Array.length_toList, bRow_size R (by rw [HRl.out]; omega)]) (fun j u hj => by rw [add0, Nat.zero_add, hwc.cell j]; simpa using hj) (fun u hu => by
      have := bRow_one R
      rw [Array.all_eq_true_iff_forall_mem] at this
      exact this u (Array.mem_toList_iff.1 hu)) (by unfold maxLen; omega) (by omega) hHeld.size ?_
  intro v' wd hod hgd _
  have hbd := hHeld.trans (below_own32 (owns_base howc hbase0) hHeld.size hgd)
  refine hK1.out _ _ (hbd) (fun hHeld => ?_)
  clear hK1 K1
  try simp only [Act.put, List.getElem_toArray, List.getElem_cons_succ, List.getElem_cons_zero, List.setIfInBounds_toArray, List.set_cons_zero, List.set_cons_succ]
  refine wpAnyH_ready (rs := [11]) (by kernel_rfl) (by simp) (AllReadyH.cons rfl (fun K1 hK1 => ?_) AllReadyH.nil)
  try simp only [Act.put, List.getElem_toArray, List.getElem_cons_succ, List.getElem_cons_zero, List.setIfInBounds_toArray, List.set_cons_zero, List.set_cons_succ]
  try go_simp
  refine hK1.out _ _ (hbd) (fun hHeld => ?_)
  clear hK1 K1
  try simp only [Act.put, List.getElem_toArray, List.getElem_cons_succ, List.getElem_cons_zero, List.setIfInBounds_toArray, List.set_cons_zero, List.set_cons_succ]
  refine wpAnyH_done (by kernel_rfl) ?_ _
  refine NoPanic.normal ?_
  clear hkeep0 hHeld
  go_wp2_with fail
  go_ret
  exact ⟨v', rfl, by rw [HPR.out, List.length_append, hcells_snoc]; exact hod, hbd⟩

set_option maxHeartbeats 4000000 in
set_option maxRecDepth 100000 in
theorem proof_right_ (L : List (List UInt8)) (b off cap i : Nat) (w : World) (hT : Tab w) (hL : Lies w w.heap.size b off L) (hS : Small L) (h2 : 2 ≤ L.length) (hc : L.length ≤ cap) (hn : L.length ≤ 9223372036854775807) (hi : i < L.length) (hik : ¬ i < Sha.half L.length)
    (ih : ∀ (M : List (List UInt8)) (b off cap i : Nat) (w : World), M.length < L.length → Lies w w.heap.size b off M → Small M → M.length ≤ cap → i < M.length → Tab w →
      Calls Tryd.prog 42 #[.slice (some ⟨b, off, none⟩) M.length cap, .int .i64 i] w fun e w' => ∃ v, e = .returned v ∧ w'.ownsRow w.heap.size 24 32 v (Sha.proof M i).length (hcells (Sha.proof M i)) ∧ Below w.heap.size w w') :
    Calls Tryd.prog 42 #[.slice (some ⟨b, off, none⟩) L.length cap, .int .i64 i] w fun e w' => ∃ v, e = .returned v ∧ w'.ownsRow w.heap.size 24 32 v (Sha.proof L i).length (hcells (Sha.proof L i)) ∧ Below w.heap.size w w' := by
  have hpos := hT.pos
  have d1 : ((L.length : Int) == 1) = false := by simp only [beq_eq_false_iff_ne]; omega
  have hl := Sha.half_lt L.length h2
  have hp := Sha.half_pos L.length
  have hpr := Sha.proof_right L i h2 hik
  have hlog : (Sha.path L.length i).length ≤ 63 := Sha.path_len_log 63 L.length i (by omega)
  have hplen := Sha.proof_len L.length L i rfl
  have hhalf := half_any L.length w h2 hn
  generalize Sha.half L.length = k at *
  have hlt1 : (L.take k).length = k := by rw [List.length_take]; omega
  have hlt2 : (L.drop k).length = L.length - k := List.length_drop ..
  obtain ⟨R, hR⟩ : ∃ R, R = Sha.root (L.take k) := ⟨_, rfl⟩
  have hRl : R.length = 32 := by rw [hR, Sha.root_len]
  obtain ⟨Pr, hPr⟩ : ∃ Pr, Pr = Sha.proof (L.drop k) (i - k) := ⟨_, rfl⟩
  rw [← hR, ← hPr] at hpr
  have hPl : Pr.length + 1 ≤ 63 := by rw [hpr, List.length_append] at hplen; simp at hplen; omega
  have c1 : ∀ w', Below w.heap.size w w' → Calls Tryd.prog 42 #[.slice (some ⟨b, off + k, none⟩) (L.length - k) (cap - k), .int .i64 ((i : Int) - (k : Int))] w' fun e w'' => ∃ v, e = .returned v ∧ w''.ownsRow w'.heap.size 24 32 v Pr.length (hcells Pr) ∧ Below w'.heap.size w' w'' := by
    intro w' hb
    have := ih (L.drop k) b (off + k) (cap - k) (i - k) w' (by omega) (((hL.below hb (Nat.le_refl _)).mono hb.size).drop k) (hS.drop k) (by omega) (by omega) (hT.below hb hpos)
    rw [hlt2, ← hPr] at this
    rw [show ((i - k : Nat) : Int) = (i : Int) - (k : Int) by omega] at this
    exact this
  have c2 : ∀ w', Below w.heap.size w w' → Calls Tryd.prog 20 #[.slice (some ⟨b, off, none⟩) k cap] w' fun e w'' => e = .returned (.agg (bRow R)) ∧ Below w'.heap.size w' w'' := by
    intro w' hb
    have := root_some _ (L.take k) b (off) (cap) w' rfl (hT.below hb hpos) (((hL.below hb (Nat.le_refl _)).mono hb.size).take k) (hS.take k) (by omega) (by omega)
    rw [hlt1, ← hR] at this
    exact this
  obtain ⟨i0, hii, hz0, hz1, hz2⟩ := info_parts hash_info
  have HI := Lib.hid hii
  have HZ0 := Lib.hid hz0
  have HZ1 := Lib.hid hz1
  have HZ2 := Lib.hid hz2
  have C1 := Lib.hid c1
  have C2 := Lib.hid c2
  have HPR := Lib.hid hpr
  have HRl := Lib.hid hRl
  have HHalf := Lib.hid hhalf
  have hl' : (k : Int) < (L.length : Int) := by omega
  have hkc : (k : Int) ≤ (cap : Int) := by omega
  have hkL : (k : Int) ≤ (L.length : Int) := by omega
  have hLc : (L.length : Int) ≤ (cap : Int) := by omega
  have hck : ¬ cap = k := by omega
  have hck2 : ¬ (cap : Int) = (k : Int) := by omega
  have hk0 : (0 : Int) ≤ (k : Int) := by omega
  have hikc : ¬ (i : Int) < (k : Int) := by omega
  have hwr : IntKind.i64.wrap ((i : Int) - (k : Int)) = (i : Int) - (k : Int) := IntWalk.i64_in _ (by omega)
  clear hT hL hS ih c1 c2 hpr hRl hhalf hii hz0 hz1 hz2 hlt1 hlt2 hR hPr hplen hlog hik
  go_enter Tryd.func42, Tryd.ntmps42
  go_wp2_with fail
  refine HHalf.out.mono ?_
  rintro e wx ⟨rfl, rfl⟩
  go_wp2_with fail
  have hkeep0 : Below wx.heap.size wx wx.drew := (Below.refl _ _).drew
  refine wp_region_noPanic ?_
  refine wp_region_held_drew (S := fun w' => Below wx.heap.size wx w') (by kernel_rfl) (hkeep0) (fun hHeld => ?_)
  have hbase0 : wx.heap.size ≤ wx.drew.heap.size := Nat.le_refl _
  generalize wx.drew = w6 at *
  refine wpAnyH_take (i := 0) (v := .slice (some ⟨b, off, none⟩) L.length cap) rfl (by kernel_rfl) (by kernel_rfl) (by kernel_rfl) (fun _ _ _ h => h) (Or.inl ⟨by rfl, fun w' hSw => by go_simp⟩) hHeld ?_
  try simp only [Act.put, List.getElem_toArray, List.getElem_cons_succ, List.getElem_cons_zero, List.setIfInBounds_toArray, List.set_cons_zero, List.set_cons_succ]
  refine wpAnyH_take (i := 1) (v := .int .i64 (k : Int)) rfl (by kernel_rfl) (by kernel_rfl) (by kernel_rfl) (fun _ _ _ h => h) (Or.inl ⟨by rfl, fun w' hSw => by go_simp⟩) hHeld ?_
  try simp only [Act.put, List.getElem_toArray, List.getElem_cons_succ, List.getElem_cons_zero, List.setIfInBounds_toArray, List.set_cons_zero, List.set_cons_succ]
  refine wpAnyH_take (i := 2) (v := .slice (some ⟨b, off + k, none⟩) (L.length - k) (cap - k)) rfl (by kernel_rfl) (by kernel_rfl) (by kernel_rfl) (fun _ _ _ h => h) (Or.inl ⟨by rfl, fun w' hSw => by go_simp⟩) hHeld ?_
  try simp only [Act.put, List.getElem_toArray, List.getElem_cons_succ, List.getElem_cons_zero, List.setIfInBounds_toArray, List.set_cons_zero, List.set_cons_succ]
  refine wpAnyH_take (i := 3) (v := .int .i64 (i : Int)) rfl (by kernel_rfl) (by kernel_rfl) (by kernel_rfl) (fun _ _ _ h => h) (Or.inl ⟨by rfl, fun w' hSw => by go_simp⟩) hHeld ?_
  try simp only [Act.put, List.getElem_toArray, List.getElem_cons_succ, List.getElem_cons_zero, List.setIfInBounds_toArray, List.set_cons_zero, List.set_cons_succ]
  refine wpAnyH_take (i := 4) (v := .int .i64 (k : Int)) rfl (by kernel_rfl) (by kernel_rfl) (by kernel_rfl) (fun _ _ _ h => h) (Or.inl ⟨by rfl, fun w' hSw => by go_simp⟩) hHeld ?_
  try simp only [Act.put, List.getElem_toArray, List.getElem_cons_succ, List.getElem_cons_zero, List.setIfInBounds_toArray, List.set_cons_zero, List.set_cons_succ]
  refine wpAnyH_take (i := 5) (v := .int .i64 ((i : Int) - (k : Int))) rfl (by kernel_rfl) (by kernel_rfl) (by kernel_rfl) (fun _ _ _ h => h) (Or.inl ⟨by rfl, fun w' hSw => by go_simp⟩) hHeld ?_
  try simp only [Act.put, List.getElem_toArray, List.getElem_cons_succ, List.getElem_cons_zero, List.setIfInBounds_toArray, List.set_cons_zero, List.set_cons_succ]
  refine wpAnyH_take (i := 7) (v := .slice (some ⟨b, off, none⟩) L.length cap) rfl (by kernel_rfl) (by kernel_rfl) (by kernel_rfl) (fun _ _ _ h => h) (Or.inl ⟨by rfl, fun w' hSw => by go_simp⟩) hHeld ?_
  try simp only [Act.put, List.getElem_toArray, List.getElem_cons_succ, List.getElem_cons_zero, List.setIfInBounds_toArray, List.set_cons_zero, List.set_cons_succ]
  refine wpAnyH_take (i := 8) (v := .int .i64 (k : Int)) rfl (by kernel_rfl) (by kernel_rfl) (by kernel_rfl) (fun _ _ _ h => h) (Or.inl ⟨by rfl, fun w' hSw => by go_simp⟩) hHeld ?_
  try simp only [Act.put, List.getElem_toArray, List.getElem_cons_succ, List.getElem_cons_zero, List.setIfInBounds_toArray, List.set_cons_zero, List.set_cons_succ]
  refine wpAnyH_take (i := 9) (v := .slice (some ⟨b, off, none⟩) k cap) rfl (by kernel_rfl) (by kernel_rfl) (by kernel_rfl) (fun _ _ _ h => h) (Or.inl ⟨by rfl, fun w' hSw => by go_simp⟩) hHeld ?_
  try simp only [Act.put, List.getElem_toArray, List.getElem_cons_succ, List.getElem_cons_zero, List.setIfInBounds_toArray, List.set_cons_zero, List.set_cons_succ]
  refine wpAnyH_ready (rs := [6]) (by kernel_rfl) (by simp) (AllReadyH.cons rfl (fun K1 hK1 => ?_) AllReadyH.nil)
  try simp only [Act.put, List.getElem_toArray, List.getElem_cons_succ, List.getElem_cons_zero, List.setIfInBounds_toArray, List.set_cons_zero, List.set_cons_succ]
  go_simp
  refine Calls.mono (C1.out _ hHeld) ?_
  rintro e wa ⟨v, rfl, howa, hba⟩
  refine hK1.out _ _ (hHeld.trans (hba.mono hHeld.size)) (fun hHeld => ?_)
  clear hK1 K1
  try simp only [Act.put, List.getElem_toArray, List.getElem_cons_succ, List.getElem_cons_zero, List.setIfInBounds_toArray, List.set_cons_zero, List.set_cons_succ]
  have hHeldA := hHeld
  refine wpAnyH_ready (rs := [10]) (by kernel_rfl) (by simp) (AllReadyH.cons rfl (fun K1 hK1 => ?_) AllReadyH.nil)
  try simp only [Act.put, List.getElem_toArray, List.getElem_cons_succ, List.getElem_cons_zero, List.setIfInBounds_toArray, List.set_cons_zero, List.set_cons_succ]
  go_simp
  refine Calls.mono (C2.out _ hHeld) ?_
  rintro e wb ⟨rfl, hbb⟩
  refine hK1.out _ _ (hHeld.trans (hbb.mono hHeld.size)) (fun hHeld => ?_)
  clear hK1 K1
  try simp only [Act.put, List.getElem_toArray, List.getElem_cons_succ, List.getElem_cons_zero, List.setIfInBounds_toArray, List.set_cons_zero, List.set_cons_succ]
  refine wpAnyH_ready (rs := [11]) (by kernel_rfl) (by simp) (AllReadyH.cons rfl (fun K1 hK1 => ?_) AllReadyH.nil)
  try simp only [Act.put, List.getElem_toArray, List.getElem_cons_succ, List.getElem_cons_zero, List.setIfInBounds_toArray, List.set_cons_zero, List.set_cons_succ]
  rw [if_pos (by rfl)]
  refine wp_buildSlice 32 24 1 _ rfl (bRow R) i0 (.agg (bRow [])) Tryd.underlying32 HI.out HZ0.out (by rw [HZ1.out]; decide) (by rw [HZ1.out]; decide) (by rw [HZ1.out, Array.toList_map]; exact fill_hash R HRl.out _ (by rw [Array.size_map, Array.size_range])) ?_
  have hwc : Holds (wb.alloc (.cells (bRow R) 24)) wb.heap.size (bRow R) := Holds.new _ _ _
  have howc := owns_below (owns_below howa hbb) ((Below.refl wb.heap.size wb).alloc (Nat.le_refl _) (.cells (bRow R) 24))
  have hsc : wb.heap.size < (wb.alloc (.cells (bRow R) 24)).heap.size := by simp
  have hHeldC := hHeld.alloc hHeld.size (.cells (bRow R) 24)
  generalize hwcc : wb.alloc (.cells (bRow R) 24) = wc at *
  refine hK1.out _ _ (hHeldC) (fun hHeld => ?_)
  clear hK1 K1 hwcc
  try simp only [Act.put, List.getElem_toArray, List.getElem_cons_succ, List.getElem_cons_zero, List.setIfInBounds_toArray, List.set_cons_zero, List.set_cons_succ]
  refine wpAnyH_ready (rs := [12]) (by kernel_rfl) (by simp) (AllReadyH.cons rfl (fun K1 hK1 => ?_) AllReadyH.nil)
  try simp only [Act.put, List.getElem_toArray, List.getElem_cons_succ, List.getElem_cons_zero, List.setIfInBounds_toArray, List.set_cons_zero, List.set_cons_succ]
  rw [if_pos (by rfl)]
  refine wp_append_own wc _ _ 32 rfl wx.heap.size 24 i0 (.agg (bRow [])) 32 32 Tryd.underlying32 HI.out HZ0.out HZ1.out HZ2.out (by show (bRow []).size = 32; exact bRow_size [] (by simp)) (by decide) v Pr.length (hcells Pr) rfl (owns_base howc hbase0) ⟨wb.heap.size, 0, none⟩ 1 1 (bRow R).toList rfl
    (by rw [Array.length_toList, bRow_size R (by rw [HRl.out]; omega)]) (fun j u hj => by rw [add0, Nat.zero_add, hwc.cell j]; simpa using hj) (fun u hu => by
      have := bRow_one R
      rw [Array.all_eq_true_iff_forall_mem] at this
      exact this u (Array.mem_toList_iff.1 hu)) (by unfold maxLen; omega) (by omega) hHeld.size ?_
  intro v' wd hod hgd _
  have hbd := hHeld.trans (below_own32 (owns_base howc hbase0) hHeld.size hgd)
  refine hK1.out _ _ (hbd) (fun hHeld => ?_)
  clear hK1 K1
  try simp only [Act.put, List.getElem_toArray, List.getElem_cons_succ, List.getElem_cons_zero, List.setIfInBounds_toArray, List.set_cons_zero, List.set_cons_succ]
  refine wpAnyH_ready (rs := [13]) (by kernel_rfl) (by simp) (AllReadyH.cons rfl (fun K1 hK1 => ?_) AllReadyH.nil)
  try simp only [Act.put, List.getElem_toArray, List.getElem_cons_succ, List.getElem_cons_zero, List.setIfInBounds_toArray, List.set_cons_zero, List.set_cons_succ]
  try go_simp
  refine hK1.out _ _ (hbd) (fun hHeld => ?_)
  clear hK1 K1
  try simp only [Act.put, List.getElem_toArray, List.getElem_cons_succ, List.getElem_cons_zero, List.setIfInBounds_toArray, List.set_cons_zero, List.set_cons_succ]
  refine wpAnyH_done (by kernel_rfl) ?_ _
  refine NoPanic.normal ?_
  clear hkeep0 hHeld
  go_wp2_with fail
  go_ret
  exact ⟨v', rfl, by rw [HPR.out, List.length_append, hcells_snoc]; exact hod, hbd⟩
end Go.Proofs.YtdifbndpgbdkbaaDoor
