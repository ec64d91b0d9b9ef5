/- cavalcaderef02.Root: what it returns. -/
import Derived.Test.YtdifbndpgbdkbaaDoorShaRef4
namespace Go.Proofs.YtdifbndpgbdkbaaDoor
open Go.RowKit
set_option linter.unusedVariables false
set_option linter.unusedSimpArgs false

/-- no text is too long for a conversion -/
def SmallR (L : List (List UInt8)) : Prop := ∀ i, i < L.length → (L.getD i []).length ≤ 140737488354000
theorem SmallR.take {L : List (List UInt8)} (h : SmallR L) (k : Nat) : SmallR (L.take k) := fun i hi => by
  rw [List.length_take] at hi
  have := h i (by omega)
  simpa [List.getD, List.getElem?_take, show i < k by omega] using this
theorem SmallR.drop {L : List (List UInt8)} (h : SmallR L) (k : Nat) : SmallR (L.drop k) := fun i hi => by
  rw [List.length_drop] at hi
  have := h (k + i) (by omega)
  simpa [List.getD, List.getElem?_drop] using this
set_option maxHeartbeats 2000000 in
set_option maxRecDepth 100000 in
theorem refRoot_two (hRS : RefSum) (L : List (List UInt8)) (b off cap : Nat) (w : World) (hL : Lies w w.heap.size b off L) (hS : SmallR L) (h2 : 2 ≤ L.length) (hc : L.length ≤ cap) (hn : L.length ≤ 4611686018427387904)
    (ih : ∀ (M : List (List UInt8)) (b off cap : Nat) (w : World), M.length < L.length → Lies w w.heap.size b off M → SmallR M → M.length ≤ cap → 
      Calls Tryd.prog 21 #[.slice (some ⟨b, off, none⟩) M.length cap] w fun e w' => e = .returned (.agg (bRow (Sha.root M))) ∧ Below w.heap.size w w') :
    Calls Tryd.prog 21 #[.slice (some ⟨b, off, none⟩) L.length cap] w fun e w' => e = .returned (.agg (bRow (Sha.root L))) ∧ Below w.heap.size w w' := by
  have HL := Lib.hid hL
  have HS := Lib.hid hS
  have IH := Lib.hid ih
  have i24 : (Tryd.prog.info? 24).map (·.size) = some 32 := by kernel_rfl
  have I24 := Lib.hid i24
  have d0 : ((L.length : Int) == 0) = false := by simp only [beq_eq_false_iff_ne]; omega
  have d1 : ((L.length : Int) == 1) = false := by simp only [beq_eq_false_iff_ne]; omega
  have hl := Sha.half_lt L.length h2
  have hp := Sha.half_pos L.length
  obtain ⟨V, hV⟩ : ∃ V, V = bRow (Sha.root L) := ⟨_, rfl⟩
  have hVs : V.size = 32 := by rw [hV, bRow_size _ (by rw [Sha.root_len]; omega)]
  have hVl : V.toList.length = 32 := by simp [hVs]
  have hV1 : ∀ v ∈ V.toList, v.oneCell' = true := by
    have := bRow_one (Sha.root L)
    rw [← hV] at this
    intro v hv
    rw [Array.all_eq_true_iff_forall_mem] at this
    exact this v (Array.mem_toList_iff.1 hv)
  have hVi : (Tryd.prog.info? 24).map (·.size) = some V.toList.length := I24.out.trans (congrArg some hVl.symm)
  rw [← hV]
  have HV := Lib.hid hV
  have HVl := Lib.hid hVl
  have HV1 := Lib.hid hV1
  have HVi := Lib.hid hVi
  have HVs := Lib.hid hVs
  clear hV hVl hV1 hVi hVs
  have HRS := Lib.hid hRS
  clear hL hS ih i24 hRS
  go_enter Tryd.func21, Tryd.ntmps21
  go_wp2_with fail
  refine calls_named ?_
  intro w1 hw1
  have hR : Holds w1 w.heap.size (bRow []) := by rw [hw1]; exact Holds.new _ _ _
  have hb1 : Below w.heap.size w w1 := by rw [hw1]; exact (Below.refl _ _).alloc (Nat.le_refl _) _
  have HR := Lib.hid hR
  clear hw1 hR
  refine (refHalf_any L.length w1 h2 hn).mono ?_
  rintro e w2 ⟨rfl, rfl⟩
  obtain ⟨k, hk⟩ : ∃ k, k = Sha.half L.length := ⟨_, rfl⟩
  rw [← hk] at hl hp
  have hroot := Sha.root_more L h2
  rw [← hk] at hroot
  have Hroot := Lib.hid hroot
  rw [← hk]
  clear hk hroot
  have hl' : (k : Int) < (L.length : Int) := by omega
  have hkc : (k : Int) ≤ (cap : Int) := by omega
  have hkL : (k : Int) ≤ (L.length : Int) := by omega
  have hLc : (L.length : Int) ≤ (cap : Int) := by omega
  go_wp2_with fail
  have hck : ¬ cap = k := by omega
  have hck2 : ¬ (cap : Int) = (k : Int) := by omega
  have hlt1 : (L.take k).length = k := by rw [List.length_take]; omega
  have hlt2 : (L.drop k).length = L.length - k := List.length_drop ..
  have c1 : ∀ w', Kept w w' → Calls Tryd.prog 21 #[.slice (some ⟨b, off, none⟩) k cap] w' fun e w'' => e = .returned (.agg (bRow (Sha.root (L.take k)))) ∧ Below w'.heap.size w' w'' := by
    intro w' hk
    have := IH.out (L.take k) b off cap w' (by omega) (((HL.out.below hk.1 (Nat.le_refl _)).mono hk.1.size).take k) (HS.out.take k) (by omega)
    rw [hlt1] at this
    exact this
  have c2 : ∀ w', Kept w w' → Calls Tryd.prog 21 #[.slice (some ⟨b, off + k, none⟩) (L.length - k) (cap - k)] w' fun e w'' => e = .returned (.agg (bRow (Sha.root (L.drop k)))) ∧ Below w'.heap.size w' w'' := by
    intro w' hk
    have := IH.out (L.drop k) b (off + k) (cap - k) w' (by omega) (((HL.out.below hk.1 (Nat.le_refl _)).mono hk.1.size).drop k) (HS.out.drop k) (by omega)
    rw [hlt2] at this
    exact this
  have l1 := Sha.root_len (L.take k)
  have l2 := Sha.root_len (L.drop k)
  have hsz : ((⟨#[1]⟩ : ByteArray) ++ (⟨(Sha.root (L.take k)).toArray⟩ : ByteArray) ++ (⟨(Sha.root (L.drop k)).toArray⟩ : ByteArray)).size = 65 := by
    rw [ByteArray.size_append, ByteArray.size_append]
    show 1 + (Sha.root (L.take k)).length + (Sha.root (L.drop k)).length = 65
    rw [l1, l2]
  have hdl : ((⟨#[1]⟩ : ByteArray) ++ (⟨(Sha.root (L.take k)).toArray⟩ : ByteArray) ++ (⟨(Sha.root (L.drop k)).toArray⟩ : ByteArray)).data.toList = 1 :: (Sha.root (L.take k) ++ Sha.root (L.drop k)) := by rw [ByteArray.data_append, ByteArray.data_append]; simp
  have c3 : ∀ w', Kept w w' → Calls Tryd.prog 15 #[.string ((⟨#[1]⟩ : ByteArray) ++ (⟨(Sha.root (L.take k)).toArray⟩ : ByteArray) ++ (⟨(Sha.root (L.drop k)).toArray⟩ : ByteArray))] w' fun e w'' => e = .returned (.agg (bRow (Sha.sum (1 :: (Sha.root (L.take k) ++ Sha.root (L.drop k)))))) ∧ Below w'.heap.size w' w'' := by
    intro w' hk
    have := HRS.out ((⟨#[1]⟩ : ByteArray) ++ (⟨(Sha.root (L.take k)).toArray⟩ : ByteArray) ++ (⟨(Sha.root (L.drop k)).toArray⟩ : ByteArray)) w' (by rw [hsz]; omega)
    rw [hdl] at this
    exact this
  have b1 : ∀ w', Kept w w' → Calls Tryd.prog 41 #[.agg (bRow (Sha.root (L.take k)))] w' fun e w'' => e = .returned (S (Sha.root (L.take k))) ∧ Below w'.heap.size w' w'' := fun w' _ => bytes_any _ w' l1
  have b2 : ∀ w', Kept w w' → Calls Tryd.prog 41 #[.agg (bRow (Sha.root (L.drop k)))] w' fun e w'' => e = .returned (S (Sha.root (L.drop k))) ∧ Below w'.heap.size w' w'' := fun w' _ => bytes_any _ w' l2
  have hg1 : ¬ (9223372036854775807 < 1 + (Sha.root (L.take k)).length) := by omega
  have hg2 : ¬ (9223372036854775807 < 1 + (Sha.root (L.take k)).length + (Sha.root (L.drop k)).length) := by omega
  have B1 := Lib.hid b1
  have B2 := Lib.hid b2
  clear hsz hdl b1 b2 l1 l2
  rw [← Hroot.out] at c3
  rw [← HV.out] at c3
  have hVl := HVl.out
  have hV1 := HV1.out
  have hVi := HVi.out
  have hVs := HVs.out
  have hu := Tryd.underlying24
  have C1 := Lib.hid c1
  have C2 := Lib.hid c2
  have C3 := Lib.hid c3
  have hkeep0 : Kept w w2.drew ∧ w2.drew.there w.heap.size 0 V.toList.length := ⟨⟨hb1.drew, _, bRow_size [] (by simp), HR.out.drew⟩, HR.out.drew.there (by rw [hVl, bRow_size [] (by simp)])⟩
  clear c1 c2 c3 hlt1 hlt2 hVs
  go_region_held3 (fun w' => Kept w w' ∧ w'.there w.heap.size 0 V.toList.length) (first | assumption | exact hkeep0 | (exact kept_step (by assumption) HVs.out (by assumption)) | exact (kept_cells HVs.out (by assumption)).1)
    (first
      | (go_at_call 21; with_reducible refine Calls.mono (C1.out _ (And.left (by assumption))) ?_; rintro e w' ⟨rfl, hb'⟩)
      | (go_at_call 21; with_reducible refine Calls.mono (C2.out _ (And.left (by assumption))) ?_; rintro e w' ⟨rfl, hb'⟩)
      | (go_at_call 41; with_reducible refine Calls.mono (B1.out _ (And.left (by assumption))) ?_; rintro e w' ⟨rfl, hb'⟩)
      | (go_at_call 41; with_reducible refine Calls.mono (B2.out _ (And.left (by assumption))) ?_; rintro e w' ⟨rfl, hb'⟩)
      | (go_at_call 15; with_reducible refine Calls.mono (C3.out _ (And.left (by assumption))) ?_; rintro e w' ⟨rfl, hb'⟩))
  have kc := kept_cells (w' := w') HVs.out (kept_step (by assumption) HVs.out (kept_step (by assumption) HVs.out (kept_step (by assumption) HVs.out (kept_step (by assumption) HVs.out (kept_step (by assumption) HVs.out hkeep0)))))
  obtain ⟨w5, hw5⟩ : ∃ w5, w5 = w'.setCells w.heap.size 0 V.toList := ⟨_, rfl⟩
  rw [← hw5] at kc
  rw [← hw5]
  obtain ⟨⟨⟨hb5, _⟩, _⟩, T5, hT5⟩ := kc
  have I24b := Lib.hid (I24.out.trans (congrArg some HVs.out.symm))
  clear hw5 hVi hV1
  go_wp2_with fail
  exact bodyPost_ret (results_cell_row rfl _ _ w.heap.size T5 _ (0, 0) _ rfl hT5 Tryd.underlying24 rfl I24b.out) rfl ⟨by rw [HV.out], hb5⟩

set_option maxHeartbeats 1000000 in
set_option maxRecDepth 100000 in
theorem refRoot_0 (hRS : RefSum) (A : Option Addr) (cap : Nat) (w : World) :
    Calls Tryd.prog 21 #[.slice A 0 cap] w fun e w' => e = .returned (.agg (bRow (Sha.root []))) ∧ Below w.heap.size w w' := by
  have i24 : (Tryd.prog.info? 24).map (·.size) = some 32 := by kernel_rfl
  have I24 := Lib.hid i24
  obtain ⟨V, hV⟩ : ∃ V, V = bRow (Sha.root []) := ⟨_, rfl⟩
  have hVs : V.size = 32 := by rw [hV, bRow_size _ (by rw [Sha.root_len]; omega)]
  have hV1 : V.all (·.oneCell') = true := by rw [hV]; exact bRow_one _
  have HV := Lib.hid hV
  have HVs := Lib.hid hVs
  have HV1 := Lib.hid hV1
  rw [← hV]
  have HRS := Lib.hid hRS
  clear hRS i24 hV hVs hV1
  go_enter Tryd.func21, Tryd.ntmps21
  go_wp2_with fail
  refine calls_named ?_
  intro w1 hw1
  have hR : Holds w1 w.heap.size (bRow []) := by rw [hw1]; exact Holds.new _ _ _
  have hb1 : Below w.heap.size w w1 := by rw [hw1]; exact (Below.refl _ _).alloc (Nat.le_refl _) _
  have HR := Lib.hid hR
  clear hw1 hR
  have hc := HRS.out ⟨#[]⟩ w1 (by decide)
  change Calls _ _ _ _ (fun e w' => e = .returned (.agg (bRow (Sha.root []))) ∧ _) at hc
  rw [← HV.out] at hc
  refine hc.mono ?_
  rintro e w2 ⟨rfl, hb2⟩
  have HR2 := Lib.hid (HR.out.below hb2 HR.out.lt)
  have I24b := Lib.hid (I24.out.trans (congrArg some HVs.out.symm))
  have Hold := Lib.hid ((bRow_size [] (by simp)).trans HVs.out.symm)
  clear hc
  go_wp2_with (refine wpList_store_named rfl 24 (.tmp 2) (.tmp 7) rfl w.heap.size V rfl rfl _ HR2.out I24b.out Hold.out HV1.out ?_; intro w5 hw5)
  obtain ⟨T5, hT5⟩ := (show Holds w5 w.heap.size V from by rw [hw5]; exact HR2.out.row _)
  exact bodyPost_ret (results_cell_row rfl _ _ w.heap.size T5 _ (0, 0) _ rfl hT5 Tryd.underlying24 rfl I24b.out) rfl ⟨by rw [HV.out], by rw [hw5]; exact below_setRow (hb1.trans (hb2.mono hb1.size)) (Nat.le_refl _) _⟩

set_option maxHeartbeats 1000000 in
set_option maxRecDepth 100000 in
theorem refRoot_1 (hRS : RefSum) (l : List UInt8) (b off cap : Nat) (w : World) (hL : Lies w w.heap.size b off [l]) (hl : l.length ≤ 140737488354000) :
    Calls Tryd.prog 21 #[.slice (some ⟨b, off, none⟩) 1 cap] w fun e w' => e = .returned (.agg (bRow (Sha.root [l]))) ∧ Below w.heap.size w w' := by
  have hcell := hL.2 0 (by simp)
  have hblt := hL.1
  have hcell2 : ∀ o, (w.alloc o).cell? ⟨b, off, none⟩ = some (S l) := fun o => ((((Below.refl w.heap.size w).alloc (Nat.le_refl _) o).cell (p := ⟨b, off, none⟩) hblt).trans hcell)
  have hbig : ¬ (9223372036854775807 < 1 + l.length) := by omega
  have i24 : (Tryd.prog.info? 24).map (·.size) = some 32 := by kernel_rfl
  have I24 := Lib.hid i24
  obtain ⟨V, hV⟩ : ∃ V, V = bRow (Sha.root [l]) := ⟨_, rfl⟩
  have hVs : V.size = 32 := by rw [hV, bRow_size _ (by rw [Sha.root_len]; omega)]
  have hV1 : V.all (·.oneCell') = true := by rw [hV]; exact bRow_one _
  have HV := Lib.hid hV
  have HVs := Lib.hid hVs
  have HV1 := Lib.hid hV1
  rw [← hV]
  have HRS := Lib.hid hRS
  clear hRS i24 hV hVs hV1 hcell hL
  go_enter Tryd.func21, Tryd.ntmps21
  go_wp2_with fail
  refine calls_named ?_
  intro w1 hw1
  have hR : Holds w1 w.heap.size (bRow []) := by rw [hw1]; exact Holds.new _ _ _
  have hb1 : Below w.heap.size w w1 := by rw [hw1]; exact (Below.refl _ _).alloc (Nat.le_refl _) _
  have HR := Lib.hid hR
  clear hw1 hR hcell2
  have hsz : ((⟨#[0]⟩ : ByteArray) ++ (⟨l.toArray⟩ : ByteArray)).size = 1 + l.length := by
    rw [ByteArray.size_append]; rfl
  have hdl : ((⟨#[0]⟩ : ByteArray) ++ (⟨l.toArray⟩ : ByteArray)).data.toList = 0 :: l := by rw [ByteArray.data_append]; simp
  have hc := HRS.out ((⟨#[0]⟩ : ByteArray) ++ (⟨l.toArray⟩ : ByteArray)) w1 (by rw [hsz]; omega)
  rw [hdl, ← Sha.root_one, ← HV.out] at hc
  refine hc.mono ?_
  rintro e w2 ⟨rfl, hb2⟩
  have HR2 := Lib.hid (HR.out.below hb2 HR.out.lt)
  have I24b := Lib.hid (I24.out.trans (congrArg some HVs.out.symm))
  have Hold := Lib.hid ((bRow_size [] (by simp)).trans HVs.out.symm)
  clear hc hdl hsz
  go_wp2_with (refine wpList_store_named rfl 24 (.tmp 2) (.tmp 15) rfl w.heap.size V rfl rfl _ HR2.out I24b.out Hold.out HV1.out ?_; intro w5 hw5)
  obtain ⟨T5, hT5⟩ := (show Holds w5 w.heap.size V from by rw [hw5]; exact HR2.out.row _)
  exact bodyPost_ret (results_cell_row rfl _ _ w.heap.size T5 _ (0, 0) _ rfl hT5 Tryd.underlying24 rfl I24b.out) rfl ⟨by rw [HV.out], by rw [hw5]; exact below_setRow (hb1.trans (hb2.mono hb1.size)) (Nat.le_refl _) _⟩

theorem refRoot_some (hRS : RefSum) : ∀ (n : Nat) (L : List (List UInt8)) (b off cap : Nat) (w : World), L.length = n → Lies w w.heap.size b off L → SmallR L → L.length ≤ cap → L.length ≤ 4611686018427387904 →
    Calls Tryd.prog 21 #[.slice (some ⟨b, off, none⟩) L.length cap] w fun e w' => e = .returned (.agg (bRow (Sha.root L))) ∧ Below w.heap.size w w' := by
  intro n
  induction n using Nat.strongRecOn with
  | ind n ih =>
    intro L b off cap w hn hL hS hc hbig
    match L, hn with
    | [], _ => exact refRoot_0 hRS _ cap w
    | [l], _ => exact refRoot_1 hRS l b off cap w hL (hS 0 (by simp))
    | l :: m :: L, hn =>
      refine refRoot_two hRS (l :: m :: L) b off cap w hL hS (by simp) hc hbig ?_
      intro M b' off' cap' w' hM hL' hS' hc'
      exact ih M.length (by omega) M b' off' cap' w' rfl hL' hS' hc' (by omega)
end Go.Proofs.YtdifbndpgbdkbaaDoor
