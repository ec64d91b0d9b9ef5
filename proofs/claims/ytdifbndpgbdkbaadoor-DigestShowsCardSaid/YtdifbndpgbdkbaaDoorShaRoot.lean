/- digest.Root: what it returns. -/
import Derived.Test.YtdifbndpgbdkbaaDoorShaHalf
import Derived.Deep.RegionHeld3
namespace Go.Proofs.YtdifbndpgbdkbaaDoor
open Go.RowKit
set_option linter.unusedVariables false
set_option linter.unusedSimpArgs false

namespace Sha
/-- a list's root, with fuel -/
def rootF : Nat → List (List UInt8) → List UInt8
  | 0, _ => []
  | f + 1, L => if L.length = 0 then sum [] else if L.length = 1 then sum (0 :: L.getD 0 []) else sum (1 :: (rootF f (L.take (half L.length)) ++ rootF f (L.drop (half L.length))))
def root (L : List (List UInt8)) : List UInt8 := rootF (L.length + 1) L
theorem rootF_any : ∀ f g L, L.length < f → L.length < g → rootF f L = rootF g L
  | 0, _, _, h, _ => by omega
  | _, 0, _, _, h => by omega
  | f + 1, g + 1, L, h1, h2 => by
    simp only [rootF]
    by_cases h0 : L.length = 0
    · rw [if_pos h0, if_pos h0]
    · by_cases h3 : L.length = 1
      · rw [if_neg h0, if_neg h0, if_pos h3, if_pos h3]
      · have hl := half_lt L.length (by omega)
        have hp := half_pos L.length
        rw [if_neg h0, if_neg h0, if_neg h3, if_neg h3, rootF_any f g (L.take (half L.length)) (by rw [List.length_take]; omega) (by rw [List.length_take]; omega),
          rootF_any f g (L.drop (half L.length)) (by rw [List.length_drop]; omega) (by rw [List.length_drop]; omega)]
theorem root_none : root [] = sum [] := rfl
theorem root_one (l : List UInt8) : root [l] = sum (0 :: l) := rfl
theorem root_more (L : List (List UInt8)) (h : 2 ≤ L.length) : root L = sum (1 :: (root (L.take (half L.length)) ++ root (L.drop (half L.length)))) := by
  have hl := half_lt L.length h
  have hp := half_pos L.length
  have e : root L = rootF (L.length + 1) L := rfl
  rw [e]
  simp only [rootF]
  rw [if_neg (by omega), if_neg (by omega)]
  unfold root
  rw [rootF_any L.length _ (L.take (half L.length)) (by rw [List.length_take]; omega) (Nat.lt_succ_self _), rootF_any L.length _ (L.drop (half L.length)) (by rw [List.length_drop]; omega) (Nat.lt_succ_self _)]
theorem root_len (L : List (List UInt8)) : (root L).length = 32 := by
  unfold root
  simp only [rootF]
  split
  · exact sum_len _
  · split <;> exact sum_len _
end Sha
/-- texts lie in memory from here on -/
def Lies (w : World) (B b off : Nat) (L : List (List UInt8)) : Prop := b < B ∧ ∀ i, i < L.length → w.cell? ⟨b, off + i, none⟩ = some (S (L.getD i []))
theorem Lies.take {w : World} {B b off : Nat} {L : List (List UInt8)} (h : Lies w B b off L) (k : Nat) : Lies w B b off (L.take k) :=
  ⟨h.1, fun i hi => by
    rw [List.length_take] at hi
    rw [h.2 i (by omega)]
    simp [List.getD, List.getElem?_take, show i < k by omega]⟩
theorem Lies.drop {w : World} {B b off : Nat} {L : List (List UInt8)} (h : Lies w B b off L) (k : Nat) : Lies w B b (off + k) (L.drop k) :=
  ⟨h.1, fun i hi => by
    rw [List.length_drop] at hi
    rw [Nat.add_assoc, h.2 (k + i) (by omega)]
    simp [List.getD, List.getElem?_drop]⟩
theorem Lies.below {w w' : World} {B C b off : Nat} {L : List (List UInt8)} (h : Lies w B b off L) (hb : Below C w w') (hC : B ≤ C) : Lies w' B b off L :=
  ⟨h.1, fun i hi => (hb.cell (p := ⟨b, off + i, none⟩) (by have := h.1; exact Nat.lt_of_lt_of_le this hC)).trans (h.2 i hi)⟩
theorem Lies.mono {w : World} {B C b off : Nat} {L : List (List UInt8)} (h : Lies w B b off L) (hC : B ≤ C) : Lies w C b off L := ⟨Nat.lt_of_lt_of_le h.1 hC, h.2⟩
/-- no text is too long -/
def Small (L : List (List UInt8)) : Prop := ∀ i, i < L.length → (L.getD i []).length ≤ 1152921504606846000
theorem Small.take {L : List (List UInt8)} (h : Small L) (k : Nat) : Small (L.take k) := fun i hi => by
  rw [List.length_take] at hi
  have := h i (by omega)
  simpa [List.getD, List.getElem?_take, show i < k by omega] using this
theorem Small.drop {L : List (List UInt8)} (h : Small L) (k : Nat) : Small (L.drop k) := fun i hi => by
  rw [List.length_drop] at hi
  have := h (k + i) (by omega)
  simpa [List.getD, List.getElem?_drop] using this

theorem Holds.cellsAt {b : Nat} : ∀ (vs old pre post : List Value) (w : World), old.length = vs.length → Holds w b (pre ++ (old ++ post)).toArray → Holds (w.setCells b pre.length vs) b (pre ++ (vs ++ post)).toArray
  | [], [], pre, post, w, _, h => h
  | v :: vs, x :: old, pre, post, w, hl, h => by
    have h1 := h.set_ pre.length v
    simp only [List.setIfInBounds_toArray] at h1
    rw [List.set_append_right _ _ (Nat.le_refl _), Nat.sub_self, List.cons_append, List.set_cons_zero] at h1
    have h2 := Holds.cellsAt vs old (pre ++ [v]) post _ (by simpa using hl) (by simpa using h1)
    simp only [List.length_append, List.length_singleton, List.append_assoc, List.singleton_append] at h2
    exact h2
  | [], _ :: _, _, _, _, hl, _ => by simp at hl
  | _ :: _, [], _, _, _, hl, _ => by simp at hl
theorem Holds.cells {w : World} {b : Nat} {cs V : Array Value} (h : Holds w b cs) (hs : cs.size = V.size) : Holds (w.setCells b 0 V.toList) b V := by
  have := Holds.cellsAt (b := b) V.toList cs.toList [] [] w (by simpa using hs) (by simpa using h)
  simpa using this
theorem Holds.there {w : World} {b n : Nat} {cs : Array Value} (h : Holds w b cs) (hs : n = cs.size) : w.there b 0 n := fun j hj => by
  rw [Nat.zero_add]
  refine ⟨?_, h.free j⟩
  rw [h.cell j, Array.getElem?_eq_getElem (by omega)]
  rfl
theorem below_cells {B b : Nat} {a : World} (hb : B ≤ b) : ∀ (vs : List Value) (o : Nat) (w : World), Below B a w → Below B a (w.setCells b o vs)
  | [], _, _, h => h
  | v :: vs, o, w, h => below_cells hb vs (o + 1) _ (h.setCell hb _)
/-- below stands what stood, the result's row lies -/
def Kept (w w' : World) : Prop := Below w.heap.size w w' ∧ ∃ cs, cs.size = 32 ∧ Holds w' w.heap.size cs
theorem kept_step {w w' w'' : World} {V : Array Value} (hb : Below w'.heap.size w' w'') (hV : V.size = 32) (h : Kept w w' ∧ w'.there w.heap.size 0 V.toList.length) : Kept w w'' ∧ w''.there w.heap.size 0 V.toList.length := by
  obtain ⟨⟨h1, cs, h2, h3⟩, _⟩ := h
  have h4 := h3.below hb h3.lt
  exact ⟨⟨h1.trans (hb.mono h1.size), cs, h2, h4⟩, h4.there (by simp [h2, hV])⟩
theorem kept_cells {w w' : World} {V : Array Value} (hV : V.size = 32) (h : Kept w w' ∧ w'.there w.heap.size 0 V.toList.length) :
    (Kept w (w'.setCells w.heap.size 0 V.toList) ∧ (w'.setCells w.heap.size 0 V.toList).there w.heap.size 0 V.toList.length) ∧ Holds (w'.setCells w.heap.size 0 V.toList) w.heap.size V := by
  obtain ⟨⟨h1, cs, h2, h3⟩, _⟩ := h
  have h4 := h3.cells (V := V) (h2.trans hV.symm)
  exact ⟨⟨⟨below_cells (Nat.le_refl _) _ _ _ h1, V, hV, h4⟩, h4.there (by simp)⟩, h4⟩
set_option maxHeartbeats 2000000 in
set_option maxRecDepth 100000 in
theorem root_two (L : List (List UInt8)) (b off cap : Nat) (w : World) (hT : Tab w) (hL : Lies w w.heap.size b off L) (hS : Small L) (h2 : 2 ≤ L.length) (hc : L.length ≤ cap) (hn : L.length ≤ 9223372036854775807)
    (ih : ∀ (M : List (List UInt8)) (b off cap : Nat) (w : World), M.length < L.length → Tab w → Lies w w.heap.size b off M → Small M → M.length ≤ cap → 
      Calls Tryd.prog 20 #[.slice (some ⟨b, off, none⟩) M.length cap] w fun e w' => e = .returned (.agg (bRow (Sha.root M))) ∧ Below w.heap.size w w') :
    Calls Tryd.prog 20 #[.slice (some ⟨b, off, none⟩) L.length cap] w fun e w' => e = .returned (.agg (bRow (Sha.root L))) ∧ Below w.heap.size w w' := by
  have HT := Lib.hid hT
  have hpos := hT.pos
  have HL := Lib.hid hL
  have HS := Lib.hid hS
  have IH := Lib.hid ih
  have i24 : (Tryd.prog.info? 24).map (·.size) = some 32 := by kernel_rfl
  have I24 := Lib.hid i24
  have d0 : ((L.length : Int) == 0) = false := by simp only [beq_eq_false_iff_ne]; omega
  have d1 : ((L.length : Int) == 1) = false := by simp only [beq_eq_false_iff_ne]; omega
  have hl := Sha.half_lt L.length h2
  have hp := Sha.half_pos L.length
  obtain ⟨V, hV⟩ : ∃ V, V = bRow (Sha.root L) := ⟨_, rfl⟩
  have hVs : V.size = 32 := by rw [hV, bRow_size _ (by rw [Sha.root_len]; omega)]
  have hVl : V.toList.length = 32 := by simp [hVs]
  have hV1 : ∀ v ∈ V.toList, v.oneCell' = true := by
    have := bRow_one (Sha.root L)
    rw [← hV] at this
    intro v hv
    rw [Array.all_eq_true_iff_forall_mem] at this
    exact this v (Array.mem_toList_iff.1 hv)
  have hVi : (Tryd.prog.info? 24).map (·.size) = some V.toList.length := I24.out.trans (congrArg some hVl.symm)
  rw [← hV]
  have HV := Lib.hid hV
  have HVl := Lib.hid hVl
  have HV1 := Lib.hid hV1
  have HVi := Lib.hid hVi
  have HVs := Lib.hid hVs
  clear hV hVl hV1 hVi hVs
  clear hT hL hS ih i24
  go_enter Tryd.func20, Tryd.ntmps20
  go_wp2_with fail
  refine calls_named ?_
  intro w1 hw1
  have hR : Holds w1 w.heap.size (bRow []) := by rw [hw1]; exact Holds.new _ _ _
  have hb1 : Below w.heap.size w w1 := by rw [hw1]; exact (Below.refl _ _).alloc (Nat.le_refl _) _
  have HR := Lib.hid hR
  clear hw1 hR
  refine (half_any L.length w1 h2 hn).mono ?_
  rintro e w2 ⟨rfl, rfl⟩
  obtain ⟨k, hk⟩ : ∃ k, k = Sha.half L.length := ⟨_, rfl⟩
  rw [← hk] at hl hp
  have hroot := Sha.root_more L h2
  rw [← hk] at hroot
  have Hroot := Lib.hid hroot
  rw [← hk]
  clear hk hroot
  have hl' : (k : Int) < (L.length : Int) := by omega
  have hkc : (k : Int) ≤ (cap : Int) := by omega
  have hkL : (k : Int) ≤ (L.length : Int) := by omega
  have hLc : (L.length : Int) ≤ (cap : Int) := by omega
  go_wp2_with fail
  have hck : ¬ cap = k := by omega
  have hck2 : ¬ (cap : Int) = (k : Int) := by omega
  have hlt1 : (L.take k).length = k := by rw [List.length_take]; omega
  have hlt2 : (L.drop k).length = L.length - k := List.length_drop ..
  have c1 : ∀ w', Kept w w' → Calls Tryd.prog 20 #[.slice (some ⟨b, off, none⟩) k cap] w' fun e w'' => e = .returned (.agg (bRow (Sha.root (L.take k)))) ∧ Below w'.heap.size w' w'' := by
    intro w' hk
    have := IH.out (L.take k) b off cap w' (by omega) (HT.out.below hk.1 hpos) (((HL.out.below hk.1 (Nat.le_refl _)).mono hk.1.size).take k) (HS.out.take k) (by omega)
    rw [hlt1] at this
    exact this
  have c2 : ∀ w', Kept w w' → Calls Tryd.prog 20 #[.slice (some ⟨b, off + k, none⟩) (L.length - k) (cap - k)] w' fun e w'' => e = .returned (.agg (bRow (Sha.root (L.drop k)))) ∧ Below w'.heap.size w' w'' := by
    intro w' hk
    have := IH.out (L.drop k) b (off + k) (cap - k) w' (by omega) (HT.out.below hk.1 hpos) (((HL.out.below hk.1 (Nat.le_refl _)).mono hk.1.size).drop k) (HS.out.drop k) (by omega)
    rw [hlt2] at this
    exact this
  have c3 : ∀ w', Kept w w' → Calls Tryd.prog 44 #[.agg (bRow (Sha.root (L.take k))), .agg (bRow (Sha.root (L.drop k)))] w' fun e w'' => e = .returned (.agg (bRow (Sha.sum (1 :: (Sha.root (L.take k) ++ Sha.root (L.drop k)))))) ∧ Below w'.heap.size w' w'' :=
    fun w' hk => join_any _ _ w' (HT.out.below hk.1 hpos) (Sha.root_len _) (Sha.root_len _)
  rw [← Hroot.out] at c3
  rw [← HV.out] at c3
  have hVl := HVl.out
  have hV1 := HV1.out
  have hVi := HVi.out
  have hVs := HVs.out
  have hu := Tryd.underlying24
  have C1 := Lib.hid c1
  have C2 := Lib.hid c2
  have C3 := Lib.hid c3
  have hkeep0 : Kept w w2.drew ∧ w2.drew.there w.heap.size 0 V.toList.length := ⟨⟨hb1.drew, _, bRow_size [] (by simp), HR.out.drew⟩, HR.out.drew.there (by rw [hVl, bRow_size [] (by simp)])⟩
  clear c1 c2 c3 hlt1 hlt2 hVs
  go_region_held3 (fun w' => Kept w w' ∧ w'.there w.heap.size 0 V.toList.length) (first | assumption | exact hkeep0 | (exact kept_step (by assumption) HVs.out (by assumption)) | exact (kept_cells HVs.out (by assumption)).1)
    (first
      | (go_at_call 20; with_reducible refine Calls.mono (C1.out _ (And.left (by assumption))) ?_; rintro e w' ⟨rfl, hb'⟩)
      | (go_at_call 20; with_reducible refine Calls.mono (C2.out _ (And.left (by assumption))) ?_; rintro e w' ⟨rfl, hb'⟩)
      | (go_at_call 44; with_reducible refine Calls.mono (C3.out _ (And.left (by assumption))) ?_; rintro e w' ⟨rfl, hb'⟩))
  have kc := kept_cells (w' := w') HVs.out (kept_step (by assumption) HVs.out (kept_step (by assumption) HVs.out (kept_step (by assumption) HVs.out hkeep0)))
  obtain ⟨w5, hw5⟩ : ∃ w5, w5 = w'.setCells w.heap.size 0 V.toList := ⟨_, rfl⟩
  rw [← hw5] at kc
  rw [← hw5]
  obtain ⟨⟨⟨hb5, _⟩, _⟩, T5, hT5⟩ := kc
  have I24b := Lib.hid (I24.out.trans (congrArg some HVs.out.symm))
  clear hw5 hVi hV1
  go_wp2_with fail
  exact bodyPost_ret (results_cell_row rfl _ _ w.heap.size T5 _ (0, 0) _ rfl hT5 Tryd.underlying24 rfl I24b.out) rfl ⟨by rw [HV.out], hb5⟩

set_option maxHeartbeats 1000000 in
set_option maxRecDepth 100000 in
theorem root_0 (A : Option Addr) (cap : Nat) (w : World) (hT : Tab w) :
    Calls Tryd.prog 20 #[.slice A 0 cap] w fun e w' => e = .returned (.agg (bRow (Sha.root []))) ∧ Below w.heap.size w w' := by
  have HT := Lib.hid hT
  have hpos := hT.pos
  have i24 : (Tryd.prog.info? 24).map (·.size) = some 32 := by kernel_rfl
  have I24 := Lib.hid i24
  obtain ⟨V, hV⟩ : ∃ V, V = bRow (Sha.root []) := ⟨_, rfl⟩
  have hVs : V.size = 32 := by rw [hV, bRow_size _ (by rw [Sha.root_len]; omega)]
  have hV1 : V.all (·.oneCell') = true := by rw [hV]; exact bRow_one _
  have HV := Lib.hid hV
  have HVs := Lib.hid hVs
  have HV1 := Lib.hid hV1
  rw [← hV]
  clear hT i24 hV hVs hV1
  go_enter Tryd.func20, Tryd.ntmps20
  go_wp2_with fail
  refine calls_named ?_
  intro w1 hw1
  have hR : Holds w1 w.heap.size (bRow []) := by rw [hw1]; exact Holds.new _ _ _
  have hb1 : Below w.heap.size w w1 := by rw [hw1]; exact (Below.refl _ _).alloc (Nat.le_refl _) _
  have HR := Lib.hid hR
  clear hw1 hR
  have hc := sum_any ⟨#[]⟩ w1 (HT.out.below hb1 hpos) (by decide)
  change Calls _ _ _ _ (fun e w' => e = .returned (.agg (bRow (Sha.root []))) ∧ _) at hc
  rw [← HV.out] at hc
  refine hc.mono ?_
  rintro e w2 ⟨rfl, hb2⟩
  have HR2 := Lib.hid (HR.out.below hb2 HR.out.lt)
  have I24b := Lib.hid (I24.out.trans (congrArg some HVs.out.symm))
  have Hold := Lib.hid ((bRow_size [] (by simp)).trans HVs.out.symm)
  clear hc
  go_wp2_with (refine wpList_store_named rfl 24 (.tmp 2) (.tmp 8) rfl w.heap.size V rfl rfl _ HR2.out I24b.out Hold.out HV1.out ?_; intro w5 hw5)
  obtain ⟨T5, hT5⟩ := (show Holds w5 w.heap.size V from by rw [hw5]; exact HR2.out.row _)
  exact bodyPost_ret (results_cell_row rfl _ _ w.heap.size T5 _ (0, 0) _ rfl hT5 Tryd.underlying24 rfl I24b.out) rfl ⟨by rw [HV.out], by rw [hw5]; exact below_setRow (hb1.trans (hb2.mono hb1.size)) (Nat.le_refl _) _⟩

set_option maxHeartbeats 1000000 in
set_option maxRecDepth 100000 in
theorem root_1 (l : List UInt8) (b off cap : Nat) (w : World) (hT : Tab w) (hL : Lies w w.heap.size b off [l]) (hl : l.length ≤ 1152921504606846000) :
    Calls Tryd.prog 20 #[.slice (some ⟨b, off, none⟩) 1 cap] w fun e w' => e = .returned (.agg (bRow (Sha.root [l]))) ∧ Below w.heap.size w w' := by
  have HT := Lib.hid hT
  have hpos := hT.pos
  have hcell := hL.2 0 (by simp)
  have hblt := hL.1
  have hcell2 : ∀ o, (w.alloc o).cell? ⟨b, off, none⟩ = some (S l) := fun o => ((((Below.refl w.heap.size w).alloc (Nat.le_refl _) o).cell (p := ⟨b, off, none⟩) hblt).trans hcell)
  have hbig : ¬ (9223372036854775807 < 1 + l.length) := by omega
  have i24 : (Tryd.prog.info? 24).map (·.size) = some 32 := by kernel_rfl
  have I24 := Lib.hid i24
  obtain ⟨V, hV⟩ : ∃ V, V = bRow (Sha.root [l]) := ⟨_, rfl⟩
  have hVs : V.size = 32 := by rw [hV, bRow_size _ (by rw [Sha.root_len]; omega)]
  have hV1 : V.all (·.oneCell') = true := by rw [hV]; exact bRow_one _
  have HV := Lib.hid hV
  have HVs := Lib.hid hVs
  have HV1 := Lib.hid hV1
  rw [← hV]
  clear hT i24 hV hVs hV1 hcell hL
  go_enter Tryd.func20, Tryd.ntmps20
  go_wp2_with fail
  refine calls_named ?_
  intro w1 hw1
  have hR : Holds w1 w.heap.size (bRow []) := by rw [hw1]; exact Holds.new _ _ _
  have hb1 : Below w.heap.size w w1 := by rw [hw1]; exact (Below.refl _ _).alloc (Nat.le_refl _) _
  have HR := Lib.hid hR
  clear hw1 hR hcell2
  have hsz : ((⟨#[0]⟩ : ByteArray) ++ (⟨l.toArray⟩ : ByteArray)).size = 1 + l.length := by
    rw [ByteArray.size_append]; rfl
  have hdl : ((⟨#[0]⟩ : ByteArray) ++ (⟨l.toArray⟩ : ByteArray)).data.toList = 0 :: l := by rw [ByteArray.data_append]; simp
  have hc := sum_any ((⟨#[0]⟩ : ByteArray) ++ (⟨l.toArray⟩ : ByteArray)) w1 (HT.out.below hb1 hpos) (by rw [hsz]; omega)
  rw [hdl, ← Sha.root_one, ← HV.out] at hc
  refine hc.mono ?_
  rintro e w2 ⟨rfl, hb2⟩
  have HR2 := Lib.hid (HR.out.below hb2 HR.out.lt)
  have I24b := Lib.hid (I24.out.trans (congrArg some HVs.out.symm))
  have Hold := Lib.hid ((bRow_size [] (by simp)).trans HVs.out.symm)
  clear hc hdl hsz
  go_wp2_with (refine wpList_store_named rfl 24 (.tmp 2) (.tmp 15) rfl w.heap.size V rfl rfl _ HR2.out I24b.out Hold.out HV1.out ?_; intro w5 hw5)
  obtain ⟨T5, hT5⟩ := (show Holds w5 w.heap.size V from by rw [hw5]; exact HR2.out.row _)
  exact bodyPost_ret (results_cell_row rfl _ _ w.heap.size T5 _ (0, 0) _ rfl hT5 Tryd.underlying24 rfl I24b.out) rfl ⟨by rw [HV.out], by rw [hw5]; exact below_setRow (hb1.trans (hb2.mono hb1.size)) (Nat.le_refl _) _⟩

theorem root_some : ∀ (n : Nat) (L : List (List UInt8)) (b off cap : Nat) (w : World), L.length = n → Tab w → Lies w w.heap.size b off L → Small L → L.length ≤ cap → L.length ≤ 9223372036854775807 →
    Calls Tryd.prog 20 #[.slice (some ⟨b, off, none⟩) L.length cap] w fun e w' => e = .returned (.agg (bRow (Sha.root L))) ∧ Below w.heap.size w w' := by
  intro n
  induction n using Nat.strongRecOn with
  | ind n ih =>
    intro L b off cap w hn hT hL hS hc hbig
    match L, hn with
    | [], _ => exact root_0 _ cap w hT
    | [l], _ => exact root_1 l b off cap w hT hL (hS 0 (by simp))
    | l :: m :: L, hn =>
      refine root_two (l :: m :: L) b off cap w hT hL hS (by simp) hc hbig ?_
      intro M b' off' cap' w' hM hT' hL' hS' hc'
      exact ih M.length (by omega) M b' off' cap' w' rfl hT' hL' hS' hc' (by omega)
end Go.Proofs.YtdifbndpgbdkbaaDoor
