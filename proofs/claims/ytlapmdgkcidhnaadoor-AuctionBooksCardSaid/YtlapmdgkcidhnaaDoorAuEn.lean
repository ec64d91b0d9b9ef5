/- The auction: a bid that counts, with what settles it (entry); higher. -/
import Derived.Test.YtlapmdgkcidhnaaDoorSlD
import Derived.Test.YtlapmdgkcidhnaaDoorAuMath
import Derived.Test.YtlapmdgkcidhnaaDoorChg
import Derived.Sort.Walk0
import Derived.Laws.Cover1
namespace Go.Proofs.YtlapmdgkcidhnaaDoor
open Go.RowKit
set_option linter.unusedVariables false
set_option linter.unusedSimpArgs false

namespace Au
def txt (b : Bd) : List UInt8 := b.textE.1
def sum (b : Bd) : List UInt8 := Sha.sum (txt b)
theorem sum_len (b : Bd) : (sum b).length = 32 := Sha.sum_len _
def hi : Bd → Bd → Bool := higher Bd.amount sum txt
/-- an entry's cells -/
def en (b : Bd) : List Value := b.cells ++ ((bRow (sum b)).toList ++ [S (txt b)])
theorem en_len {b : Bd} (h : b.tag.length = 32) : (en b).length = 69 := by
  unfold en
  rw [List.length_append, List.length_append, Bd.cells_len h, Tx.bRow_len _ (sum_len b)]
  rfl
theorem en_one {b : Bd} (h : b.tag.length = 32) : ∀ v ∈ en b, v.oneCell' = true := by
  intro v hv
  unfold en at hv
  rcases List.mem_append.1 hv with h1 | h1
  · exact Bd.cells_one h v h1
  · rcases List.mem_append.1 h1 with h2 | h2
    · exact hash_one _ (sum_len b) v h2
    · simp at h2; subst h2; rfl
end Au
theorem entry_size : (Tryd.prog.info? 97).map (·.size) = some 69 := by kernel_rfl
/-- a struct's cells in memory -/
theorem range_part {W : World} {g o : Nat} {xs ys zs : List Value} (h : W.rangeAt g o (xs ++ (ys ++ zs))) : W.rangeAt g (o + xs.length) ys := by
  intro j v hv
  have h1 := h (xs.length + j) v (by
    rw [List.getElem?_append_right (by omega), Nat.add_sub_cancel_left]
    exact (List.getElem?_append_left (List.getElem?_eq_some_iff.1 hv).1).trans hv)
  rwa [← Nat.add_assoc] at h1
theorem range_head {W : World} {g o : Nat} {xs ys : List Value} (h : W.rangeAt g o (xs ++ ys)) : W.rangeAt g o xs := by
  intro j v hv
  exact h j v ((List.getElem?_append_left (List.getElem?_eq_some_iff.1 hv).1).trans hv)
theorem en_at {W : World} {g o : Nat} {b : Bd} (ht : b.tag.length = 32) (h : W.rangeAt g o (Au.en b)) :
    W.rangeAt g o b.cells ∧ W.cell? ⟨g, o + 2, none⟩ = some (.int .i64 b.amount) ∧ W.rangeAt g (o + 36) (bRow (Au.sum b)).toList ∧ W.cell? ⟨g, o + 68, none⟩ = some (S (Au.txt b)) := by
  unfold Au.en at h
  refine ⟨range_head h, ?_, ?_, ?_⟩
  · exact range_head h 2 _ rfl
  · have := range_part h
    rwa [Bd.cells_len ht] at this
  · refine h 68 _ ?_
    rw [List.getElem?_append_right (by rw [Bd.cells_len ht]; omega), Bd.cells_len ht, List.getElem?_append_right (by rw [Tx.bRow_len _ (Au.sum_len b)]; omega), Tx.bRow_len _ (Au.sum_len b)]
    rfl
/-- a hash in memory as a text -/
theorem hash_textL (W : World) (g off : Nat) (h : List UInt8) (hh : h.length = 32) (hg : W.rangeAt g off (bRow h).toList) :
    (Go.convert 129 9 (.slice (some ⟨g, off, none⟩) 32 32)).run Tryd.prog W = .ok (S h) W := by
  have := run_convert_bytes_arg (P := Tryd.prog) W 129 5 Tryd.underlying129 Tryd.underlying5 g off 32 32 (h.map fun b => (b.toNat : Int)) (by rw [List.length_map, hh]) (fun i hi => by
    refine hg i _ ?_
    rw [Array.getElem?_toList, bRow_yRow h hh]
    exact yRow_at h i (by omega)) 9 Tryd.underlying9
  rw [bytes_of_] at this
  exact this
theorem range_drewN {W : World} {g o : Nat} {xs : List Value} (h : W.rangeAt g o xs) (n : Nat) : (W.drewN n).rangeAt g o xs := h
set_option maxHeartbeats 1600000 in
set_option maxRecDepth 20000 in
theorem higher_0 (a b : Bd) (ha : a.tag.length = 32) (hb : b.tag.length = 32) (w : World) (h0 : a.amount ≠ b.amount) :
    Calls Tryd.prog 48 #[.agg (Au.en a).toArray, .agg (Au.en b).toArray] w fun e w' => e = .returned (.bool (Au.hi a b)) ∧ Below w.heap.size w w' := by
  obtain ⟨r2, hb0, r1⟩ := row_two w (Au.en a).toArray (Au.en b).toArray 97 97
  rw [List.toList_toArray] at r1 r2
  obtain ⟨_, a2, a36, a68⟩ := en_at ha (row_range r1)
  obtain ⟨_, b2, b36, b68⟩ := en_at hb (row_range r2)
  simp only [Nat.zero_add] at a2 a36 a68 b2 b36 b68
  have HB0 := Lib.hid hb0
  have hD : (Au.hi a b) = if a.amount ≠ b.amount then decide (b.amount < a.amount) else if Au.sum a ≠ Au.sum b then decide (Au.sum a < Au.sum b) else decide (Au.txt a < Au.txt b) := rfl
  have hsa := Au.sum_len a
  have hsb := Au.sum_len b
  obtain ⟨R, hR⟩ : ∃ R, R = Au.hi a b := ⟨_, rfl⟩
  rw [← hR] at hD ⊢
  clear hR hb0 r1 r2 ha hb
  generalize Au.en a = C1 at *
  generalize Au.en b = C2 at *
  generalize a.amount = x at *
  generalize b.amount = y at *
  generalize Au.sum a = p at *
  generalize Au.sum b = q at *
  generalize Au.txt a = s at *
  generalize Au.txt b = t at *
  have e0 : (x != y) = true := by simpa using h0
  have HR : Hid (R = decide (y < x)) := Lib.hid (by rw [hD, if_pos h0])
  clear hD h0 a36 b36 a68 b68 hsa hsb
  go_enter Tryd.func48, Tryd.ntmps48
  go_wp2_with fail
  go_ret
  refine ⟨?_, HB0.out⟩
  rw [HR.out]
  rfl
set_option maxHeartbeats 1600000 in
set_option maxRecDepth 20000 in
theorem higher_1 (a b : Bd) (ha : a.tag.length = 32) (hb : b.tag.length = 32) (w : World) (h0 : a.amount = b.amount) (h1 : Au.sum a = Au.sum b) :
    Calls Tryd.prog 48 #[.agg (Au.en a).toArray, .agg (Au.en b).toArray] w fun e w' => e = .returned (.bool (Au.hi a b)) ∧ Below w.heap.size w w' := by
  obtain ⟨r2, hb0, r1⟩ := row_two w (Au.en a).toArray (Au.en b).toArray 97 97
  rw [List.toList_toArray] at r1 r2
  obtain ⟨_, a2, a36, a68⟩ := en_at ha (row_range r1)
  obtain ⟨_, b2, b36, b68⟩ := en_at hb (row_range r2)
  simp only [Nat.zero_add] at a2 a36 a68 b2 b36 b68
  have HB0 := Lib.hid hb0
  have hD : (Au.hi a b) = if a.amount ≠ b.amount then decide (b.amount < a.amount) else if Au.sum a ≠ Au.sum b then decide (Au.sum a < Au.sum b) else decide (Au.txt a < Au.txt b) := rfl
  have hsa := Au.sum_len a
  have hsb := Au.sum_len b
  obtain ⟨R, hR⟩ : ∃ R, R = Au.hi a b := ⟨_, rfl⟩
  rw [← hR] at hD ⊢
  clear hR hb0 r1 r2 ha hb
  generalize Au.en a = C1 at *
  generalize Au.en b = C2 at *
  generalize a.amount = x at *
  generalize b.amount = y at *
  generalize Au.sum a = p at *
  generalize Au.sum b = q at *
  generalize Au.txt a = s at *
  generalize Au.txt b = t at *
  have I28 : Hid ((Tryd.prog.info? 28).map (·.size) = some 32) := Lib.hid (by kernel_rfl)
  have HA := Lib.hid a36
  have HB := Lib.hid b36
  have HPL := Lib.hid (Tx.bRow_len _ hsa)
  have HQL := Lib.hid (Tx.bRow_len _ hsb)
  have HPE := Lib.hid (fun W => hash_eq W p q hsa hsb)
  have e0 : (x != y) = false := by simpa using h0
  have e1 : decide (p = q) = true := by simpa using h1
  have HR : Hid (R = decide (s < t)) := Lib.hid (by rw [hD, if_neg (by simp [h0]), if_neg (by simp [h1])])
  clear hD h0 h1 a36 b36 hsa hsb
  have hpe := fun W => (HPE.out W).trans (by rw [e1])
  clear HPE e1
  go_enter Tryd.func48, Tryd.ntmps48
  go_wp2_with (first
    | (with_reducible show wpList _ _ _ (⟨_, .load 28 (.tmp 19), _, _, _, _⟩ :: _) _ _; refine wpList_load_tx rfl 28 (.tmp 19) rfl w.heap.size 36 rfl (bRow p).toList _ HA.out Tryd.underlying28 rfl (by rw [I28.out, HPL.out]) ?_)
    | (with_reducible show wpList _ _ _ (⟨_, .load 28 (.tmp 21), _, _, _, _⟩ :: _) _ _; refine wpList_load_tx rfl 28 (.tmp 21) rfl (w.heap.size + 1) 36 rfl (bRow q).toList _ HB.out Tryd.underlying28 rfl (by rw [I28.out, HQL.out]) ?_))
  go_ret
  refine ⟨?_, HB0.out⟩
  rw [HR.out, bytesLess_eq]
  simp
set_option maxHeartbeats 1600000 in
set_option maxRecDepth 20000 in
theorem higher_2 (a b : Bd) (ha : a.tag.length = 32) (hb : b.tag.length = 32) (w : World) (h0 : a.amount = b.amount) (h1 : Au.sum a ≠ Au.sum b) :
    Calls Tryd.prog 48 #[.agg (Au.en a).toArray, .agg (Au.en b).toArray] w fun e w' => e = .returned (.bool (Au.hi a b)) ∧ Below w.heap.size w w' := by
  obtain ⟨r2, hb0, r1⟩ := row_two w (Au.en a).toArray (Au.en b).toArray 97 97
  rw [List.toList_toArray] at r1 r2
  obtain ⟨_, a2, a36, a68⟩ := en_at ha (row_range r1)
  obtain ⟨_, b2, b36, b68⟩ := en_at hb (row_range r2)
  simp only [Nat.zero_add] at a2 a36 a68 b2 b36 b68
  have HB0 := Lib.hid hb0
  have hD : (Au.hi a b) = if a.amount ≠ b.amount then decide (b.amount < a.amount) else if Au.sum a ≠ Au.sum b then decide (Au.sum a < Au.sum b) else decide (Au.txt a < Au.txt b) := rfl
  have hsa := Au.sum_len a
  have hsb := Au.sum_len b
  obtain ⟨R, hR⟩ : ∃ R, R = Au.hi a b := ⟨_, rfl⟩
  rw [← hR] at hD ⊢
  clear hR hb0 r1 r2 ha hb
  generalize Au.en a = C1 at *
  generalize Au.en b = C2 at *
  generalize a.amount = x at *
  generalize b.amount = y at *
  generalize Au.sum a = p at *
  generalize Au.sum b = q at *
  generalize Au.txt a = s at *
  generalize Au.txt b = t at *
  have I28 : Hid ((Tryd.prog.info? 28).map (·.size) = some 32) := Lib.hid (by kernel_rfl)
  have HA := Lib.hid a36
  have HB := Lib.hid b36
  have HPL := Lib.hid (Tx.bRow_len _ hsa)
  have HQL := Lib.hid (Tx.bRow_len _ hsb)
  have HPE := Lib.hid (fun W => hash_eq W p q hsa hsb)
  have e0 : (x != y) = false := by simpa using h0
  have e1 : decide (p = q) = false := by simpa using h1
  have HR : Hid (R = Op.bytesLess p q) := Lib.hid (by rw [hD, if_neg (by simp [h0]), if_pos h1, bytesLess_eq])
  have Hsa := Lib.hid hsa
  have Hsb := Lib.hid hsb
  clear hD h0 h1 a36 b36 hsa hsb a68 b68
  have hpe := fun W => (HPE.out W).trans (by rw [e1])
  clear HPE e1
  go_enter Tryd.func48, Tryd.ntmps48
  go_wp2_with (first
    | (with_reducible show wpList _ _ _ (⟨_, .load 28 (.tmp 19), _, _, _, _⟩ :: _) _ _; refine wpList_load_tx rfl 28 (.tmp 19) rfl w.heap.size 36 rfl (bRow p).toList _ HA.out Tryd.underlying28 rfl (by rw [I28.out, HPL.out]) ?_)
    | (with_reducible show wpList _ _ _ (⟨_, .load 28 (.tmp 21), _, _, _, _⟩ :: _) _ _; refine wpList_load_tx rfl 28 (.tmp 21) rfl (w.heap.size + 1) 36 rfl (bRow q).toList _ HB.out Tryd.underlying28 rfl (by rw [I28.out, HQL.out]) ?_))
  have hc1 := fun n => hash_textL (((w.alloc (.cells C1.toArray 97)).alloc (.cells C2.toArray 97)).drewN n) w.heap.size 36 p Hsa.out (range_drewN HA.out n)
  have hc2 := fun n => hash_textL (((w.alloc (.cells C1.toArray 97)).alloc (.cells C2.toArray 97)).drewN n) (w.heap.size + 1) 36 q Hsb.out (range_drewN HB.out n)
  go_quiet (fail)
  go_wp2_with fail
  go_ret
  refine ⟨?_, below_drewN' HB0.out _⟩
  rw [HR.out]
  simp
theorem higher_any (a b : Bd) (ha : a.tag.length = 32) (hb : b.tag.length = 32) (w : World) :
    Calls Tryd.prog 48 #[.agg (Au.en a).toArray, .agg (Au.en b).toArray] w fun e w' => e = .returned (.bool (Au.hi a b)) ∧ Below w.heap.size w w' := by
  by_cases h0 : a.amount = b.amount
  · by_cases h1 : Au.sum a = Au.sum b
    · exact higher_1 a b ha hb w h0 h1
    · exact higher_2 a b ha hb w h0 h1
  · exact higher_0 a b ha hb w h0
end Go.Proofs.YtlapmdgkcidhnaaDoor
