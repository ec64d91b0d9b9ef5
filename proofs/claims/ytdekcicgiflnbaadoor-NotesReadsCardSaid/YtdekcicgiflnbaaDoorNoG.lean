/- The reference of layer 5: a part's text. -/
/- The reference of layer 5: WriteBatch. -/
import Derived.Test.YtdekcicgiflnbaaDoorNoE
import Derived.Test.YtdekcicgiflnbaaDoorNoF
import Derived.BigQuiet
namespace Go.Proofs.YtdekcicgiflnbaaDoor
open Go.RowKit
set_option linter.unusedVariables false
set_option linter.unusedSimpArgs false

theorem part5_d (t : List UInt8) (w : World) :
    Calls Tryd.prog 84 #[.agg #[.bool true, S t]] w fun e w' => e = .returned (.tuple #[S [2], .bool t.isEmpty]) ∧ Below w.heap.size w w' := by
  go_enter Tryd.func84, Tryd.ntmps84
  go_wp2_with fail
  go_quiet (fail)
  go_wp2_with fail
  go_ret2
  exact ⟨rfl, below_drewN' ((Below.refl w.heap.size w).alloc (Nat.le_refl _) _) _⟩
theorem part5_t (t : List UInt8) (ht : t.length ≤ 140737488351232) (w : World) :
    Calls Tryd.prog 84 #[.agg #[.bool false, S t]] w fun e w' => e = .returned (.tuple #[S (1 :: t), .bool (decide ((t.length : Int) ≤ 656))]) ∧ Below w.heap.size w w' := by
  have hbig : ¬ (9223372036854775807 < 1 + t.length) := by omega
  have hcat := cat_one t
  clear ht
  go_enter Tryd.func84, Tryd.ntmps84
  go_wp2_with fail
  go_quiet (fail)
  go_wp2_with fail
  go_ret2
  exact ⟨rfl, below_drewN' ((Below.refl w.heap.size w).alloc (Nat.le_refl _) _) _⟩
theorem part5_any (d : Bool) (t : List UInt8) (ht : t.length ≤ 140737488351232) (w : World) :
    Calls Tryd.prog 84 #[.agg #[.bool d, S t]] w fun e w' => e = .returned (.tuple #[S (Pt.lay (d, t)), .bool (Pt.ok (d, t))]) ∧ Below w.heap.size w w' := by
  cases d with
  | true =>
    have : Pt.ok (true, t) = t.isEmpty := by rw [pt_ok_iff]; cases t <;> simp
    rw [this]; exact part5_d t w
  | false =>
    have : Pt.ok (false, t) = decide ((t.length : Int) ≤ 656) := by
      rw [pt_ok_iff, Bool.eq_iff_iff]
      simp
      omega
    rw [this]; exact part5_t t ht w
end Go.Proofs.YtdekcicgiflnbaaDoor
namespace Go.Proofs.YtdekcicgiflnbaaDoor
open Go.RowKit
set_option linter.unusedVariables false
set_option linter.unusedSimpArgs false

structure Bt.Fits (b : Bt) : Prop where
  seq : Tx.fits b.seq
  first : Tx.fits b.first
  before : Tx.fits b.before
  texts : ∀ p ∈ b.parts, p.2.length ≤ 140737488351232
theorem bt_box {b : Bt} {A : Option Addr} {cap : Nat} {W : World} {g : Nat} {T : TypeId} (h : Row W g T (b.cells A cap)) : W.cell? ⟨g, 0, none⟩ = some (.int .i64 b.seq) ∧ W.cell? ⟨g, 1, none⟩ = some (.int .i64 b.first) ∧ W.cell? ⟨g, 2, none⟩ = some (.int .i64 b.before) ∧ W.cell? ⟨g, 3, none⟩ = some (.slice A b.parts.length cap) :=
  ⟨h.cell 0 (by simp [Bt.cells]), h.cell 1 (by simp [Bt.cells]), h.cell 2 (by simp [Bt.cells]), h.cell 3 (by simp [Bt.cells])⟩
set_option maxRecDepth 20000 in
theorem rwriteBatch_0 (b : Bt) (A : Option Addr) (cap : Nat) (w : World) (h0 : Tx.num b.seq = false) :
    Calls Tryd.prog 42 #[.agg (b.cells A cap).toArray] w fun e w' => e = .returned (.tuple #[S [], .int .i64 2]) ∧ Below w.heap.size w w' := by
  obtain ⟨c0, c1, c2, c3⟩ := bt_box (Row.new w 55 (b.cells A cap))
  have N0 := Lib.hid (within5_b b.seq 1099511627776 _ h0)
  generalize b.cells A cap = C at *
  clear h0
  go_enter Tryd.func42, Tryd.ntmps42
  go_wp2_with fail
  refine (N0.out _).mono ?_
  rintro _ w1 ⟨rfl, rfl⟩
  go_wp2_with fail
  go_ret2
  exact ⟨rfl, (Below.refl w.heap.size w).alloc (Nat.le_refl _) _⟩
set_option maxRecDepth 20000 in
theorem rwriteBatch_1 (b : Bt) (A : Option Addr) (cap : Nat) (w : World) (h0 : Tx.num b.seq = true) (h1 : Tx.num b.first = false) :
    Calls Tryd.prog 42 #[.agg (b.cells A cap).toArray] w fun e w' => e = .returned (.tuple #[S [], .int .i64 2]) ∧ Below w.heap.size w w' := by
  obtain ⟨c0, c1, c2, c3⟩ := bt_box (Row.new w 55 (b.cells A cap))
  have N0 := Lib.hid (within5_b b.seq 1099511627776 _ h0)
  have N1 := Lib.hid (within5_b b.first 1099511627776 _ h1)
  generalize b.cells A cap = C at *
  clear h0 h1
  go_enter Tryd.func42, Tryd.ntmps42
  go_wp2_with fail
  refine (N0.out _).mono ?_
  rintro _ w1 ⟨rfl, rfl⟩
  go_wp2_with fail
  refine (N1.out _).mono ?_
  rintro _ w1 ⟨rfl, rfl⟩
  go_wp2_with fail
  go_ret2
  exact ⟨rfl, (Below.refl w.heap.size w).alloc (Nat.le_refl _) _⟩
set_option maxRecDepth 20000 in
theorem rwriteBatch_2 (b : Bt) (A : Option Addr) (cap : Nat) (w : World) (h0 : Tx.num b.seq = true) (h1 : Tx.num b.first = true) (h2 : Tx.num b.before = false) :
    Calls Tryd.prog 42 #[.agg (b.cells A cap).toArray] w fun e w' => e = .returned (.tuple #[S [], .int .i64 2]) ∧ Below w.heap.size w w' := by
  obtain ⟨c0, c1, c2, c3⟩ := bt_box (Row.new w 55 (b.cells A cap))
  have N0 := Lib.hid (within5_b b.seq 1099511627776 _ h0)
  have N1 := Lib.hid (within5_b b.first 1099511627776 _ h1)
  have N2 := Lib.hid (within5_b b.before 1099511627776 _ h2)
  generalize b.cells A cap = C at *
  clear h0 h1 h2
  go_enter Tryd.func42, Tryd.ntmps42
  go_wp2_with fail
  refine (N0.out _).mono ?_
  rintro _ w1 ⟨rfl, rfl⟩
  go_wp2_with fail
  refine (N1.out _).mono ?_
  rintro _ w1 ⟨rfl, rfl⟩
  go_wp2_with fail
  refine (N2.out _).mono ?_
  rintro _ w1 ⟨rfl, rfl⟩
  go_wp2_with fail
  go_ret2
  exact ⟨rfl, (Below.refl w.heap.size w).alloc (Nat.le_refl _) _⟩
set_option maxRecDepth 20000 in
theorem rwriteBatch_3 (b : Bt) (A : Option Addr) (cap : Nat) (w : World) (h0 : Tx.num b.seq = true) (h1 : Tx.num b.first = true) (h2 : Tx.num b.before = true) (h3 : ¬ b.parts.length ≤ 512) :
    Calls Tryd.prog 42 #[.agg (b.cells A cap).toArray] w fun e w' => e = .returned (.tuple #[S [], .int .i64 2]) ∧ Below w.heap.size w w' := by
  obtain ⟨c0, c1, c2, c3⟩ := bt_box (Row.new w 55 (b.cells A cap))
  have hgt : (512 : Int) < (b.parts.length : Int) := by omega
  have N0 := Lib.hid (within5_b b.seq 1099511627776 _ h0)
  have N1 := Lib.hid (within5_b b.first 1099511627776 _ h1)
  have N2 := Lib.hid (within5_b b.before 1099511627776 _ h2)
  generalize b.cells A cap = C at *
  clear h0 h1 h2 h3
  go_enter Tryd.func42, Tryd.ntmps42
  go_wp2_with fail
  refine (N0.out _).mono ?_
  rintro _ w1 ⟨rfl, rfl⟩
  go_wp2_with fail
  refine (N1.out _).mono ?_
  rintro _ w1 ⟨rfl, rfl⟩
  go_wp2_with fail
  refine (N2.out _).mono ?_
  rintro _ w1 ⟨rfl, rfl⟩
  go_wp2_with fail
  go_ret2
  exact ⟨rfl, (Below.refl w.heap.size w).alloc (Nat.le_refl _) _⟩
set_option maxRecDepth 20000 in
set_option maxHeartbeats 1600000 in
theorem rwriteBatch_4 (b : Bt) (A : Option Addr) (cap : Nat) (hf : b.Fits) (w : World) (hP : PartsAt w w.heap.size A b.parts) (h0 : Tx.num b.seq = true) (h1 : Tx.num b.first = true) (h2 : Tx.num b.before = true) (h3 : b.parts.length ≤ 512) (RV : Value)
    (hbad : ∀ k (h : k < b.parts.length), Pt.ok b.parts[k] = false → RV = .tuple #[S [], .int .i64 2])
    (hgood : (∀ k (h : k < b.parts.length), Pt.ok b.parts[k] = true) → RV = .tuple #[S (Oct.listE b.fields).1, .int .i64 (Oct.listE b.fields).2]) :
    Calls Tryd.prog 42 #[.agg (b.cells A cap).toArray] w fun e w' => e = .returned RV ∧ Below w.heap.size w w' := by
  obtain ⟨i0, hi, hz, hs, hby⟩ := str5
  have Hi := Lib.hid hi
  have Hz := Lib.hid hz
  have Hs := Lib.hid hs
  have Hby := Lib.hid hby
  obtain ⟨c0, c1, c2, c3⟩ := bt_box (Row.new w 55 (b.cells A cap))
  have hle : (b.parts.length : Int) ≤ 512 := by omega
  have hB := No.num_iff.1 h0
  have hB1 := No.num_iff.1 h1
  have hB2 := No.num_iff.1 h2
  have T0 := Lib.hid (fun W => text5_any b.seq W hB.1 (by omega))
  have T1 := Lib.hid (fun W => text5_any b.first W hB1.1 (by omega))
  have T2 := Lib.hid (fun W => text5_any b.before W hB2.1 (by omega))
  have N0 := Lib.hid (within5_b b.seq 1099511627776 _ h0)
  have N1 := Lib.hid (within5_b b.first 1099511627776 _ h1)
  have N2 := Lib.hid (within5_b b.before 1099511627776 _ h2)
  have BX : Hid (∀ (W : World) (g : Nat) (T : TypeId), Row W g T (b.cells A cap) → W.cell? ⟨g, 0, none⟩ = some (.int .i64 b.seq) ∧ W.cell? ⟨g, 1, none⟩ = some (.int .i64 b.first) ∧ W.cell? ⟨g, 2, none⟩ = some (.int .i64 b.before) ∧ W.cell? ⟨g, 3, none⟩ = some (.slice A b.parts.length cap)) := fun W g T h => bt_box h
  have hff : b.fields.map S = [S (Oct.num b.seq.toNat), S (Oct.num b.first.toNat), S (Oct.num b.before.toNat)] ++ (b.parts.map Pt.lay).map S := by unfold Bt.fields; rw [List.map_append]; rfl
  have hfl : b.fields.length = 3 + b.parts.length := by unfold Bt.fields; rw [List.length_append, List.length_map, List.length_map]; rfl
  have HPT := Lib.hid (fun p (hp : p ∈ b.parts) => part5_any p.1 p.2 (hf.texts p hp))
  have Hrow0 := Lib.hid (Row.new w 55 (b.cells A cap))
  have HP := Lib.hid hP
  have Hff := Lib.hid hff
  have Hfl := Lib.hid hfl
  have Hbad := Lib.hid hbad
  have Hgood := Lib.hid hgood
  generalize b.fields = L at *
  generalize b.cells A cap = C at *
  generalize Oct.num b.seq.toNat = t0 at *
  generalize Oct.num b.first.toNat = t1 at *
  generalize Oct.num b.before.toNat = t2 at *
  generalize b.parts = P at *
  obtain ⟨n, hn⟩ : ∃ n, n = P.length := ⟨_, rfl⟩
  rw [← hn] at BX c3 h3 hle Hfl
  have HN := Lib.hid hn
  have HB0 : Hid (Below w.heap.size w (w.alloc (.cells C.toArray 55))) := (Below.refl w.heap.size w).alloc (Nat.le_refl _) _
  clear hi hz hs hby hP hff hfl hn hbad hgood h0 h1 h2 hB hB1 hB2 hf
  go_enter Tryd.func42, Tryd.ntmps42
  go_wp2_with fail
  refine (N0.out _).mono ?_
  rintro _ w1 ⟨rfl, rfl⟩
  go_wp2_with fail
  refine (N1.out _).mono ?_
  rintro _ w1 ⟨rfl, rfl⟩
  go_wp2_with fail
  refine (N2.out _).mono ?_
  rintro _ w1 ⟨rfl, rfl⟩
  go_wp2_with fail
  have HS0 : Hid (RowIn w (w.alloc (.cells C.toArray 55)).drew w.heap.size 55 C) := RowIn.drew ⟨Hrow0.out, HB0.out⟩
  refine wp_region_held_drew (S := fun w' => RowIn w w' w.heap.size 55 C) (by kernel_rfl) (HS0.out) (fun hHeld => ?_)
  generalize (w.alloc (.cells C.toArray 55)).drew = w9 at *
  refine wpAnyH_take (i := 0) (v := .pointer (some ⟨w.heap.size, 0, none⟩)) rfl (by kernel_rfl) (by kernel_rfl) (by kernel_rfl) (fun _ _ _ h => h) (Or.inl ⟨by rfl, fun w' hSw => by go_simp⟩) hHeld ?_
  try simp only [Act.put, List.getElem_toArray, List.getElem_cons_succ, List.getElem_cons_zero, List.setIfInBounds_toArray, List.set_cons_zero, List.set_cons_succ]
  refine wpAnyH_take (i := 1) (v := .int .i64 b.seq) rfl (by kernel_rfl) (by kernel_rfl) (by kernel_rfl) (fun _ _ _ h => h) (Or.inl ⟨by rfl, fun w' hSw => by have hq := hSw; have hc := (BX.out _ _ _ hq.1).1; go_simp⟩) hHeld ?_
  try simp only [Act.put, List.getElem_toArray, List.getElem_cons_succ, List.getElem_cons_zero, List.setIfInBounds_toArray, List.set_cons_zero, List.set_cons_succ]
  refine wpAnyH_take (i := 3) (v := .pointer (some ⟨w.heap.size, 1, none⟩)) rfl (by kernel_rfl) (by kernel_rfl) (by kernel_rfl) (fun _ _ _ h => h) (Or.inl ⟨by rfl, fun w' hSw => by go_simp⟩) hHeld ?_
  try simp only [Act.put, List.getElem_toArray, List.getElem_cons_succ, List.getElem_cons_zero, List.setIfInBounds_toArray, List.set_cons_zero, List.set_cons_succ]
  refine wpAnyH_take (i := 4) (v := .int .i64 b.first) rfl (by kernel_rfl) (by kernel_rfl) (by kernel_rfl) (fun _ _ _ h => h) (Or.inl ⟨by rfl, fun w' hSw => by have hq := hSw; have hc := (BX.out _ _ _ hq.1).2.1; go_simp⟩) hHeld ?_
  try simp only [Act.put, List.getElem_toArray, List.getElem_cons_succ, List.getElem_cons_zero, List.setIfInBounds_toArray, List.set_cons_zero, List.set_cons_succ]
  refine wpAnyH_take (i := 6) (v := .pointer (some ⟨w.heap.size, 2, none⟩)) rfl (by kernel_rfl) (by kernel_rfl) (by kernel_rfl) (fun _ _ _ h => h) (Or.inl ⟨by rfl, fun w' hSw => by go_simp⟩) hHeld ?_
  try simp only [Act.put, List.getElem_toArray, List.getElem_cons_succ, List.getElem_cons_zero, List.setIfInBounds_toArray, List.set_cons_zero, List.set_cons_succ]
  refine wpAnyH_take (i := 7) (v := .int .i64 b.before) rfl (by kernel_rfl) (by kernel_rfl) (by kernel_rfl) (fun _ _ _ h => h) (Or.inl ⟨by rfl, fun w' hSw => by have hq := hSw; have hc := (BX.out _ _ _ hq.1).2.2.1; go_simp⟩) hHeld ?_
  try simp only [Act.put, List.getElem_toArray, List.getElem_cons_succ, List.getElem_cons_zero, List.setIfInBounds_toArray, List.set_cons_zero, List.set_cons_succ]
  refine wpAnyH_ready (rs := [2]) (by kernel_rfl) (by simp) (AllReadyH.cons rfl (fun K1 hK1 => ?_) AllReadyH.nil)
  try simp only [Act.put, List.getElem_toArray, List.getElem_cons_succ, List.getElem_cons_zero, List.setIfInBounds_toArray, List.set_cons_zero, List.set_cons_succ]
  go_simp
  refine Calls.mono (T0.out _) ?_
  rintro e wc1 ⟨rfl, hc2⟩
  refine hK1.out _ _ (hHeld.step hc2) (fun hHeld => ?_)
  clear hK1 K1
  try simp only [Act.put, List.getElem_toArray, List.getElem_cons_succ, List.getElem_cons_zero, List.setIfInBounds_toArray, List.set_cons_zero, List.set_cons_succ]
  refine wpAnyH_ready (rs := [5]) (by kernel_rfl) (by simp) (AllReadyH.cons rfl (fun K1 hK1 => ?_) AllReadyH.nil)
  try simp only [Act.put, List.getElem_toArray, List.getElem_cons_succ, List.getElem_cons_zero, List.setIfInBounds_toArray, List.set_cons_zero, List.set_cons_succ]
  go_simp
  refine Calls.mono (T1.out _) ?_
  rintro e wc3 ⟨rfl, hc4⟩
  refine hK1.out _ _ (hHeld.step hc4) (fun hHeld => ?_)
  clear hK1 K1
  try simp only [Act.put, List.getElem_toArray, List.getElem_cons_succ, List.getElem_cons_zero, List.setIfInBounds_toArray, List.set_cons_zero, List.set_cons_succ]
  refine wpAnyH_ready (rs := [8]) (by kernel_rfl) (by simp) (AllReadyH.cons rfl (fun K1 hK1 => ?_) AllReadyH.nil)
  try simp only [Act.put, List.getElem_toArray, List.getElem_cons_succ, List.getElem_cons_zero, List.setIfInBounds_toArray, List.set_cons_zero, List.set_cons_succ]
  go_simp
  refine Calls.mono (T2.out _) ?_
  rintro e wc5 ⟨rfl, hc6⟩
  refine hK1.out _ _ (hHeld.step hc6) (fun hHeld => ?_)
  clear hK1 K1
  try simp only [Act.put, List.getElem_toArray, List.getElem_cons_succ, List.getElem_cons_zero, List.setIfInBounds_toArray, List.set_cons_zero, List.set_cons_succ]
  refine wpAnyH_ready (rs := [9]) (by kernel_rfl) (by simp) (AllReadyH.cons rfl (fun K1 hK1 => ?_) AllReadyH.nil)
  try simp only [Act.put, List.getElem_toArray, List.getElem_cons_succ, List.getElem_cons_zero, List.setIfInBounds_toArray, List.set_cons_zero, List.set_cons_succ]
  go_simp
  have hd8 := (Below.refl wc5.heap.size wc5).alloc (Nat.le_refl _) (.cells #[S t0, S t1, S t2] 9)
  have r2 : (wc5.alloc (.cells #[S t0, S t1, S t2] 9)).ownsRow w.heap.size 9 1 (.slice (some ⟨wc5.heap.size, 0, none⟩) 3 3) 3 [S t0, S t1, S t2] := own_lit wc5 w.heap.size 3 [t0, t1, t2] rfl hHeld.2.size (by decide)
  have hHeld2 := hHeld.step hd8
  generalize wc5.alloc (.cells #[S t0, S t1, S t2] 9) = wb7 at *
  obtain ⟨gb9, gb9e⟩ : ∃ gb9, gb9 = wc5.heap.size := ⟨_, rfl⟩
  rw [← gb9e] at r2 ⊢
  refine hK1.out _ _ (hHeld2) (fun hHeld => ?_)
  clear hK1 K1
  try simp only [Act.put, List.getElem_toArray, List.getElem_cons_succ, List.getElem_cons_zero, List.setIfInBounds_toArray, List.set_cons_zero, List.set_cons_succ]
  clear hHeld2 gb9e
  refine wpAnyH_take (i := 10) (v := .slice (some ⟨gb9, 0, none⟩) 3 3) rfl (by kernel_rfl) (by kernel_rfl) (by kernel_rfl) (fun _ _ _ h => h) (Or.inl ⟨by rfl, fun w' hSw => by go_simp⟩) hHeld ?_
  try simp only [Act.put, List.getElem_toArray, List.getElem_cons_succ, List.getElem_cons_zero, List.setIfInBounds_toArray, List.set_cons_zero, List.set_cons_succ]
  refine wpAnyH_done (by kernel_rfl) ?_ _
  have HR := Lib.hid hHeld
  have Hown := Lib.hid r2
  clear hHeld r2
  go_wp2_with fail
  go_loopw [4, 5] (fun v i wr => ∃ k : Nat, k ≤ n ∧ i = .int .i64 k ∧ wr.ownsRow w.heap.size 9 1 v (3 + k) ([S t0, S t1, S t2] ++ ((P.take k).map Pt.lay).map S) ∧ (∀ j (h : j < P.length), j < k → Pt.ok P[j] = true) ∧ RowIn w wr w.heap.size 55 C) (fun _ i _ => n - (intOf i).toNat)
  case atStart => exact ⟨0, Nat.zero_le _, rfl, by simpa using Hown.out, fun j h hj => absurd hj (by omega), HR.out⟩
  case round =>
    obtain ⟨k, hk, rfl, hown, hall, hR⟩ := hrel
    clear Hown HR
    have Hown := Lib.hid hown
    have HR := Lib.hid hR
    have Hall := Lib.hid hall
    obtain ⟨d0, d1, d2, d3⟩ := BX.out _ _ _ hR.1
    clear hown hR hall d0 d1 d2 c0 c1 c2 c3
    by_cases hkn : k < n
    · have hki : (k : Int) < (n : Int) := by omega
      have hkl : k < P.length := by rw [← HN.out]; exact hkn
      obtain ⟨bb, off, rfl, hbb, hc⟩ := (HP.out.below HR.out.2) (by intro e; rw [e] at hkl; simp at hkl)
      obtain ⟨c0, c1⟩ := hc k hkl
      have HPk := Lib.hid (HPT.out P[k] (List.getElem_mem _))
      have Hbk := Lib.hid (Hbad.out k hkl)
      have htk : [S t0, S t1, S t2] ++ ((P.take (k + 1)).map Pt.lay).map S = ([S t0, S t1, S t2] ++ ((P.take k).map Pt.lay).map S) ++ [S (Pt.lay P[k])] := by
        rw [List.take_succ_eq_append_getElem hkl, List.map_append, List.map_append, ← List.append_assoc]; rfl
      have Htk := Lib.hid htk
      have hnx : Pt.ok P[k] = true → ∀ j (h : j < P.length), j < k + 1 → Pt.ok P[j] = true := fun h j hj hjk => by
        rcases Nat.lt_or_ge j k with h1 | h1
        · exact Hall.out j hj h1
        · obtain rfl : j = k := by omega
          exact h
      have Hnx := Lib.hid hnx
      generalize P[k] = p at *
      obtain ⟨d, t⟩ := p
      simp only at c0 c1 HPk
      generalize [S t0, S t1, S t2] ++ ((P.take k).map Pt.lay).map S = KS at *
      clear hc htk hnx
      obtain ⟨ly, hly⟩ : ∃ ly, ly = Pt.lay (d, t) := ⟨_, rfl⟩
      rw [← hly] at HPk Htk
      clear hly
      rcases Bool.eq_false_or_eq_true (Pt.ok (d, t)) with hok | hok
      · rw [hok] at HPk
        have Hnx2 := Lib.hid (Hnx.out hok)
        clear hok Hnx Hbk
        go_wp2_with fail
        refine (HPk.out _).mono ?_
        rintro _ w4 ⟨rfl, hb4⟩
        have hR4 := HR.out.step hb4
        have ho4 := own_below Hown.out hb4
        have HR4 := Lib.hid hR4
        have hown2 := ho4.alloc (.cells #[S ly] 9)
        have hsz2 : w.heap.size ≤ (w4.alloc (.cells #[S ly] 9)).heap.size := by have := hR4.2.size; simp; omega
        have hone := one_text w4 9 ly
        have hR5 : RowIn w (w4.alloc (.cells #[S ly] 9)) w.heap.size 55 C := hR4.step ((Below.refl _ _).alloc (Nat.le_refl _) _)
        have hk63 : (3 + k) + 1 ≤ maxLen := by unfold maxLen; omega
        have hk48 : (((3 + k) + 1) + ((3 + k) + 1) / 4 + 192) * 16 ≤ 281474976710656 := by omega
        have Hown2 := Lib.hid hown2
        have HR5 := Lib.hid hR5
        have Hone := Lib.hid hone
        clear hb4 hR4 ho4 hown2 hone hR5 HR4 c0 c1 d3
        go_wp2_with (at_builtin; refine wpList_append_own_wide _ rfl (.tmp 58) (.tmp 60) 73 rfl w.heap.size 9 i0 (.string ByteArray.empty) 1 16 Tryd.underlying73 Hi.out Hz.out Hs.out Hby.out rfl (by decide) _ _ _ rfl Hown2.out ⟨w4.heap.size, 0, none⟩ 1 1 [S ly] rfl rfl Hone.out (one_textc _) hk63 hk48 hsz2 ?_
                     intro v' w3 hown3 hgrow3 _
                     obtain ⟨g, cp, rfl⟩ := ownsRow_succ hown3
                     have HR3 := Lib.hid (own_keeps HR5.out (by decide) Hown2.out (Nat.le_refl _) hgrow3)
                     have Hown3 := Lib.hid hown3
                     clear hown3 hgrow3)
        refine ⟨⟨k + 1, hkn, by go_num, by rw [Htk.out]; exact Hown3.out, Hnx2.out, HR3.out⟩, by simp [intOf]; omega⟩
      · rw [hok] at HPk
        have Hbk2 := Lib.hid (Hbk.out hok)
        clear hok Hnx Hbk
        go_wp2_with fail
        refine (HPk.out _).mono ?_
        rintro _ w4 ⟨rfl, hb4⟩
        have Hbe := Lib.hid (HR.out.step hb4).2
        clear hb4
        go_wp2_with fail
        go_ret2
        exact ⟨by rw [Hbk2.out]; rfl, Hbe.out⟩
    · have hki : (n : Int) ≤ (k : Int) := by omega
      obtain rfl : k = n := by omega
      have hfin : [S t0, S t1, S t2] ++ ((P.take k).map Pt.lay).map S = L.map S := by
        rw [Hff.out, HN.out, List.take_length]
      have hown := Hown.out
      rw [hfin, show 3 + k = (2 + k) + 1 by omega] at hown
      have Hown := Lib.hid hown
      have Hlen : Hid ((2 + k) + 1 = L.length) := Lib.hid (by rw [Hfl.out]; omega)
      have Hg := Lib.hid (Hgood.out fun j hj => Hall.out j hj (by rw [HN.out]; exact hj))
      clear hfin hown
      go_wp2_with fail
      refine (list5_own L rfl Hown.out Hlen.out).mono ?_
      rintro _ w5 ⟨rfl, hb5⟩
      have Hb5 := Lib.hid (HR.out.step hb5).2
      clear hb5
      go_wp2_with fail
      go_ret2
      exact ⟨by rw [Hg.out]; rfl, Hb5.out⟩
theorem rwriteBatch_any (b : Bt) (A : Option Addr) (cap : Nat) (hf : b.Fits) (w : World) (hP : PartsAt w w.heap.size A b.parts) :
    Calls Tryd.prog 42 #[.agg (b.cells A cap).toArray] w fun e w' => e = .returned (two b.textE.1 b.textE.2) ∧ Below w.heap.size w w' := by
  have hno : b.ok = false → two b.textE.1 b.textE.2 = .tuple #[S [], .int .i64 2] := fun h => by unfold Bt.textE; rw [if_neg (by rw [h]; simp)]; rfl
  rcases Bool.eq_false_or_eq_true (Tx.num b.seq) with h0 | h0
  · rcases Bool.eq_false_or_eq_true (Tx.num b.first) with h1 | h1
    · rcases Bool.eq_false_or_eq_true (Tx.num b.before) with h2 | h2
      · by_cases h3 : b.parts.length ≤ 512
        · refine rwriteBatch_4 b A cap hf w hP h0 h1 h2 h3 _ (fun k hk hbad => hno ?_) (fun hall => ?_)
          · rw [Bool.eq_false_iff]
            intro h
            have := List.all_eq_true.1 ((Bt.ok_iff b).1 h).2.2 _ (List.getElem_mem hk)
            rw [hbad] at this
            cases this
          · have : b.ok = true := by
              rw [Bt.ok_iff]
              refine ⟨⟨No.num_iff.1 h0, No.num_iff.1 h1, No.num_iff.1 h2⟩, h3, List.all_eq_true.2 fun p hp => ?_⟩
              obtain ⟨i, hi, rfl⟩ := List.mem_iff_getElem.1 hp
              exact hall i hi
            unfold Bt.textE
            rw [if_pos this]; rfl
        · rw [hno (by unfold Bt.ok; rw [show decide (b.parts.length ≤ 512) = false by simpa using h3]; simp)]; exact rwriteBatch_3 b A cap w h0 h1 h2 h3
      · rw [hno (by unfold Bt.ok; rw [h2]; simp)]; exact rwriteBatch_2 b A cap w h0 h1 h2
    · rw [hno (by unfold Bt.ok; rw [h1]; simp)]; exact rwriteBatch_1 b A cap w h0 h1
  · rw [hno (by unfold Bt.ok; rw [h0]; simp)]; exact rwriteBatch_0 b A cap w h0
end Go.Proofs.YtdekcicgiflnbaaDoor
