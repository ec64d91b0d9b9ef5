/- cavalcaderef02.back: what it returns. -/
import Derived.Test.YtdifbndpgbdkbaaDoorShaProves
import Derived.Test.YtdifbndpgbdkbaaDoorShaRefHalf
import Derived.Test.YtdifbndpgbdkbaaDoorShaRef4
import Derived.Test.YtdifbndpgbdkbaaDoorSealKey
import Derived.Deep.RegionHeld3
namespace Go.Proofs.YtdifbndpgbdkbaaDoor
open Go.RowKit
set_option linter.unusedVariables false
set_option linter.unusedSimpArgs false

theorem refHalf_all (n : Nat) (w : World) (h2 : 2 ≤ n) (h : n ≤ 9223372036854775807) :
    Calls Tryd.prog 45 #[.int .i64 n] w fun e w' => e = .returned (.int .i64 (Sha.half n : Nat)) ∧ w' = w := by
  go_enter Tryd.func45, Tryd.ntmps45
  go_wp2_with fail
  go_loopw [3] (fun i wr => ∃ j k : Nat, k = 2 ^ j ∧ k < n ∧ k ≤ 4611686018427387904 ∧ i = .int .i64 (k : Int) ∧ wr = w) (fun i _ => n - (intOf i).toNat)
  case atStart => exact ⟨0, 1, rfl, by omega, by omega, rfl, rfl⟩
  case round =>
    obtain ⟨j, k, hk, hkn, hkb, rfl, rfl⟩ := hrel
    have Hk := Lib.hid hk
    have hpos : 0 < k := by rw [hk]; exact Nat.two_pow_pos j
    have hw1 : IntKind.i64.wrap ((n : Int) - (k : Int)) = (n : Int) - (k : Int) := by rw [IntKind.wrap_i64]; omega
    by_cases hlt : k < n - k
    · have hk62 : 2 * k ≤ 4611686018427387904 := by
        have h1 : 2 ^ j < 2 ^ 62 := by rw [← hk]; omega
        have h2 : j < 62 := (Nat.pow_lt_pow_iff_right (by decide)).1 h1
        have h3 : 2 ^ (j + 1) ≤ 2 ^ 62 := Nat.pow_le_pow_right (by decide) (by omega)
        rw [Nat.pow_succ, ← hk] at h3
        omega
      have hw2 : IntKind.i64.wrap ((k : Int) * 2) = (k : Int) * 2 := by rw [IntKind.wrap_i64]; omega
      have ht : decide ((k : Int) < (n : Int) - (k : Int)) = true := by simp; omega
      clear hk
      go_wp2_with fail
      refine ⟨⟨j + 1, k * 2, by rw [Nat.pow_succ, Hk.out], by omega, by omega, by go_num, trivial⟩, by simp [intOf]; omega⟩
    · have ht : decide ((k : Int) < (n : Int) - (k : Int)) = false := by simp; omega
      have hhalf := half_unique n j h2 (by rw [← Hk.out]; exact hkn) (by rw [← Hk.out]; omega)
      rw [← Hk.out] at hhalf
      have HH := Lib.hid hhalf
      clear hhalf hk
      go_wp2_with fail
      go_ret
      exact ⟨by rw [HH.out]; rfl, rfl⟩
theorem zeros_row : bRow (List.replicate 32 0) = bRow [] := bRow_hz
/-- what a hash and a word are told as -/
abbrev HB (R : List UInt8) (ok : Bool) : Value := .tuple #[.agg (bRow R), .bool ok]
set_option maxHeartbeats 2000000 in
set_option maxRecDepth 100000 in
theorem refBack_one (hRS : RefSum) (i : Int) (s : ByteArray) (A : Option Addr) (m cap : Nat) (w : World) (hs : s.size ≤ 140737488354000) :
    Calls Tryd.prog 47 #[.int .i64 1, .int .i64 i, .string s, .slice A m cap] w fun e w' => e = .returned (HB (Sha.sum (0 :: s.data.toList)) (decide (m = 0))) ∧ Below w.heap.size w w' := by
  obtain ⟨leaf, hleaf⟩ : ∃ leaf, leaf = Sha.sum (0 :: s.data.toList) := ⟨_, rfl⟩
  have hll : leaf.length = 32 := by rw [hleaf, Sha.sum_len]
  have hsz : ((⟨#[0]⟩ : ByteArray) ++ s).size = 1 + s.size := by rw [ByteArray.size_append]; rfl
  have hdl : ((⟨#[0]⟩ : ByteArray) ++ s).data.toList = 0 :: s.data.toList := by rw [ByteArray.data_append]; simp
  have hsum := fun (w' : World) => hRS ((⟨#[0]⟩ : ByteArray) ++ s) w' (by rw [hsz]; omega)
  rw [hdl, ← hleaf] at hsum
  rw [← hleaf]
  have hbig : ¬ (9223372036854775807 < 1 + s.size) := by omega
  have HSUM := Lib.hid hsum
  have I24 := Lib.hid (i24_any leaf (by omega))
  have Hold := Lib.hid (bRow_same [] leaf (by simp) (by omega))
  have hm : ((m : Int) == 0) = decide (m = 0) := by
    by_cases h : m = 0
    · subst h; rfl
    · rw [decide_eq_false h]; simp; omega
  clear hleaf hll hsz hdl hsum hRS
  generalize decide (m = 0) = ok at *
  go_enter Tryd.func47, Tryd.ntmps47
  go_wp2_with fail
  refine calls_named ?_
  intro w1 hw1
  have hH : Holds w1 w.heap.size (bRow []) := by rw [hw1]; exact Holds.new _ _ _
  have hb1 : Below w.heap.size w w1 := by rw [hw1]; exact (Below.refl _ _).alloc (Nat.le_refl _) _
  clear hw1
  refine (HSUM.out w1).mono ?_
  rintro e w2 ⟨rfl, hb2⟩
  have HH2 := Lib.hid (hH.below hb2 hH.lt)
  have hb2 := hb1.trans (hb2.mono hb1.size)
  clear hH
  go_wp2_with (refine wpList_store_named rfl 24 (.tmp 8) (.tmp 20) rfl w.heap.size (bRow leaf) rfl rfl _ HH2.out I24.out Hold.out (bRow_one _) ?_; intro w5 hw5; have Hw5 := Lib.hid hw5; clear hw5)
  have hR5 : Holds w5 w.heap.size (bRow leaf) := by rw [Hw5.out]; exact HH2.out.row _
  exact bodyPost_ret (results_row_tmp rfl _ _ w.heap.size (bRow leaf) _ rfl hR5 Tryd.underlying24 rfl I24.out _ rfl) rfl ⟨rfl, by rw [Hw5.out]; exact below_setRow hb2 (Nat.le_refl _) _⟩
set_option maxHeartbeats 2000000 in
set_option maxRecDepth 100000 in
theorem refBack_none (n : Nat) (i : Int) (s : ByteArray) (A : Option Addr) (cap : Nat) (w : World) (h2 : 2 ≤ n) :
    Calls Tryd.prog 47 #[.int .i64 n, .int .i64 i, .string s, .slice A 0 cap] w fun e w' => e = .returned (HB (List.replicate 32 0) false) ∧ Below w.heap.size w w' := by
  rw [show HB (List.replicate 32 0) false = HB [] false by unfold HB; rw [zeros_row]]
  have hne : ((n : Int) == 1) = false := by simp only [beq_eq_false_iff_ne]; omega
  have I24 := Lib.hid (i24_any [] (by simp))
  go_enter Tryd.func47, Tryd.ntmps47
  go_wp2_with (refine wpList_store_named rfl 24 (.tmp 8) (.tmp 27) rfl w.heap.size (bRow []) rfl rfl (bRow []) (Holds.new2 rfl rfl) I24.out rfl (bRow_one _) ?_; intro w5 hw5; have Hw5 := Lib.hid hw5; clear hw5)
  have hR5 : Holds w5 w.heap.size (bRow []) := by rw [Hw5.out]; exact (Holds.new _ _ _).row _
  exact bodyPost_ret (results_row_tmp rfl _ _ w.heap.size (bRow []) _ rfl hR5 Tryd.underlying24 rfl I24.out _ rfl) rfl ⟨rfl, by rw [Hw5.out]; exact below_setRow ((Below.refl _ _).alloc (Nat.le_refl _) _) (Nat.le_refl _) _⟩

set_option maxHeartbeats 8000000 in
set_option maxRecDepth 100000 in
theorem refBack_left (hRS : RefSum) (n i : Nat) (s : ByteArray) (b off : Nat) (Q : List (List UInt8)) (p : List UInt8) (cap : Nat) (w : World) (hP : Hashes w (some ⟨b, off, none⟩) (Q ++ [p])) (hP32 : ∀ q ∈ Q ++ [p], q.length = 32) (hc : (Q ++ [p]).length ≤ cap)
    (h2 : 2 ≤ n) (hn : n ≤ 9223372036854775807) (hin : i < n) (hik : i < Sha.half n) (hs : s.size ≤ 140737488354000) (hl62 : Q.length ≤ 4611686018427387904)
    (ih : ∀ (w' : World), Hashes w' (some ⟨b, off, none⟩) Q → Calls Tryd.prog 47 #[.int .i64 ((Sha.half n : Nat) : Int), .int .i64 ((i : Nat) : Int), .string s, .slice (some ⟨b, off, none⟩) Q.length cap] w' fun e w'' =>
      e = .returned (HB (Sha.back (Sha.sum (0 :: s.data.toList)) (Sha.half n) (i) Q.reverse).1 (Sha.back (Sha.sum (0 :: s.data.toList)) (Sha.half n) (i) Q.reverse).2) ∧ Below w'.heap.size w' w'') :
    Calls Tryd.prog 47 #[.int .i64 n, .int .i64 i, .string s, .slice (some ⟨b, off, none⟩) (Q.length + 1) cap] w fun e w' =>
      e = .returned (HB (Sha.back (Sha.sum (0 :: s.data.toList)) n i (Q ++ [p]).reverse).1 (Sha.back (Sha.sum (0 :: s.data.toList)) n i (Q ++ [p]).reverse).2) ∧ Below w.heap.size w w' := by
  have hval : Sha.back (Sha.sum (0 :: s.data.toList)) n i (Q ++ [p]).reverse = (Sha.sum (1 :: ((Sha.back (Sha.sum (0 :: s.data.toList)) (Sha.half n) i Q.reverse).1 ++ p)), (Sha.back (Sha.sum (0 :: s.data.toList)) (Sha.half n) (i) Q.reverse).2) := by
    rw [List.reverse_append, List.reverse_singleton, List.singleton_append]
    simp only [Sha.back]
    rw [if_pos h2, if_pos hik]
  rw [hval]
  simp only
  have hhl := Sha.back_len (Sha.sum (0 :: s.data.toList)) (Sha.sum_len _) Q.reverse (Sha.half n) (i)
  have hpl : p.length = 32 := hP32 p (by simp)
  have hhalf := refHalf_all n
  have hlt := Sha.half_lt n h2
  have hpos := Sha.half_pos n
  generalize hk : Sha.half n = k at *
  generalize (Sha.back (Sha.sum (0 :: s.data.toList)) (k) (i) Q.reverse).2 = ok at *
  generalize (Sha.back (Sha.sum (0 :: s.data.toList)) (k) (i) Q.reverse).1 = h at *
  obtain ⟨_, _, e0, hblt, hbr⟩ := hP (by simp)
  injection e0 with e0
  injection e0 with e1 e2 _
  subst e1 e2
  have hlast := hbr Q.length (by simp)
  rw [show (Q ++ [p]).getD Q.length [] = p by simp [List.getD]] at hlast
  have hQ : ∀ w', Below w.heap.size w w' → Hashes w' (some ⟨b, off, none⟩) Q := fun w' hb hne => ⟨b, off, rfl, Nat.lt_of_lt_of_le hblt hb.size, fun j hj x v hv => by
    have h := hbr j (by simp; omega)
    rw [show (Q ++ [p]).getD j [] = Q.getD j [] by simp [List.getD, hj, List.getElem?_append]] at h
    exact (hb.cell (p := ⟨b, off + j * 32 + x, none⟩) hblt).trans (h x v hv)⟩
  have hih := fun (w' : World) (hb : Below w.heap.size w w') => ih w' (hQ w' hb)
  have hih2 : ∀ w' : World, Below w.heap.size w w' → Calls Tryd.prog 47 #[.int .i64 ((k : Int)), .int .i64 ((i : Int)), .string s, .slice (some ⟨b, off, none⟩) Q.length cap] w' fun e w'' => e = .returned (HB h ok) ∧ Below w'.heap.size w' w'' := fun w' hb => by
    have h := hih w' hb
    exact h
  have hne : ((n : Int) == 1) = false := by simp only [beq_eq_false_iff_ne]; omega
  have hne0 : ((Q.length : Int) + 1 == 0) = false := by simp only [beq_eq_false_iff_ne]; omega
  have hcc : Q.length + 1 ≤ cap := by simpa using hc
  generalize Q.length = m at *
  obtain ⟨R, hR⟩ : ∃ R, R = Sha.sum (1 :: (h ++ p)) := ⟨_, rfl⟩
  have hRl : R.length = 32 := by rw [hR, Sha.sum_len]
  rw [← hR]
  obtain ⟨V, hV⟩ : ∃ V, V = bRow R := ⟨_, rfl⟩
  obtain ⟨U, hU⟩ : ∃ U, U = bRow h := ⟨_, rfl⟩
  obtain ⟨X, hX⟩ : ∃ X, X = bRow p := ⟨_, rfl⟩
  have hVs : V.size = 32 := by rw [hV, bRow_size R (by omega)]
  have hUs : U.size = 32 := by rw [hU, bRow_size h (by omega)]
  have hXs : X.size = 32 := by rw [hX, bRow_size p (by omega)]
  have i24 : (Tryd.prog.info? 24).map (·.size) = some 32 := by kernel_rfl
  have hUi : (Tryd.prog.info? 24).map (·.size) = some U.toList.length := i24.trans (by rw [Array.length_toList, hUs])
  have hXi : (Tryd.prog.info? 24).map (·.size) = some X.toList.length := i24.trans (by rw [Array.length_toList, hXs])
  have b1 : ∀ w' : World, Calls Tryd.prog 41 #[.agg U] w' fun e w'' => e = .returned (S h) ∧ Below w'.heap.size w' w'' := fun w' => by rw [hU]; exact bytes_any h w' hhl
  have b2 : ∀ w' : World, Calls Tryd.prog 41 #[.agg X] w' fun e w'' => e = .returned (S p) ∧ Below w'.heap.size w' w'' := fun w' => by rw [hX]; exact bytes_any p w' hpl
  have hdl : ((⟨#[1]⟩ : ByteArray) ++ (⟨h.toArray⟩ : ByteArray) ++ (⟨p.toArray⟩ : ByteArray)).data.toList = 1 :: (h ++ p) := by rw [ByteArray.data_append, ByteArray.data_append]; simp
  have hsz : ((⟨#[1]⟩ : ByteArray) ++ (⟨h.toArray⟩ : ByteArray) ++ (⟨p.toArray⟩ : ByteArray)).size = 65 := by
    rw [ByteArray.size_append, ByteArray.size_append]
    show 1 + h.length + p.length = 65
    omega
  have c1 : ∀ w' : World, Calls Tryd.prog 15 #[.string ((⟨#[1]⟩ : ByteArray) ++ (⟨h.toArray⟩ : ByteArray) ++ (⟨p.toArray⟩ : ByteArray))] w' fun e w'' => e = .returned (.agg V) ∧ Below w'.heap.size w' w'' := fun w' => by
    have := hRS ((⟨#[1]⟩ : ByteArray) ++ (⟨h.toArray⟩ : ByteArray) ++ (⟨p.toArray⟩ : ByteArray)) w' (by rw [hsz]; omega)
    rw [hdl, ← hR] at this
    rw [hV]; exact this
  have hg1 : ¬ (9223372036854775807 < 1 + h.length) := by omega
  have hg2 : ¬ (9223372036854775807 < 1 + h.length + p.length) := by omega
  have hu := Tryd.underlying24
  have B1 := Lib.hid b1
  have B2 := Lib.hid b2
  have C1 := Lib.hid c1
  have HV := Lib.hid hV
  have HU := Lib.hid hU
  have HX := Lib.hid hX
  have HVs := Lib.hid hVs
  have I24 := Lib.hid (i24_any R (by omega))
  have I24h := Lib.hid (i24_any h (by omega))
  have I24p := Lib.hid (i24_any p (by omega))
  have HoldH := Lib.hid (bRow_same [] h (by simp) (by omega))
  have HoldP := Lib.hid (bRow_same [] p (by simp) (by omega))
  have HIH := Lib.hid hih2
  have HHalf := Lib.hid hhalf
  have HLast := Lib.hid hlast
  have HPi : Hid ((Tryd.prog.info? 24).map (·.size) = some (bRow p).toList.length) := i24.trans (by rw [Array.length_toList, bRow_size p (by omega)])
  have hik2 : (i : Int) < (k : Int) := by omega
  have hk0 : (0 : Int) ≤ (k : Int) := by omega
  have hmc : (m : Int) ≤ (cap : Int) := by omega
  clear hP hP32 hval hbr hQ hih hih2 ih hR hRl hV hU hX hVs hUs hXs i24 b1 b2 hdl hsz c1 hhalf hlast hhl hpl hk hRS hik
  go_enter Tryd.func47, Tryd.ntmps47
  go_wp2_with (first
    | (refine wpList_load_mid rfl 24 (.tmp 32) rfl b (off + m * 32) rfl (bRow p).toList _ (World.rangeAt_alloc HLast.out _) Tryd.underlying24 rfl HPi.out ?_)
    | (refine wpList_store_named rfl 24 (.tmp 10) (.tmp 33) rfl (w.heap.size + 1) (bRow p) rfl rfl (bRow []) (Holds.new2 (by simp) rfl) I24p.out HoldP.out (bRow_one _) ?_; intro w5 hw5
       have hk5 := (show KeptR w w.heap.size [(w.heap.size + 1, bRow p)] w5 by
         rw [hw5]
         exact ⟨below_setRow (((Below.refl _ _).alloc (Nat.le_refl _) _).alloc (by simp) _) (by omega) _, ⟨bRow [], bRow_size [] (by simp), ((Holds.new2 rfl rfl).alloc _).rowFar (by omega) _⟩, fun q hq => by
           obtain rfl : q = (w.heap.size + 1, bRow p) := by simpa using hq
           exact (Holds.new2 (by simp) rfl).row _⟩)
       clear hw5))
  refine (HHalf.out w5 (by omega) hn).mono ?_
  rintro e w6 ⟨rfl, rfl⟩
  go_wp2_with fail
  refine (HIH.out w6 hk5.1).mono ?_
  rintro e w7 ⟨rfl, hb7⟩
  have hk7 := hk5.step hb7
  have hlt7 := hk7.2.1.elim fun cs hcs => hcs.2.lt
  have hlt8 : w.heap.size + 1 < w7.heap.size := (hk7.2.2 (w.heap.size + 1, bRow p) (by simp)).lt
  clear hk5
  go_wp2_with (refine wpList_store_named rfl 24 (.tmp 12) (.tmp 49) rfl w7.heap.size (bRow h) rfl rfl (bRow []) (Holds.new2 rfl rfl) I24h.out HoldH.out (bRow_one _) ?_; intro w8 hw8
               have H8 := Lib.hid (show KeptR w w.heap.size [(w7.heap.size, U), (w.heap.size + 1, X)] w8 by
                 rw [hw8, HU.out, HX.out]
                 obtain ⟨q1, ⟨cs, q2, q3⟩, q4⟩ := hk7
                 refine ⟨below_setRow (q1.alloc q1.size _) q1.size _, ⟨cs, q2, (q3.alloc _).rowFar (by omega) _⟩, fun q hq => ?_⟩
                 have hq2 : q = (w7.heap.size, bRow h) ∨ q = (w.heap.size + 1, bRow p) := by simpa using hq
                 rcases hq2 with rfl | rfl
                 · exact (Holds.new2 rfl rfl).row _
                 · exact ((q4 (w.heap.size + 1, bRow p) (by simp)).alloc _).rowFar (by show w.heap.size + 1 ≠ w7.heap.size; omega) _)
               clear hw8)
  clear hk7
  have hkeep0 : KeptR w w.heap.size [(w7.heap.size, U), (w.heap.size + 1, X)] w8.drew := H8.out.drew
  have HFar : Hid (∀ q ∈ [(w7.heap.size, U), (w.heap.size + 1, X)], q.1 ≠ w.heap.size) := fun q hq => by
    have hq2 : q = (w7.heap.size, U) ∨ q = (w.heap.size + 1, X) := by simpa using hq
    rcases hq2 with rfl | rfl
    · show w7.heap.size ≠ w.heap.size; omega
    · show w.heap.size + 1 ≠ w.heap.size; omega
  refine wp_region_noPanic ?_
  refine wp_region_held_drew (S := fun w' => KeptR w w.heap.size [(w7.heap.size, U), (w.heap.size + 1, X)] w') (by kernel_rfl) (hkeep0) (fun hHeld => ?_)
  generalize w8.drew = w9 at *
  refine' wpAnyH_take (i := 0) (v := _) rfl (by kernel_rfl) (by kernel_rfl) (by kernel_rfl) (fun _ _ _ h => h) (yieldsIf_load_mid (by rfl) _ _ rfl w7.heap.size 0 rfl U.toList _ (fun w' hSw => KeptR.range hSw (by simp)) hu rfl hUi) hHeld ?_
  try simp only [Act.put, List.getElem_toArray, List.getElem_cons_succ, List.getElem_cons_zero, List.setIfInBounds_toArray, List.set_cons_zero, List.set_cons_succ]
  refine' wpAnyH_take (i := 3) (v := _) rfl (by kernel_rfl) (by kernel_rfl) (by kernel_rfl) (fun _ _ _ h => h) (yieldsIf_load_mid (by rfl) _ _ rfl (w.heap.size + 1) 0 rfl X.toList _ (fun w' hSw => KeptR.range hSw (by simp)) hu rfl hXi) hHeld ?_
  try simp only [Act.put, List.getElem_toArray, List.getElem_cons_succ, List.getElem_cons_zero, List.setIfInBounds_toArray, List.set_cons_zero, List.set_cons_succ]
  refine wpAnyH_take (i := 7) (v := .bool ok) rfl (by kernel_rfl) (by kernel_rfl) (by kernel_rfl) (fun _ _ _ h => h) (Or.inl ⟨by rfl, fun w' hSw => by go_simp⟩) hHeld ?_
  try simp only [Act.put, List.getElem_toArray, List.getElem_cons_succ, List.getElem_cons_zero, List.setIfInBounds_toArray, List.set_cons_zero, List.set_cons_succ]
  refine wpAnyH_ready (rs := [1]) (by kernel_rfl) (by simp) (AllReadyH.cons rfl (fun K1 hK1 => ?_) AllReadyH.nil)
  try simp only [Act.put, List.getElem_toArray, List.getElem_cons_succ, List.getElem_cons_zero, List.setIfInBounds_toArray, List.set_cons_zero, List.set_cons_succ]
  go_simp
  refine Calls.mono (B1.out _) ?_
  rintro e wa ⟨rfl, hba⟩
  refine hK1.out _ _ (hHeld.step hba) (fun hHeld => ?_)
  clear hK1 K1
  try simp only [Act.put, List.getElem_toArray, List.getElem_cons_succ, List.getElem_cons_zero, List.setIfInBounds_toArray, List.set_cons_zero, List.set_cons_succ]
  refine wpAnyH_take (i := 2) (v := .string ((⟨#[1]⟩ : ByteArray) ++ (⟨h.toArray⟩ : ByteArray))) rfl (by kernel_rfl) (by kernel_rfl) (by kernel_rfl) (fun _ _ _ h => h) (Or.inl ⟨by rfl, fun w' hSw => by go_simp⟩) hHeld ?_
  try simp only [Act.put, List.getElem_toArray, List.getElem_cons_succ, List.getElem_cons_zero, List.setIfInBounds_toArray, List.set_cons_zero, List.set_cons_succ]
  refine wpAnyH_ready (rs := [4]) (by kernel_rfl) (by simp) (AllReadyH.cons rfl (fun K1 hK1 => ?_) AllReadyH.nil)
  try simp only [Act.put, List.getElem_toArray, List.getElem_cons_succ, List.getElem_cons_zero, List.setIfInBounds_toArray, List.set_cons_zero, List.set_cons_succ]
  go_simp
  refine Calls.mono (B2.out _) ?_
  rintro e wb ⟨rfl, hbb⟩
  refine hK1.out _ _ (hHeld.step hbb) (fun hHeld => ?_)
  clear hK1 K1
  try simp only [Act.put, List.getElem_toArray, List.getElem_cons_succ, List.getElem_cons_zero, List.setIfInBounds_toArray, List.set_cons_zero, List.set_cons_succ]
  refine wpAnyH_take (i := 5) (v := .string ((⟨#[1]⟩ : ByteArray) ++ (⟨h.toArray⟩ : ByteArray) ++ (⟨p.toArray⟩ : ByteArray))) rfl (by kernel_rfl) (by kernel_rfl) (by kernel_rfl) (fun _ _ _ h => h) (Or.inl ⟨by rfl, fun w' hSw => by go_simp⟩) hHeld ?_
  try simp only [Act.put, List.getElem_toArray, List.getElem_cons_succ, List.getElem_cons_zero, List.setIfInBounds_toArray, List.set_cons_zero, List.set_cons_succ]
  refine wpAnyH_ready (rs := [6]) (by kernel_rfl) (by simp) (AllReadyH.cons rfl (fun K1 hK1 => ?_) AllReadyH.nil)
  try simp only [Act.put, List.getElem_toArray, List.getElem_cons_succ, List.getElem_cons_zero, List.setIfInBounds_toArray, List.set_cons_zero, List.set_cons_succ]
  go_simp
  refine Calls.mono (C1.out _) ?_
  rintro e wc ⟨rfl, hbc⟩
  refine hK1.out _ _ (hHeld.step hbc) (fun hHeld => ?_)
  clear hK1 K1
  try simp only [Act.put, List.getElem_toArray, List.getElem_cons_succ, List.getElem_cons_zero, List.setIfInBounds_toArray, List.set_cons_zero, List.set_cons_succ]
  refine wpAnyH_ready (rs := [8]) (by kernel_rfl) (by simp) (AllReadyH.cons rfl (fun K1 hK1 => ?_) AllReadyH.nil)
  try simp only [Act.put, List.getElem_toArray, List.getElem_cons_succ, List.getElem_cons_zero, List.setIfInBounds_toArray, List.set_cons_zero, List.set_cons_succ]
  rw [if_pos (by rfl)]
  refine wp_store_mid _ _ _ rfl w.heap.size 0 V rfl rfl (hHeld.there HVs.out) (by rw [HV.out]; exact I24.out) (by rw [HV.out]; exact bRow_one _) ?_
  have hset := hHeld.set HVs.out (Nat.le_refl _) HFar.out
  generalize wc.setCells w.heap.size 0 V.toList = wd at *
  have H9 := Lib.hid hset.2
  have hset1 := hset.1
  clear hset
  refine hK1.out _ _ (hset1) (fun hHeld => ?_)
  clear hK1 K1
  try simp only [Act.put, List.getElem_toArray, List.getElem_cons_succ, List.getElem_cons_zero, List.setIfInBounds_toArray, List.set_cons_zero, List.set_cons_succ]
  refine wpAnyH_ready (rs := [9]) (by kernel_rfl) (by simp) (AllReadyH.cons rfl (fun K1 hK1 => ?_) AllReadyH.nil)
  try simp only [Act.put, List.getElem_toArray, List.getElem_cons_succ, List.getElem_cons_zero, List.setIfInBounds_toArray, List.set_cons_zero, List.set_cons_succ]
  try go_simp
  refine hK1.out _ _ (hset1) (fun hHeld => ?_)
  clear hK1 K1
  try simp only [Act.put, List.getElem_toArray, List.getElem_cons_succ, List.getElem_cons_zero, List.setIfInBounds_toArray, List.set_cons_zero, List.set_cons_succ]
  refine wpAnyH_done (by kernel_rfl) ?_ _
  refine NoPanic.normal ?_
  have hbe := hset1.1
  clear hset1 hHeld hkeep0
  go_wp2_with fail
  rw [HV.out] at H9
  exact bodyPost_ret (results_row_tmp rfl _ _ w.heap.size (bRow R) _ rfl H9.out Tryd.underlying24 rfl I24.out _ rfl) rfl ⟨rfl, hbe⟩

set_option maxHeartbeats 8000000 in
set_option maxRecDepth 100000 in
theorem refBack_right (hRS : RefSum) (n i : Nat) (s : ByteArray) (b off : Nat) (Q : List (List UInt8)) (p : List UInt8) (cap : Nat) (w : World) (hP : Hashes w (some ⟨b, off, none⟩) (Q ++ [p])) (hP32 : ∀ q ∈ Q ++ [p], q.length = 32) (hc : (Q ++ [p]).length ≤ cap)
    (h2 : 2 ≤ n) (hn : n ≤ 9223372036854775807) (hin : i < n) (hik : ¬ i < Sha.half n) (hs : s.size ≤ 140737488354000) (hl62 : Q.length ≤ 4611686018427387904)
    (ih : ∀ (w' : World), Hashes w' (some ⟨b, off, none⟩) Q → Calls Tryd.prog 47 #[.int .i64 ((n - Sha.half n : Nat) : Int), .int .i64 ((i - Sha.half n : Nat) : Int), .string s, .slice (some ⟨b, off, none⟩) Q.length cap] w' fun e w'' =>
      e = .returned (HB (Sha.back (Sha.sum (0 :: s.data.toList)) (n - Sha.half n) (i - Sha.half n) Q.reverse).1 (Sha.back (Sha.sum (0 :: s.data.toList)) (n - Sha.half n) (i - Sha.half n) Q.reverse).2) ∧ Below w'.heap.size w' w'') :
    Calls Tryd.prog 47 #[.int .i64 n, .int .i64 i, .string s, .slice (some ⟨b, off, none⟩) (Q.length + 1) cap] w fun e w' =>
      e = .returned (HB (Sha.back (Sha.sum (0 :: s.data.toList)) n i (Q ++ [p]).reverse).1 (Sha.back (Sha.sum (0 :: s.data.toList)) n i (Q ++ [p]).reverse).2) ∧ Below w.heap.size w w' := by
  have hval : Sha.back (Sha.sum (0 :: s.data.toList)) n i (Q ++ [p]).reverse = (Sha.sum (1 :: (p ++ (Sha.back (Sha.sum (0 :: s.data.toList)) (n - Sha.half n) (i - Sha.half n) Q.reverse).1)), (Sha.back (Sha.sum (0 :: s.data.toList)) (n - Sha.half n) (i - Sha.half n) Q.reverse).2) := by
    rw [List.reverse_append, List.reverse_singleton, List.singleton_append]
    simp only [Sha.back]
    rw [if_pos h2, if_neg hik]
  rw [hval]
  simp only
  have hhl := Sha.back_len (Sha.sum (0 :: s.data.toList)) (Sha.sum_len _) Q.reverse (n - Sha.half n) (i - Sha.half n)
  have hpl : p.length = 32 := hP32 p (by simp)
  have hhalf := refHalf_all n
  have hlt := Sha.half_lt n h2
  have hpos := Sha.half_pos n
  generalize hk : Sha.half n = k at *
  generalize (Sha.back (Sha.sum (0 :: s.data.toList)) (n - k) (i - k) Q.reverse).2 = ok at *
  generalize (Sha.back (Sha.sum (0 :: s.data.toList)) (n - k) (i - k) Q.reverse).1 = h at *
  obtain ⟨_, _, e0, hblt, hbr⟩ := hP (by simp)
  injection e0 with e0
  injection e0 with e1 e2 _
  subst e1 e2
  have hlast := hbr Q.length (by simp)
  rw [show (Q ++ [p]).getD Q.length [] = p by simp [List.getD]] at hlast
  have hQ : ∀ w', Below w.heap.size w w' → Hashes w' (some ⟨b, off, none⟩) Q := fun w' hb hne => ⟨b, off, rfl, Nat.lt_of_lt_of_le hblt hb.size, fun j hj x v hv => by
    have h := hbr j (by simp; omega)
    rw [show (Q ++ [p]).getD j [] = Q.getD j [] by simp [List.getD, hj, List.getElem?_append]] at h
    exact (hb.cell (p := ⟨b, off + j * 32 + x, none⟩) hblt).trans (h x v hv)⟩
  have hih := fun (w' : World) (hb : Below w.heap.size w w') => ih w' (hQ w' hb)
  have hih2 : ∀ w' : World, Below w.heap.size w w' → Calls Tryd.prog 47 #[.int .i64 ((n : Int) - (k : Int)), .int .i64 ((i : Int) - (k : Int)), .string s, .slice (some ⟨b, off, none⟩) Q.length cap] w' fun e w'' => e = .returned (HB h ok) ∧ Below w'.heap.size w' w'' := fun w' hb => by
    have h := hih w' hb
    rw [show ((n - k : Nat) : Int) = (n : Int) - (k : Int) by omega, show ((i - k : Nat) : Int) = (i : Int) - (k : Int) by omega] at h; exact h
  have hne : ((n : Int) == 1) = false := by simp only [beq_eq_false_iff_ne]; omega
  have hne0 : ((Q.length : Int) + 1 == 0) = false := by simp only [beq_eq_false_iff_ne]; omega
  have hcc : Q.length + 1 ≤ cap := by simpa using hc
  generalize Q.length = m at *
  obtain ⟨R, hR⟩ : ∃ R, R = Sha.sum (1 :: (p ++ h)) := ⟨_, rfl⟩
  have hRl : R.length = 32 := by rw [hR, Sha.sum_len]
  rw [← hR]
  obtain ⟨V, hV⟩ : ∃ V, V = bRow R := ⟨_, rfl⟩
  obtain ⟨U, hU⟩ : ∃ U, U = bRow h := ⟨_, rfl⟩
  obtain ⟨X, hX⟩ : ∃ X, X = bRow p := ⟨_, rfl⟩
  have hVs : V.size = 32 := by rw [hV, bRow_size R (by omega)]
  have hUs : U.size = 32 := by rw [hU, bRow_size h (by omega)]
  have hXs : X.size = 32 := by rw [hX, bRow_size p (by omega)]
  have i24 : (Tryd.prog.info? 24).map (·.size) = some 32 := by kernel_rfl
  have hUi : (Tryd.prog.info? 24).map (·.size) = some U.toList.length := i24.trans (by rw [Array.length_toList, hUs])
  have hXi : (Tryd.prog.info? 24).map (·.size) = some X.toList.length := i24.trans (by rw [Array.length_toList, hXs])
  have b1 : ∀ w' : World, Calls Tryd.prog 41 #[.agg U] w' fun e w'' => e = .returned (S h) ∧ Below w'.heap.size w' w'' := fun w' => by rw [hU]; exact bytes_any h w' hhl
  have b2 : ∀ w' : World, Calls Tryd.prog 41 #[.agg X] w' fun e w'' => e = .returned (S p) ∧ Below w'.heap.size w' w'' := fun w' => by rw [hX]; exact bytes_any p w' hpl
  have hdl : ((⟨#[1]⟩ : ByteArray) ++ (⟨p.toArray⟩ : ByteArray) ++ (⟨h.toArray⟩ : ByteArray)).data.toList = 1 :: (p ++ h) := by rw [ByteArray.data_append, ByteArray.data_append]; simp
  have hsz : ((⟨#[1]⟩ : ByteArray) ++ (⟨p.toArray⟩ : ByteArray) ++ (⟨h.toArray⟩ : ByteArray)).size = 65 := by
    rw [ByteArray.size_append, ByteArray.size_append]
    show 1 + p.length + h.length = 65
    omega
  have c1 : ∀ w' : World, Calls Tryd.prog 15 #[.string ((⟨#[1]⟩ : ByteArray) ++ (⟨p.toArray⟩ : ByteArray) ++ (⟨h.toArray⟩ : ByteArray))] w' fun e w'' => e = .returned (.agg V) ∧ Below w'.heap.size w' w'' := fun w' => by
    have := hRS ((⟨#[1]⟩ : ByteArray) ++ (⟨p.toArray⟩ : ByteArray) ++ (⟨h.toArray⟩ : ByteArray)) w' (by rw [hsz]; omega)
    rw [hdl, ← hR] at this
    rw [hV]; exact this
  have hg1 : ¬ (9223372036854775807 < 1 + p.length) := by omega
  have hg2 : ¬ (9223372036854775807 < 1 + p.length + h.length) := by omega
  have hu := Tryd.underlying24
  have B1 := Lib.hid b1
  have B2 := Lib.hid b2
  have C1 := Lib.hid c1
  have HV := Lib.hid hV
  have HU := Lib.hid hU
  have HX := Lib.hid hX
  have HVs := Lib.hid hVs
  have I24 := Lib.hid (i24_any R (by omega))
  have I24h := Lib.hid (i24_any h (by omega))
  have I24p := Lib.hid (i24_any p (by omega))
  have HoldH := Lib.hid (bRow_same [] h (by simp) (by omega))
  have HoldP := Lib.hid (bRow_same [] p (by simp) (by omega))
  have HIH := Lib.hid hih2
  have HHalf := Lib.hid hhalf
  have HLast := Lib.hid hlast
  have HPi : Hid ((Tryd.prog.info? 24).map (·.size) = some (bRow p).toList.length) := i24.trans (by rw [Array.length_toList, bRow_size p (by omega)])
  have hik2 : ¬ (i : Int) < (k : Int) := by omega
  have hk0 : (0 : Int) ≤ (k : Int) := by omega
  have hmc : (m : Int) ≤ (cap : Int) := by omega
  have hw1 : IntKind.i64.wrap ((n : Int) - (k : Int)) = (n : Int) - (k : Int) := IntWalk.i64_in _ (by omega)
  have hw2 : IntKind.i64.wrap ((i : Int) - (k : Int)) = (i : Int) - (k : Int) := IntWalk.i64_in _ (by omega)
  clear hP hP32 hval hbr hQ hih hih2 ih hR hRl hV hU hX hVs hUs hXs i24 b1 b2 hdl hsz c1 hhalf hlast hhl hpl hk hRS hik
  go_enter Tryd.func47, Tryd.ntmps47
  go_wp2_with (first
    | (refine wpList_load_mid rfl 24 (.tmp 32) rfl b (off + m * 32) rfl (bRow p).toList _ (World.rangeAt_alloc HLast.out _) Tryd.underlying24 rfl HPi.out ?_)
    | (refine wpList_store_named rfl 24 (.tmp 10) (.tmp 33) rfl (w.heap.size + 1) (bRow p) rfl rfl (bRow []) (Holds.new2 (by simp) rfl) I24p.out HoldP.out (bRow_one _) ?_; intro w5 hw5
       have hk5 := (show KeptR w w.heap.size [(w.heap.size + 1, bRow p)] w5 by
         rw [hw5]
         exact ⟨below_setRow (((Below.refl _ _).alloc (Nat.le_refl _) _).alloc (by simp) _) (by omega) _, ⟨bRow [], bRow_size [] (by simp), ((Holds.new2 rfl rfl).alloc _).rowFar (by omega) _⟩, fun q hq => by
           obtain rfl : q = (w.heap.size + 1, bRow p) := by simpa using hq
           exact (Holds.new2 (by simp) rfl).row _⟩)
       clear hw5))
  refine (HHalf.out w5 (by omega) hn).mono ?_
  rintro e w6 ⟨rfl, rfl⟩
  go_wp2_with fail
  refine (HIH.out w6 hk5.1).mono ?_
  rintro e w7 ⟨rfl, hb7⟩
  have hk7 := hk5.step hb7
  have hlt7 := hk7.2.1.elim fun cs hcs => hcs.2.lt
  have hlt8 : w.heap.size + 1 < w7.heap.size := (hk7.2.2 (w.heap.size + 1, bRow p) (by simp)).lt
  clear hk5
  go_wp2_with (refine wpList_store_named rfl 24 (.tmp 14) (.tmp 73) rfl w7.heap.size (bRow h) rfl rfl (bRow []) (Holds.new2 rfl rfl) I24h.out HoldH.out (bRow_one _) ?_; intro w8 hw8
               have H8 := Lib.hid (show KeptR w w.heap.size [(w7.heap.size, U), (w.heap.size + 1, X)] w8 by
                 rw [hw8, HU.out, HX.out]
                 obtain ⟨q1, ⟨cs, q2, q3⟩, q4⟩ := hk7
                 refine ⟨below_setRow (q1.alloc q1.size _) q1.size _, ⟨cs, q2, (q3.alloc _).rowFar (by omega) _⟩, fun q hq => ?_⟩
                 have hq2 : q = (w7.heap.size, bRow h) ∨ q = (w.heap.size + 1, bRow p) := by simpa using hq
                 rcases hq2 with rfl | rfl
                 · exact (Holds.new2 rfl rfl).row _
                 · exact ((q4 (w.heap.size + 1, bRow p) (by simp)).alloc _).rowFar (by show w.heap.size + 1 ≠ w7.heap.size; omega) _)
               clear hw8)
  clear hk7
  have hkeep0 : KeptR w w.heap.size [(w7.heap.size, U), (w.heap.size + 1, X)] w8.drew := H8.out.drew
  have HFar : Hid (∀ q ∈ [(w7.heap.size, U), (w.heap.size + 1, X)], q.1 ≠ w.heap.size) := fun q hq => by
    have hq2 : q = (w7.heap.size, U) ∨ q = (w.heap.size + 1, X) := by simpa using hq
    rcases hq2 with rfl | rfl
    · show w7.heap.size ≠ w.heap.size; omega
    · show w.heap.size + 1 ≠ w.heap.size; omega
  refine wp_region_noPanic ?_
  refine wp_region_held_drew (S := fun w' => KeptR w w.heap.size [(w7.heap.size, U), (w.heap.size + 1, X)] w') (by kernel_rfl) (hkeep0) (fun hHeld => ?_)
  generalize w8.drew = w9 at *
  refine' wpAnyH_take (i := 0) (v := _) rfl (by kernel_rfl) (by kernel_rfl) (by kernel_rfl) (fun _ _ _ h => h) (yieldsIf_load_mid (by rfl) _ _ rfl (w.heap.size + 1) 0 rfl X.toList _ (fun w' hSw => KeptR.range hSw (by simp)) hu rfl hXi) hHeld ?_
  try simp only [Act.put, List.getElem_toArray, List.getElem_cons_succ, List.getElem_cons_zero, List.setIfInBounds_toArray, List.set_cons_zero, List.set_cons_succ]
  refine' wpAnyH_take (i := 3) (v := _) rfl (by kernel_rfl) (by kernel_rfl) (by kernel_rfl) (fun _ _ _ h => h) (yieldsIf_load_mid (by rfl) _ _ rfl w7.heap.size 0 rfl U.toList _ (fun w' hSw => KeptR.range hSw (by simp)) hu rfl hUi) hHeld ?_
  try simp only [Act.put, List.getElem_toArray, List.getElem_cons_succ, List.getElem_cons_zero, List.setIfInBounds_toArray, List.set_cons_zero, List.set_cons_succ]
  refine wpAnyH_take (i := 7) (v := .bool ok) rfl (by kernel_rfl) (by kernel_rfl) (by kernel_rfl) (fun _ _ _ h => h) (Or.inl ⟨by rfl, fun w' hSw => by go_simp⟩) hHeld ?_
  try simp only [Act.put, List.getElem_toArray, List.getElem_cons_succ, List.getElem_cons_zero, List.setIfInBounds_toArray, List.set_cons_zero, List.set_cons_succ]
  refine wpAnyH_ready (rs := [1]) (by kernel_rfl) (by simp) (AllReadyH.cons rfl (fun K1 hK1 => ?_) AllReadyH.nil)
  try simp only [Act.put, List.getElem_toArray, List.getElem_cons_succ, List.getElem_cons_zero, List.setIfInBounds_toArray, List.set_cons_zero, List.set_cons_succ]
  go_simp
  refine Calls.mono (B2.out _) ?_
  rintro e wa ⟨rfl, hba⟩
  refine hK1.out _ _ (hHeld.step hba) (fun hHeld => ?_)
  clear hK1 K1
  try simp only [Act.put, List.getElem_toArray, List.getElem_cons_succ, List.getElem_cons_zero, List.setIfInBounds_toArray, List.set_cons_zero, List.set_cons_succ]
  refine wpAnyH_take (i := 2) (v := .string ((⟨#[1]⟩ : ByteArray) ++ (⟨p.toArray⟩ : ByteArray))) rfl (by kernel_rfl) (by kernel_rfl) (by kernel_rfl) (fun _ _ _ h => h) (Or.inl ⟨by rfl, fun w' hSw => by go_simp⟩) hHeld ?_
  try simp only [Act.put, List.getElem_toArray, List.getElem_cons_succ, List.getElem_cons_zero, List.setIfInBounds_toArray, List.set_cons_zero, List.set_cons_succ]
  refine wpAnyH_ready (rs := [4]) (by kernel_rfl) (by simp) (AllReadyH.cons rfl (fun K1 hK1 => ?_) AllReadyH.nil)
  try simp only [Act.put, List.getElem_toArray, List.getElem_cons_succ, List.getElem_cons_zero, List.setIfInBounds_toArray, List.set_cons_zero, List.set_cons_succ]
  go_simp
  refine Calls.mono (B1.out _) ?_
  rintro e wb ⟨rfl, hbb⟩
  refine hK1.out _ _ (hHeld.step hbb) (fun hHeld => ?_)
  clear hK1 K1
  try simp only [Act.put, List.getElem_toArray, List.getElem_cons_succ, List.getElem_cons_zero, List.setIfInBounds_toArray, List.set_cons_zero, List.set_cons_succ]
  refine wpAnyH_take (i := 5) (v := .string ((⟨#[1]⟩ : ByteArray) ++ (⟨p.toArray⟩ : ByteArray) ++ (⟨h.toArray⟩ : ByteArray))) rfl (by kernel_rfl) (by kernel_rfl) (by kernel_rfl) (fun _ _ _ h => h) (Or.inl ⟨by rfl, fun w' hSw => by go_simp⟩) hHeld ?_
  try simp only [Act.put, List.getElem_toArray, List.getElem_cons_succ, List.getElem_cons_zero, List.setIfInBounds_toArray, List.set_cons_zero, List.set_cons_succ]
  refine wpAnyH_ready (rs := [6]) (by kernel_rfl) (by simp) (AllReadyH.cons rfl (fun K1 hK1 => ?_) AllReadyH.nil)
  try simp only [Act.put, List.getElem_toArray, List.getElem_cons_succ, List.getElem_cons_zero, List.setIfInBounds_toArray, List.set_cons_zero, List.set_cons_succ]
  go_simp
  refine Calls.mono (C1.out _) ?_
  rintro e wc ⟨rfl, hbc⟩
  refine hK1.out _ _ (hHeld.step hbc) (fun hHeld => ?_)
  clear hK1 K1
  try simp only [Act.put, List.getElem_toArray, List.getElem_cons_succ, List.getElem_cons_zero, List.setIfInBounds_toArray, List.set_cons_zero, List.set_cons_succ]
  refine wpAnyH_ready (rs := [8]) (by kernel_rfl) (by simp) (AllReadyH.cons rfl (fun K1 hK1 => ?_) AllReadyH.nil)
  try simp only [Act.put, List.getElem_toArray, List.getElem_cons_succ, List.getElem_cons_zero, List.setIfInBounds_toArray, List.set_cons_zero, List.set_cons_succ]
  rw [if_pos (by rfl)]
  refine wp_store_mid _ _ _ rfl w.heap.size 0 V rfl rfl (hHeld.there HVs.out) (by rw [HV.out]; exact I24.out) (by rw [HV.out]; exact bRow_one _) ?_
  have hset := hHeld.set HVs.out (Nat.le_refl _) HFar.out
  generalize wc.setCells w.heap.size 0 V.toList = wd at *
  have H9 := Lib.hid hset.2
  have hset1 := hset.1
  clear hset
  refine hK1.out _ _ (hset1) (fun hHeld => ?_)
  clear hK1 K1
  try simp only [Act.put, List.getElem_toArray, List.getElem_cons_succ, List.getElem_cons_zero, List.setIfInBounds_toArray, List.set_cons_zero, List.set_cons_succ]
  refine wpAnyH_ready (rs := [9]) (by kernel_rfl) (by simp) (AllReadyH.cons rfl (fun K1 hK1 => ?_) AllReadyH.nil)
  try simp only [Act.put, List.getElem_toArray, List.getElem_cons_succ, List.getElem_cons_zero, List.setIfInBounds_toArray, List.set_cons_zero, List.set_cons_succ]
  try go_simp
  refine hK1.out _ _ (hset1) (fun hHeld => ?_)
  clear hK1 K1
  try simp only [Act.put, List.getElem_toArray, List.getElem_cons_succ, List.getElem_cons_zero, List.setIfInBounds_toArray, List.set_cons_zero, List.set_cons_succ]
  refine wpAnyH_done (by kernel_rfl) ?_ _
  refine NoPanic.normal ?_
  have hbe := hset1.1
  clear hset1 hHeld hkeep0
  go_wp2_with fail
  rw [HV.out] at H9
  exact bodyPost_ret (results_row_tmp rfl _ _ w.heap.size (bRow R) _ rfl H9.out Tryd.underlying24 rfl I24.out _ rfl) rfl ⟨rfl, hbe⟩

theorem refBack_any (hRS : RefSum) (s : ByteArray) (hs : s.size ≤ 140737488354000) : ∀ (m : Nat) (P : List (List UInt8)) (A : Option Addr) (cap n i : Nat) (w : World), P.length = m → Hashes w A P → (∀ q ∈ P, q.length = 32) → P.length ≤ cap → P.length ≤ 4611686018427387904 →
    i < n → n ≤ 9223372036854775807 →
    Calls Tryd.prog 47 #[.int .i64 n, .int .i64 i, .string s, .slice A P.length cap] w fun e w' =>
      e = .returned (HB (Sha.back (Sha.sum (0 :: s.data.toList)) n i P.reverse).1 (Sha.back (Sha.sum (0 :: s.data.toList)) n i P.reverse).2) ∧ Below w.heap.size w w' := by
  intro m
  induction m with
  | zero =>
    intro P A cap n i w hm hP h32 hc hl hi hn
    obtain rfl : P = [] := List.eq_nil_of_length_eq_zero hm
    by_cases h2 : 2 ≤ n
    · have e : Sha.back (Sha.sum (0 :: s.data.toList)) n i [] = (List.replicate 32 0, false) := by unfold Sha.back; rw [if_pos h2]
      rw [List.reverse_nil, e]
      exact refBack_none n i s A cap w h2
    · have e : Sha.back (Sha.sum (0 :: s.data.toList)) n i [] = (Sha.sum (0 :: s.data.toList), true) := by unfold Sha.back; rw [if_neg h2]
      rw [List.reverse_nil, e]
      obtain rfl : n = 1 := by omega
      exact refBack_one hRS i s A 0 cap w hs
  | succ m ih =>
    intro P A cap n i w hm hP h32 hc hl hi hn
    have hne : P ≠ [] := by intro h; rw [h] at hm; simp at hm
    by_cases h2 : 2 ≤ n
    · obtain ⟨b, off, rfl, hblt, hbr⟩ := hP hne
      obtain ⟨Q, p, rfl⟩ : ∃ Q p, P = Q ++ [p] := ⟨P.dropLast, P.getLast hne, (List.dropLast_concat_getLast hne).symm⟩
      have hQl : Q.length = m := by simpa using hm
      have hlen : (Q ++ [p]).length = Q.length + 1 := by simp
      have hh := Sha.half_lt n h2
      have hp := Sha.half_pos n
      rw [hlen]
      by_cases hik : i < Sha.half n
      · refine refBack_left hRS n i s b off Q p cap w (fun _ => ⟨b, off, rfl, hblt, hbr⟩) h32 hc h2 hn hi hik hs (by omega) ?_
        intro w' hQ
        exact ih Q _ cap (Sha.half n) i w' hQl hQ (fun q hq => h32 q (by simp [hq])) (by omega) (by omega) hik (by omega)
      · refine refBack_right hRS n i s b off Q p cap w (fun _ => ⟨b, off, rfl, hblt, hbr⟩) h32 hc h2 hn hi hik hs (by omega) ?_
        intro w' hQ
        exact ih Q _ cap (n - Sha.half n) (i - Sha.half n) w' hQl hQ (fun q hq => h32 q (by simp [hq])) (by omega) (by omega) (by omega) (by omega)
    · obtain rfl : n = 1 := by omega
      have e : Sha.back (Sha.sum (0 :: s.data.toList)) 1 i P.reverse = (Sha.sum (0 :: s.data.toList), decide (P.length = 0)) := by
        cases hr : P.reverse with
        | nil => exact absurd (List.reverse_eq_nil_iff.1 hr) hne
        | cons q R => unfold Sha.back; rw [if_neg (by omega), decide_eq_false (by omega)]
      rw [e]
      exact refBack_one hRS i s A P.length cap w hs
end Go.Proofs.YtdifbndpgbdkbaaDoor
