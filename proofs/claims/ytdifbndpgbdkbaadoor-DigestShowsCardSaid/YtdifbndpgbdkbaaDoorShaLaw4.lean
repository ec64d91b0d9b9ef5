/- cavalcaderef02.Proves and the law DigestProves: what they return. -/
import Derived.Test.YtdifbndpgbdkbaaDoorShaBack
import Derived.Test.YtdifbndpgbdkbaaDoorShaProves2
import Derived.Test.YtdifbndpgbdkbaaDoorShaAwk
import Derived.Test.YtdifbndpgbdkbaaDoorSealOpen
import Derived.Test.YtdifbndpgbdkbaaDoorSealLaw2
namespace Go.Proofs.YtdifbndpgbdkbaaDoor
open Go.RowKit
set_option linter.unusedVariables false
set_option linter.unusedSimpArgs false

theorem refProves_range (root : List UInt8) (n i : Int) (s : ByteArray) (A : Option Addr) (len cap : Nat) (w : World) (h : i < 0 ∨ n ≤ i) :
    Calls Tryd.prog 25 #[.agg (bRow root), .int .i64 n, .int .i64 i, .string s, .slice A len cap] w fun e w' => e = .returned (.bool false) ∧ Below w.heap.size w w' := by
  by_cases h0 : i < 0
  · go_enter Tryd.func25, Tryd.ntmps25
    go_wp2_with fail
    go_ret
    exact ⟨rfl, (Below.refl _ _).alloc (Nat.le_refl _) _⟩
  · have h1 : 0 ≤ i := by omega
    have h2 : n ≤ i := by omega
    clear h0 h
    go_enter Tryd.func25, Tryd.ntmps25
    go_wp2_with fail
    go_ret
    exact ⟨rfl, (Below.refl _ _).alloc (Nat.le_refl _) _⟩
set_option maxHeartbeats 4000000 in
set_option maxRecDepth 100000 in
theorem refProves_in (hRS : RefSum) (root : List UInt8) (n i : Nat) (s : ByteArray) (A : Option Addr) (P : List (List UInt8)) (cap : Nat) (w : World) (hroot : root.length = 32) (hP : Hashes w A P) (h32 : ∀ q ∈ P, q.length = 32) (hc : P.length ≤ cap) (hl : P.length ≤ 4611686018427387904)
    (hn : n ≤ 9223372036854775807) (hi : i < n) (hs : s.size ≤ 140737488354000) :
    Calls Tryd.prog 25 #[.agg (bRow root), .int .i64 n, .int .i64 i, .string s, .slice A P.length cap] w fun e w' => e = .returned (.bool (Sha.proves root n i s.data.toList P)) ∧ Below w.heap.size w w' := by
  have hb := fun (w' : World) (hk : Below w.heap.size w w') => refBack_any hRS s hs P.length P A cap n i w' rfl (hP.below hk (Nat.le_refl _)) h32 hc hl hi hn
  have hok := Sha.back_ok (Sha.sum (0 :: s.data.toList)) P.reverse n i
  have hcl := Sha.back_climb (Sha.sum (0 :: s.data.toList)) P.reverse n i
  have hbl := Sha.back_len (Sha.sum (0 :: s.data.toList)) (Sha.sum_len _) P.reverse n i
  have hval : Sha.proves root n i s.data.toList P = ((Sha.back (Sha.sum (0 :: s.data.toList)) n i P.reverse).2 && decide ((Sha.back (Sha.sum (0 :: s.data.toList)) n i P.reverse).1 = root)) := by
    unfold Sha.proves
    rw [hok, List.length_reverse]
    by_cases h : (Sha.path n i).length = P.length
    · rw [decide_eq_true h, Bool.true_and, Bool.true_and, hcl (by rw [List.length_reverse]; exact h)]
    · rw [decide_eq_false h, Bool.false_and, Bool.false_and]
  rw [hval]
  generalize (Sha.back (Sha.sum (0 :: s.data.toList)) n i P.reverse).2 = ok at *
  generalize (Sha.back (Sha.sum (0 :: s.data.toList)) n i P.reverse).1 = R at *
  have heqs : ∀ W, (Op.equalIn 10000 24 (.agg (bRow R)) (.agg (bRow root))).run Tryd.prog W = .ok (decide (R = root)) W := fun W => hash_eq W R root hbl hroot
  have HB1 := Lib.hid hb
  have HEQ := Lib.hid heqs
  have I24 := Lib.hid (i24_any R (by omega))
  have I24r := Lib.hid (i24_any root (by omega))
  have Hold := Lib.hid (bRow_same [] R (by simp) (by omega))
  have hlt : (i : Int) < (n : Int) := by omega
  generalize P.length = m at *
  clear hb hok hcl hval heqs hP h32 hbl hroot hRS
  cases ok
  all_goals
    go_enter Tryd.func25, Tryd.ntmps25
    go_wp2_with fail
    refine calls_named ?_
    intro w1 hw1
    have hH : Holds w1 w.heap.size (bRow root) := by rw [hw1]; exact Holds.new _ _ _
    have hb1 : Below w.heap.size w w1 := by rw [hw1]; exact (Below.refl _ _).alloc (Nat.le_refl _) _
    clear hw1
    refine (HB1.out w1 hb1).mono ?_
    rintro e w2 ⟨rfl, hb2⟩
    have hH2 := hH.below hb2 hH.lt
    have HH2 := Lib.hid hH2
    have hb2 := hb1.trans (hb2.mono hb1.size)
    have hlt2 := hH2.lt
    have heqs := HEQ.out
    clear hH hH2
    go_wp2_with (first
      | (refine wpList_store_named rfl 24 (.tmp 11) (.tmp 26) rfl w2.heap.size (bRow R) rfl rfl (bRow []) (Holds.new2 rfl rfl) I24.out Hold.out (bRow_one _) ?_; intro w5 hw5
         obtain ⟨T5, hT5⟩ := (show Holds w5 w2.heap.size (bRow R) by rw [hw5]; exact (Holds.new2 rfl rfl).row _)
         obtain ⟨T6, hT6⟩ := (show Holds w5 w.heap.size (bRow root) by rw [hw5]; exact (HH2.out.alloc _).rowFar (by omega) _)
         have G5 := Lib.hid hT5
         have G6 := Lib.hid hT6
         have hb5 := (show Below w.heap.size w w5 by rw [hw5]; exact below_setRow (hb2.alloc hb2.size _) hb2.size _)
         clear hw5 hT5 hT6)
      | (refine wpList_load_wanted rfl 24 (.tmp 11) rfl w2.heap.size rfl T5 _ (0, 0) _ G5.out Tryd.underlying24 rfl I24.out ?_)
      | (refine wpList_load_wanted rfl 24 (.tmp 5) rfl w.heap.size rfl T6 _ (0, 0) _ G6.out Tryd.underlying24 rfl I24r.out ?_))
    go_ret
    exact ⟨by first | rfl | simp, hb5⟩
theorem refProves_any (hRS : RefSum) (root : List UInt8) (n i : Int) (s : ByteArray) (A : Option Addr) (P : List (List UInt8)) (cap : Nat) (w : World) (hroot : root.length = 32) (hP : Hashes w A P) (h32 : ∀ q ∈ P, q.length = 32) (hc : P.length ≤ cap) (hl : P.length ≤ 4611686018427387904)
    (hn : n ≤ 9223372036854775807) (hs : s.size ≤ 140737488354000) :
    Calls Tryd.prog 25 #[.agg (bRow root), .int .i64 n, .int .i64 i, .string s, .slice A P.length cap] w fun e w' => e = .returned (.bool (if i < 0 ∨ n ≤ i then false else Sha.proves root n.toNat i.toNat s.data.toList P)) ∧ Below w.heap.size w w' := by
  by_cases h : i < 0 ∨ n ≤ i
  · rw [if_pos h]; exact refProves_range root n i s A P.length cap w h
  · rw [if_neg h]
    obtain ⟨i', rfl⟩ : ∃ i' : Nat, i = i' := ⟨i.toNat, by omega⟩
    obtain ⟨n', rfl⟩ : ∃ n' : Nat, n = n' := ⟨n.toNat, by omega⟩
    rw [Int.toNat_natCast, Int.toNat_natCast]
    exact refProves_in hRS root n' i' s A P cap w hroot hP h32 hc hl (by omega) (by omega) hs
theorem KeptB.cellOf {w w' : World} {b : Nat} {cs : Array Value} (h : KeptB w b cs w') (i : Nat) : w'.cell? ⟨b, i, none⟩ = cs[i]? := h.2.cell i
/-- a case's cells -/
def caseRow (root : List UInt8) (n i : Int) (s : ByteArray) (v : Value) : Array Value := ((bRow root).toList ++ [Value.int .i64 n, .int .i64 i, .string s, v]).toArray
theorem caseRow_at (root : List UInt8) (n i : Int) (s : ByteArray) (v : Value) (hr : root.length = 32) : (caseRow root n i s v)[32]? = some (.int .i64 n) ∧ (caseRow root n i s v)[33]? = some (.int .i64 i) ∧ (caseRow root n i s v)[34]? = some (.string s) ∧ (caseRow root n i s v)[35]? = some v := by
  have hl : (bRow root).toList.length = 32 := by rw [Array.length_toList, bRow_size root (by omega)]
  unfold caseRow
  simp only [List.getElem?_toArray]
  refine ⟨?_, ?_, ?_, ?_⟩ <;> (rw [List.getElem?_append_right (by omega), hl]; rfl)
theorem caseRow_root (root : List UInt8) (n i : Int) (s : ByteArray) (v : Value) (j : Nat) (u : Value) (h : (bRow root).toList[j]? = some u) : (caseRow root n i s v)[j]? = some u := by
  unfold caseRow
  rw [List.getElem?_toArray, List.getElem?_append_left (List.getElem?_eq_some_iff.1 h).1]
  exact h
set_option maxHeartbeats 8000000 in
set_option maxRecDepth 100000 in
theorem digestProves_any (hRS : RefSum) (root : List UInt8) (n i : Int) (s : ByteArray) (A : Option Addr) (P : List (List UInt8)) (cap : Nat) (w : World) (hT : Tab w) (hroot : root.length = 32) (hP : Hashes w A P) (h32 : ∀ q ∈ P, q.length = 32) (hc : P.length ≤ cap) (hl : P.length ≤ 4611686018427387904)
    (hn : n ≤ 9223372036854775807) (hs : s.size ≤ 140737488354000) :
    Calls Tryd.prog 6 #[.agg (caseRow root n i s (.slice A P.length cap))] w fun e w' => e = .returned (.bool true) ∧ Below w.heap.size w w' := by
  have hpos := hT.pos
  obtain ⟨T, hTT⟩ : ∃ T, T = bRow root := ⟨_, rfl⟩
  have hrow := caseRow_at root n i s (.slice A P.length cap) hroot
  have hrt := caseRow_root root n i s (.slice A P.length cap)
  have a1 : ∀ w', Below w.heap.size w w' → Calls Tryd.prog 13 #[] w' fun e w'' => e = .returned (.bool true) ∧ Below w'.heap.size w' w'' := fun w' hk => awake_any w' (hT.below hk hpos)
  have a2 := fun (w' : World) (hk : Below w.heap.size w w') => Proves_any root n i s A P cap w' (hT.below hk hpos) hroot (hP.below hk (Nat.le_refl _)) h32 hn (by omega)
  have a3 := fun (w' : World) (hk : Below w.heap.size w w') => refProves_any hRS root n i s A P cap w' hroot (hP.below hk (Nat.le_refl _)) h32 hc hl hn hs
  rw [← hTT] at a2 a3
  generalize (if i < 0 ∨ n ≤ i then false else Sha.proves root n.toNat i.toNat s.data.toList P) = r at *
  generalize caseRow root n i s (.slice A P.length cap) = cs at *
  generalize P.length = m at *
  obtain ⟨r0, r1, r2, r3⟩ := hrow
  have hTs : T.toList.length = 32 := by rw [hTT, Array.length_toList, bRow_size root (by omega)]
  have hTi : (Tryd.prog.info? 24).map (·.size) = some T.toList.length := by rw [hTs]; kernel_rfl
  have hu := Tryd.underlying24
  rw [← hTT] at hrt
  have A1 := Lib.hid a1
  have A2 := Lib.hid a2
  have A3 := Lib.hid a3
  have R0 := Lib.hid r0
  have R1 := Lib.hid r1
  have R2 := Lib.hid r2
  have R3 := Lib.hid r3
  have HRT := Lib.hid hrt
  clear hT a1 a2 a3 r0 r1 r2 r3 hrt hTT hTs hP h32 hRS hroot
  go_enter Tryd.func6, Tryd.ntmps6
  go_wp2_with fail
  have hkeep0 : KeptB w w.heap.size cs (w.alloc (.cells cs 41)).drew := ⟨((Below.refl _ _).alloc (Nat.le_refl _) _).drew, (Holds.new _ _ _).drew⟩
  refine wp_region_noPanic ?_
  refine wp_region_held_drew (S := fun w' => KeptB w w.heap.size cs w') (by kernel_rfl) (hkeep0) (fun hHeld => ?_)
  generalize (w.alloc (.cells cs 41)).drew = w6 at *
  refine wpAnyH_ready (rs := [0]) (by kernel_rfl) (by simp) (AllReadyH.cons rfl (fun K1 hK1 => ?_) AllReadyH.nil)
  try simp only [Act.put, List.getElem_toArray, List.getElem_cons_succ, List.getElem_cons_zero, List.setIfInBounds_toArray, List.set_cons_zero, List.set_cons_succ]
  go_simp
  refine Calls.mono (A1.out _ hHeld.1) ?_
  rintro e wa ⟨rfl, hba⟩
  refine hK1.out _ _ (KeptB.step hHeld hba) (fun hHeld => ?_)
  clear hK1 K1
  try simp only [Act.put, List.getElem_toArray, List.getElem_cons_succ, List.getElem_cons_zero, List.setIfInBounds_toArray, List.set_cons_zero, List.set_cons_succ]
  refine wpAnyH_take (i := 1) (v := .bool true) rfl (by kernel_rfl) (by kernel_rfl) (by kernel_rfl) (fun _ _ _ h => h) (Or.inl ⟨by rfl, fun w' hSw => by go_simp⟩) hHeld ?_
  try simp only [Act.put, List.getElem_toArray, List.getElem_cons_succ, List.getElem_cons_zero, List.setIfInBounds_toArray, List.set_cons_zero, List.set_cons_succ]
  refine wpAnyH_take (i := 2) (v := .pointer (some ⟨w.heap.size, 0, none⟩)) rfl (by kernel_rfl) (by kernel_rfl) (by kernel_rfl) (fun _ _ _ h => h) (Or.inl ⟨by rfl, fun w' hSw => by go_simp⟩) hHeld ?_
  try simp only [Act.put, List.getElem_toArray, List.getElem_cons_succ, List.getElem_cons_zero, List.setIfInBounds_toArray, List.set_cons_zero, List.set_cons_succ]
  refine' wpAnyH_take (i := 3) (v := _) rfl (by kernel_rfl) (by kernel_rfl) (by kernel_rfl) (fun _ _ _ h => h) (yieldsIf_load_mid (by rfl) _ _ rfl w.heap.size 0 rfl T.toList _ (fun w' hSw => (fun j v hj => ((KeptB.cellOf hSw (0 + j)).trans (by rw [Nat.zero_add]; exact HRT.out j v hj)))) hu rfl hTi) hHeld ?_
  try simp only [Act.put, List.getElem_toArray, List.getElem_cons_succ, List.getElem_cons_zero, List.setIfInBounds_toArray, List.set_cons_zero, List.set_cons_succ]
  refine wpAnyH_take (i := 4) (v := .pointer (some ⟨w.heap.size, 32, none⟩)) rfl (by kernel_rfl) (by kernel_rfl) (by kernel_rfl) (fun _ _ _ h => h) (Or.inl ⟨by rfl, fun w' hSw => by go_simp⟩) hHeld ?_
  try simp only [Act.put, List.getElem_toArray, List.getElem_cons_succ, List.getElem_cons_zero, List.setIfInBounds_toArray, List.set_cons_zero, List.set_cons_succ]
  refine wpAnyH_take (i := 5) (v := .int .i64 n) rfl (by kernel_rfl) (by kernel_rfl) (by kernel_rfl) (fun _ _ _ h => h) (Or.inl ⟨by rfl, fun w' hSw => by have hq := hSw; have q0 := (KeptB.cellOf hq 32).trans R0.out; have q1 := (KeptB.cellOf hq 33).trans R1.out; have q2 := (KeptB.cellOf hq 34).trans R2.out; have q3 := (KeptB.cellOf hq 35).trans R3.out; go_simp⟩) hHeld ?_
  try simp only [Act.put, List.getElem_toArray, List.getElem_cons_succ, List.getElem_cons_zero, List.setIfInBounds_toArray, List.set_cons_zero, List.set_cons_succ]
  refine wpAnyH_take (i := 6) (v := .pointer (some ⟨w.heap.size, 33, none⟩)) rfl (by kernel_rfl) (by kernel_rfl) (by kernel_rfl) (fun _ _ _ h => h) (Or.inl ⟨by rfl, fun w' hSw => by go_simp⟩) hHeld ?_
  try simp only [Act.put, List.getElem_toArray, List.getElem_cons_succ, List.getElem_cons_zero, List.setIfInBounds_toArray, List.set_cons_zero, List.set_cons_succ]
  refine wpAnyH_take (i := 7) (v := .int .i64 i) rfl (by kernel_rfl) (by kernel_rfl) (by kernel_rfl) (fun _ _ _ h => h) (Or.inl ⟨by rfl, fun w' hSw => by have hq := hSw; have q0 := (KeptB.cellOf hq 32).trans R0.out; have q1 := (KeptB.cellOf hq 33).trans R1.out; have q2 := (KeptB.cellOf hq 34).trans R2.out; have q3 := (KeptB.cellOf hq 35).trans R3.out; go_simp⟩) hHeld ?_
  try simp only [Act.put, List.getElem_toArray, List.getElem_cons_succ, List.getElem_cons_zero, List.setIfInBounds_toArray, List.set_cons_zero, List.set_cons_succ]
  refine wpAnyH_take (i := 8) (v := .pointer (some ⟨w.heap.size, 34, none⟩)) rfl (by kernel_rfl) (by kernel_rfl) (by kernel_rfl) (fun _ _ _ h => h) (Or.inl ⟨by rfl, fun w' hSw => by go_simp⟩) hHeld ?_
  try simp only [Act.put, List.getElem_toArray, List.getElem_cons_succ, List.getElem_cons_zero, List.setIfInBounds_toArray, List.set_cons_zero, List.set_cons_succ]
  refine wpAnyH_take (i := 9) (v := .string s) rfl (by kernel_rfl) (by kernel_rfl) (by kernel_rfl) (fun _ _ _ h => h) (Or.inl ⟨by rfl, fun w' hSw => by have hq := hSw; have q0 := (KeptB.cellOf hq 32).trans R0.out; have q1 := (KeptB.cellOf hq 33).trans R1.out; have q2 := (KeptB.cellOf hq 34).trans R2.out; have q3 := (KeptB.cellOf hq 35).trans R3.out; go_simp⟩) hHeld ?_
  try simp only [Act.put, List.getElem_toArray, List.getElem_cons_succ, List.getElem_cons_zero, List.setIfInBounds_toArray, List.set_cons_zero, List.set_cons_succ]
  refine wpAnyH_take (i := 10) (v := .pointer (some ⟨w.heap.size, 35, none⟩)) rfl (by kernel_rfl) (by kernel_rfl) (by kernel_rfl) (fun _ _ _ h => h) (Or.inl ⟨by rfl, fun w' hSw => by go_simp⟩) hHeld ?_
  try simp only [Act.put, List.getElem_toArray, List.getElem_cons_succ, List.getElem_cons_zero, List.setIfInBounds_toArray, List.set_cons_zero, List.set_cons_succ]
  refine wpAnyH_take (i := 11) (v := .slice A m cap) rfl (by kernel_rfl) (by kernel_rfl) (by kernel_rfl) (fun _ _ _ h => h) (Or.inl ⟨by rfl, fun w' hSw => by have hq := hSw; have q0 := (KeptB.cellOf hq 32).trans R0.out; have q1 := (KeptB.cellOf hq 33).trans R1.out; have q2 := (KeptB.cellOf hq 34).trans R2.out; have q3 := (KeptB.cellOf hq 35).trans R3.out; go_simp⟩) hHeld ?_
  try simp only [Act.put, List.getElem_toArray, List.getElem_cons_succ, List.getElem_cons_zero, List.setIfInBounds_toArray, List.set_cons_zero, List.set_cons_succ]
  refine wpAnyH_take (i := 13) (v := .pointer (some ⟨w.heap.size, 0, none⟩)) rfl (by kernel_rfl) (by kernel_rfl) (by kernel_rfl) (fun _ _ _ h => h) (Or.inl ⟨by rfl, fun w' hSw => by go_simp⟩) hHeld ?_
  try simp only [Act.put, List.getElem_toArray, List.getElem_cons_succ, List.getElem_cons_zero, List.setIfInBounds_toArray, List.set_cons_zero, List.set_cons_succ]
  refine' wpAnyH_take (i := 14) (v := _) rfl (by kernel_rfl) (by kernel_rfl) (by kernel_rfl) (fun _ _ _ h => h) (yieldsIf_load_mid (by rfl) _ _ rfl w.heap.size 0 rfl T.toList _ (fun w' hSw => (fun j v hj => ((KeptB.cellOf hSw (0 + j)).trans (by rw [Nat.zero_add]; exact HRT.out j v hj)))) hu rfl hTi) hHeld ?_
  try simp only [Act.put, List.getElem_toArray, List.getElem_cons_succ, List.getElem_cons_zero, List.setIfInBounds_toArray, List.set_cons_zero, List.set_cons_succ]
  refine wpAnyH_take (i := 15) (v := .pointer (some ⟨w.heap.size, 32, none⟩)) rfl (by kernel_rfl) (by kernel_rfl) (by kernel_rfl) (fun _ _ _ h => h) (Or.inl ⟨by rfl, fun w' hSw => by go_simp⟩) hHeld ?_
  try simp only [Act.put, List.getElem_toArray, List.getElem_cons_succ, List.getElem_cons_zero, List.setIfInBounds_toArray, List.set_cons_zero, List.set_cons_succ]
  refine wpAnyH_take (i := 16) (v := .int .i64 n) rfl (by kernel_rfl) (by kernel_rfl) (by kernel_rfl) (fun _ _ _ h => h) (Or.inl ⟨by rfl, fun w' hSw => by have hq := hSw; have q0 := (KeptB.cellOf hq 32).trans R0.out; have q1 := (KeptB.cellOf hq 33).trans R1.out; have q2 := (KeptB.cellOf hq 34).trans R2.out; have q3 := (KeptB.cellOf hq 35).trans R3.out; go_simp⟩) hHeld ?_
  try simp only [Act.put, List.getElem_toArray, List.getElem_cons_succ, List.getElem_cons_zero, List.setIfInBounds_toArray, List.set_cons_zero, List.set_cons_succ]
  refine wpAnyH_take (i := 17) (v := .pointer (some ⟨w.heap.size, 33, none⟩)) rfl (by kernel_rfl) (by kernel_rfl) (by kernel_rfl) (fun _ _ _ h => h) (Or.inl ⟨by rfl, fun w' hSw => by go_simp⟩) hHeld ?_
  try simp only [Act.put, List.getElem_toArray, List.getElem_cons_succ, List.getElem_cons_zero, List.setIfInBounds_toArray, List.set_cons_zero, List.set_cons_succ]
  refine wpAnyH_take (i := 18) (v := .int .i64 i) rfl (by kernel_rfl) (by kernel_rfl) (by kernel_rfl) (fun _ _ _ h => h) (Or.inl ⟨by rfl, fun w' hSw => by have hq := hSw; have q0 := (KeptB.cellOf hq 32).trans R0.out; have q1 := (KeptB.cellOf hq 33).trans R1.out; have q2 := (KeptB.cellOf hq 34).trans R2.out; have q3 := (KeptB.cellOf hq 35).trans R3.out; go_simp⟩) hHeld ?_
  try simp only [Act.put, List.getElem_toArray, List.getElem_cons_succ, List.getElem_cons_zero, List.setIfInBounds_toArray, List.set_cons_zero, List.set_cons_succ]
  refine wpAnyH_take (i := 19) (v := .pointer (some ⟨w.heap.size, 34, none⟩)) rfl (by kernel_rfl) (by kernel_rfl) (by kernel_rfl) (fun _ _ _ h => h) (Or.inl ⟨by rfl, fun w' hSw => by go_simp⟩) hHeld ?_
  try simp only [Act.put, List.getElem_toArray, List.getElem_cons_succ, List.getElem_cons_zero, List.setIfInBounds_toArray, List.set_cons_zero, List.set_cons_succ]
  refine wpAnyH_take (i := 20) (v := .string s) rfl (by kernel_rfl) (by kernel_rfl) (by kernel_rfl) (fun _ _ _ h => h) (Or.inl ⟨by rfl, fun w' hSw => by have hq := hSw; have q0 := (KeptB.cellOf hq 32).trans R0.out; have q1 := (KeptB.cellOf hq 33).trans R1.out; have q2 := (KeptB.cellOf hq 34).trans R2.out; have q3 := (KeptB.cellOf hq 35).trans R3.out; go_simp⟩) hHeld ?_
  try simp only [Act.put, List.getElem_toArray, List.getElem_cons_succ, List.getElem_cons_zero, List.setIfInBounds_toArray, List.set_cons_zero, List.set_cons_succ]
  refine wpAnyH_take (i := 21) (v := .pointer (some ⟨w.heap.size, 35, none⟩)) rfl (by kernel_rfl) (by kernel_rfl) (by kernel_rfl) (fun _ _ _ h => h) (Or.inl ⟨by rfl, fun w' hSw => by go_simp⟩) hHeld ?_
  try simp only [Act.put, List.getElem_toArray, List.getElem_cons_succ, List.getElem_cons_zero, List.setIfInBounds_toArray, List.set_cons_zero, List.set_cons_succ]
  refine wpAnyH_take (i := 22) (v := .slice A m cap) rfl (by kernel_rfl) (by kernel_rfl) (by kernel_rfl) (fun _ _ _ h => h) (Or.inl ⟨by rfl, fun w' hSw => by have hq := hSw; have q0 := (KeptB.cellOf hq 32).trans R0.out; have q1 := (KeptB.cellOf hq 33).trans R1.out; have q2 := (KeptB.cellOf hq 34).trans R2.out; have q3 := (KeptB.cellOf hq 35).trans R3.out; go_simp⟩) hHeld ?_
  try simp only [Act.put, List.getElem_toArray, List.getElem_cons_succ, List.getElem_cons_zero, List.setIfInBounds_toArray, List.set_cons_zero, List.set_cons_succ]
  refine wpAnyH_ready (rs := [12]) (by kernel_rfl) (by simp) (AllReadyH.cons rfl (fun K1 hK1 => ?_) AllReadyH.nil)
  try simp only [Act.put, List.getElem_toArray, List.getElem_cons_succ, List.getElem_cons_zero, List.setIfInBounds_toArray, List.set_cons_zero, List.set_cons_succ]
  go_simp
  refine Calls.mono (A2.out _ hHeld.1) ?_
  rintro e wb ⟨rfl, hbb⟩
  refine hK1.out _ _ (KeptB.step hHeld hbb) (fun hHeld => ?_)
  clear hK1 K1
  try simp only [Act.put, List.getElem_toArray, List.getElem_cons_succ, List.getElem_cons_zero, List.setIfInBounds_toArray, List.set_cons_zero, List.set_cons_succ]
  refine wpAnyH_ready (rs := [23]) (by kernel_rfl) (by simp) (AllReadyH.cons rfl (fun K1 hK1 => ?_) AllReadyH.nil)
  try simp only [Act.put, List.getElem_toArray, List.getElem_cons_succ, List.getElem_cons_zero, List.setIfInBounds_toArray, List.set_cons_zero, List.set_cons_succ]
  go_simp
  refine Calls.mono (A3.out _ hHeld.1) ?_
  rintro e wc ⟨rfl, hbc⟩
  refine hK1.out _ _ (KeptB.step hHeld hbc) (fun hHeld => ?_)
  clear hK1 K1
  try simp only [Act.put, List.getElem_toArray, List.getElem_cons_succ, List.getElem_cons_zero, List.setIfInBounds_toArray, List.set_cons_zero, List.set_cons_succ]
  refine wpAnyH_take (i := 24) (v := .bool true) rfl (by kernel_rfl) (by kernel_rfl) (by kernel_rfl) (fun _ _ _ h => h) (Or.inl ⟨by rfl, fun w' hSw => by go_simp⟩) hHeld ?_
  try simp only [Act.put, List.getElem_toArray, List.getElem_cons_succ, List.getElem_cons_zero, List.setIfInBounds_toArray, List.set_cons_zero, List.set_cons_succ]
  refine wpAnyH_take (i := 25) (v := .bool true) rfl (by kernel_rfl) (by kernel_rfl) (by kernel_rfl) (fun _ _ _ h => h) (Or.inl ⟨by rfl, fun w' hSw => by go_simp⟩) hHeld ?_
  try simp only [Act.put, List.getElem_toArray, List.getElem_cons_succ, List.getElem_cons_zero, List.setIfInBounds_toArray, List.set_cons_zero, List.set_cons_succ]
  refine wpAnyH_take (i := 26) (v := .bool true) rfl (by kernel_rfl) (by kernel_rfl) (by kernel_rfl) (fun _ _ _ h => h) (Or.inl ⟨by rfl, fun w' hSw => by go_simp⟩) hHeld ?_
  try simp only [Act.put, List.getElem_toArray, List.getElem_cons_succ, List.getElem_cons_zero, List.setIfInBounds_toArray, List.set_cons_zero, List.set_cons_succ]
  refine wpAnyH_done (by kernel_rfl) ?_ _
  refine NoPanic.normal ?_
  have hbe := hHeld.1
  clear hkeep0 hHeld
  go_wp2_with fail
  go_ret
  exact ⟨rfl, hbe⟩
end Go.Proofs.YtdifbndpgbdkbaaDoor
