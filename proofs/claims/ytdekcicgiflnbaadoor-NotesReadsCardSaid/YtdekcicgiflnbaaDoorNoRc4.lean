/- notes: ReadReceipt. -/
import Derived.Test.YtdekcicgiflnbaaDoorNoC
import Derived.Test.YtdekcicgiflnbaaDoorNoB
namespace Go.Proofs.YtdekcicgiflnbaaDoor
open Go.RowKit
set_option linter.unusedVariables false
set_option linter.unusedSimpArgs false

namespace Rp
theorem read_none {s : No.T8} (h : Tx.listAll s = none) : read s = none := by unfold read; rw [h]; rfl
theorem of_ok {ns : List Int} {rest : List No.T8} {r : Rp} (h : of ns rest = some r) : r.ok = true ∧ ns = [r.index, r.kind, r.time] ∧ rest = [r.body.data.toList, r.prev, r.hash] ∧ (r.prev.length = 32 ∧ r.hash.length = 32) ∧ r.hash = r.link := by
  unfold of at h
  split at h
  · split at h
    · next hk =>
      simp only [Option.some.injEq] at h
      subst h
      exact ⟨hk.2.1, rfl, by simp, hk.1, hk.2.2⟩
    · cases h
  · cases h
theorem read_eq {s : No.T8} {l : List No.T8} (h : Tx.listAll s = some l) : read s = (No.nums 3 l).bind fun ns => of ns (l.drop 3) := by
  unfold read
  rw [h, No.nums_raw]
  simp only [Option.bind_some]
  cases hr : No.raw 3 l with
  | none => rfl
  | some ns =>
    simp only [Option.bind_some]
    by_cases ha : ns.all Tx.num = true
    · rw [if_pos ha]; rfl
    · rw [if_neg ha]
      cases ho : of ns (l.drop 3) with
      | none => rfl
      | some i =>
        obtain ⟨h1, h2, _⟩ := of_ok ho
        have := ok_num h1
        exact absurd (by rw [h2]; simp [this]) ha
theorem of_nil {ns : List Int} {rest : List No.T8} (h : rest.length = 0) : of ns rest = none := by
  cases ho : of ns rest with
  | none => rfl
  | some b =>
    obtain ⟨_, _, h3, h4⟩ := of_ok ho
    rw [h3] at h
    simp at h
theorem of_no {ns : List Int} {rest : List No.T8} (h : ¬ ((rest.drop 1).length = 2 ∧ No.AllH (rest.drop 1))) : of ns rest = none := by
  cases ho : of ns rest with
  | none => rfl
  | some b =>
    obtain ⟨_, _, h3, h4, _⟩ := of_ok ho
    exact absurd ⟨by rw [h3]; rfl, fun x hx => by rw [h3] at hx; simp at hx; rcases hx with rfl | rfl; exact h4.1; exact h4.2⟩ h
theorem of_yes {a b c : Int} {t p q : No.T8} (hp : p.length = 32) (hq : q.length = 32) : of [a, b, c] [t, p, q] = if (Rp.mk a b c ⟨t.toArray⟩ p q).ok = true ∧ q = (Rp.mk a b c ⟨t.toArray⟩ p q).link then some ⟨a, b, c, ⟨t.toArray⟩, p, q⟩ else none := by
  unfold of
  simp only [hp, hq, true_and]
theorem hashed (a b d : Int) (p q : List UInt8) (hp : p.length = 32) (hq : q.length = 32) : No.putH (Is [a, b, d] ++ Rp.zero.cells.drop 3) ([4, 36].zip [p, q]) = Rp.cells ⟨a, b, d, ByteArray.empty, p, q⟩ := by
  have hZ : (bRow Tx.zero).toList.length = 32 := Tx.bRow_len _ rfl
  have hP := Tx.bRow_len p hp
  have hz : Rp.zero.cells.drop 3 = .string ByteArray.empty :: ((bRow Tx.zero).toList ++ (bRow Tx.zero).toList) := rfl
  rw [hz]
  unfold Rp.cells
  generalize (bRow Tx.zero).toList = Z at *
  generalize hPe : (bRow p).toList = P at *
  generalize hQ : (bRow q).toList = Q at *
  have hQ2 := Tx.bRow_len q hq
  rw [hQ] at hQ2
  have e1 : (Is [a, b, d] ++ .string ByteArray.empty :: (Z ++ Z)).take 4 ++ (P ++ (Is [a, b, d] ++ .string ByteArray.empty :: (Z ++ Z)).drop (4 + 32)) = [.int .i64 a, .int .i64 b, .int .i64 d, .string ByteArray.empty] ++ (P ++ Z) := by
    show [Value.int .i64 a, .int .i64 b, .int .i64 d, .string ByteArray.empty] ++ (P ++ (Z ++ Z).drop 32) = _
    rw [List.drop_left' hZ]
  have e2 : ([.int .i64 a, .int .i64 b, .int .i64 d, .string ByteArray.empty] ++ (P ++ Z) : List Value).take 36 ++ (Q ++ ([.int .i64 a, .int .i64 b, .int .i64 d, .string ByteArray.empty] ++ (P ++ Z) : List Value).drop (36 + 32)) = [.int .i64 a, .int .i64 b, .int .i64 d, .string ByteArray.empty] ++ (P ++ Q) := by
    rw [List.drop_of_length_le (by simp [hP, hZ]), List.append_nil]
    show [Value.int .i64 a, .int .i64 b, .int .i64 d, .string ByteArray.empty] ++ (P ++ Z).take 32 ++ Q = _
    rw [List.take_left' hP, List.append_assoc]
  have e : No.putH (Is [a, b, d] ++ .string ByteArray.empty :: (Z ++ Z)) ([4, 36].zip [p, q]) = (((Is [a, b, d] ++ .string ByteArray.empty :: (Z ++ Z)).take 4 ++ ((bRow p).toList ++ (Is [a, b, d] ++ .string ByteArray.empty :: (Z ++ Z)).drop (4 + 32))).take 36 ++ ((bRow q).toList ++ ((Is [a, b, d] ++ .string ByteArray.empty :: (Z ++ Z)).take 4 ++ ((bRow p).toList ++ (Is [a, b, d] ++ .string ByteArray.empty :: (Z ++ Z)).drop (4 + 32))).drop (36 + 32))) := rfl
  rw [e, hQ, hPe, e1, e2]
end Rp
def RpEnds (R : Option Rp) (e : Ending) : Prop :=
  match R with
  | some u => e = .returned (.tuple #[.agg u.cells.toArray, .int .i64 0])
  | none => e = .returned (.tuple #[.agg Rp.zero.cells.toArray, .int .i64 6])
theorem sliceAll (b off m n c : Nat) (hn : n ≤ m) (hc : m ≤ c) : ∃ A', (n < m → A' = some ⟨b, off + n, none⟩) ∧ ∀ W : World, (Instr.slice 73 (.slice (some ⟨b, off, none⟩) m c) (some (.int .i64 n)) none none).run Tryd.prog W = .ok (.slice A' (m - n) (c - n)) W := by
  refine ⟨if c = n then some ⟨b, off, none⟩ else some ⟨b, off + n, none⟩, fun h => by rw [if_neg (by omega)], fun W => ?_⟩
  have hz : (sizeOf (Tryd.prog.elem 73)).run Tryd.prog W = .ok 1 W := by kernel_rfl
  have e := run_slice_l (P := Tryd.prog) (w := W) (t := 73) (a := some ⟨b, off, none⟩) (len := m) (cap := c) (by kernel_rfl) (kl := .i64) (l := (n : Int)) (by omega) (by omega)
  rw [hz] at e
  simp only [Result.andThen, Int.toNat_natCast] at e
  rw [e]
  unfold sliced
  have e2 : (⟨b, off, none⟩ : Addr).add (n * 1) = ⟨b, off + n, none⟩ := by rw [Nat.mul_one]; unfold Addr.add; split <;> simp_all
  simp only [Option.map_some, e2]
/-- two blocks as they were -/
def RowIn2 (w0 W : World) (g g2 : Nat) (T : TypeId) (C Z : List Value) : Prop := RowIn w0 W g T C ∧ Row W g2 T Z
theorem RowIn2.step {w0 W W' : World} {g g2 : Nat} {T : TypeId} {C Z : List Value} (h : RowIn2 w0 W g g2 T C Z) (hb : Below W.heap.size W W') : RowIn2 w0 W' g g2 T C Z :=
  ⟨h.1.step hb, h.2.kept (grownBy_of_below hb none) (by simp)⟩
set_option maxRecDepth 20000 in
set_option maxHeartbeats 3200000 in
theorem readReceipt_any (s : ByteArray) (w : World) (hs : s.size ≤ 9223372036854775807) (hTb : Tab w) :
    Calls Tryd.prog 47 #[.string s] w fun e w' => RpEnds (Rp.read s.data.toList) e ∧ Below w.heap.size w w' := by
  have HZL := Lib.hid (Rp.cells_len (r := Rp.zero) rfl rfl)
  have HZ1 := Lib.hid (Rp.cells_one (r := Rp.zero) rfl rfl)
  have HTab := Lib.hid hTb
  have Hpos := Lib.hid hTb.pos
  have FD := Lib.hid (fun W => fields_any s W hs)
  obtain ⟨R, hR⟩ : ∃ R, R = Rp.read s.data.toList := ⟨_, rfl⟩
  rw [← hR]
  have hzv : ∀ W : World, (zeroValue 48).run Tryd.prog W = .ok (.agg Rp.zero.cells.toArray) W := fun W => by kernel_rfl
  have Hr0 := Lib.hid (Row.new w 48 Rp.zero.cells)
  have Hb0 := Lib.hid ((Below.refl w.heap.size w).alloc (Nat.le_refl _) (.cells Rp.zero.cells.toArray 48))
  clear hTb
  cases hL : Tx.listAll s.data.toList with
  | none =>
    have HRn := Lib.hid (hR.trans (Rp.read_none hL))
    rw [hL] at FD
    clear hR hL
    go_enter Tryd.func47, Tryd.ntmps47
    go_wp2_with fail
    refine calls_named ?_
    intro w1 hw1
    have hr1 : Row w1 w.heap.size 48 Rp.zero.cells := by rw [hw1]; exact Hr0.out
    have hb1 : Below w.heap.size w w1 := by rw [hw1]; exact Hb0.out
    clear hw1 Hr0 Hb0 hzv
    refine (FD.out w1).mono ?_
    rintro _ w2 ⟨⟨v, rfl⟩, hb2⟩
    have Hrz2 := Lib.hid (hr1.kept (grownBy_of_below hb2 none) (by simp))
    have Hb2 := Lib.hid (two_below' hb1 hb2)
    clear hr1 hb1 hb2
    go_wp2_with (first
      | (with_reducible show wpList _ _ _ (⟨_, .build 48 _, _, _, _, _⟩ :: _) _ _; refine wpList_buildL rfl 48 [] rfl (some 15) rfl _ rfl _ Rp.zero_built0 ?_)
      | (with_reducible show wpList _ _ _ (⟨_, .store 48 _ _, _, _, _, _⟩ :: _) _ _
         refine wpList_store_at rfl 48 (.tmp 2) (.tmp 15) rfl (w.heap.size) 0 Rp.zero.cells _ _ rfl rfl Hrz2.out (by have := HZL.out; omega) (by rw [rp_info, HZL.out]) HZ1.out ?_
         intro wZ hrZ hgZ
         rw [splice_all rfl] at hrZ
         have HrZ := Lib.hid hrZ
         have HbZ := Lib.hid (below_own Hb2.out hgZ (fun k hk => by cases hk; exact Nat.le_refl _))
         clear hrZ hgZ))
    refine bodyPost_ret (results_rowL rfl _ _ (w.heap.size) 48 _ _ rfl HrZ.out Tryd.underlying48 rfl (by rw [rp_info, List.size_toArray, HZL.out]) _ rfl) rfl ⟨?_, HbZ.out⟩
    rw [HRn.out]
    exact rfl
  | some l =>
    have HRe := Lib.hid (hR.trans (Rp.read_eq hL))
    have hlx := Tx.listAll_text hL
    have hlf := listAll_few hL
    rw [hL] at FD
    have Hlx := Lib.hid hlx
    clear hR hL hlx
    go_enter Tryd.func47, Tryd.ntmps47
    go_wp2_with fail
    refine calls_named ?_
    intro w1 hw1
    have hr1 : Row w1 w.heap.size 48 Rp.zero.cells := by rw [hw1]; exact Hr0.out
    have hb1 : Below w.heap.size w w1 := by rw [hw1]; exact Hb0.out
    clear hw1 Hr0 Hb0
    refine (FD.out w1).mono ?_
    rintro _ w2 ⟨⟨v, rfl, hT⟩, hb2⟩
    obtain ⟨A, c, rfl, hlc, hTx⟩ := hT
    have hrz2 := hr1.kept (grownBy_of_below hb2 none) (by simp)
    have Hb2 := Lib.hid (two_below' hb1 hb2)
    have Hrz2 := Lib.hid hrz2
    have hzg : w.heap.size < w2.heap.size := hrz2.lt
    have HTx := Lib.hid hTx
    clear hr1 hb1 hb2 hrz2 hTx
    obtain ⟨m, hm⟩ : ∃ m, m = l.length := ⟨_, rfl⟩
    rw [← hm] at hlf hlc ⊢
    have HM := Lib.hid hm
    clear hm
    go_wp2_with fail
    refine calls_named ?_
    intro w3 hw3
    obtain ⟨rp3, hb3, rg3⟩ := row_two w2 Rp.zero.cells.toArray (No.ptrs w2.heap.size 3).toArray 48 104
    have hx3 : w3 = (w2.alloc (.cells Rp.zero.cells.toArray 48)).alloc (.cells (No.ptrs w2.heap.size 3).toArray 104) := hw3
    have hp3 : Row w3 (w2.heap.size + 1) 104 (No.ptrs w2.heap.size 3) := by rw [hx3]; exact rp3
    have hg3 : Row w3 w2.heap.size 48 Rp.zero.cells := by rw [hx3]; exact rg3
    have hbb3 : Below w2.heap.size w2 w3 := by rw [hx3]; exact hb3
    have htx3 : Texts w3 w2.heap.size A l := fun hne => by
      obtain ⟨b, off, h1, h2, h3⟩ := HTx.out hne
      exact ⟨b, off, h1, h2, fun i hi => (grownBy_of_below hbb3 none).cell (h3 i hi) (by simp)⟩
    have Hrz3 := Lib.hid (Hrz2.out.kept (grownBy_of_below hbb3 none) (by simp))
    have Hb3 := Lib.hid (two_below' Hb2.out hbb3)
    have NR := noRead_any l A c 3 Rp.zero.cells 48 w3 w2.heap.size (w2.heap.size + 1) 3 Hlx.out (by rw [← HM.out]; omega) (by rw [← HM.out]; exact hlc) htx3 hg3 hp3 (by omega) (by rw [HZL.out]; omega) (by omega) (by omega)
    rw [← HM.out] at NR
    have HNR := Lib.hid NR
    have hz3 : w2.heap.size + 1 < w3.heap.size := hp3.lt
    clear rp3 hb3 rg3 hx3 hw3 hp3 hg3 hbb3 htx3 NR
    obtain ⟨g, hg⟩ : ∃ g, g = w2.heap.size := ⟨_, rfl⟩
    rw [← hg] at HNR hzg hz3
    simp only [← hg]
    clear hg HTx hzv
    refine HNR.out.mono ?_
    rintro _ w4 ⟨hN, hb4⟩
    have hg4 : g < w4.heap.size := by have := hb4.size; omega
    have Hrz4 := Lib.hid (no_row_below Hrz3.out hb4 hzg)
    have Hb4 := Lib.hid (Hb3.out.trans (hb4.mono (Nat.le_of_lt hzg)))
    clear hb4 HNR
    cases hF : No.nums 3 l with
    | none =>
      rw [hF] at hN
      obtain ⟨v, rfl⟩ := hN
      have hRn : R = none := by rw [HRe.out, hF]; rfl
      have HRn := Lib.hid hRn
      clear hRn hF
      go_wp2_with (first
        | (with_reducible show wpList _ _ _ (⟨_, .build 48 _, _, _, _, _⟩ :: _) _ _; refine wpList_buildL rfl 48 [] rfl (some 41) rfl _ rfl _ Rp.zero_built0 ?_)
        | (with_reducible show wpList _ _ _ (⟨_, .store 48 _ _, _, _, _, _⟩ :: _) _ _
           refine wpList_store_at rfl 48 (.tmp 2) (.tmp 41) rfl (w.heap.size) 0 Rp.zero.cells _ _ rfl rfl Hrz4.out (by have := HZL.out; omega) (by rw [rp_info, HZL.out]) HZ1.out ?_
           intro wZ hrZ hgZ
           rw [splice_all rfl] at hrZ
           have HrZ := Lib.hid hrZ
           have HbZ := Lib.hid (below_own Hb4.out hgZ (fun k hk => by cases hk; exact Nat.le_refl _))
           clear hrZ hgZ))
      refine bodyPost_ret (results_rowL rfl _ _ (w.heap.size) 48 _ _ rfl HrZ.out Tryd.underlying48 rfl (by rw [rp_info, List.size_toArray, HZL.out]) _ rfl) rfl ⟨?_, HbZ.out⟩
      rw [HRn.out]
      exact rfl
    | some ns =>
      rw [hF] at hN
      obtain ⟨A', c', rfl, hc', hT', hr4⟩ := hN
      obtain ⟨hn3, hml, hfit⟩ := nums_len hF
      obtain ⟨a, b, d, rfl⟩ := three_of hn3
      have hRe : R = Rp.of [a, b, d] (l.drop 3) := by rw [HRe.out, hF]; rfl
      have HRs := Lib.hid hRe
      have hml3 : l.length - 3 = m - 3 := by rw [← HM.out]
      have hmm : (l.drop 3).length = m - 3 := by rw [List.length_drop, ← HM.out]
      rw [hml3] at hc' ⊢
      by_cases hm0 : m - 3 = 0
      · have hRn : R = none := by rw [hRe, Rp.of_nil (hmm.trans hm0)]
        have HRn := Lib.hid hRn
        have hmz : (((m - 3 : Nat) : Int) == 0) = true := by simp; omega
        clear hRn hRe hF hfit hn3 hT' hr4 hmm hml hml3 hm0
        go_wp2_with (first
          | (with_reducible show wpList _ _ _ (⟨_, .build 48 _, _, _, _, _⟩ :: _) _ _; refine wpList_buildL rfl 48 [] rfl (some 41) rfl _ rfl _ Rp.zero_built0 ?_)
          | (with_reducible show wpList _ _ _ (⟨_, .store 48 _ _, _, _, _, _⟩ :: _) _ _
             refine wpList_store_at rfl 48 (.tmp 2) (.tmp 41) rfl (w.heap.size) 0 Rp.zero.cells _ _ rfl rfl Hrz4.out (by have := HZL.out; omega) (by rw [rp_info, HZL.out]) HZ1.out ?_
             intro wZ hrZ hgZ
             rw [splice_all rfl] at hrZ
             have HrZ := Lib.hid hrZ
             have HbZ := Lib.hid (below_own Hb4.out hgZ (fun k hk => by cases hk; exact Nat.le_refl _))
             clear hrZ hgZ))
        refine bodyPost_ret (results_rowL rfl _ _ (w.heap.size) 48 _ _ rfl HrZ.out Tryd.underlying48 rfl (by rw [rp_info, List.size_toArray, HZL.out]) _ rfl) rfl ⟨?_, HbZ.out⟩
        rw [HRn.out]
        exact rfl
      · obtain ⟨m3, hm3e⟩ : ∃ x, x = m - 3 := ⟨_, rfl⟩
        rw [← hm3e] at hmm hm0 hc' ⊢
        have hmz : ((m3 : Int) == 0) = false := by simp; omega
        obtain ⟨bb, off, rfl, hbg, hcx⟩ := hT' (by intro e; rw [e] at hmm; simp at hmm; omega)
        have hm1 : 0 < (l.drop 3).length := by omega
        obtain ⟨t, ht⟩ : ∃ t, t = (l.drop 3)[0] := ⟨_, rfl⟩
        have hd43 : (l.drop 3).drop 1 = l.drop 4 := by rw [List.drop_drop]
        have hcx0 := hcx 0 hm1
        rw [← ht, Nat.add_zero] at hcx0
        obtain ⟨A2, hA2, hsl⟩ := sliceAll bb off m3 1 c' (by omega) hc'
        have hm4 : (l.drop 4).length = m3 - 1 := by rw [← hd43, List.length_drop, hmm]
        obtain ⟨m4, hm4e⟩ : ∃ x, x = m3 - 1 := ⟨_, rfl⟩
        obtain ⟨c4, hc4e⟩ : ∃ x, x = c' - 1 := ⟨_, rfl⟩
        rw [← hm4e] at hm4
        rw [← hm4e, ← hc4e] at hsl
        have hsl : ∀ W : World, (Instr.slice 73 (.slice (some ⟨bb, off, none⟩) m3 c') (some (.int .i64 1)) none none).run Tryd.prog W = .ok (.slice A2 m4 c4) W := hsl
        have hpA : Row (w4.alloc (.cells (No.ptrsAt g [4, 36]).toArray 106)) w4.heap.size 106 (No.ptrsAt g [4, 36]) := Row.new w4 106 (No.ptrsAt g [4, 36])
        have hgA := grownBy_alloc w4 (.cells (No.ptrsAt g [4, 36]).toArray 106) none
        have htA : Texts (w4.alloc (.cells (No.ptrsAt g [4, 36]).toArray 106)) g A2 (l.drop 4) := fun hne => by
          have h0 : 0 < (l.drop 4).length := List.length_pos_iff.2 hne
          refine ⟨bb, off + 1, hA2 (by omega), hbg, fun i hi => ?_⟩
          have h2 := hcx (i + 1) (by omega)
          have e3 : (l.drop 3)[i + 1]'(by omega) = (l.drop 4)[i] := by simp [Nat.add_comm, Nat.add_left_comm]
          rw [e3] at h2
          rw [show off + 1 + i = off + (i + 1) by omega]
          exact hgA.cell h2 (by simp)
        have NH := noHashes_any (l.drop 4) A2 c4 2 [4, 36] (Is [a, b, d] ++ Rp.zero.cells.drop 3) 48 _ g w4.heap.size 2 rfl (by omega) htA (hr4.kept hgA (by simp)) hpA hg4 (by intro o ho; simp at ho; rcases ho with rfl | rfl <;> (rw [List.length_append, List.length_drop, HZL.out]; simp [Is])) (by simp) (by simp)
        rw [hm4] at NH
        have HNH := Lib.hid NH
        have HrzA := Lib.hid (Hrz4.out.kept hgA (by simp))
        have HbA := Lib.hid (below_own Hb4.out hgA (fun k hk => by cases hk))
        have Hcx0 := Lib.hid (hgA.cell hcx0 (by simp))
        have Ht := Lib.hid ht
        have Hmm := Lib.hid hmm
        have Hmp : Hid ((0 : Int) < (m3 : Int)) := Lib.hid (by omega)
        clear hr4 hRe hF hfit hn3 hml hpA hgA htA NH hml3 hcx hcx0 ht hmm hm0 hA2 hm4e hc4e hm3e
        have hc1 := Lib.hid hc'
        clear hc'
        go_wp2_with fail
        refine HNH.out.mono ?_
        rintro _ w5 ⟨hH, hb5⟩
        have Hrz5 := Lib.hid (no_row_below HrzA.out hb5 hzg)
        have Hb5 := Lib.hid (HbA.out.trans (hb5.mono (Nat.le_of_lt hzg)))
        have c0 := (hb5.cell (p := ⟨bb, off, none⟩) hbg).trans Hcx0.out
        have hmp := Hmp.out
        clear hb5 HNH hsl
        rcases hH with ⟨⟨hm2, hAll⟩, rfl, hr5⟩ | ⟨hno, rfl⟩
        · obtain ⟨p, q, hpq⟩ : ∃ p q, l.drop 4 = [p, q] := by
            match l.drop 4, hm4.trans hm2 with
            | [p, q], _ => exact ⟨p, q, rfl⟩
          have hp32 : p.length = 32 := hAll p (by rw [hpq]; simp)
          have hq32 : q.length = 32 := hAll q (by rw [hpq]; simp)
          obtain ⟨u, hu⟩ : ∃ u : Rp, u = ⟨a, b, d, ⟨t.toArray⟩, p, q⟩ := ⟨_, rfl⟩
          have hl3 : l.drop 3 = [t, p, q] := by
            rw [← List.take_append_drop 1 (l.drop 3), hd43, hpq, Ht.out]
            have : (l.drop 3).take 1 = [(l.drop 3)[0]] := by
              rw [List.take_one]
              simp [List.head?_eq_getElem?]
            rw [this]
            rfl
          rw [hpq, Rp.hashed a b d p q hp32 hq32] at hr5
          have hr6 : Row (w5.setCell ⟨g, 3, none⟩ (S t)) g 48 u.cells := by
            rw [hu]
            exact hr5.set 3 (S t) (by simp [Rp.cells])
          have c3 := hr5.cell 3 (by simp [Rp.cells])
          have f3 := hr5.free 3
          have Hrz6 := Lib.hid (Hrz5.out.kept (grownBy_set w5 g 3 (S t)) (by simp; omega))
          have Hb6 := Lib.hid (below_own Hb5.out (grownBy_set w5 g 3 (S t)) (fun k hk => by cases hk; omega))
          have Hr6 := Lib.hid hr6
          have hRo : R = if u.ok = true ∧ u.hash = u.link then some u else none := by rw [HRs.out, hl3, Rp.of_yes hp32 hq32, hu]
          have hup : u.prev.length = 32 := by rw [hu]; exact hp32
          have huh : u.hash.length = 32 := by rw [hu]; exact hq32
          have MB := Lib.hid (fun W => linked_any u W)
          have HRo := Lib.hid hRo
          have HUL := Lib.hid (Rp.cells_len hup huh)
          have HU1 := Lib.hid (Rp.cells_one hup huh)
          have HB32 := Lib.hid (Tx.bRow_len _ huh)
          have BT : Hid (∀ (W : World) (g : Nat) (T : TypeId), Row W g T u.cells → W.rangeAt g 36 (bRow u.hash).toList) := fun W g T h => rp_hash hup h
          have hsz6 : (w5.setCell ⟨g, 3, none⟩ (S t)).heap.size = w5.heap.size := by simp [World.setCell]
          have HS0 : Hid (RowIn2 w (w5.setCell ⟨g, 3, none⟩ (S t)).drew g w.heap.size 48 u.cells Rp.zero.cells) := RowIn2.step (W := w5.setCell ⟨g, 3, none⟩ (S t)) ⟨⟨Hr6.out, Hb6.out⟩, Hrz6.out⟩ (Below.refl _ _).drew
          generalize (Rp.cells ⟨a, b, d, ByteArray.empty, p, q⟩)[3]'(by simp [Rp.cells]) = ov at c3
          have hu48 := Tryd.underlying48
          have hi48 : (Tryd.prog.info? 48).map (·.size) = some u.cells.length := by rw [rp_info, HUL.out]
          have hu23 := Tryd.underlying23
          have hi23 : (Tryd.prog.info? 23).map (·.size) = some (bRow u.hash).toList.length := by rw [hash_info, HB32.out]
          clear hr5 hr6 hRo hu hp32 hq32 hpq hm2 hAll HRs hl3 hd43 hm4 hsz6
          rcases Bool.eq_false_or_eq_true u.ok with hk | hk
          · have LK := Lib.hid (fun W (hW : Tab W) => link_any u hup huh W hW hk)
            rw [hk] at MB
            by_cases hl : u.hash = u.link
            · have hRs : R = some u := by rw [HRo.out, if_pos ⟨hk, hl⟩]
              have HRs := Lib.hid hRs
              have heqs : ∀ W, (Op.equalIn 10000 23 (.agg (bRow u.hash)) (.agg (bRow u.link))).run Tryd.prog W = .ok true W := fun W => (hash_eq W _ _ huh (Rp.link_len u)).trans (by rw [decide_eq_true hl])
              generalize u.link = K at *
              clear hRs hk hl hup huh
              go_wp2_with fail
              refine wp_region_held_drew (S := fun w' => RowIn2 w w' g w.heap.size 48 u.cells Rp.zero.cells) (by kernel_rfl) (HS0.out) (fun hHeld => ?_)
              generalize (w5.setCell ⟨g, 3, none⟩ (S t)).drew = wq at *
              refine' wpAnyH_take (i := 0) (v := _) rfl (by kernel_rfl) (by kernel_rfl) (by kernel_rfl) (fun _ _ _ h => h) (yieldsIf_load_mid (by rfl) _ _ rfl g 0 rfl u.cells _ (fun w' hSw => (row_range hSw.1.1)) hu48 rfl hi48) hHeld ?_
              try simp only [Act.put, List.getElem_toArray, List.getElem_cons_succ, List.getElem_cons_zero, List.setIfInBounds_toArray, List.set_cons_zero, List.set_cons_succ]
              refine wpAnyH_ready (rs := [1]) (by kernel_rfl) (by simp) (AllReadyH.cons rfl (fun K1 hK1 => ?_) AllReadyH.nil)
              try simp only [Act.put, List.getElem_toArray, List.getElem_cons_succ, List.getElem_cons_zero, List.setIfInBounds_toArray, List.set_cons_zero, List.set_cons_succ]
              go_simp
              refine Calls.mono (MB.out _) ?_
              rintro e wc1 ⟨rfl, hc2⟩
              refine hK1.out _ _ (hHeld.step hc2) (fun hHeld => ?_)
              clear hK1 K1
              try simp only [Act.put, List.getElem_toArray, List.getElem_cons_succ, List.getElem_cons_zero, List.setIfInBounds_toArray, List.set_cons_zero, List.set_cons_succ]
              refine wpAnyH_take (i := 2) (v := .bool false) rfl (by kernel_rfl) (by kernel_rfl) (by kernel_rfl) (fun _ _ _ h => h) (Or.inl ⟨by rfl, fun w' hSw => by go_simp⟩) hHeld ?_
              try simp only [Act.put, List.getElem_toArray, List.getElem_cons_succ, List.getElem_cons_zero, List.setIfInBounds_toArray, List.set_cons_zero, List.set_cons_succ]
              refine wpAnyH_take (i := 3) (v := .bool false) rfl (by kernel_rfl) (by kernel_rfl) (by kernel_rfl) (fun _ _ _ h => h) (Or.inl ⟨by rfl, fun w' hSw => by go_simp⟩) hHeld ?_
              try simp only [Act.put, List.getElem_toArray, List.getElem_cons_succ, List.getElem_cons_zero, List.setIfInBounds_toArray, List.set_cons_zero, List.set_cons_succ]
              refine wpAnyH_take (i := 4) (v := .pointer (some ⟨g, 36, none⟩)) rfl (by kernel_rfl) (by kernel_rfl) (by kernel_rfl) (fun _ _ _ h => h) (Or.inl ⟨by rfl, fun w' hSw => by go_simp⟩) hHeld ?_
              try simp only [Act.put, List.getElem_toArray, List.getElem_cons_succ, List.getElem_cons_zero, List.setIfInBounds_toArray, List.set_cons_zero, List.set_cons_succ]
              refine' wpAnyH_take (i := 5) (v := _) rfl (by kernel_rfl) (by kernel_rfl) (by kernel_rfl) (fun _ _ _ h => h) (yieldsIf_load_mid (by rfl) _ _ rfl g 36 rfl (bRow u.hash).toList _ (fun w' hSw => (BT.out _ _ _ hSw.1.1)) hu23 rfl hi23) hHeld ?_
              try simp only [Act.put, List.getElem_toArray, List.getElem_cons_succ, List.getElem_cons_zero, List.setIfInBounds_toArray, List.set_cons_zero, List.set_cons_succ]
              refine' wpAnyH_take (i := 6) (v := _) rfl (by kernel_rfl) (by kernel_rfl) (by kernel_rfl) (fun _ _ _ h => h) (yieldsIf_load_mid (by rfl) _ _ rfl g 0 rfl u.cells _ (fun w' hSw => (row_range hSw.1.1)) hu48 rfl hi48) hHeld ?_
              try simp only [Act.put, List.getElem_toArray, List.getElem_cons_succ, List.getElem_cons_zero, List.setIfInBounds_toArray, List.set_cons_zero, List.set_cons_succ]
              refine wpAnyH_ready (rs := [7]) (by kernel_rfl) (by simp) (AllReadyH.cons rfl (fun K1 hK1 => ?_) AllReadyH.nil)
              try simp only [Act.put, List.getElem_toArray, List.getElem_cons_succ, List.getElem_cons_zero, List.setIfInBounds_toArray, List.set_cons_zero, List.set_cons_succ]
              go_simp
              refine Calls.mono (LK.out _ (HTab.out.below hHeld.1.2 Hpos.out)) ?_
              rintro e wc3 ⟨rfl, hc4⟩
              refine hK1.out _ _ (hHeld.step hc4) (fun hHeld => ?_)
              clear hK1 K1
              try simp only [Act.put, List.getElem_toArray, List.getElem_cons_succ, List.getElem_cons_zero, List.setIfInBounds_toArray, List.set_cons_zero, List.set_cons_succ]
              refine wpAnyH_take (i := 8) (v := .bool false) rfl (by kernel_rfl) (by kernel_rfl) (by kernel_rfl) (fun _ _ _ h => h) (Or.inl ⟨by rfl, fun w' hSw => by go_simp⟩) hHeld ?_
              try simp only [Act.put, List.getElem_toArray, List.getElem_cons_succ, List.getElem_cons_zero, List.setIfInBounds_toArray, List.set_cons_zero, List.set_cons_succ]
              refine wpAnyH_take (i := 9) (v := .bool false) rfl (by kernel_rfl) (by kernel_rfl) (by kernel_rfl) (fun _ _ _ h => h) (Or.inl ⟨by rfl, fun w' hSw => by go_simp⟩) hHeld ?_
              try simp only [Act.put, List.getElem_toArray, List.getElem_cons_succ, List.getElem_cons_zero, List.setIfInBounds_toArray, List.set_cons_zero, List.set_cons_succ]
              refine wpAnyH_done (by kernel_rfl) ?_ _
              have Hr7 := Lib.hid hHeld.1.1
              have Hb7 := Lib.hid hHeld.1.2
              have Hrz7 := Lib.hid hHeld.2
              clear hHeld hu48 hi48 hu23 hi23
              go_wp2_with (first
                | (with_reducible show wpList _ _ _ (⟨_, .load 48 _, _, _, _, _⟩ :: _) _ _; refine wpList_load_tx rfl 48 (.tmp 6) rfl g 0 rfl u.cells _ (row_range Hr7.out) Tryd.underlying48 rfl (by rw [rp_info, HUL.out]) ?_)
                | (with_reducible show wpList _ _ _ (⟨_, .store 48 _ _, _, _, _, _⟩ :: _) _ _
                   refine wpList_store_at rfl 48 (.tmp 2) (.tmp 57) rfl (w.heap.size) 0 u.cells _ _ rfl rfl Hrz7.out (by have := HZL.out; have := HUL.out; omega) (by rw [rp_info, HUL.out]) HU1.out ?_
                   intro wZ hrZ hgZ
                   rw [splice_all (HUL.out.trans HZL.out.symm)] at hrZ
                   have HrZ := Lib.hid hrZ
                   have HbZ := Lib.hid (below_own Hb7.out hgZ (fun k hk => by cases hk; exact Nat.le_refl _))
                   clear hrZ hgZ))
              refine bodyPost_ret (results_rowL rfl _ _ (w.heap.size) 48 _ _ rfl HrZ.out Tryd.underlying48 rfl (by rw [rp_info, List.size_toArray, HUL.out]) _ rfl) rfl ⟨?_, HbZ.out⟩
              rw [HRs.out]
              exact rfl
            · have hRn : R = none := by rw [HRo.out, if_neg (fun h => hl h.2)]
              have HRn := Lib.hid hRn
              have heqs : ∀ W, (Op.equalIn 10000 23 (.agg (bRow u.hash)) (.agg (bRow u.link))).run Tryd.prog W = .ok false W := fun W => (hash_eq W _ _ huh (Rp.link_len u)).trans (by rw [decide_eq_false hl])
              generalize u.link = K at *
              clear hRn hk hl hup huh
              go_wp2_with fail
              refine wp_region_held_drew (S := fun w' => RowIn2 w w' g w.heap.size 48 u.cells Rp.zero.cells) (by kernel_rfl) (HS0.out) (fun hHeld => ?_)
              generalize (w5.setCell ⟨g, 3, none⟩ (S t)).drew = wq at *
              refine' wpAnyH_take (i := 0) (v := _) rfl (by kernel_rfl) (by kernel_rfl) (by kernel_rfl) (fun _ _ _ h => h) (yieldsIf_load_mid (by rfl) _ _ rfl g 0 rfl u.cells _ (fun w' hSw => (row_range hSw.1.1)) hu48 rfl hi48) hHeld ?_
              try simp only [Act.put, List.getElem_toArray, List.getElem_cons_succ, List.getElem_cons_zero, List.setIfInBounds_toArray, List.set_cons_zero, List.set_cons_succ]
              refine wpAnyH_ready (rs := [1]) (by kernel_rfl) (by simp) (AllReadyH.cons rfl (fun K1 hK1 => ?_) AllReadyH.nil)
              try simp only [Act.put, List.getElem_toArray, List.getElem_cons_succ, List.getElem_cons_zero, List.setIfInBounds_toArray, List.set_cons_zero, List.set_cons_succ]
              go_simp
              refine Calls.mono (MB.out _) ?_
              rintro e wc1 ⟨rfl, hc2⟩
              refine hK1.out _ _ (hHeld.step hc2) (fun hHeld => ?_)
              clear hK1 K1
              try simp only [Act.put, List.getElem_toArray, List.getElem_cons_succ, List.getElem_cons_zero, List.setIfInBounds_toArray, List.set_cons_zero, List.set_cons_succ]
              refine wpAnyH_take (i := 2) (v := .bool false) rfl (by kernel_rfl) (by kernel_rfl) (by kernel_rfl) (fun _ _ _ h => h) (Or.inl ⟨by rfl, fun w' hSw => by go_simp⟩) hHeld ?_
              try simp only [Act.put, List.getElem_toArray, List.getElem_cons_succ, List.getElem_cons_zero, List.setIfInBounds_toArray, List.set_cons_zero, List.set_cons_succ]
              refine wpAnyH_take (i := 3) (v := .bool false) rfl (by kernel_rfl) (by kernel_rfl) (by kernel_rfl) (fun _ _ _ h => h) (Or.inl ⟨by rfl, fun w' hSw => by go_simp⟩) hHeld ?_
              try simp only [Act.put, List.getElem_toArray, List.getElem_cons_succ, List.getElem_cons_zero, List.setIfInBounds_toArray, List.set_cons_zero, List.set_cons_succ]
              refine wpAnyH_take (i := 4) (v := .pointer (some ⟨g, 36, none⟩)) rfl (by kernel_rfl) (by kernel_rfl) (by kernel_rfl) (fun _ _ _ h => h) (Or.inl ⟨by rfl, fun w' hSw => by go_simp⟩) hHeld ?_
              try simp only [Act.put, List.getElem_toArray, List.getElem_cons_succ, List.getElem_cons_zero, List.setIfInBounds_toArray, List.set_cons_zero, List.set_cons_succ]
              refine' wpAnyH_take (i := 5) (v := _) rfl (by kernel_rfl) (by kernel_rfl) (by kernel_rfl) (fun _ _ _ h => h) (yieldsIf_load_mid (by rfl) _ _ rfl g 36 rfl (bRow u.hash).toList _ (fun w' hSw => (BT.out _ _ _ hSw.1.1)) hu23 rfl hi23) hHeld ?_
              try simp only [Act.put, List.getElem_toArray, List.getElem_cons_succ, List.getElem_cons_zero, List.setIfInBounds_toArray, List.set_cons_zero, List.set_cons_succ]
              refine' wpAnyH_take (i := 6) (v := _) rfl (by kernel_rfl) (by kernel_rfl) (by kernel_rfl) (fun _ _ _ h => h) (yieldsIf_load_mid (by rfl) _ _ rfl g 0 rfl u.cells _ (fun w' hSw => (row_range hSw.1.1)) hu48 rfl hi48) hHeld ?_
              try simp only [Act.put, List.getElem_toArray, List.getElem_cons_succ, List.getElem_cons_zero, List.setIfInBounds_toArray, List.set_cons_zero, List.set_cons_succ]
              refine wpAnyH_ready (rs := [7]) (by kernel_rfl) (by simp) (AllReadyH.cons rfl (fun K1 hK1 => ?_) AllReadyH.nil)
              try simp only [Act.put, List.getElem_toArray, List.getElem_cons_succ, List.getElem_cons_zero, List.setIfInBounds_toArray, List.set_cons_zero, List.set_cons_succ]
              go_simp
              refine Calls.mono (LK.out _ (HTab.out.below hHeld.1.2 Hpos.out)) ?_
              rintro e wc3 ⟨rfl, hc4⟩
              refine hK1.out _ _ (hHeld.step hc4) (fun hHeld => ?_)
              clear hK1 K1
              try simp only [Act.put, List.getElem_toArray, List.getElem_cons_succ, List.getElem_cons_zero, List.setIfInBounds_toArray, List.set_cons_zero, List.set_cons_succ]
              refine wpAnyH_take (i := 8) (v := .bool true) rfl (by kernel_rfl) (by kernel_rfl) (by kernel_rfl) (fun _ _ _ h => h) (Or.inl ⟨by rfl, fun w' hSw => by go_simp⟩) hHeld ?_
              try simp only [Act.put, List.getElem_toArray, List.getElem_cons_succ, List.getElem_cons_zero, List.setIfInBounds_toArray, List.set_cons_zero, List.set_cons_succ]
              refine wpAnyH_take (i := 9) (v := .bool true) rfl (by kernel_rfl) (by kernel_rfl) (by kernel_rfl) (fun _ _ _ h => h) (Or.inl ⟨by rfl, fun w' hSw => by go_simp⟩) hHeld ?_
              try simp only [Act.put, List.getElem_toArray, List.getElem_cons_succ, List.getElem_cons_zero, List.setIfInBounds_toArray, List.set_cons_zero, List.set_cons_succ]
              refine wpAnyH_done (by kernel_rfl) ?_ _
              have Hr7 := Lib.hid hHeld.1.1
              have Hb7 := Lib.hid hHeld.1.2
              have Hrz7 := Lib.hid hHeld.2
              clear hHeld hu48 hi48 hu23 hi23
              go_wp2_with (first
                | (with_reducible show wpList _ _ _ (⟨_, .build 48 _, _, _, _, _⟩ :: _) _ _; refine wpList_buildL rfl 48 [] rfl (some 56) rfl _ rfl _ Rp.zero_built0 ?_)
                | (with_reducible show wpList _ _ _ (⟨_, .store 48 _ _, _, _, _, _⟩ :: _) _ _
                   refine wpList_store_at rfl 48 (.tmp 2) (.tmp 56) rfl (w.heap.size) 0 Rp.zero.cells _ _ rfl rfl Hrz7.out (by have := HZL.out; omega) (by rw [rp_info, HZL.out]) HZ1.out ?_
                   intro wZ hrZ hgZ
                   rw [splice_all rfl] at hrZ
                   have HrZ := Lib.hid hrZ
                   have HbZ := Lib.hid (below_own Hb7.out hgZ (fun k hk => by cases hk; exact Nat.le_refl _))
                   clear hrZ hgZ))
              refine bodyPost_ret (results_rowL rfl _ _ (w.heap.size) 48 _ _ rfl HrZ.out Tryd.underlying48 rfl (by rw [rp_info, List.size_toArray, HZL.out]) _ rfl) rfl ⟨?_, HbZ.out⟩
              rw [HRn.out]
              exact rfl
          · have hRn : R = none := by rw [HRo.out, if_neg (fun h => by rw [hk] at h; exact absurd h.1 (by simp))]
            have HRn := Lib.hid hRn
            rw [hk] at MB
            clear hRn hk hup huh
            go_wp2_with fail
            refine wp_region_held_drew (S := fun w' => RowIn2 w w' g w.heap.size 48 u.cells Rp.zero.cells) (by kernel_rfl) (HS0.out) (fun hHeld => ?_)
            generalize (w5.setCell ⟨g, 3, none⟩ (S t)).drew = wq at *
            refine' wpAnyH_take (i := 0) (v := _) rfl (by kernel_rfl) (by kernel_rfl) (by kernel_rfl) (fun _ _ _ h => h) (yieldsIf_load_mid (by rfl) _ _ rfl g 0 rfl u.cells _ (fun w' hSw => (row_range hSw.1.1)) hu48 rfl hi48) hHeld ?_
            try simp only [Act.put, List.getElem_toArray, List.getElem_cons_succ, List.getElem_cons_zero, List.setIfInBounds_toArray, List.set_cons_zero, List.set_cons_succ]
            refine wpAnyH_ready (rs := [1]) (by kernel_rfl) (by simp) (AllReadyH.cons rfl (fun K1 hK1 => ?_) AllReadyH.nil)
            try simp only [Act.put, List.getElem_toArray, List.getElem_cons_succ, List.getElem_cons_zero, List.setIfInBounds_toArray, List.set_cons_zero, List.set_cons_succ]
            go_simp
            refine Calls.mono (MB.out _) ?_
            rintro e wc1 ⟨rfl, hc2⟩
            refine hK1.out _ _ (hHeld.step hc2) (fun hHeld => ?_)
            clear hK1 K1
            try simp only [Act.put, List.getElem_toArray, List.getElem_cons_succ, List.getElem_cons_zero, List.setIfInBounds_toArray, List.set_cons_zero, List.set_cons_succ]
            refine wpAnyH_take (i := 2) (v := .bool true) rfl (by kernel_rfl) (by kernel_rfl) (by kernel_rfl) (fun _ _ _ h => h) (Or.inl ⟨by rfl, fun w' hSw => by go_simp⟩) hHeld ?_
            try simp only [Act.put, List.getElem_toArray, List.getElem_cons_succ, List.getElem_cons_zero, List.setIfInBounds_toArray, List.set_cons_zero, List.set_cons_succ]
            refine wpAnyH_take (i := 3) (v := .bool true) rfl (by kernel_rfl) (by kernel_rfl) (by kernel_rfl) (fun _ _ _ h => h) (Or.inl ⟨by rfl, fun w' hSw => by go_simp⟩) hHeld ?_
            try simp only [Act.put, List.getElem_toArray, List.getElem_cons_succ, List.getElem_cons_zero, List.setIfInBounds_toArray, List.set_cons_zero, List.set_cons_succ]
            refine wpAnyH_take (i := 4) (v := undef) rfl (by kernel_rfl) (by kernel_rfl) (by kernel_rfl) (fun _ _ _ h => h) (Or.inr ⟨by rfl, rfl⟩) hHeld ?_
            try simp only [Act.put, List.getElem_toArray, List.getElem_cons_succ, List.getElem_cons_zero, List.setIfInBounds_toArray, List.set_cons_zero, List.set_cons_succ]
            refine wpAnyH_take (i := 5) (v := undef) rfl (by kernel_rfl) (by kernel_rfl) (by kernel_rfl) (fun _ _ _ h => h) (Or.inr ⟨by rfl, rfl⟩) hHeld ?_
            try simp only [Act.put, List.getElem_toArray, List.getElem_cons_succ, List.getElem_cons_zero, List.setIfInBounds_toArray, List.set_cons_zero, List.set_cons_succ]
            refine wpAnyH_take (i := 6) (v := undef) rfl (by kernel_rfl) (by kernel_rfl) (by kernel_rfl) (fun _ _ _ h => h) (Or.inr ⟨by rfl, rfl⟩) hHeld ?_
            try simp only [Act.put, List.getElem_toArray, List.getElem_cons_succ, List.getElem_cons_zero, List.setIfInBounds_toArray, List.set_cons_zero, List.set_cons_succ]
            refine wpAnyH_take (i := 7) (v := undef) rfl (by kernel_rfl) (by kernel_rfl) (by kernel_rfl) (fun _ _ _ h => h) (Or.inr ⟨by rfl, rfl⟩) hHeld ?_
            try simp only [Act.put, List.getElem_toArray, List.getElem_cons_succ, List.getElem_cons_zero, List.setIfInBounds_toArray, List.set_cons_zero, List.set_cons_succ]
            refine wpAnyH_take (i := 8) (v := undef) rfl (by kernel_rfl) (by kernel_rfl) (by kernel_rfl) (fun _ _ _ h => h) (Or.inr ⟨by rfl, rfl⟩) hHeld ?_
            try simp only [Act.put, List.getElem_toArray, List.getElem_cons_succ, List.getElem_cons_zero, List.setIfInBounds_toArray, List.set_cons_zero, List.set_cons_succ]
            refine wpAnyH_take (i := 9) (v := .bool true) rfl (by kernel_rfl) (by kernel_rfl) (by kernel_rfl) (fun _ _ _ h => h) (Or.inl ⟨by rfl, fun w' hSw => by go_simp⟩) hHeld ?_
            try simp only [Act.put, List.getElem_toArray, List.getElem_cons_succ, List.getElem_cons_zero, List.setIfInBounds_toArray, List.set_cons_zero, List.set_cons_succ]
            refine wpAnyH_done (by kernel_rfl) ?_ _
            have Hr7 := Lib.hid hHeld.1.1
            have Hb7 := Lib.hid hHeld.1.2
            have Hrz7 := Lib.hid hHeld.2
            clear hHeld hu48 hi48 hu23 hi23
            go_wp2_with (first
              | (with_reducible show wpList _ _ _ (⟨_, .build 48 _, _, _, _, _⟩ :: _) _ _; refine wpList_buildL rfl 48 [] rfl (some 56) rfl _ rfl _ Rp.zero_built0 ?_)
              | (with_reducible show wpList _ _ _ (⟨_, .store 48 _ _, _, _, _, _⟩ :: _) _ _
                 refine wpList_store_at rfl 48 (.tmp 2) (.tmp 56) rfl (w.heap.size) 0 Rp.zero.cells _ _ rfl rfl Hrz7.out (by have := HZL.out; omega) (by rw [rp_info, HZL.out]) HZ1.out ?_
                 intro wZ hrZ hgZ
                 rw [splice_all rfl] at hrZ
                 have HrZ := Lib.hid hrZ
                 have HbZ := Lib.hid (below_own Hb7.out hgZ (fun k hk => by cases hk; exact Nat.le_refl _))
                 clear hrZ hgZ))
            refine bodyPost_ret (results_rowL rfl _ _ (w.heap.size) 48 _ _ rfl HrZ.out Tryd.underlying48 rfl (by rw [rp_info, List.size_toArray, HZL.out]) _ rfl) rfl ⟨?_, HbZ.out⟩
            rw [HRn.out]
            exact rfl
        · have hRn : R = none := by rw [HRs.out, Rp.of_no (by rw [hd43, hm4]; exact hno)]
          have HRn := Lib.hid hRn
          clear hRn hno
          go_wp2_with (first
            | (with_reducible show wpList _ _ _ (⟨_, .build 48 _, _, _, _, _⟩ :: _) _ _; refine wpList_buildL rfl 48 [] rfl (some 41) rfl _ rfl _ Rp.zero_built0 ?_)
            | (with_reducible show wpList _ _ _ (⟨_, .store 48 _ _, _, _, _, _⟩ :: _) _ _
               refine wpList_store_at rfl 48 (.tmp 2) (.tmp 41) rfl (w.heap.size) 0 Rp.zero.cells _ _ rfl rfl Hrz5.out (by have := HZL.out; omega) (by rw [rp_info, HZL.out]) HZ1.out ?_
               intro wZ hrZ hgZ
               rw [splice_all rfl] at hrZ
               have HrZ := Lib.hid hrZ
               have HbZ := Lib.hid (below_own Hb5.out hgZ (fun k hk => by cases hk; exact Nat.le_refl _))
               clear hrZ hgZ))
          refine bodyPost_ret (results_rowL rfl _ _ (w.heap.size) 48 _ _ rfl HrZ.out Tryd.underlying48 rfl (by rw [rp_info, List.size_toArray, HZL.out]) _ rfl) rfl ⟨?_, HbZ.out⟩
          rw [HRn.out]
          exact rfl
end Go.Proofs.YtdekcicgiflnbaaDoor
