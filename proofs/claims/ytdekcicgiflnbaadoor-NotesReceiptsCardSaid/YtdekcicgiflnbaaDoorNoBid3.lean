/- notes: ReadBid. -/
import Derived.Test.YtdekcicgiflnbaaDoorNoBid2
namespace Go.Proofs.YtdekcicgiflnbaaDoor
open Go.RowKit
set_option linter.unusedVariables false
set_option linter.unusedSimpArgs false

namespace Bd
theorem read_none {s : No.T8} (h : Tx.listAll s = none) : read s = none := by unfold read; rw [h]; rfl
theorem ok_num {b : Bd} (h : b.ok = true) : Tx.num b.round = true ∧ Tx.num b.who = true ∧ Tx.num b.amount = true ∧ Tx.num b.salt = true := by
  rw [ok_iff] at h
  rw [No.num_iff, No.num_iff, No.num_iff, No.num_iff]
  omega
theorem of_ok {ns : List Int} {rest : List No.T8} {b : Bd} (h : of ns rest = some b) : b.ok = true ∧ ns = [b.round, b.who, b.amount, b.salt] ∧ rest = [b.tag] ∧ b.tag.length = 32 := by
  unfold of at h
  split at h
  · split at h
    · next hk =>
      simp only [Option.some.injEq] at h
      subst h
      exact ⟨hk.2, rfl, rfl, hk.1⟩
    · cases h
  · cases h
theorem read_eq {s : No.T8} {l : List No.T8} (h : Tx.listAll s = some l) : read s = (No.nums 4 l).bind fun ns => of ns (l.drop 4) := by
  unfold read
  rw [h, No.nums_raw]
  simp only [Option.bind_some]
  cases hr : No.raw 4 l with
  | none => rfl
  | some ns =>
    simp only [Option.bind_some]
    by_cases ha : ns.all Tx.num = true
    · rw [if_pos ha]; rfl
    · rw [if_neg ha]
      cases ho : of ns (l.drop 4) with
      | none => rfl
      | some i =>
        obtain ⟨h1, h2, _⟩ := of_ok ho
        have := ok_num h1
        exact absurd (by rw [h2]; simp [this]) ha
theorem of_no {ns : List Int} {rest : List No.T8} (h : ¬ (rest.length = 1 ∧ No.AllH rest)) : of ns rest = none := by
  cases ho : of ns rest with
  | none => rfl
  | some b =>
    obtain ⟨_, _, h3, h4⟩ := of_ok ho
    exact absurd ⟨by rw [h3]; rfl, fun x hx => by rw [h3] at hx; simp at hx; rw [hx]; exact h4⟩ h
theorem of_yes {a b c d : Int} {t : No.T8} (h : t.length = 32) : of [a, b, c, d] [t] = if (Bd.mk a b c d t).ok = true then some ⟨a, b, c, d, t⟩ else none := by
  unfold of
  simp only [h, true_and]
end Bd
theorem Bd.hashed (a b d f : Int) (t : List UInt8) : No.putH (Is [a, b, d, f] ++ Bd.zero.cells.drop 4) ([4].zip [t]) = Bd.cells ⟨a, b, d, f, t⟩ := by
  rw [Bd.cells_tag]
  have hZ : (bRow Bd.zero.tag).toList.length = 32 := Tx.bRow_len _ rfl
  generalize (bRow Bd.zero.tag).toList = Z at *
  have e : (Is [a, b, d, f] ++ Z).drop 36 = [] := List.drop_of_length_le (by rw [List.length_append, hZ]; simp [Is])
  show (Is [a, b, d, f] ++ Z).take 4 ++ ((bRow t).toList ++ (Is [a, b, d, f] ++ Z).drop 36) = _
  rw [e, List.append_nil]
  rfl
theorem four_of {α : Type} {l : List α} (h : l.length = 4) : ∃ a b c d, l = [a, b, c, d] := by
  match l, h with
  | [a, b, c, d], _ => exact ⟨a, b, c, d, rfl⟩
def BdEnds (R : Option Bd) (e : Ending) : Prop :=
  match R with
  | some u => e = .returned (.tuple #[.agg u.cells.toArray, .int .i64 0])
  | none => e = .returned (.tuple #[.agg Bd.zero.cells.toArray, .int .i64 6])
set_option maxRecDepth 20000 in
set_option maxHeartbeats 1600000 in
theorem readBid_any (s : ByteArray) (w : World) (hs : s.size ≤ 9223372036854775807) :
    Calls Tryd.prog 45 #[.string s] w fun e w' => BdEnds (Bd.read s.data.toList) e ∧ Below w.heap.size w w' := by
  have HZL := Lib.hid (Bd.cells_len (b := Bd.zero) rfl)
  have HZ1 := Lib.hid (Bd.cells_one (b := Bd.zero) rfl)
  have FD := Lib.hid (fun W => fields_any s W hs)
  obtain ⟨R, hR⟩ : ∃ R, R = Bd.read s.data.toList := ⟨_, rfl⟩
  rw [← hR]
  have hzv : ∀ W : World, (zeroValue 41).run Tryd.prog W = .ok (.agg Bd.zero.cells.toArray) W := fun W => by kernel_rfl
  have Hr0 := Lib.hid (Row.new w 41 Bd.zero.cells)
  have Hb0 := Lib.hid ((Below.refl w.heap.size w).alloc (Nat.le_refl _) (.cells Bd.zero.cells.toArray 41))
  cases hL : Tx.listAll s.data.toList with
  | none =>
    have HRn := Lib.hid (hR.trans (Bd.read_none hL))
    rw [hL] at FD
    clear hR hL
    go_enter Tryd.func45, Tryd.ntmps45
    go_wp2_with fail
    refine calls_named ?_
    intro w1 hw1
    have hr1 : Row w1 w.heap.size 41 Bd.zero.cells := by rw [hw1]; exact Hr0.out
    have hb1 : Below w.heap.size w w1 := by rw [hw1]; exact Hb0.out
    clear hw1 Hr0 Hb0 hzv
    refine (FD.out w1).mono ?_
    rintro _ w2 ⟨⟨v, rfl⟩, hb2⟩
    have Hrz2 := Lib.hid (hr1.kept (grownBy_of_below hb2 none) (by simp))
    have Hb2 := Lib.hid (two_below' hb1 hb2)
    clear hr1 hb1 hb2
    go_wp2_with (first
      | (with_reducible show wpList _ _ _ (⟨_, .build 41 _, _, _, _, _⟩ :: _) _ _; refine wpList_buildL rfl 41 [] rfl (some 15) rfl _ rfl _ Bd.zero_built0 ?_)
      | (with_reducible show wpList _ _ _ (⟨_, .store 41 _ _, _, _, _, _⟩ :: _) _ _
         refine wpList_store_at rfl 41 (.tmp 2) (.tmp 15) rfl (w.heap.size) 0 Bd.zero.cells _ _ rfl rfl Hrz2.out (by have := HZL.out; omega) (by rw [bid_info, HZL.out]) HZ1.out ?_
         intro wZ hrZ hgZ
         rw [splice_all rfl] at hrZ
         have HrZ := Lib.hid hrZ
         have HbZ := Lib.hid (below_own Hb2.out hgZ (fun k hk => by cases hk; exact Nat.le_refl _))
         clear hrZ hgZ))
    refine bodyPost_ret (results_rowL rfl _ _ (w.heap.size) 41 _ _ rfl HrZ.out Tryd.underlying41 rfl (by rw [bid_info, List.size_toArray, HZL.out]) _ rfl) rfl ⟨?_, HbZ.out⟩
    rw [HRn.out]
    exact rfl
  | some l =>
    have HRe := Lib.hid (hR.trans (Bd.read_eq hL))
    have hlx := Tx.listAll_text hL
    have hlf := listAll_few hL
    rw [hL] at FD
    have Hlx := Lib.hid hlx
    clear hR hL hlx
    go_enter Tryd.func45, Tryd.ntmps45
    go_wp2_with fail
    refine calls_named ?_
    intro w1 hw1
    have hr1 : Row w1 w.heap.size 41 Bd.zero.cells := by rw [hw1]; exact Hr0.out
    have hb1 : Below w.heap.size w w1 := by rw [hw1]; exact Hb0.out
    clear hw1 Hr0 Hb0
    refine (FD.out w1).mono ?_
    rintro _ w2 ⟨⟨v, rfl, hT⟩, hb2⟩
    obtain ⟨A, c, rfl, hlc, hTx⟩ := hT
    have hrz2 := hr1.kept (grownBy_of_below hb2 none) (by simp)
    have Hb2 := Lib.hid (two_below' hb1 hb2)
    have Hrz2 := Lib.hid hrz2
    have hzg : w.heap.size < w2.heap.size := hrz2.lt
    have HTx := Lib.hid hTx
    clear hr1 hb1 hb2 hrz2 hTx
    obtain ⟨m, hm⟩ : ∃ m, m = l.length := ⟨_, rfl⟩
    rw [← hm] at hlf hlc ⊢
    have HM := Lib.hid hm
    clear hm
    go_wp2_with fail
    refine calls_named ?_
    intro w3 hw3
    obtain ⟨rp3, hb3, rg3⟩ := row_two w2 Bd.zero.cells.toArray (No.ptrs w2.heap.size 4).toArray 41 104
    have hx3 : w3 = (w2.alloc (.cells Bd.zero.cells.toArray 41)).alloc (.cells (No.ptrs w2.heap.size 4).toArray 104) := hw3
    have hp3 : Row w3 (w2.heap.size + 1) 104 (No.ptrs w2.heap.size 4) := by rw [hx3]; exact rp3
    have hg3 : Row w3 w2.heap.size 41 Bd.zero.cells := by rw [hx3]; exact rg3
    have hbb3 : Below w2.heap.size w2 w3 := by rw [hx3]; exact hb3
    have htx3 : Texts w3 w2.heap.size A l := fun hne => by
      obtain ⟨b, off, h1, h2, h3⟩ := HTx.out hne
      exact ⟨b, off, h1, h2, fun i hi => (grownBy_of_below hbb3 none).cell (h3 i hi) (by simp)⟩
    have Hrz3 := Lib.hid (Hrz2.out.kept (grownBy_of_below hbb3 none) (by simp))
    have Hb3 := Lib.hid (two_below' Hb2.out hbb3)
    have NR := noRead_any l A c 4 Bd.zero.cells 41 w3 w2.heap.size (w2.heap.size + 1) 4 Hlx.out (by rw [← HM.out]; omega) (by rw [← HM.out]; exact hlc) htx3 hg3 hp3 (by omega) (by rw [HZL.out]; omega) (by omega) (by omega)
    rw [← HM.out] at NR
    have HNR := Lib.hid NR
    have hz3 : w2.heap.size + 1 < w3.heap.size := hp3.lt
    clear rp3 hb3 rg3 hx3 hw3 hp3 hg3 hbb3 htx3 NR
    obtain ⟨g, hg⟩ : ∃ g, g = w2.heap.size := ⟨_, rfl⟩
    rw [← hg] at HNR hzg hz3
    simp only [← hg]
    clear hg HTx hzv
    refine HNR.out.mono ?_
    rintro _ w4 ⟨hN, hb4⟩
    have hg4 : g < w4.heap.size := by have := hb4.size; omega
    have Hrz4 := Lib.hid (no_row_below Hrz3.out hb4 hzg)
    have Hb4 := Lib.hid (Hb3.out.trans (hb4.mono (Nat.le_of_lt hzg)))
    clear hb4 HNR
    cases hF : No.nums 4 l with
    | none =>
      rw [hF] at hN
      obtain ⟨v, rfl⟩ := hN
      have hRn : R = none := by rw [HRe.out, hF]; rfl
      have HRn := Lib.hid hRn
      clear hRn hF
      go_wp2_with (first
        | (with_reducible show wpList _ _ _ (⟨_, .build 41 _, _, _, _, _⟩ :: _) _ _; refine wpList_buildL rfl 41 [] rfl (some 40) rfl _ rfl _ Bd.zero_built0 ?_)
        | (with_reducible show wpList _ _ _ (⟨_, .store 41 _ _, _, _, _, _⟩ :: _) _ _
           refine wpList_store_at rfl 41 (.tmp 2) (.tmp 40) rfl (w.heap.size) 0 Bd.zero.cells _ _ rfl rfl Hrz4.out (by have := HZL.out; omega) (by rw [bid_info, HZL.out]) HZ1.out ?_
           intro wZ hrZ hgZ
           rw [splice_all rfl] at hrZ
           have HrZ := Lib.hid hrZ
           have HbZ := Lib.hid (below_own Hb4.out hgZ (fun k hk => by cases hk; exact Nat.le_refl _))
           clear hrZ hgZ))
      refine bodyPost_ret (results_rowL rfl _ _ (w.heap.size) 41 _ _ rfl HrZ.out Tryd.underlying41 rfl (by rw [bid_info, List.size_toArray, HZL.out]) _ rfl) rfl ⟨?_, HbZ.out⟩
      rw [HRn.out]
      exact rfl
    | some ns =>
      rw [hF] at hN
      obtain ⟨A', c', rfl, hc', hT', hr4⟩ := hN
      obtain ⟨hn3, hml, hfit⟩ := nums_len hF
      obtain ⟨a, b, d, f, rfl⟩ := four_of hn3
      have hRe : R = Bd.of [a, b, d, f] (l.drop 4) := by rw [HRe.out, hF]; rfl
      have HRs := Lib.hid hRe
      have hpA : Row (w4.alloc (.cells (No.ptrsAt g [4]).toArray 106)) w4.heap.size 106 (No.ptrsAt g [4]) := Row.new w4 106 (No.ptrsAt g [4])
      have hgA := grownBy_alloc w4 (.cells (No.ptrsAt g [4]).toArray 106) none
      have htA : Texts (w4.alloc (.cells (No.ptrsAt g [4]).toArray 106)) g A' (l.drop 4) := fun hne => by
        obtain ⟨b, off, h1, h2, h3⟩ := hT' hne
        exact ⟨b, off, h1, h2, fun i hi => hgA.cell (h3 i hi) (by simp)⟩
      have NH := noHashes_any (l.drop 4) A' c' 1 [4] (Is [a, b, d, f] ++ Bd.zero.cells.drop 4) 41 _ g w4.heap.size 1 rfl (by rw [List.length_drop, ← HM.out]; omega) htA (hr4.kept hgA (by simp)) hpA hg4 (by intro o ho; simp at ho; subst ho; rw [List.length_append, List.length_drop, HZL.out]; simp [Is]) (by simp) (by simp)
      have hml2 : (l.drop 4).length = m - 4 := by rw [List.length_drop, ← HM.out]
      have hml3 : l.length - 4 = m - 4 := by rw [← HM.out]
      rw [hml2] at NH
      rw [hml3] at hc' ⊢
      have HNH := Lib.hid NH
      have HrzA := Lib.hid (Hrz4.out.kept hgA (by simp))
      have HbA := Lib.hid (below_own Hb4.out hgA (fun k hk => by cases hk))
      clear hr4 hRe hF hfit hn3 hT' hml hpA hgA htA NH hml3
      go_wp2_with fail
      refine HNH.out.mono ?_
      rintro _ w5 ⟨hH, hb5⟩
      have Hrz5 := Lib.hid (no_row_below HrzA.out hb5 hzg)
      have Hb5 := Lib.hid (HbA.out.trans (hb5.mono (Nat.le_of_lt hzg)))
      clear hb5 HNH
      rcases hH with ⟨⟨hm1, hAll⟩, rfl, hr5⟩ | ⟨hno, rfl⟩
      · obtain ⟨t, ht⟩ : ∃ t, l.drop 4 = [t] := List.length_eq_one_iff.1 (hml2.trans hm1)
        have ht32 : t.length = 32 := hAll t (by rw [ht]; simp)
        obtain ⟨u, hu⟩ : ∃ u : Bd, u = ⟨a, b, d, f, t⟩ := ⟨_, rfl⟩
        have hur : Row w5 g 41 u.cells := by
          rw [ht] at hr5
          have e : No.putH (Is [a, b, d, f] ++ Bd.zero.cells.drop 4) ([4].zip [t]) = u.cells := by rw [hu]; exact Bd.hashed a b d f t
          rw [e] at hr5
          exact hr5
        have hRo : R = if u.ok = true then some u else none := by rw [HRs.out, ht, Bd.of_yes ht32, hu]
        have hut : u.tag.length = 32 := by rw [hu]; exact ht32
        have MB := Lib.hid (fun W => bidMayBe_any u W)
        have HRo := Lib.hid hRo
        have HUL := Lib.hid (Bd.cells_len hut)
        have HU1 := Lib.hid (Bd.cells_one hut)
        have Hr5 := Lib.hid hur
        clear hr5 hur hRo hut hu ht32 ht hm1 hAll HRs hml2
        rcases Bool.eq_false_or_eq_true u.ok with hk | hk
        · rw [hk] at MB
          have hRs : R = some u := by rw [HRo.out, if_pos hk]
          have HRs := Lib.hid hRs
          clear hRs hk
          go_wp2_with (with_reducible show wpList _ _ _ (⟨_, .load 41 _, _, _, _, _⟩ :: _) _ _; refine wpList_load_tx rfl 41 (.tmp 6) rfl g 0 rfl u.cells _ (row_range Hr5.out) Tryd.underlying41 rfl (by rw [bid_info, HUL.out]) ?_)
          refine (MB.out _).mono ?_
          rintro _ w6 ⟨rfl, hb6⟩
          have hg6 := grownBy_of_below hb6 none
          have Hr6 := Lib.hid (Hr5.out.kept hg6 (by simp))
          have Hrz6 := Lib.hid (Hrz5.out.kept hg6 (by simp))
          have Hb6 := Lib.hid (below_own Hb5.out hg6 (fun k hk => by cases hk))
          clear hb6 hg6
          go_wp2_with (first
            | (with_reducible show wpList _ _ _ (⟨_, .load 41 _, _, _, _, _⟩ :: _) _ _; refine wpList_load_tx rfl 41 (.tmp 6) rfl g 0 rfl u.cells _ (row_range Hr6.out) Tryd.underlying41 rfl (by rw [bid_info, HUL.out]) ?_)
            | (with_reducible show wpList _ _ _ (⟨_, .store 41 _ _, _, _, _, _⟩ :: _) _ _
               refine wpList_store_at rfl 41 (.tmp 2) (.tmp 41) rfl (w.heap.size) 0 u.cells _ _ rfl rfl Hrz6.out (by have := HZL.out; have := HUL.out; omega) (by rw [bid_info, HUL.out]) HU1.out ?_
               intro wZ hrZ hgZ
               rw [splice_all (HUL.out.trans HZL.out.symm)] at hrZ
               have HrZ := Lib.hid hrZ
               have HbZ := Lib.hid (below_own Hb6.out hgZ (fun k hk => by cases hk; exact Nat.le_refl _))
               clear hrZ hgZ))
          refine bodyPost_ret (results_rowL rfl _ _ (w.heap.size) 41 _ _ rfl HrZ.out Tryd.underlying41 rfl (by rw [bid_info, List.size_toArray, HUL.out]) _ rfl) rfl ⟨?_, HbZ.out⟩
          rw [HRs.out]
          exact rfl
        · rw [hk] at MB
          have hRn : R = none := by rw [HRo.out, if_neg (by rw [hk]; simp)]
          have HRn := Lib.hid hRn
          clear hRn hk
          go_wp2_with (with_reducible show wpList _ _ _ (⟨_, .load 41 _, _, _, _, _⟩ :: _) _ _; refine wpList_load_tx rfl 41 (.tmp 6) rfl g 0 rfl u.cells _ (row_range Hr5.out) Tryd.underlying41 rfl (by rw [bid_info, HUL.out]) ?_)
          refine (MB.out _).mono ?_
          rintro _ w6 ⟨rfl, hb6⟩
          have hg6 := grownBy_of_below hb6 none
          have Hrz6 := Lib.hid (Hrz5.out.kept hg6 (by simp))
          have Hb6 := Lib.hid (below_own Hb5.out hg6 (fun k hk => by cases hk))
          clear hb6 hg6
          go_wp2_with (first
            | (with_reducible show wpList _ _ _ (⟨_, .build 41 _, _, _, _, _⟩ :: _) _ _; refine wpList_buildL rfl 41 [] rfl (some 40) rfl _ rfl _ Bd.zero_built0 ?_)
            | (with_reducible show wpList _ _ _ (⟨_, .store 41 _ _, _, _, _, _⟩ :: _) _ _
               refine wpList_store_at rfl 41 (.tmp 2) (.tmp 40) rfl (w.heap.size) 0 Bd.zero.cells _ _ rfl rfl Hrz6.out (by have := HZL.out; omega) (by rw [bid_info, HZL.out]) HZ1.out ?_
               intro wZ hrZ hgZ
               rw [splice_all rfl] at hrZ
               have HrZ := Lib.hid hrZ
               have HbZ := Lib.hid (below_own Hb6.out hgZ (fun k hk => by cases hk; exact Nat.le_refl _))
               clear hrZ hgZ))
          refine bodyPost_ret (results_rowL rfl _ _ (w.heap.size) 41 _ _ rfl HrZ.out Tryd.underlying41 rfl (by rw [bid_info, List.size_toArray, HZL.out]) _ rfl) rfl ⟨?_, HbZ.out⟩
          rw [HRn.out]
          exact rfl
      · have hRn : R = none := by rw [HRs.out, Bd.of_no (by rw [hml2]; exact hno)]
        have HRn := Lib.hid hRn
        clear hRn hno
        go_wp2_with (first
          | (with_reducible show wpList _ _ _ (⟨_, .build 41 _, _, _, _, _⟩ :: _) _ _; refine wpList_buildL rfl 41 [] rfl (some 40) rfl _ rfl _ Bd.zero_built0 ?_)
          | (with_reducible show wpList _ _ _ (⟨_, .store 41 _ _, _, _, _, _⟩ :: _) _ _
             refine wpList_store_at rfl 41 (.tmp 2) (.tmp 40) rfl (w.heap.size) 0 Bd.zero.cells _ _ rfl rfl Hrz5.out (by have := HZL.out; omega) (by rw [bid_info, HZL.out]) HZ1.out ?_
             intro wZ hrZ hgZ
             rw [splice_all rfl] at hrZ
             have HrZ := Lib.hid hrZ
             have HbZ := Lib.hid (below_own Hb5.out hgZ (fun k hk => by cases hk; exact Nat.le_refl _))
             clear hrZ hgZ))
        refine bodyPost_ret (results_rowL rfl _ _ (w.heap.size) 41 _ _ rfl HrZ.out Tryd.underlying41 rfl (by rw [bid_info, List.size_toArray, HZL.out]) _ rfl) rfl ⟨?_, HbZ.out⟩
        rw [HRn.out]
        exact rfl
end Go.Proofs.YtdekcicgiflnbaaDoor
