/- notes: ReadItem. -/
import Derived.Test.YtdekcicgiflnbaaDoorNoI
import Derived.Test.YtdekcicgiflnbaaDoorTxRow
namespace Go.Proofs.YtdekcicgiflnbaaDoor
open Go.RowKit
set_option linter.unusedVariables false
set_option linter.unusedSimpArgs false

namespace It
theorem cells_len (i : It) : i.cells.length = 4 := rfl
theorem cells_one (i : It) : ∀ v ∈ i.cells, v.oneCell' = true := by
  intro v hv
  simp [cells] at hv
  rcases hv with rfl | rfl | rfl | rfl <;> rfl
theorem read_none {s : No.T8} (h : Tx.listAll s = none) : read s = none := by unfold read; rw [h]; rfl
theorem of_ok {ns : List Int} {rest : List No.T8} {i : It} (h : of ns rest = some i) : i.ok = true ∧ ns = [i.kind, i.who, i.n] := by
  unfold of at h
  split at h
  · split at h
    · next hk =>
      simp only [Option.some.injEq] at h
      subst h
      exact ⟨hk, rfl⟩
    · cases h
  · cases h
theorem read_eq {s : No.T8} {l : List No.T8} (h : Tx.listAll s = some l) : read s = (No.nums 3 l).bind fun ns => of ns (l.drop 3) := by
  unfold read
  rw [h, No.nums_raw]
  simp only [Option.bind_some]
  cases hr : No.raw 3 l with
  | none => rfl
  | some ns =>
    simp only [Option.bind_some]
    by_cases ha : ns.all Tx.num = true
    · rw [if_pos ha]; rfl
    · rw [if_neg ha]
      cases ho : of ns (l.drop 3) with
      | none => rfl
      | some i =>
        obtain ⟨h1, h2⟩ := of_ok ho
        have := ok_num h1
        exact absurd (by rw [h2]; simp [this]) ha
theorem of_len {ns : List Int} {rest : List No.T8} (h : rest.length ≠ 1) : of ns rest = none := by
  unfold of
  split
  · simp at h
  · rfl
end It
theorem item_info : (Tryd.prog.info? 59).map (·.size) = some 4 := by kernel_rfl
theorem It.zero_built0 : Tryd.prog.built 59 [] = some It.zero.cells.toArray := by kernel_rfl
def ItEnds (R : Option It) (e : Ending) : Prop :=
  match R with
  | some u => e = .returned (.tuple #[.agg u.cells.toArray, .int .i64 0])
  | none => e = .returned (.tuple #[.agg It.zero.cells.toArray, .int .i64 6])
theorem three_of {α : Type} {l : List α} (h : l.length = 3) : ∃ a b c, l = [a, b, c] := by
  match l, h with
  | [a, b, c], _ => exact ⟨a, b, c, rfl⟩
theorem nums_len {n : Nat} {l : List No.T8} {ns : List Int} (h : No.nums n l = some ns) : ns.length = n ∧ n ≤ l.length ∧ ∀ x ∈ ns, Tx.fits x := by
  rw [No.nums_raw] at h
  obtain ⟨m, hm, h2⟩ := Option.bind_eq_some_iff.1 h
  split at h2
  · simp only [Option.some.injEq] at h2
    subst h2
    obtain ⟨h3, h4, h5⟩ := No.raw_len n l m hm
    exact ⟨h3, h4, fun x hx => ⟨by have := h5 x hx; omega, (h5 x hx).2⟩⟩
  · cases h2
theorem listAll_few {s : List UInt8} {l : List (List UInt8)} (h : Tx.listAll s = some l) : l.length ≤ 1024 := by
  have h1 := Tx.listE_listAll h
  unfold Oct.listE at h1
  split at h1
  · simp at h1
  · next hh => omega
set_option maxRecDepth 20000 in
set_option maxHeartbeats 1600000 in
theorem readItem_any (s : ByteArray) (w : World) (hs : s.size ≤ 9223372036854775807) :
    Calls Tryd.prog 51 #[.string s] w fun e w' => ItEnds (It.read s.data.toList) e ∧ Below w.heap.size w w' := by
  have HZL := Lib.hid (It.cells_len It.zero)
  have HZ1 := Lib.hid (It.cells_one It.zero)
  have FD := Lib.hid (fun W => fields_any s W hs)
  obtain ⟨R, hR⟩ : ∃ R, R = It.read s.data.toList := ⟨_, rfl⟩
  rw [← hR]
  have Hr0 := Lib.hid (Row.new w 59 It.zero.cells)
  have Hb0 := Lib.hid ((Below.refl w.heap.size w).alloc (Nat.le_refl _) (.cells It.zero.cells.toArray 59))
  cases hL : Tx.listAll s.data.toList with
  | none =>
    have HRn := Lib.hid (hR.trans (It.read_none hL))
    rw [hL] at FD
    clear hR hL
    go_enter Tryd.func51, Tryd.ntmps51
    go_wp2_with fail
    refine calls_named ?_
    intro w1 hw1
    have hr1 : Row w1 w.heap.size 59 It.zero.cells := by rw [hw1]; exact Hr0.out
    have hb1 : Below w.heap.size w w1 := by rw [hw1]; exact Hb0.out
    clear hw1 Hr0 Hb0
    refine (FD.out w1).mono ?_
    rintro _ w2 ⟨⟨v, rfl⟩, hb2⟩
    have Hrz2 := Lib.hid (hr1.kept (grownBy_of_below hb2 none) (by simp))
    have Hb2 := Lib.hid (two_below' hb1 hb2)
    clear hr1 hb1 hb2
    go_wp2_with (first
      | (with_reducible show wpList _ _ _ (⟨_, .build 59 _, _, _, _, _⟩ :: _) _ _; refine wpList_buildL rfl 59 [] rfl (some 15) rfl _ rfl _ It.zero_built0 ?_)
      | (with_reducible show wpList _ _ _ (⟨_, .store 59 _ _, _, _, _, _⟩ :: _) _ _
         refine wpList_store_at rfl 59 (.tmp 2) (.tmp 15) rfl (w.heap.size) 0 It.zero.cells _ _ rfl rfl Hrz2.out (by have := HZL.out; omega) (by rw [item_info, HZL.out]) HZ1.out ?_
         intro wZ hrZ hgZ
         rw [splice_all rfl] at hrZ
         have HrZ := Lib.hid hrZ
         have HbZ := Lib.hid (below_own Hb2.out hgZ (fun k hk => by cases hk; exact Nat.le_refl _))
         clear hrZ hgZ))
    refine bodyPost_ret (results_rowL rfl _ _ (w.heap.size) 59 _ _ rfl HrZ.out Tryd.underlying59 rfl (by rw [item_info, List.size_toArray, HZL.out]) _ rfl) rfl ⟨?_, HbZ.out⟩
    rw [HRn.out]
    exact rfl
  | some l =>
    have HRe := Lib.hid (hR.trans (It.read_eq hL))
    have hlx := Tx.listAll_text hL
    have hlf := listAll_few hL
    rw [hL] at FD
    have Hlx := Lib.hid hlx
    clear hR hL hlx
    go_enter Tryd.func51, Tryd.ntmps51
    go_wp2_with fail
    refine calls_named ?_
    intro w1 hw1
    have hr1 : Row w1 w.heap.size 59 It.zero.cells := by rw [hw1]; exact Hr0.out
    have hb1 : Below w.heap.size w w1 := by rw [hw1]; exact Hb0.out
    clear hw1 Hr0 Hb0
    refine (FD.out w1).mono ?_
    rintro _ w2 ⟨⟨v, rfl, hT⟩, hb2⟩
    obtain ⟨A, c, rfl, hlc, hTx⟩ := hT
    have hrz2 := hr1.kept (grownBy_of_below hb2 none) (by simp)
    have Hb2 := Lib.hid (two_below' hb1 hb2)
    have Hrz2 := Lib.hid hrz2
    have hzg : w.heap.size < w2.heap.size := hrz2.lt
    have HTx := Lib.hid hTx
    clear hr1 hb1 hb2 hrz2 hTx
    obtain ⟨m, hm⟩ : ∃ m, m = l.length := ⟨_, rfl⟩
    rw [← hm] at hlf hlc ⊢
    have HM := Lib.hid hm
    clear hm
    go_wp2_with fail
    refine calls_named ?_
    intro w3 hw3
    obtain ⟨rp3, hb3, rg3⟩ := row_two w2 It.zero.cells.toArray (No.ptrs w2.heap.size 3).toArray 59 104
    have hx3 : w3 = (w2.alloc (.cells It.zero.cells.toArray 59)).alloc (.cells (No.ptrs w2.heap.size 3).toArray 104) := hw3
    have hp3 : Row w3 (w2.heap.size + 1) 104 (No.ptrs w2.heap.size 3) := by rw [hx3]; exact rp3
    have hg3 : Row w3 w2.heap.size 59 It.zero.cells := by rw [hx3]; exact rg3
    have hbb3 : Below w2.heap.size w2 w3 := by rw [hx3]; exact hb3
    have htx3 : Texts w3 w2.heap.size A l := fun hne => by
      obtain ⟨b, off, h1, h2, h3⟩ := HTx.out hne
      exact ⟨b, off, h1, h2, fun i hi => (grownBy_of_below hbb3 none).cell (h3 i hi) (by simp)⟩
    have Hrz3 := Lib.hid (Hrz2.out.kept (grownBy_of_below hbb3 none) (by simp))
    have Hb3 := Lib.hid (two_below' Hb2.out hbb3)
    have NR := noRead_any l A c 3 It.zero.cells 59 w3 w2.heap.size (w2.heap.size + 1) 3 Hlx.out (by rw [← HM.out]; omega) (by rw [← HM.out]; exact hlc) htx3 hg3 hp3 (by omega) (by rw [It.cells_len]; omega) (by omega) (by omega)
    rw [← HM.out] at NR
    have HNR := Lib.hid NR
    clear rp3 hb3 rg3 hx3 hw3 hp3 hg3 hbb3 htx3 NR
    obtain ⟨g, hg⟩ : ∃ g, g = w2.heap.size := ⟨_, rfl⟩
    rw [← hg] at HNR hzg
    simp only [← hg]
    clear hg HTx
    refine HNR.out.mono ?_
    rintro _ w4 ⟨hN, hb4⟩
    have Hrz4 := Lib.hid (no_row_below Hrz3.out hb4 hzg)
    have Hb4 := Lib.hid (Hb3.out.trans (hb4.mono (Nat.le_of_lt hzg)))
    clear hb4 HNR
    cases hF : No.nums 3 l with
    | none =>
      rw [hF] at hN
      obtain ⟨v, rfl⟩ := hN
      have hRn : R = none := by rw [HRe.out, hF]; rfl
      have HRn := Lib.hid hRn
      clear hRn hF
      go_wp2_with (first
        | (with_reducible show wpList _ _ _ (⟨_, .build 59 _, _, _, _, _⟩ :: _) _ _; refine wpList_buildL rfl 59 [] rfl (some 32) rfl _ rfl _ It.zero_built0 ?_)
        | (with_reducible show wpList _ _ _ (⟨_, .store 59 _ _, _, _, _, _⟩ :: _) _ _
           refine wpList_store_at rfl 59 (.tmp 2) (.tmp 32) rfl (w.heap.size) 0 It.zero.cells _ _ rfl rfl Hrz4.out (by have := HZL.out; omega) (by rw [item_info, HZL.out]) HZ1.out ?_
           intro wZ hrZ hgZ
           rw [splice_all rfl] at hrZ
           have HrZ := Lib.hid hrZ
           have HbZ := Lib.hid (below_own Hb4.out hgZ (fun k hk => by cases hk; exact Nat.le_refl _))
           clear hrZ hgZ))
      refine bodyPost_ret (results_rowL rfl _ _ (w.heap.size) 59 _ _ rfl HrZ.out Tryd.underlying59 rfl (by rw [item_info, List.size_toArray, HZL.out]) _ rfl) rfl ⟨?_, HbZ.out⟩
      rw [HRn.out]
      exact rfl
    | some ns =>
      rw [hF] at hN
      obtain ⟨A', c', rfl, hc', hT', hr4⟩ := hN
      obtain ⟨hn3, hml, hfit⟩ := nums_len hF
      obtain ⟨a, b, d, rfl⟩ := three_of hn3
      have hRe : R = It.of [a, b, d] (l.drop 3) := by rw [HRe.out, hF]; rfl
      have HRs := Lib.hid hRe
      have Hr4 := Lib.hid hr4
      have HT' := Lib.hid hT'
      have hml2 : l.length - 3 = m - 3 := by rw [← HM.out]
      rw [hml2] at hc' ⊢
      have hm3 : 3 ≤ m := by have := HM.out; omega
      clear hr4 hRe hF hfit hn3 hT' hml hml2
      by_cases h1 : m - 3 = 1
      · obtain ⟨t, ht⟩ : ∃ t, l.drop 3 = [t] := List.length_eq_one_iff.1 (by rw [List.length_drop, ← HM.out]; exact h1)
        obtain ⟨bb, off, rfl, hbg, hcx⟩ := HT'.out (by rw [ht]; simp)
        have hcx0 := hcx 0 (by rw [ht]; simp)
        have ht0 : (l.drop 3)[0]'(by rw [ht]; simp) = t := by simp [ht]
        rw [ht0, Nat.add_zero] at hcx0
        have hRo : R = if (It.mk a b d ⟨t.toArray⟩).ok = true then some ⟨a, b, d, ⟨t.toArray⟩⟩ else none := by rw [HRs.out, ht]; rfl
        obtain ⟨u, hu⟩ : ∃ u : It, u = ⟨a, b, d, ⟨t.toArray⟩⟩ := ⟨_, rfl⟩
        have hr5 : Row (w4.setCell ⟨g, 3, none⟩ (S t)) g 59 u.cells := by
          rw [hu]
          exact Hr4.out.set 3 (S t) (by simp [Is, It.cells])
        have c3 := Hr4.out.cell 3 (by simp [Is, It.cells])
        have f3 := Hr4.out.free 3
        have Hrz5 := Lib.hid (Hrz4.out.kept (grownBy_set w4 g 3 (S t)) (by simp; omega))
        have Hb5 := Lib.hid (below_own Hb4.out (grownBy_set w4 g 3 (S t)) (fun k hk => by cases hk; omega))
        have Hr5 := Lib.hid hr5
        have MB : Hid (∀ W, Calls Tryd.prog 85 #[.agg u.cells.toArray] W fun e w' => e = .returned (.bool u.ok) ∧ Below W.heap.size W w') := fun W => by
          rw [hu]
          exact itemMayBe_any a b d ⟨t.toArray⟩ W
        rw [← hu] at hRo
        have HRo := Lib.hid hRo
        have HUL := Lib.hid (It.cells_len u)
        have HU1 := Lib.hid (It.cells_one u)
        generalize (Is [a, b, d] ++ List.drop 3 It.zero.cells)[3]'(by simp [Is, It.cells]) = ov at c3
        have hm1i : ((m - 3 : Nat) : Int) = 1 := by omega
        rw [h1] at hc' ⊢
        clear hr5 hu hRo ht ht0 hcx HT' HRs h1 Hr4
        rcases Bool.eq_false_or_eq_true u.ok with hk | hk
        · rw [hk] at MB
          have hRs : R = some u := by rw [HRo.out, if_pos hk]
          have HRs := Lib.hid hRs
          clear hRs hk
          go_wp2_with (with_reducible show wpList _ _ _ (⟨_, .load 59 _, _, _, _, _⟩ :: _) _ _; refine wpList_load_tx rfl 59 (.tmp 6) rfl g 0 rfl u.cells _ (row_range Hr5.out) Tryd.underlying59 rfl (by rw [item_info, HUL.out]) ?_)
          refine (MB.out _).mono ?_
          rintro _ w6 ⟨rfl, hb6⟩
          have hg6 := grownBy_of_below hb6 none
          have Hr6 := Lib.hid (Hr5.out.kept hg6 (by simp))
          have Hrz6 := Lib.hid (Hrz5.out.kept hg6 (by simp))
          have Hb6 := Lib.hid (below_own Hb5.out hg6 (fun k hk => by cases hk))
          clear hb6 hg6
          go_wp2_with (first
            | (with_reducible show wpList _ _ _ (⟨_, .load 59 _, _, _, _, _⟩ :: _) _ _; refine wpList_load_tx rfl 59 (.tmp 6) rfl g 0 rfl u.cells _ (row_range Hr6.out) Tryd.underlying59 rfl (by rw [item_info, HUL.out]) ?_)
            | (with_reducible show wpList _ _ _ (⟨_, .store 59 _ _, _, _, _, _⟩ :: _) _ _
               refine wpList_store_at rfl 59 (.tmp 2) (.tmp 41) rfl (w.heap.size) 0 u.cells _ _ rfl rfl Hrz6.out (by have := HZL.out; have := HUL.out; omega) (by rw [item_info, HUL.out]) HU1.out ?_
               intro wZ hrZ hgZ
               rw [splice_all (HUL.out.trans HZL.out.symm)] at hrZ
               have HrZ := Lib.hid hrZ
               have HbZ := Lib.hid (below_own Hb6.out hgZ (fun k hk => by cases hk; exact Nat.le_refl _))
               clear hrZ hgZ))
          refine bodyPost_ret (results_rowL rfl _ _ (w.heap.size) 59 _ _ rfl HrZ.out Tryd.underlying59 rfl (by rw [item_info, List.size_toArray, HUL.out]) _ rfl) rfl ⟨?_, HbZ.out⟩
          rw [HRs.out]
          exact rfl
        · rw [hk] at MB
          have hRn : R = none := by rw [HRo.out, if_neg (by rw [hk]; simp)]
          have HRn := Lib.hid hRn
          clear hRn hk
          go_wp2_with (with_reducible show wpList _ _ _ (⟨_, .load 59 _, _, _, _, _⟩ :: _) _ _; refine wpList_load_tx rfl 59 (.tmp 6) rfl g 0 rfl u.cells _ (row_range Hr5.out) Tryd.underlying59 rfl (by rw [item_info, HUL.out]) ?_)
          refine (MB.out _).mono ?_
          rintro _ w6 ⟨rfl, hb6⟩
          have hg6 := grownBy_of_below hb6 none
          have Hrz6 := Lib.hid (Hrz5.out.kept hg6 (by simp))
          have Hb6 := Lib.hid (below_own Hb5.out hg6 (fun k hk => by cases hk))
          clear hb6 hg6
          go_wp2_with (first
            | (with_reducible show wpList _ _ _ (⟨_, .build 59 _, _, _, _, _⟩ :: _) _ _; refine wpList_buildL rfl 59 [] rfl (some 40) rfl _ rfl _ It.zero_built0 ?_)
            | (with_reducible show wpList _ _ _ (⟨_, .store 59 _ _, _, _, _, _⟩ :: _) _ _
               refine wpList_store_at rfl 59 (.tmp 2) (.tmp 40) rfl (w.heap.size) 0 It.zero.cells _ _ rfl rfl Hrz6.out (by have := HZL.out; omega) (by rw [item_info, HZL.out]) HZ1.out ?_
               intro wZ hrZ hgZ
               rw [splice_all rfl] at hrZ
               have HrZ := Lib.hid hrZ
               have HbZ := Lib.hid (below_own Hb6.out hgZ (fun k hk => by cases hk; exact Nat.le_refl _))
               clear hrZ hgZ))
          refine bodyPost_ret (results_rowL rfl _ _ (w.heap.size) 59 _ _ rfl HrZ.out Tryd.underlying59 rfl (by rw [item_info, List.size_toArray, HZL.out]) _ rfl) rfl ⟨?_, HbZ.out⟩
          rw [HRn.out]
          exact rfl
      · have hRn : R = none := by rw [HRs.out, It.of_len (by rw [List.length_drop, ← HM.out]; exact h1)]
        have HRn := Lib.hid hRn
        have hm1i : (((m - 3 : Nat) : Int) != 1) = true := by simp; omega
        clear hRn h1
        go_wp2_with (first
          | (with_reducible show wpList _ _ _ (⟨_, .build 59 _, _, _, _, _⟩ :: _) _ _; refine wpList_buildL rfl 59 [] rfl (some 32) rfl _ rfl _ It.zero_built0 ?_)
          | (with_reducible show wpList _ _ _ (⟨_, .store 59 _ _, _, _, _, _⟩ :: _) _ _
             refine wpList_store_at rfl 59 (.tmp 2) (.tmp 32) rfl (w.heap.size) 0 It.zero.cells _ _ rfl rfl Hrz4.out (by have := HZL.out; omega) (by rw [item_info, HZL.out]) HZ1.out ?_
             intro wZ hrZ hgZ
             rw [splice_all rfl] at hrZ
             have HrZ := Lib.hid hrZ
             have HbZ := Lib.hid (below_own Hb4.out hgZ (fun k hk => by cases hk; exact Nat.le_refl _))
             clear hrZ hgZ))
        refine bodyPost_ret (results_rowL rfl _ _ (w.heap.size) 59 _ _ rfl HrZ.out Tryd.underlying59 rfl (by rw [item_info, List.size_toArray, HZL.out]) _ rfl) rfl ⟨?_, HbZ.out⟩
        rw [HRn.out]
        exact rfl
end Go.Proofs.YtdekcicgiflnbaaDoor
