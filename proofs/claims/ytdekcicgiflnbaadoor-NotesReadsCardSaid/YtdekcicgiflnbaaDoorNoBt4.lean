/- notes: ReadBatch. -/
import Derived.Test.YtdekcicgiflnbaaDoorNoBt3
namespace Go.Proofs.YtdekcicgiflnbaaDoor
open Go.RowKit
set_option linter.unusedVariables false
set_option linter.unusedSimpArgs false

/-- parts in memory, not below lo -/
def PartsFrom (w : World) (lo : Nat) (A : Option Addr) (P : List Pt) : Prop :=
  P ≠ [] → ∃ b off, A = some ⟨b, off, none⟩ ∧ lo ≤ b ∧ b < w.heap.size ∧ ∀ i (h : i < P.length), w.cell? ⟨b, off + i * 2, none⟩ = some (.bool (P[i]).1) ∧ w.cell? ⟨b, off + i * 2 + 1, none⟩ = some (S (P[i]).2)
theorem PartsFrom.grown {w w' : World} {lo : Nat} {A : Option Addr} {P : List Pt} {r : Option Nat} (h : PartsFrom w lo A P) (hg : w.grownBy w' r) (hr : ∀ k, r = some k → k < lo) : PartsFrom w' lo A P := fun hne => by
  obtain ⟨b, off, h1, h2, h3, h4⟩ := h hne
  have hne : some b ≠ r := fun e => by have := hr b e.symm; omega
  exact ⟨b, off, h1, h2, Nat.lt_of_lt_of_le h3 hg.size, fun i hi => ⟨hg.cell (h4 i hi).1 hne, hg.cell (h4 i hi).2 hne⟩⟩
theorem PartsFrom.mono {w : World} {lo lo' : Nat} {A : Option Addr} {P : List Pt} (h : PartsFrom w lo A P) (hl : lo' ≤ lo) : PartsFrom w lo' A P := fun hne => by
  obtain ⟨b, off, h1, h2, h3, h4⟩ := h hne
  exact ⟨b, off, h1, by omega, h3, h4⟩
theorem PartsFrom.at {w : World} {lo : Nat} {A : Option Addr} {P : List Pt} (h : PartsFrom w lo A P) : PartsAt w w.heap.size A P := fun hne => by
  obtain ⟨b, off, h1, h2, h3, h4⟩ := h hne
  exact ⟨b, off, h1, h3, h4⟩
namespace Pt
theorem flat_len (l : List Pt) : (flat l).length = l.length * 2 := by
  induction l with
  | nil => rfl
  | cons p l ih =>
    have e : flat (p :: l) = [.bool p.1, S p.2] ++ flat l := rfl
    rw [e, List.length_append, ih, List.length_cons]
    simp only [List.length_cons, List.length_nil]
    omega
theorem flat_at (l : List Pt) (i : Nat) (h : i < l.length) : (flat l)[i * 2]? = some (.bool (l[i]).1) ∧ (flat l)[i * 2 + 1]? = some (S (l[i]).2) := by
  induction l generalizing i with
  | nil => simp at h
  | cons p l ih =>
    have e : flat (p :: l) = [.bool p.1, S p.2] ++ flat l := rfl
    rw [e]
    cases i with
    | zero => simp
    | succ i =>
      have h2 := ih i (by simpa using h)
      rw [List.getElem?_append_right (by simp; omega), List.getElem?_append_right (by simp; omega)]
      simp only [List.length_cons, List.length_nil, List.getElem_cons_succ]
      rw [show (i + 1) * 2 - (0 + 1 + 1) = i * 2 by omega, show (i + 1) * 2 + 1 - (0 + 1 + 1) = i * 2 + 1 by omega]
      exact h2
end Pt
theorem parts_owned {W : World} {base n c : Nat} {A : Option Addr} {P : List Pt} (h : W.ownsRow base 98 2 (.slice A n c) P.length (Pt.flat P)) : PartsFrom W base A P ∧ n = P.length ∧ P.length ≤ c := by
  have hlt := h.lt
  have hcs := fun g (hg : (Value.slice A n c).ownBlock = some g) => h.cells hg
  rcases h.2 with ⟨he, hx⟩ | ⟨g, cap, cur, he, _, hh, hnc, _⟩
  · injection he with h1 h2 h3
    subst h1 h2 h3
    have : P = [] := List.length_eq_zero_iff.1 hx
    subst this
    exact ⟨fun h => absurd rfl h, rfl, Nat.le_refl _⟩
  · injection he with h1 h2 h3
    subst h1 h2 h3
    refine ⟨fun _ => ⟨g, 0, rfl, (hlt g rfl).1, (hlt g rfl).2, fun i hi => ?_⟩, rfl, hnc⟩
    obtain ⟨f1, f2⟩ := Pt.flat_at P i hi
    have e : ∀ j, (⟨g, 0, none⟩ : Addr).add j = ⟨g, 0 + j, none⟩ := fun j => by unfold Addr.add; split <;> simp_all
    have k1 := hcs g rfl (i * 2) _ f1
    have k2 := hcs g rfl (i * 2 + 1) _ f2
    rw [e] at k1 k2
    exact ⟨k1, by rw [show 0 + i * 2 + 1 = 0 + (i * 2 + 1) by omega]; exact k2⟩
def Bt.zeroC : List Value := Bt.zero.cells none 0
theorem Bt.zeroC_built0 : Tryd.prog.built 55 [] = some Bt.zeroC.toArray := by kernel_rfl
def BtEnds (R : Option Bt) (lo : Nat) (e : Ending) (w' : World) : Prop :=
  match R with
  | some u => ∃ A c, e = .returned (.tuple #[.agg (u.cells A c).toArray, .int .i64 0]) ∧ PartsFrom w' lo A u.parts ∧ u.parts.length ≤ c
  | none => e = .returned (.tuple #[.agg Bt.zeroC.toArray, .int .i64 6])
namespace Bt
theorem read_none {s : No.T8} (h : Tx.listAll s = none) : read s = none := by unfold read; rw [h]; rfl
theorem of_ok {ns : List Int} {rest : List No.T8} {b : Bt} (h : of ns rest = some b) : b.ok = true ∧ ns = [b.seq, b.first, b.before] ∧ Pt.all rest = some b.parts := by
  unfold of at h
  split at h
  · next hd =>
    split at h
    · next hk =>
      simp only [Option.some.injEq] at h
      subst h
      exact ⟨hk, rfl, hd⟩
    · cases h
  · cases h
theorem ok_num {b : Bt} (h : b.ok = true) : Tx.num b.seq = true ∧ Tx.num b.first = true ∧ Tx.num b.before = true := by
  rw [ok_iff] at h
  rw [No.num_iff, No.num_iff, No.num_iff]
  exact h.1
theorem read_eq {s : No.T8} {l : List No.T8} (h : Tx.listAll s = some l) : read s = (No.nums 3 l).bind fun ns => of ns (l.drop 3) := by
  unfold read
  rw [h, No.nums_raw]
  simp only [Option.bind_some]
  cases hr : No.raw 3 l with
  | none => rfl
  | some ns =>
    simp only [Option.bind_some]
    by_cases ha : ns.all Tx.num = true
    · rw [if_pos ha]; rfl
    · rw [if_neg ha]
      cases ho : of ns (l.drop 3) with
      | none => rfl
      | some i =>
        obtain ⟨h1, h2, _⟩ := of_ok ho
        have := ok_num h1
        exact absurd (by rw [h2]; simp [this]) ha
theorem of_no {ns : List Int} {rest : List No.T8} (h : Pt.all rest = none) : of ns rest = none := by
  cases ho : of ns rest with
  | none => rfl
  | some b => rw [(of_ok ho).2.2] at h; cases h
theorem of_yes {a b c : Int} {rest : List No.T8} {ps : List Pt} (h : Pt.all rest = some ps) : of [a, b, c] rest = if (Bt.mk a b c ps).ok = true then some ⟨a, b, c, ps⟩ else none := by
  unfold of
  rw [h]
end Bt
set_option maxRecDepth 20000 in
set_option maxHeartbeats 1600000 in
theorem readBatch_any (s : ByteArray) (w : World) (hs : s.size ≤ 9223372036854775807) :
    Calls Tryd.prog 49 #[.string s] w fun e w' => BtEnds (Bt.read s.data.toList) w.heap.size e w' ∧ Below w.heap.size w w' := by
  have HZL : Hid (Bt.zeroC.length = 4) := (rfl : Bt.zeroC.length = 4)
  have HZ1 : Hid (∀ v ∈ Bt.zeroC, v.oneCell' = true) := Lib.hid (Bt.cells_one Bt.zero none 0)
  have FD := Lib.hid (fun W => fields_any s W hs)
  obtain ⟨R, hR⟩ : ∃ R, R = Bt.read s.data.toList := ⟨_, rfl⟩
  rw [← hR]
  have hzv : ∀ W : World, (zeroValue 55).run Tryd.prog W = .ok (.agg Bt.zeroC.toArray) W := fun W => by kernel_rfl
  have Hr0 := Lib.hid (Row.new w 55 Bt.zeroC)
  have Hb0 := Lib.hid ((Below.refl w.heap.size w).alloc (Nat.le_refl _) (.cells Bt.zeroC.toArray 55))
  have Hzd : Hid (Bt.zeroC.drop 3 = [.slice none 0 0]) := (rfl : Bt.zeroC.drop 3 = [.slice none 0 0])
  generalize hzz : Bt.zeroC = ZC at *
  have Hzz := Lib.hid hzz
  clear hzz
  cases hL : Tx.listAll s.data.toList with
  | none =>
    have HRn := Lib.hid (hR.trans (Bt.read_none hL))
    rw [hL] at FD
    clear hR hL
    go_enter Tryd.func49, Tryd.ntmps49
    go_wp2_with fail
    refine calls_named ?_
    intro w1 hw1
    have hr1 : Row w1 w.heap.size 55 ZC := by rw [hw1]; exact Hr0.out
    have hb1 : Below w.heap.size w w1 := by rw [hw1]; exact Hb0.out
    clear hw1 Hr0 Hb0 hzv
    refine (FD.out w1).mono ?_
    rintro _ w2 ⟨⟨v, rfl⟩, hb2⟩
    have Hrz2 := Lib.hid (hr1.kept (grownBy_of_below hb2 none) (by simp))
    have Hb2 := Lib.hid (two_below' hb1 hb2)
    clear hr1 hb1 hb2
    go_wp2_with (first
      | ((with_reducible show wpList _ _ _ (⟨_, .build 55 _, _, _, _, _⟩ :: _) _ _); refine wpList_buildL rfl 55 [] rfl (some 15) rfl _ rfl ZC.toArray (by rw [← Hzz.out]; exact Bt.zeroC_built0) ?_)
      | (with_reducible show wpList _ _ _ (⟨_, .store 55 _ _, _, _, _, _⟩ :: _) _ _
         refine wpList_store_at rfl 55 (.tmp 2) (.tmp 15) rfl (w.heap.size) 0 ZC _ _ rfl rfl Hrz2.out (by have := HZL.out; omega) (by rw [batch_info, HZL.out]) HZ1.out ?_
         intro wZ hrZ hgZ
         rw [splice_all rfl] at hrZ
         have HrZ := Lib.hid hrZ
         have HbZ := Lib.hid (below_own Hb2.out hgZ (fun k hk => by cases hk; exact Nat.le_refl _))
         clear hrZ hgZ))
    refine bodyPost_ret (results_rowL rfl _ _ (w.heap.size) 55 _ _ rfl HrZ.out Tryd.underlying55 rfl (by rw [batch_info, List.size_toArray, HZL.out]) _ rfl) rfl ⟨?_, HbZ.out⟩
    rw [HRn.out]
    exact congrArg (fun Z : List Value => Ending.returned (.tuple #[.agg Z.toArray, .int .i64 6])) Hzz.out.symm
  | some l =>
    have HRe := Lib.hid (hR.trans (Bt.read_eq hL))
    have hlx := Tx.listAll_text hL
    have hlf := listAll_few hL
    rw [hL] at FD
    have Hlx := Lib.hid hlx
    clear hR hL hlx
    go_enter Tryd.func49, Tryd.ntmps49
    go_wp2_with fail
    refine calls_named ?_
    intro w1 hw1
    have hr1 : Row w1 w.heap.size 55 ZC := by rw [hw1]; exact Hr0.out
    have hb1 : Below w.heap.size w w1 := by rw [hw1]; exact Hb0.out
    clear hw1 Hr0 Hb0
    refine (FD.out w1).mono ?_
    rintro _ w2 ⟨⟨v, rfl, hT⟩, hb2⟩
    obtain ⟨A, c, rfl, hlc, hTx⟩ := hT
    have hrz2 := hr1.kept (grownBy_of_below hb2 none) (by simp)
    have Hb2 := Lib.hid (two_below' hb1 hb2)
    have Hrz2 := Lib.hid hrz2
    have hzg : w.heap.size < w2.heap.size := hrz2.lt
    have HTx := Lib.hid hTx
    clear hr1 hb1 hb2 hrz2 hTx
    obtain ⟨m, hm⟩ : ∃ m, m = l.length := ⟨_, rfl⟩
    rw [← hm] at hlf hlc ⊢
    have HM := Lib.hid hm
    clear hm
    go_wp2_with fail
    refine calls_named ?_
    intro w3 hw3
    obtain ⟨rp3, hb3, rg3⟩ := row_two w2 ZC.toArray (No.ptrs w2.heap.size 3).toArray 55 104
    have hx3 : w3 = (w2.alloc (.cells ZC.toArray 55)).alloc (.cells (No.ptrs w2.heap.size 3).toArray 104) := hw3
    have hp3 : Row w3 (w2.heap.size + 1) 104 (No.ptrs w2.heap.size 3) := by rw [hx3]; exact rp3
    have hg3 : Row w3 w2.heap.size 55 ZC := by rw [hx3]; exact rg3
    have hbb3 : Below w2.heap.size w2 w3 := by rw [hx3]; exact hb3
    have htx3 : Texts w3 w2.heap.size A l := fun hne => by
      obtain ⟨b, off, h1, h2, h3⟩ := HTx.out hne
      exact ⟨b, off, h1, h2, fun i hi => (grownBy_of_below hbb3 none).cell (h3 i hi) (by simp)⟩
    have Hrz3 := Lib.hid (Hrz2.out.kept (grownBy_of_below hbb3 none) (by simp))
    have Hb3 := Lib.hid (two_below' Hb2.out hbb3)
    have NR := noRead_any l A c 3 ZC 55 w3 w2.heap.size (w2.heap.size + 1) 3 Hlx.out (by rw [← HM.out]; omega) (by rw [← HM.out]; exact hlc) htx3 hg3 hp3 (by omega) (by rw [HZL.out]; omega) (by omega) (by omega)
    rw [← HM.out] at NR
    have HNR := Lib.hid NR
    have hz3 : w2.heap.size + 1 < w3.heap.size := hp3.lt
    clear rp3 hb3 rg3 hx3 hw3 hp3 hg3 hbb3 htx3 NR
    obtain ⟨g, hg⟩ : ∃ g, g = w2.heap.size := ⟨_, rfl⟩
    rw [← hg] at HNR hzg hz3
    simp only [← hg]
    clear hg HTx hzv
    refine HNR.out.mono ?_
    rintro _ w4 ⟨hN, hb4⟩
    have hg4 : g < w4.heap.size := by have := hb4.size; omega
    have Hrz4 := Lib.hid (no_row_below Hrz3.out hb4 hzg)
    have Hb4 := Lib.hid (Hb3.out.trans (hb4.mono (Nat.le_of_lt hzg)))
    clear hb4 HNR
    cases hF : No.nums 3 l with
    | none =>
      rw [hF] at hN
      obtain ⟨v, rfl⟩ := hN
      have hRn : R = none := by rw [HRe.out, hF]; rfl
      have HRn := Lib.hid hRn
      clear hRn hF
      go_wp2_with (first
        | ((with_reducible show wpList _ _ _ (⟨_, .build 55 _, _, _, _, _⟩ :: _) _ _); refine wpList_buildL rfl 55 [] rfl (some 27) rfl _ rfl ZC.toArray (by rw [← Hzz.out]; exact Bt.zeroC_built0) ?_)
        | (with_reducible show wpList _ _ _ (⟨_, .store 55 _ _, _, _, _, _⟩ :: _) _ _
           refine wpList_store_at rfl 55 (.tmp 2) (.tmp 27) rfl (w.heap.size) 0 ZC _ _ rfl rfl Hrz4.out (by have := HZL.out; omega) (by rw [batch_info, HZL.out]) HZ1.out ?_
           intro wZ hrZ hgZ
           rw [splice_all rfl] at hrZ
           have HrZ := Lib.hid hrZ
           have HbZ := Lib.hid (below_own Hb4.out hgZ (fun k hk => by cases hk; exact Nat.le_refl _))
           clear hrZ hgZ))
      refine bodyPost_ret (results_rowL rfl _ _ (w.heap.size) 55 _ _ rfl HrZ.out Tryd.underlying55 rfl (by rw [batch_info, List.size_toArray, HZL.out]) _ rfl) rfl ⟨?_, HbZ.out⟩
      rw [HRn.out]
      exact congrArg (fun Z : List Value => Ending.returned (.tuple #[.agg Z.toArray, .int .i64 6])) Hzz.out.symm
    | some ns =>
      rw [hF] at hN
      obtain ⟨A', c', rfl, hc', hT', hr4⟩ := hN
      obtain ⟨hn3, hml, hfit⟩ := nums_len hF
      obtain ⟨a, b, d, rfl⟩ := three_of hn3
      have hRe : R = Bt.of [a, b, d] (l.drop 3) := by rw [HRe.out, hF]; rfl
      have HRs := Lib.hid hRe
      have hml3 : l.length - 3 = m - 3 := by rw [← HM.out]
      have hmm : (l.drop 3).length = m - 3 := by rw [List.length_drop, ← HM.out]
      have RP := readParts_any (l.drop 3) A' c' w4 (fun x hx => Hlx.out x (List.mem_of_mem_drop hx)) (by rw [hmm]; omega) (fun hne => by
        obtain ⟨b, off, h1, h2, h3⟩ := hT' hne
        exact ⟨b, off, h1, by omega, h3⟩)
      rw [hmm] at RP
      have HRP := Lib.hid RP
      rw [Hzd.out] at hr4
      have Hr4 := Lib.hid hr4
      rw [hml3] at hc' ⊢
      clear hr4 hRe hF hfit hn3 hT' hml RP hml3
      obtain ⟨m3, hm3⟩ : ∃ x, x = m - 3 := ⟨_, rfl⟩
      rw [← hm3] at HRP ⊢
      clear hm3
      go_wp2_with fail
      refine HRP.out.mono ?_
      rintro _ w5 ⟨hH, hb5⟩
      have hg5 := grownBy_of_below hb5 none
      have Hrz5 := Lib.hid (Hrz4.out.kept hg5 (by simp))
      have hr5 := Hr4.out.kept hg5 (by simp)
      have Hb5 := Lib.hid (two_below' Hb4.out hb5)
      have c3 := hr5.cell 3 (by simp [Is])
      have f3 := hr5.free 3
      have Hr5 := Lib.hid hr5
      generalize (Is [a, b, d] ++ [.slice none 0 0])[3]'(by simp [Is]) = ov at c3
      clear hr5 hb5 hg5 HRP
      cases hall : Pt.all (l.drop 3) with
      | none =>
        rw [hall] at hH
        obtain ⟨Av, nv, cv, rfl⟩ := hH
        have hRn : R = none := by rw [HRs.out, Bt.of_no hall]
        have HRn := Lib.hid hRn
        have Hrz6 := Lib.hid (Hrz5.out.kept (grownBy_set w5 g 3 (.slice Av nv cv)) (by simp; omega))
        have Hb6 := Lib.hid (below_own Hb5.out (grownBy_set w5 g 3 (.slice Av nv cv)) (fun k hk => by cases hk; omega))
        clear hRn hall
        go_wp2_with (first
          | ((with_reducible show wpList _ _ _ (⟨_, .build 55 _, _, _, _, _⟩ :: _) _ _); refine wpList_buildL rfl 55 [] rfl (some 41) rfl _ rfl ZC.toArray (by rw [← Hzz.out]; exact Bt.zeroC_built0) ?_)
          | (with_reducible show wpList _ _ _ (⟨_, .store 55 _ _, _, _, _, _⟩ :: _) _ _
             refine wpList_store_at rfl 55 (.tmp 2) (.tmp 41) rfl (w.heap.size) 0 ZC _ _ rfl rfl Hrz6.out (by have := HZL.out; omega) (by rw [batch_info, HZL.out]) HZ1.out ?_
             intro wZ hrZ hgZ
             rw [splice_all rfl] at hrZ
             have HrZ := Lib.hid hrZ
             have HbZ := Lib.hid (below_own Hb6.out hgZ (fun k hk => by cases hk; exact Nat.le_refl _))
             clear hrZ hgZ))
        refine bodyPost_ret (results_rowL rfl _ _ (w.heap.size) 55 _ _ rfl HrZ.out Tryd.underlying55 rfl (by rw [batch_info, List.size_toArray, HZL.out]) _ rfl) rfl ⟨?_, HbZ.out⟩
        rw [HRn.out]
        exact congrArg (fun Z : List Value => Ending.returned (.tuple #[.agg Z.toArray, .int .i64 6])) Hzz.out.symm
      | some ps =>
        rw [hall] at hH
        obtain ⟨Av, cv, rfl, hown⟩ := hH
        obtain ⟨hpf, _, hpc⟩ := parts_owned hown
        have hRo : R = if (Bt.mk a b d ps).ok = true then some ⟨a, b, d, ps⟩ else none := by rw [HRs.out, Bt.of_yes hall]
        obtain ⟨u, hu⟩ : ∃ u : Bt, u = ⟨a, b, d, ps⟩ := ⟨_, rfl⟩
        have hup : u.parts = ps := by rw [hu]
        have hr6 : Row (w5.setCell ⟨g, 3, none⟩ (.slice Av ps.length cv)) g 55 (u.cells Av cv) := by
          rw [hu]
          exact Hr5.out.set 3 (.slice Av ps.length cv) (by simp [Is])
        have hgs := grownBy_set w5 g 3 (.slice Av ps.length cv)
        have Hrz6 := Lib.hid (Hrz5.out.kept hgs (by simp; omega))
        have Hb6 := Lib.hid (below_own Hb5.out hgs (fun k hk => by cases hk; omega))
        have Hr6 := Lib.hid hr6
        have Hpf6 := Lib.hid (hpf.grown hgs (fun k hk => by cases hk; exact hg4))
        have hlt6 := hr6.lt
        rw [← hu] at hRo
        have HRo := Lib.hid hRo
        have HUL := Lib.hid (u.cells_len Av cv)
        have HU1 := Lib.hid (u.cells_one Av cv)
        have MB := batchMayBe_any u Av cv _ (by rw [hup]; exact Hpf6.out.at)
        have HMB := Lib.hid MB
        have Hpc : Hid (u.parts.length ≤ cv) := Lib.hid (by rw [hup]; exact hpc)
        have Hup := Lib.hid hup
        have Hpl := Lib.hid (show Value.slice Av ps.length cv = .slice Av u.parts.length cv by rw [hup])
        clear hr6 hRo hown hpf hpc hall HRs hgs MB hup hu
        obtain ⟨UC, hUC⟩ : ∃ UC, UC = u.cells Av cv := ⟨_, rfl⟩
        rw [← hUC] at Hr6 HUL HU1 HMB
        have HUC := Lib.hid hUC
        clear hUC
        rcases Bool.eq_false_or_eq_true u.ok with hk | hk
        · rw [hk] at HMB
          have hRs : R = some u := by rw [HRo.out, if_pos hk]
          have HRs := Lib.hid hRs
          clear hRs hk
          go_wp2_with (with_reducible show wpList _ _ _ (⟨_, .load 55 _, _, _, _, _⟩ :: _) _ _; refine wpList_load_tx rfl 55 (.tmp 6) rfl g 0 rfl UC _ (row_range Hr6.out) Tryd.underlying55 rfl (by rw [batch_info, HUL.out]) ?_)
          refine HMB.out.mono ?_
          rintro _ w7 ⟨rfl, hb7⟩
          have hg7 := grownBy_of_below hb7 none
          have Hr7 := Lib.hid (Hr6.out.kept hg7 (by simp))
          have Hrz7 := Lib.hid (Hrz6.out.kept hg7 (by simp))
          have Hb7 := Lib.hid (below_own Hb6.out hg7 (fun k hk => by cases hk))
          have Hpf7 := Lib.hid (Hpf6.out.grown hg7 (fun k hk => by cases hk))
          clear hb7 hg7
          go_wp2_with (first
            | (with_reducible show wpList _ _ _ (⟨_, .load 55 _, _, _, _, _⟩ :: _) _ _; refine wpList_load_tx rfl 55 (.tmp 6) rfl g 0 rfl UC _ (row_range Hr7.out) Tryd.underlying55 rfl (by rw [batch_info, HUL.out]) ?_)
            | (with_reducible show wpList _ _ _ (⟨_, .store 55 _ _, _, _, _, _⟩ :: _) _ _
               refine wpList_store_at rfl 55 (.tmp 2) (.tmp 42) rfl (w.heap.size) 0 UC _ _ rfl rfl Hrz7.out (by have := HZL.out; have := HUL.out; omega) (by rw [batch_info, HUL.out]) HU1.out ?_
               intro wZ hrZ hgZ
               rw [splice_all (HUL.out.trans HZL.out.symm)] at hrZ
               have HrZ := Lib.hid hrZ
               have HpZ := Lib.hid ((Hpf7.out.grown (r := some w.heap.size) hgZ (fun k hk => by cases hk; omega)).mono (Nat.le_of_lt (Nat.lt_trans hzg hg4)))
               have HbZ := Lib.hid (below_own Hb7.out hgZ (fun k hk => by cases hk; exact Nat.le_refl _))
               clear hrZ hgZ))
          refine bodyPost_ret (results_rowL rfl _ _ (w.heap.size) 55 _ _ rfl HrZ.out Tryd.underlying55 rfl (by rw [batch_info, List.size_toArray, HUL.out]) _ rfl) rfl ⟨?_, HbZ.out⟩
          rw [HRs.out]
          exact ⟨Av, cv, by rw [← HUC.out]; rfl, by rw [Hup.out]; exact HpZ.out, Hpc.out⟩
        · rw [hk] at HMB
          have hRn : R = none := by rw [HRo.out, if_neg (by rw [hk]; simp)]
          have HRn := Lib.hid hRn
          clear hRn hk
          go_wp2_with (with_reducible show wpList _ _ _ (⟨_, .load 55 _, _, _, _, _⟩ :: _) _ _; refine wpList_load_tx rfl 55 (.tmp 6) rfl g 0 rfl UC _ (row_range Hr6.out) Tryd.underlying55 rfl (by rw [batch_info, HUL.out]) ?_)
          refine HMB.out.mono ?_
          rintro _ w7 ⟨rfl, hb7⟩
          have hg7 := grownBy_of_below hb7 none
          have Hrz7 := Lib.hid (Hrz6.out.kept hg7 (by simp))
          have Hb7 := Lib.hid (below_own Hb6.out hg7 (fun k hk => by cases hk))
          clear hb7 hg7
          go_wp2_with (first
            | ((with_reducible show wpList _ _ _ (⟨_, .build 55 _, _, _, _, _⟩ :: _) _ _); refine wpList_buildL rfl 55 [] rfl (some 41) rfl _ rfl ZC.toArray (by rw [← Hzz.out]; exact Bt.zeroC_built0) ?_)
            | (with_reducible show wpList _ _ _ (⟨_, .store 55 _ _, _, _, _, _⟩ :: _) _ _
               refine wpList_store_at rfl 55 (.tmp 2) (.tmp 41) rfl (w.heap.size) 0 ZC _ _ rfl rfl Hrz7.out (by have := HZL.out; omega) (by rw [batch_info, HZL.out]) HZ1.out ?_
               intro wZ hrZ hgZ
               rw [splice_all rfl] at hrZ
               have HrZ := Lib.hid hrZ
               have HbZ := Lib.hid (below_own Hb7.out hgZ (fun k hk => by cases hk; exact Nat.le_refl _))
               clear hrZ hgZ))
          refine bodyPost_ret (results_rowL rfl _ _ (w.heap.size) 55 _ _ rfl HrZ.out Tryd.underlying55 rfl (by rw [batch_info, List.size_toArray, HZL.out]) _ rfl) rfl ⟨?_, HbZ.out⟩
          rw [HRn.out]
          exact congrArg (fun Z : List Value => Ending.returned (.tuple #[.agg Z.toArray, .int .i64 6])) Hzz.out.symm
end Go.Proofs.YtdekcicgiflnbaaDoor
