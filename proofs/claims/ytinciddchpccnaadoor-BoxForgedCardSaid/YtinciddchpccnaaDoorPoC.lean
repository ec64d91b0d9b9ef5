/- The law's light. -/
/- Posts there and back, as plain data. -/
/- The law's awake. -/
import Derived.Test.YtinciddchpccnaaDoorPoB
namespace Go.Proofs.YtinciddchpccnaaDoor
open Go.RowKit
set_option linter.unusedVariables false
set_option linter.unusedSimpArgs false

namespace Po
def wt (l : List Pt) : Nat := (l.map fun p => p.2.length + 2).sum
def light (b : Bt) : Bool := decide (wt b.parts ≤ 600)
theorem wt_take {l : List Pt} {k : Nat} (hk : k < l.length) : wt (l.take (k + 1)) = wt (l.take k) + (l[k].2.length + 2) := by
  rw [List.take_succ_eq_append_getElem hk]
  unfold wt
  rw [List.map_append, List.sum_append]
  simp
theorem wt_le (l : List Pt) (k : Nat) : wt (l.take k) ≤ wt l := by
  have e : wt l = wt (l.take k) + wt (l.drop k) := by
    unfold wt
    rw [← List.sum_append, ← List.map_append, List.take_append_drop]
  omega
end Po
set_option maxRecDepth 20000 in
set_option maxHeartbeats 1600000 in
theorem light_any (b : Bt) (A : Option Addr) (cap : Nat) (w : World) (hP : PartsAt w w.heap.size A b.parts) (hf : ∀ p ∈ b.parts, p.2.length ≤ 140737488351232) (hl : b.parts.length ≤ 9223372036854775807) :
    Calls Tryd.prog 9 #[.agg (b.cells A cap).toArray] w fun e w' => e = .returned (.bool (Po.light b)) ∧ Below w.heap.size w w' := by
  have hb0 := (Below.refl w.heap.size w).alloc (Nat.le_refl _) (.cells (b.cells A cap).toArray 24)
  have HR0 := Lib.hid (Row.new w 24 (b.cells A cap))
  have HC3 : Hid ((b.cells A cap)[3]? = some (.slice A b.parts.length cap)) := Lib.hid rfl
  have HB0 := Lib.hid hb0
  have HP := Lib.hid hP
  unfold Po.light
  obtain ⟨P, hPe⟩ : ∃ P, P = b.parts := ⟨_, rfl⟩
  rw [← hPe] at HP hf hl HC3 ⊢
  generalize b.cells A cap = C at *
  obtain ⟨n, hn⟩ : ∃ n, n = P.length := ⟨_, rfl⟩
  rw [← hn] at hl HC3
  have HN := Lib.hid hn
  clear hb0 hP hPe hn
  go_enter Tryd.func9, Tryd.ntmps9
  go_wp2_with fail
  go_loopw [3, 4] (fun s i wr => ∃ k : Nat, k ≤ n ∧ i = .int .i64 (k : Int) ∧ s = .int .i64 (Po.wt (P.take k) : Int) ∧ Below w.heap.size w wr ∧ Row wr w.heap.size 24 C) (fun _ i _ => n - (intOf i).toNat)
  case atStart => exact ⟨0, Nat.zero_le _, rfl, rfl, HB0.out, HR0.out⟩
  case round =>
    obtain ⟨k, hk, rfl, rfl, hb, hr⟩ := hrel
    have c3 := (row_range hr) 3 _ HC3.out
    rw [Nat.zero_add] at c3
    have Hb := Lib.hid hb
    have Hr := Lib.hid hr
    clear hb hr HB0 HR0
    by_cases hlt : k < n
    · have hki : (k : Int) < (n : Int) := by omega
      have d1 : decide ((k : Int) < (n : Int)) = true := by simp only [decide_eq_true_eq]; omega
      have hkl : k < P.length := by rw [← HN.out]; exact hlt
      have Hst := Lib.hid (Po.wt_take hkl)
      have Hle := Lib.hid (Po.wt_le P k)
      obtain ⟨g, off, rfl, hg, hat⟩ := HP.out (by intro e; rw [e] at hkl; simp at hkl)
      have cp := (Hb.out.cell (p := ⟨g, off + k * 2 + 1, none⟩) hg).trans (hat k hkl).2
      have hln := hf P[k] (List.getElem_mem _)
      generalize P[k] = p at *
      generalize Po.wt (P.take k) = s at *
      have ho1 : off + k * 2 + 1 = off + (k * 2 + 1) := by omega
      clear hat
      by_cases h6 : s ≤ 600
      · have d2 : decide ((s : Int) ≤ 600) = true := by simp only [decide_eq_true_eq]; omega
        have h6i : (s : Int) ≤ 600 := by omega
        clear ho1
        go_wp2_with fail
        exact ⟨⟨k + 1, hlt, by go_num, by rw [Hst.out]; go_num, Hb.out, Hr.out⟩, by simp [intOf]; omega⟩
      · have d2 : decide ((s : Int) ≤ 600) = false := by simp only [decide_eq_false_iff_not]; omega
        have h6i : ¬ (s : Int) ≤ 600 := by omega
        clear ho1
        have HE : Hid (decide (Po.wt P ≤ 600) = false) := Lib.hid (by have := Hle.out; simp only [decide_eq_false_iff_not]; omega)
        go_wp2_with fail
        go_ret
        exact ⟨by rw [HE.out]; rfl, Hb.out⟩
    · have hki : ¬ (k : Int) < (n : Int) := by omega
      have d1 : decide ((k : Int) < (n : Int)) = false := by simp only [decide_eq_false_iff_not]; omega
      have hkn : P.take k = P := by rw [List.take_of_length_le]; rw [← HN.out]; omega
      rw [hkn]
      clear hkn
      obtain ⟨s, hs⟩ : ∃ s, s = Po.wt P := ⟨_, rfl⟩
      rw [← hs]
      by_cases h6 : s ≤ 600
      · have d2 : decide ((s : Int) ≤ 600) = true := by simp only [decide_eq_true_eq]; omega
        have h6i : (s : Int) ≤ 600 := by omega
        have HE : Hid (decide (Po.wt P ≤ 600) = true) := Lib.hid (by simp only [decide_eq_true_eq]; omega)
        clear hs
        go_wp2_with fail
        go_ret
        exact ⟨by rw [HE.out]; rfl, Hb.out⟩
      · have d2 : decide ((s : Int) ≤ 600) = false := by simp only [decide_eq_false_iff_not]; omega
        have h6i : ¬ (s : Int) ≤ 600 := by omega
        have HE : Hid (decide (Po.wt P ≤ 600) = false) := Lib.hid (by simp only [decide_eq_false_iff_not]; omega)
        clear hs
        go_wp2_with fail
        go_ret
        exact ⟨by rw [HE.out]; rfl, Hb.out⟩
end Go.Proofs.YtinciddchpccnaaDoor
namespace Go.Proofs.YtinciddchpccnaaDoor
open Go.RowKit
set_option linter.unusedVariables false
set_option linter.unusedSimpArgs false

namespace Po
theorem listE_two {a b : T8} (ha : a.length ≤ 60000) (hb : b.length = 32) : ∃ s, Oct.listE [a, b] = (s, 0) ∧ s.length ≤ a.length + 100 := by
  refine ⟨Oct.num 2 ++ (Oct.text a ++ (Oct.text b ++ [])), ?_, ?_⟩
  · unfold Oct.listE Oct.listGo Oct.listGo Oct.listGo
    rw [if_neg (by simp), if_neg (by omega), if_neg (by omega)]
    rfl
  · have h1 := Oct.num_length_le 2
    have h2 := Oct.num_length_le a.length
    have h3 := Oct.num_length_le b.length
    simp only [Oct.text, List.length_append, List.length_nil]
    omega
theorem sealE_ok {c : T8} (hc : c.length ≤ 60000) : ∃ s, sealE c = (s, 0) ∧ s.length ≤ c.length + 100 := listE_two hc (tag_len c)
theorem look_seal {c s : T8} (h : sealE c = (s, 0)) : look s = some (c, tag c) := look_yes (Tx.listAll_listE h) (tag_len c)
theorem tag_ok (c : T8) : (Seal.tag 64 4 c).2 = 0 := rfl
theorem check_own (c : T8) : Seal.check2 64 4 c (tag c) = 0 := by
  unfold Seal.check2
  rw [if_neg (by rw [tag_ok]; simp), if_neg (fun h => h rfl)]
theorem read_seal {c t s : T8} {b : Bt} (h : sealE c = (s, 0)) (ho : Cr.opened c 32768 = (t, 0)) (hb : b.textE = (t, 0)) : read s = (0, some b) := by
  unfold read
  rw [look_seal h]
  simp only
  rw [if_pos (check_own c), ho]
  simp only
  rw [if_pos trivial, Bt.read_text hb]
theorem read_write {b : Bt} {s : T8} (hl : b.textE.1.length ≤ 32768) (h : writeE b = (s, 0)) : read s = (0, some b) := by
  unfold writeE at h
  split at h
  · next h0 =>
    have he : b.textE = (b.textE.1, 0) := Prod.ext rfl h0
    refine read_seal (t := b.textE.1) h ?_ he
    have := Cr.opened_pack hl 32768
    rw [if_neg (by omega)] at this
    exact this
  · next h0 =>
    simp only [Prod.mk.injEq] at h
    exact absurd h.2 h0
def one : Bt := ⟨0, 3, 0, [(false, [97])]⟩
theorem one_text : one.textE.2 = 0 ∧ one.textE.1.length ≤ 100 := by decide +kernel
theorem one_write : ∃ s, writeE one = (s, 0) ∧ s.length ≤ 60000 ∧ read s = (0, some one) := by
  obtain ⟨h0, h1⟩ := one_text
  have hp : (Cr.pack one.textE.1).length ≤ 200 := by decide +kernel
  obtain ⟨s, hs, hl⟩ := sealE_ok (c := Cr.pack one.textE.1) (by omega)
  have hw : writeE one = (s, 0) := by unfold writeE; rw [if_pos h0]; exact hs
  exact ⟨s, hw, by omega, read_write (by omega) hw⟩
def oneIt (s : T8) : It := ⟨3, 64, 0, ⟨s.toArray⟩⟩
theorem oneIt_land {s : T8} (hs : s.length ≤ 60000) (h : read s = (0, some one)) : landed [⟨5, 0, Tx.zero, [oneIt s]⟩] = [(5, one)] := by
  have hok : (oneIt s).ok = true := (It.ok_iff _).2 (.inl ⟨.inr rfl, by show (0:Int) ≤ 64; decide, by show (64:Int) ≤ 64; decide, rfl, by show ((s.toArray.size : Nat) : Int) ≤ 65472; simp; omega⟩)
  have ht : (oneIt s).textE.2 = 0 := by
    unfold It.textE
    rw [if_pos hok]
    have h1 := Oct.num_length_le 3
    have h2 := Oct.num_length_le 64
    have h3 := Oct.num_length_le 0
    have h5 : (⟨s.toArray⟩ : ByteArray).data.toList.length ≤ 60000 := by simpa using hs
    show (Oct.listE [Oct.num 3, Oct.num 64, Oct.num 0, (⟨s.toArray⟩ : ByteArray).data.toList]).2 = 0
    unfold Oct.listE Oct.listGo Oct.listGo Oct.listGo Oct.listGo Oct.listGo
    rw [if_neg (by simp), if_neg (by omega), if_neg (by omega), if_neg (by omega), if_neg (by omega)]
    rfl
  have hie : itemE (oneIt s) = (0, some one) := by
    unfold itemE
    rw [if_pos (show (oneIt s).kind = 3 from rfl), if_pos ht]
    have e : (oneIt s).text.data.toList = s := by simp [oneIt]
    rw [e, h]
  show step 5 [] (oneIt s) = _
  exact step_yes hie rfl
end Po
end Go.Proofs.YtinciddchpccnaaDoor
namespace Go.Proofs.YtinciddchpccnaaDoor
open Go.RowKit
set_option linter.unusedVariables false
set_option linter.unusedSimpArgs false

theorem PfOf.at13 {o : Option Bt} {C : List Value} {sq : Int} {lo : Nat} {w : World} (h : PfOf o C sq lo w) (u : Bt) (ho : o = some u) : ∃ A c, C = u.cells A c ∧ sq = u.seq ∧ PartsFrom w lo A u.parts ∧ u.parts.length ≤ c := by
  subst ho; exact h
theorem bk_cells13 (s : List UInt8) (A : Option Addr) (c : Nat) : (Bk.cells ⟨5, 0, Tx.zero, [Po.oneIt s]⟩ A c) = [.int .i64 5, .int .i64 0] ++ ((bRow Tx.zero).toList ++ [.slice A 1 c]) := rfl
theorem bk_built13 (A : Option Addr) (s : List UInt8) : Tryd.prog.built 62 [(0, .int .i64 5), (3, .slice A 1 1)] = some (Bk.cells ⟨5, 0, Tx.zero, [Po.oneIt s]⟩ A 1).toArray := by kernel_rfl
theorem awake_at13 (s : List UInt8) (w : World) (B : Nat) (hB : B = w.heap.size) (g : Nat) (hg : g < B) (hI : Row w g 59 (Po.oneIt s).cells) (g2 : Nat) (hg2 : g2 < B) (hR : Row w g2 62 (Bk.cells ⟨5, 0, Tx.zero, [Po.oneIt s]⟩ (some ⟨g, 0, none⟩) 1)) :
    BksAt w B (some ⟨g2, 0, none⟩) [⟨5, 0, Tx.zero, [Po.oneIt s]⟩] := fun _ => by
  refine ⟨g2, 0, rfl, hg2, fun i hi => ?_⟩
  have hi0 : i = 0 := by simpa using hi
  subst hi0
  refine ⟨some ⟨g, 0, none⟩, 1, ?_, ⟨fun _ => ⟨g, 0, rfl, hg, fun j hj => ?_⟩, by simp⟩, by simp, rfl⟩
  · exact row_range hR
  · have hj0 : j = 0 := by simpa using hj
    subst hj0
    exact row_range hI
theorem part_one13 (w : World) : PartsAt (w.alloc (.cells #[.bool false, S [97]] 57)) (w.alloc (.cells #[.bool false, S [97]] 57)).heap.size (some ⟨w.heap.size, 0, none⟩) Po.one.parts := fun _ => by
  have hr := Row.new w 57 [.bool false, S [97]]
  refine ⟨w.heap.size, 0, rfl, by simp, fun i hi => ?_⟩
  have hi0 : i = 0 := by simpa [Po.one] using hi
  subst hi0
  exact ⟨hr.cell 0 (by simp), hr.cell 1 (by simp)⟩
theorem bk_info13 : (Tryd.prog.info? 62).map (fun i => (i.zero, i.size)) = some (some (.agg Bk.zeroC.toArray), 35) := by kernel_rfl
theorem ld_first13 {w : World} {base : Nat} {v : Value} {blk : Int} {b : Bt} (h : LdAt w base v [(blk, b)]) : ∃ g c, v = .slice (some ⟨g, 0, none⟩) 1 c ∧ w.cell? ⟨g, 0, none⟩ = some (.int .i64 blk) := by
  obtain ⟨ls, hm, ho, _⟩ := h
  obtain ⟨g, c, rfl⟩ := ownsRow_succ ho
  match ls, hm with
  | [x], hm =>
    simp only [List.map_cons, List.map_nil, Ld.key, List.cons.injEq, Prod.mk.injEq, and_true] at hm
    refine ⟨g, c, rfl, ?_⟩
    have h0 := ho.cellAt 0 (by simp)
    rw [h0, ← hm.1]
    rfl
set_option maxRecDepth 20000 in
set_option maxHeartbeats 6400000 in
theorem awake13_any (w : World) (hT : Tab w) :
    Calls Tryd.prog 10 #[] w fun e w' => e = .returned (.bool true) ∧ Below w.heap.size w w' := by
  obtain ⟨s, hw, hs, hr⟩ := Po.one_write
  have hland := Po.oneIt_land hs hr
  have hzb := bt_zv
  have HT := Lib.hid hT
  have HWr : Hid (∀ (A : Option Addr) (W : World), PartsAt W W.heap.size A Po.one.parts → Tab W → Calls Tryd.prog 11 #[.agg (Po.one.cells A 1).toArray] W fun e w' => e = .returned (.tuple #[S s, .int .i64 0]) ∧ Below W.heap.size W w') := Lib.hid (fun A W hP hTW => by
    have h9 : (Cr.pack Po.one.textE.1).length ≤ 200 := by decide +kernel
    have h := boxWrite_any Po.one A 1 W hP (fun _ => by have := Po.one_text.2; omega) (fun _ => by omega) hTW
    rw [hw] at h
    exact h)
  have HRd : Hid (∀ W, Tab W → Calls Tryd.prog 13 #[S s] W fun e w' => (∃ A c, e = .returned (.tuple #[.agg (Po.one.cells A c).toArray, .int .i64 0])) ∧ Below W.heap.size W w') := Lib.hid (fun W hTW => by
    have h := boxRead_any ⟨s.toArray⟩ W (by show s.toArray.size ≤ _; simp; omega) hTW
    have e : (⟨s.toArray⟩ : ByteArray).data.toList = s := by simp
    rw [e, hr] at h
    exact h.mono (fun e w' ⟨h1, h2⟩ => ⟨by obtain ⟨A, c, h3, _⟩ := h1; exact ⟨A, c, h3⟩, h2⟩))
  have HLd : Hid (∀ (W : World) (g g2 : Nat), g < W.heap.size → g2 < W.heap.size → Row W g 59 (Po.oneIt s).cells → Row W g2 62 (Bk.cells ⟨5, 0, Tx.zero, [Po.oneIt s]⟩ (some ⟨g, 0, none⟩) 1) → Tab W → Calls Tryd.prog 17 #[.slice (some ⟨g2, 0, none⟩) 1 1] W fun e w' => (∃ g c, e = .returned (.slice (some ⟨g, 0, none⟩) 1 c) ∧ w'.cell? ⟨g, 0, none⟩ = some (.int .i64 5)) ∧ Below W.heap.size W w') := Lib.hid (fun W g g2 h1 h2 h3 h4 hTW => by
    have h := landed_any (some ⟨g2, 0, none⟩) 1 _ W (awake_at13 s W _ rfl g h1 h3 g2 h2 h4) (by simp) hTW
    rw [hland] at h
    exact h.mono (fun e w' ⟨⟨v, h5, h6⟩, h7⟩ => ⟨by obtain ⟨g, c, h8, h9⟩ := ld_first13 h6; exact ⟨g, c, by rw [h5, h8], h9⟩, h7⟩))
  clear hT hland hw hr hs
  have hP0 := part_one13 w
  have hb0 := (Below.refl w.heap.size w).alloc (Nat.le_refl _) (.cells #[.bool false, S [97]] 57)
  have hW1 := HWr.out (some ⟨w.heap.size, 0, none⟩) _ hP0 (HT.out.below hb0 HT.out.pos)
  have HB0 := Lib.hid hb0
  have HW1 := Lib.hid hW1
  clear hP0 hb0 hW1
  go_enter Tryd.func10, Tryd.ntmps10
  go_wp2_with fail
  refine HW1.out.mono ?_
  rintro _ w2 ⟨rfl, hb2⟩
  have HB2 := Lib.hid (two_below' HB0.out hb2)
  clear hb2
  go_wp2_with fail
  refine (HRd.out _ (HT.out.below HB2.out HT.out.pos)).mono ?_
  rintro _ w3 ⟨⟨A3, c3, rfl⟩, hb3⟩
  have HB3 := Lib.hid (two_below' HB2.out hb3)
  have HBL : Hid (Bt.zeroC.length = 4) := Lib.hid rfl
  have HCL : Hid ((Po.one.cells A3 c3).length = 4) := Lib.hid rfl
  have HC1 : Hid (∀ v ∈ Po.one.cells A3 c3, v.oneCell' = true) := Lib.hid (by intro v hv; simp [Bt.cells] at hv; rcases hv with rfl | rfl | rfl | rfl <;> rfl)
  have HCf : Hid ((Po.one.cells A3 c3)[1]? = some (.int .i64 3)) := Lib.hid rfl
  have HRn := Lib.hid (Row.new w3 24 Bt.zeroC)
  generalize Po.one.cells A3 c3 = C at *
  clear hb3
  obtain ⟨i0, hi, h2⟩ := Option.map_eq_some_iff.1 bk_info13
  simp only [Prod.mk.injEq] at h2
  have Hi := Lib.hid hi
  have Hz := Lib.hid h2.1
  have Hsz := Lib.hid h2.2
  have HKL : Hid (∀ A, (Bk.cells ⟨5, 0, Tx.zero, [Po.oneIt s]⟩ A 1).length = 35) := Lib.hid (fun A => Bk.cells_len rfl)
  have HKb : Hid (∀ A, Tryd.prog.built 62 [(0, .int .i64 5), (3, .slice A 1 1)] = some (Bk.cells ⟨5, 0, Tx.zero, [Po.oneIt s]⟩ A 1).toArray) := Lib.hid (fun A => bk_built13 A s)
  obtain ⟨K, hK⟩ : ∃ K : Option Addr → List Value, K = fun A => Bk.cells ⟨5, 0, Tx.zero, [Po.oneIt s]⟩ A 1 := ⟨_, rfl⟩
  have hKe : ∀ A, Bk.cells ⟨5, 0, Tx.zero, [Po.oneIt s]⟩ A 1 = K A := fun A => by rw [hK]
  have HKe := Lib.hid hKe
  simp only [hKe] at HKL HKb HLd
  clear hi h2 hK hKe hzb
  have hzb := bt_zv
  generalize Bt.zeroC = ZC at *
  go_wp2_with (first
  | (with_reducible show wpList _ _ _ (⟨_, .store 24 _ _, _, _, _, _⟩ :: _) _ _
     refine wpList_store_at rfl 24 (.tmp 3) (.tmp 16) rfl w3.heap.size 0 C _ _ rfl rfl HRn.out (by rw [HBL.out, HCL.out]; decide) (by rw [bt_size, HCL.out]) HC1.out ?_
     intro w4 hr4 hg4
     rw [splice_all (HCL.out.trans HBL.out.symm)] at hr4
     have HR4 := Lib.hid hr4
     have HB4 := Lib.hid (two_below' HB3.out (below_own ((Below.refl w3.heap.size w3).alloc (Nat.le_refl _) (.cells ZC.toArray 24)) hg4 (fun k hk => by cases hk; exact Nat.le_refl _)))
     clear hr4 hg4)
  | ((with_reducible show wpList _ _ _ (⟨_, .build 62 _, _, _, _, _⟩ :: _) _ _); refine wpList_buildL rfl 62 [(0, .const (.int .i64 5)), (3, .tmp 20)] rfl (some 21) rfl [(0, .int .i64 5), (3, .slice (some ⟨w4.heap.size, 0, none⟩) 1 1)] rfl (K (some ⟨w4.heap.size, 0, none⟩)).toArray (HKb.out _) ?_)
  | ((with_reducible show wpList _ _ _ (⟨_, .buildSlice 34 _ _, _, _, _, _⟩ :: _) _ _); refine wpList_buildSliceL rfl 34 62 1 [(0, .tmp 21)] rfl (some 22) rfl [(0, .agg (K (some ⟨w4.heap.size, 0, none⟩)).toArray)] rfl (K (some ⟨w4.heap.size, 0, none⟩)).toArray i0 (.agg Bk.zeroC.toArray) 35 Tryd.underlying34 Hi.out Hz.out Hsz.out (by decide) (by decide) (fill_one13 35 _ _ (HKL.out _)) ?_))
  have ri := (Row.new w4 59 (Po.oneIt s).cells).kept (grownBy_alloc _ (.cells (K (some ⟨w4.heap.size, 0, none⟩)).toArray 62) none) (by simp)
  have rk := Row.new (w4.alloc (.cells (Po.oneIt s).cells.toArray 59)) 62 (K (some ⟨w4.heap.size, 0, none⟩))
  have esz : (w4.alloc (.cells (Po.oneIt s).cells.toArray 59)).heap.size = w4.heap.size + 1 := by simp
  have hb5a := (Below.refl w4.heap.size w4).alloc (Nat.le_refl _) (.cells (Po.oneIt s).cells.toArray 59)
  have hb5 := hb5a.alloc hb5a.size (.cells (K (some ⟨w4.heap.size, 0, none⟩)).toArray 62)
  have HB5 := Lib.hid (two_below' HB4.out hb5)
  have HR5 := Lib.hid (HR4.out.below hb5)
  rw [esz] at rk
  refine (HLd.out _ w4.heap.size (w4.heap.size + 1) (by simp; omega) (by simp) ri rk (HT.out.below HB5.out HT.out.pos)).mono ?_
  rintro _ w6 ⟨⟨g6, c6, rfl, c60⟩, hb6⟩
  have HB6 := Lib.hid (two_below' HB5.out hb6)
  have c31 := (row_range (HR5.out.below hb6)) 1 _ HCf.out
  rw [Nat.zero_add] at c31
  clear ri rk esz hb5a hb5 hb6
  go_wp2_with fail
  go_ret
  exact ⟨rfl, HB6.out⟩
end Go.Proofs.YtinciddchpccnaaDoor
