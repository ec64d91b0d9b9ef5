/- The law BoxWrites. -/
import Derived.Test.YtinciddchpccnaaDoorPoC
import Derived.Test.YtinciddchpccnaaDoorShaRefSum
namespace Go.Proofs.YtinciddchpccnaaDoor
open Go.RowKit
set_option linter.unusedVariables false
set_option linter.unusedSimpArgs false

theorem Cr.pack_len13 {l : List UInt8} (hl : l.length ≤ 32768) : (Cr.pack l).length ≤ l.length + 14 := by
  obtain ⟨h1, h2, h3⟩ := Cr.choose_way l
  unfold Cr.pack
  rw [h1] at h3 ⊢
  have hn := Oct.num_length_le l.length
  unfold Cr.head
  simp only [List.length_append, List.length_cons, Cr.four_len]
  omega
namespace Po
theorem go_len : ∀ (L : List T8) (left : Nat) (b : T8), Oct.listGo left L = some b → b.length ≤ (L.map fun x => x.length + 9).sum
  | [], left, b, h => by simp [Oct.listGo] at h; subst h; simp
  | x :: L, left, b, h => by
    unfold Oct.listGo at h
    split at h
    · cases h
    · obtain ⟨r, hr, rfl⟩ := Option.map_eq_some_iff.1 h
      have h1 := go_len L _ r hr
      have h2 := Oct.num_length_le x.length
      simp only [Oct.text, List.length_append, List.map_cons, List.sum_cons]
      omega
theorem list_len (L : List T8) : (Oct.listE L).1.length ≤ 9 + (L.map fun x => x.length + 9).sum := by
  unfold Oct.listE
  split
  · simp
  · split
    · simp
    · next b hb =>
      have h1 := go_len L _ b hb
      have h2 := Oct.num_length_le L.length
      simp only [List.length_append]
      omega
theorem lay_wt : ∀ l : List Pt, ((l.map Pt.lay).map fun x => x.length + 9).sum ≤ 5 * wt l
  | [] => by simp [wt]
  | p :: l => by
    have h1 := lay_wt l
    have h2 : (Pt.lay p).length ≤ p.2.length + 1 := by
      unfold Pt.lay
      split
      · simp
      · simp
    unfold wt at h1 ⊢
    simp only [List.map_cons, List.sum_cons]
    omega
theorem light_text {b : Bt} (h : light b = true) : b.textE.1.length ≤ 4000 := by
  unfold light at h
  have hw := of_decide_eq_true h
  unfold Bt.textE
  split
  · have h1 := list_len b.fields
    have h2 := lay_wt b.parts
    have h3 := Oct.num_length_le b.seq.toNat
    have h4 := Oct.num_length_le b.first.toNat
    have h5 := Oct.num_length_le b.before.toNat
    have h6 : (b.fields.map fun x => x.length + 9).sum ≤ 54 + 5 * wt b.parts := by
      unfold Bt.fields Bt.numsL
      rw [List.map_append, List.sum_append]
      simp only [List.map_cons, List.map_nil, List.sum_cons, List.sum_nil]
      omega
    have h7 := Nat.le_trans h1 (Nat.add_le_add_left h6 9)
    omega
  · simp
theorem light_pack {b : Bt} (h : light b = true) : (Cr.pack b.textE.1).length ≤ 5000 := by
  have h1 := light_text h
  have := Cr.pack_len13 (l := b.textE.1) (by omega)
  omega
end Po
set_option maxRecDepth 20000 in
set_option maxHeartbeats 3200000 in
theorem boxWrites_any (hRS : RefSum) (b : Bt) (A : Option Addr) (cap : Nat) (hf : b.Fits) (w : World) (hP : PartsAt w w.heap.size A b.parts) (hl : b.parts.length ≤ 9223372036854775807) (hT : Tab w) :
    Calls Tryd.prog 3 #[.agg (b.cells A cap).toArray] w fun e w' => e = .returned (.bool true) ∧ Below w.heap.size w w' := by
  have hb0 := (Below.refl w.heap.size w).alloc (Nat.le_refl _) (.cells (b.cells A cap).toArray 24)
  have HR0 := Lib.hid (Row.new w 24 (b.cells A cap))
  have HB0 := Lib.hid hb0
  have HLi : Hid (∀ W, Below w.heap.size w W → Calls Tryd.prog 9 #[.agg (b.cells A cap).toArray] W fun e w' => e = .returned (.bool (Po.light b)) ∧ Below W.heap.size W w') := Lib.hid (fun W hW => light_any b A cap W ((hP.below hW).mono hW.size) hf.texts hl)
  have HWr : Hid (Po.light b = true → ∀ W, Below w.heap.size w W → Tab W → Calls Tryd.prog 11 #[.agg (b.cells A cap).toArray] W fun e w' => e = .returned (two (Po.writeE b).1 (Po.writeE b).2) ∧ Below W.heap.size W w') := Lib.hid (fun hli W hW hTW => boxWrite_any b A cap W ((hP.below hW).mono hW.size) (fun _ => by have := Po.light_text hli; omega) (fun _ => by have := Po.light_pack hli; omega) hTW)
  have HRw : Hid (Po.light b = true → ∀ W, Below w.heap.size w W → Calls Tryd.prog 12 #[.agg (b.cells A cap).toArray] W fun e w' => e = .returned (two (Po.writeE b).1 (Po.writeE b).2) ∧ Below W.heap.size W w') := Lib.hid (fun hli W hW => rboxWrite_any hRS b A cap hf W ((hP.below hW).mono hW.size) (fun _ => by have := Po.light_text hli; omega) (fun _ => by have := Po.light_pack hli; omega))
  have HAw : Hid (∀ W, Tab W → Calls Tryd.prog 10 #[] W fun e w' => e = .returned (.bool true) ∧ Below W.heap.size W w') := Lib.hid awake13_any
  have HT := Lib.hid hT
  have HCL : Hid ((b.cells A cap).length = 4) := Lib.hid rfl
  generalize b.cells A cap = C at *
  unfold two at HWr HRw
  generalize Po.writeE b = R at *
  obtain ⟨ts, te⟩ := R
  simp only at HWr HRw
  clear hP hl hf hT hb0
  rcases Bool.eq_false_or_eq_true (Po.light b) with hli | hli
  · have HWr := Lib.hid (HWr.out hli)
    have HRw := Lib.hid (HRw.out hli)
    rw [hli] at HLi
    clear hli
    go_enter Tryd.func3, Tryd.ntmps3
    go_wp2_with ((with_reducible show wpList _ _ _ (⟨_, .load 24 _, _, _, _, _⟩ :: _) _ _); refine wpList_load_tx rfl 24 (.tmp 1) rfl w.heap.size 0 rfl C _ (row_range HR0.out) Tryd.underlying24 rfl (by rw [bt_size, HCL.out]) ?_)
    refine (HLi.out _ HB0.out).mono ?_
    rintro _ w1 ⟨rfl, hb1⟩
    have HB1 := Lib.hid (two_below' HB0.out hb1)
    have HR1 := Lib.hid (HR0.out.below hb1)
    clear hb1
    go_wp2_with ((with_reducible show wpList _ _ _ (⟨_, .load 24 _, _, _, _, _⟩ :: _) _ _); refine wpList_load_tx rfl 24 (.tmp 1) rfl w.heap.size 0 rfl C _ (row_range HR1.out) Tryd.underlying24 rfl (by rw [bt_size, HCL.out]) ?_)
    refine (HWr.out _ HB1.out (HT.out.below HB1.out HT.out.pos)).mono ?_
    rintro _ w2 ⟨rfl, hb2⟩
    have HB2 := Lib.hid (two_below' HB1.out hb2)
    have HR2 := Lib.hid (HR1.out.below hb2)
    clear hb2
    go_wp2_with ((with_reducible show wpList _ _ _ (⟨_, .load 24 _, _, _, _, _⟩ :: _) _ _); refine wpList_load_tx rfl 24 (.tmp 1) rfl w.heap.size 0 rfl C _ (row_range HR2.out) Tryd.underlying24 rfl (by rw [bt_size, HCL.out]) ?_)
    refine (HRw.out _ HB2.out).mono ?_
    rintro _ w3 ⟨rfl, hb3⟩
    have HB3 := Lib.hid (two_below' HB2.out hb3)
    clear hb3
    go_wp2_with fail
    refine (HAw.out _ (HT.out.below HB3.out HT.out.pos)).mono ?_
    rintro _ w4 ⟨rfl, hb4⟩
    have HB4 := Lib.hid (two_below' HB3.out hb4)
    clear hb4
    go_wp2_with fail
    go_ret
    exact ⟨rfl, HB4.out⟩
  · rw [hli] at HLi
    clear hli HWr HRw
    go_enter Tryd.func3, Tryd.ntmps3
    go_wp2_with ((with_reducible show wpList _ _ _ (⟨_, .load 24 _, _, _, _, _⟩ :: _) _ _); refine wpList_load_tx rfl 24 (.tmp 1) rfl w.heap.size 0 rfl C _ (row_range HR0.out) Tryd.underlying24 rfl (by rw [bt_size, HCL.out]) ?_)
    refine (HLi.out _ HB0.out).mono ?_
    rintro _ w1 ⟨rfl, hb1⟩
    have HB1 := Lib.hid (two_below' HB0.out hb1)
    clear hb1
    go_wp2_with fail
    refine (HAw.out _ (HT.out.below HB1.out HT.out.pos)).mono ?_
    rintro _ w4 ⟨rfl, hb4⟩
    have HB4 := Lib.hid (two_below' HB1.out hb4)
    clear hb4
    go_wp2_with fail
    go_ret
    exact ⟨rfl, HB4.out⟩
end Go.Proofs.YtinciddchpccnaaDoor
