/- The law BoxWrites. -/
/- The law BoxBack. -/
import Derived.Test.YtinciddchpccnaaDoorPoC
import Derived.Test.YtinciddchpccnaaDoorShaRefSum
namespace Go.Proofs.YtinciddchpccnaaDoor
open Go.RowKit
set_option linter.unusedVariables false
set_option linter.unusedSimpArgs false

theorem Cr.pack_len13 {l : List UInt8} (hl : l.length ≤ 32768) : (Cr.pack l).length ≤ l.length + 14 := by
  obtain ⟨h1, h2, h3⟩ := Cr.choose_way l
  unfold Cr.pack
  rw [h1] at h3 ⊢
  have hn := Oct.num_length_le l.length
  unfold Cr.head
  simp only [List.length_append, List.length_cons, Cr.four_len]
  omega
namespace Po
theorem go_len : ∀ (L : List T8) (left : Nat) (b : T8), Oct.listGo left L = some b → b.length ≤ (L.map fun x => x.length + 9).sum
  | [], left, b, h => by simp [Oct.listGo] at h; subst h; simp
  | x :: L, left, b, h => by
    unfold Oct.listGo at h
    split at h
    · cases h
    · obtain ⟨r, hr, rfl⟩ := Option.map_eq_some_iff.1 h
      have h1 := go_len L _ r hr
      have h2 := Oct.num_length_le x.length
      simp only [Oct.text, List.length_append, List.map_cons, List.sum_cons]
      omega
theorem list_len (L : List T8) : (Oct.listE L).1.length ≤ 9 + (L.map fun x => x.length + 9).sum := by
  unfold Oct.listE
  split
  · simp
  · split
    · simp
    · next b hb =>
      have h1 := go_len L _ b hb
      have h2 := Oct.num_length_le L.length
      simp only [List.length_append]
      omega
theorem lay_wt : ∀ l : List Pt, ((l.map Pt.lay).map fun x => x.length + 9).sum ≤ 5 * wt l
  | [] => by simp [wt]
  | p :: l => by
    have h1 := lay_wt l
    have h2 : (Pt.lay p).length ≤ p.2.length + 1 := by
      unfold Pt.lay
      split
      · simp
      · simp
    unfold wt at h1 ⊢
    simp only [List.map_cons, List.sum_cons]
    omega
theorem light_text {b : Bt} (h : light b = true) : b.textE.1.length ≤ 4000 := by
  unfold light at h
  have hw := of_decide_eq_true h
  unfold Bt.textE
  split
  · have h1 := list_len b.fields
    have h2 := lay_wt b.parts
    have h3 := Oct.num_length_le b.seq.toNat
    have h4 := Oct.num_length_le b.first.toNat
    have h5 := Oct.num_length_le b.before.toNat
    have h6 : (b.fields.map fun x => x.length + 9).sum ≤ 54 + 5 * wt b.parts := by
      unfold Bt.fields Bt.numsL
      rw [List.map_append, List.sum_append]
      simp only [List.map_cons, List.map_nil, List.sum_cons, List.sum_nil]
      omega
    have h7 := Nat.le_trans h1 (Nat.add_le_add_left h6 9)
    omega
  · simp
theorem light_pack {b : Bt} (h : light b = true) : (Cr.pack b.textE.1).length ≤ 5000 := by
  have h1 := light_text h
  have := Cr.pack_len13 (l := b.textE.1) (by omega)
  omega
end Po
set_option maxRecDepth 20000 in
set_option maxHeartbeats 3200000 in
theorem boxWrites_any (hRS : RefSum) (b : Bt) (A : Option Addr) (cap : Nat) (hf : b.Fits) (w : World) (hP : PartsAt w w.heap.size A b.parts) (hl : b.parts.length ≤ 9223372036854775807) (hT : Tab w) :
    Calls Tryd.prog 3 #[.agg (b.cells A cap).toArray] w fun e w' => e = .returned (.bool true) ∧ Below w.heap.size w w' := by
  have hb0 := (Below.refl w.heap.size w).alloc (Nat.le_refl _) (.cells (b.cells A cap).toArray 24)
  have HR0 := Lib.hid (Row.new w 24 (b.cells A cap))
  have HB0 := Lib.hid hb0
  have HLi : Hid (∀ W, Below w.heap.size w W → Calls Tryd.prog 9 #[.agg (b.cells A cap).toArray] W fun e w' => e = .returned (.bool (Po.light b)) ∧ Below W.heap.size W w') := Lib.hid (fun W hW => light_any b A cap W ((hP.below hW).mono hW.size) hf.texts hl)
  have HWr : Hid (Po.light b = true → ∀ W, Below w.heap.size w W → Tab W → Calls Tryd.prog 11 #[.agg (b.cells A cap).toArray] W fun e w' => e = .returned (two (Po.writeE b).1 (Po.writeE b).2) ∧ Below W.heap.size W w') := Lib.hid (fun hli W hW hTW => boxWrite_any b A cap W ((hP.below hW).mono hW.size) (fun _ => by have := Po.light_text hli; omega) (fun _ => by have := Po.light_pack hli; omega) hTW)
  have HRw : Hid (Po.light b = true → ∀ W, Below w.heap.size w W → Calls Tryd.prog 12 #[.agg (b.cells A cap).toArray] W fun e w' => e = .returned (two (Po.writeE b).1 (Po.writeE b).2) ∧ Below W.heap.size W w') := Lib.hid (fun hli W hW => rboxWrite_any hRS b A cap hf W ((hP.below hW).mono hW.size) (fun _ => by have := Po.light_text hli; omega) (fun _ => by have := Po.light_pack hli; omega))
  have HAw : Hid (∀ W, Tab W → Calls Tryd.prog 10 #[] W fun e w' => e = .returned (.bool true) ∧ Below W.heap.size W w') := Lib.hid awake13_any
  have HT := Lib.hid hT
  have HCL : Hid ((b.cells A cap).length = 4) := Lib.hid rfl
  generalize b.cells A cap = C at *
  unfold two at HWr HRw
  generalize Po.writeE b = R at *
  obtain ⟨ts, te⟩ := R
  simp only at HWr HRw
  clear hP hl hf hT hb0
  rcases Bool.eq_false_or_eq_true (Po.light b) with hli | hli
  · have HWr := Lib.hid (HWr.out hli)
    have HRw := Lib.hid (HRw.out hli)
    rw [hli] at HLi
    clear hli
    go_enter Tryd.func3, Tryd.ntmps3
    go_wp2_with ((with_reducible show wpList _ _ _ (⟨_, .load 24 _, _, _, _, _⟩ :: _) _ _); refine wpList_load_tx rfl 24 (.tmp 1) rfl w.heap.size 0 rfl C _ (row_range HR0.out) Tryd.underlying24 rfl (by rw [bt_size, HCL.out]) ?_)
    refine (HLi.out _ HB0.out).mono ?_
    rintro _ w1 ⟨rfl, hb1⟩
    have HB1 := Lib.hid (two_below' HB0.out hb1)
    have HR1 := Lib.hid (HR0.out.below hb1)
    clear hb1
    go_wp2_with ((with_reducible show wpList _ _ _ (⟨_, .load 24 _, _, _, _, _⟩ :: _) _ _); refine wpList_load_tx rfl 24 (.tmp 1) rfl w.heap.size 0 rfl C _ (row_range HR1.out) Tryd.underlying24 rfl (by rw [bt_size, HCL.out]) ?_)
    refine (HWr.out _ HB1.out (HT.out.below HB1.out HT.out.pos)).mono ?_
    rintro _ w2 ⟨rfl, hb2⟩
    have HB2 := Lib.hid (two_below' HB1.out hb2)
    have HR2 := Lib.hid (HR1.out.below hb2)
    clear hb2
    go_wp2_with ((with_reducible show wpList _ _ _ (⟨_, .load 24 _, _, _, _, _⟩ :: _) _ _); refine wpList_load_tx rfl 24 (.tmp 1) rfl w.heap.size 0 rfl C _ (row_range HR2.out) Tryd.underlying24 rfl (by rw [bt_size, HCL.out]) ?_)
    refine (HRw.out _ HB2.out).mono ?_
    rintro _ w3 ⟨rfl, hb3⟩
    have HB3 := Lib.hid (two_below' HB2.out hb3)
    clear hb3
    go_wp2_with fail
    refine (HAw.out _ (HT.out.below HB3.out HT.out.pos)).mono ?_
    rintro _ w4 ⟨rfl, hb4⟩
    have HB4 := Lib.hid (two_below' HB3.out hb4)
    clear hb4
    go_wp2_with fail
    go_ret
    exact ⟨rfl, HB4.out⟩
  · rw [hli] at HLi
    clear hli HWr HRw
    go_enter Tryd.func3, Tryd.ntmps3
    go_wp2_with ((with_reducible show wpList _ _ _ (⟨_, .load 24 _, _, _, _, _⟩ :: _) _ _); refine wpList_load_tx rfl 24 (.tmp 1) rfl w.heap.size 0 rfl C _ (row_range HR0.out) Tryd.underlying24 rfl (by rw [bt_size, HCL.out]) ?_)
    refine (HLi.out _ HB0.out).mono ?_
    rintro _ w1 ⟨rfl, hb1⟩
    have HB1 := Lib.hid (two_below' HB0.out hb1)
    clear hb1
    go_wp2_with fail
    refine (HAw.out _ (HT.out.below HB1.out HT.out.pos)).mono ?_
    rintro _ w4 ⟨rfl, hb4⟩
    have HB4 := Lib.hid (two_below' HB1.out hb4)
    clear hb4
    go_wp2_with fail
    go_ret
    exact ⟨rfl, HB4.out⟩
end Go.Proofs.YtinciddchpccnaaDoor
namespace Go.Proofs.YtinciddchpccnaaDoor
open Go.RowKit
set_option linter.unusedVariables false
set_option linter.unusedSimpArgs false

theorem Cr.way_len13 {k : Nat} {t : List UInt8} (ht : t.length ≤ 4000) : (Cr.head k t ++ Cr.way k t).length ≤ 6000 := by
  have h1 : (Rn.Runs.pack t).length ≤ t.length + (t.length + 127) / 128 := Rn.Runs.pack_little t.length t (Nat.le_refl _)
  have h2 := Win.pack_little t
  have h3 := Win.pack_little (Rn.Runs.pack t)
  have hn := Oct.num_length_le t.length
  have hw : (Cr.way k t).length ≤ 5000 := by
    unfold Cr.way
    split
    · omega
    · split
      · omega
      · split <;> omega
  unfold Cr.head
  simp only [List.length_append, List.length_cons, Cr.four_len]
  omega
theorem Po.read_way {b : Bt} {k : Nat} (hk : k < 4) (hl : Po.light b = true) (h0 : b.textE.2 = 0) : ∃ u, Po.sealE (Cr.head k b.textE.1 ++ Cr.way k b.textE.1) = (u, 0) ∧ u.length ≤ 60000 ∧ Po.read u = (0, some b) := by
  have ht := Po.light_text hl
  have hw := Cr.way_len13 (k := k) ht
  obtain ⟨u, hu, hul⟩ := Po.sealE_ok (c := Cr.head k b.textE.1 ++ Cr.way k b.textE.1) (by omega)
  refine ⟨u, hu, by omega, Po.read_seal (t := b.textE.1) hu ?_ (Prod.ext rfl h0)⟩
  have := Cr.opened_way (w := k) (l := b.textE.1) hk (by omega) 32768
  rw [if_neg (by omega)] at this
  exact this
theorem Po.write_len {b : Bt} {s : List UInt8} (hl : Po.light b = true) (h : Po.writeE b = (s, 0)) : s.length ≤ 60000 := by
  unfold Po.writeE at h
  split at h
  · have hp := Po.light_pack hl
    obtain ⟨u, hu, hul⟩ := Po.sealE_ok (c := Cr.pack b.textE.1) (by omega)
    rw [hu] at h
    simp only [Prod.mk.injEq, and_true] at h
    rw [← h]; omega
  · next h0 =>
    simp only [Prod.mk.injEq] at h
    exact absurd h.2 h0
theorem Po.write_no {b : Bt} {s : List UInt8} {e : Int} (h : Po.writeE b = (s, e)) (he : e ≠ 0) : s = [] := by
  have key : ∀ L : List (List UInt8), (Oct.listE L).2 ≠ 0 → (Oct.listE L).1 = [] := fun L hL => by
    unfold Oct.listE at hL ⊢
    split
    · rfl
    · split
      · rfl
      · next h1 _ b hb => rw [if_neg h1, hb] at hL; exact absurd rfl hL
  unfold Po.writeE at h
  split at h
  · unfold Po.sealE at h
    have := key [Cr.pack b.textE.1, Po.tag (Cr.pack b.textE.1)] (by rw [h]; exact he)
    rw [h] at this
    exact this
  · simp only [Prod.mk.injEq] at h
    exact h.1.symm
theorem Po.write_text {b : Bt} {s : List UInt8} (h : Po.writeE b = (s, 0)) : b.textE.2 = 0 := by
  unfold Po.writeE at h
  split at h
  · next h0 => exact h0
  · simp only [Prod.mk.injEq] at h
    exact h.2
theorem batches_one {b : Bt} (hf : b.Fits) (hk : b.ok = true) {C : List Value} {q : Int} {lo : Nat} {A : Option Addr} {cap : Nat} (W : World) (h1 : PfOf (some b) C q lo W) (hP : PartsAt W W.heap.size A b.parts) :
    Calls Tryd.prog 15 #[.agg C.toArray, .agg (b.cells A cap).toArray] W fun e w' => e = .returned (.bool true) ∧ Below W.heap.size W w' := by
  obtain ⟨A1, c1, e1, _, p1, _⟩ := h1
  rw [e1]
  exact batches5_same b hf.texts ((Bt.ok_iff b).1 hk).2.1 A1 A c1 cap W p1.at hP
set_option maxRecDepth 20000 in
set_option maxHeartbeats 6400000 in
theorem boxBack_any (hRS : RefSum) (b : Bt) (A : Option Addr) (cap : Nat) (n : Nat) (hn : n < 256) (hf : b.Fits) (w : World) (hP : PartsAt w w.heap.size A b.parts) (hl : b.parts.length ≤ 9223372036854775807) (hT : Tab w) :
    Calls Tryd.prog 6 #[.agg (b.cells A cap).toArray, .int .u8 (n : Int)] w fun e w' => e = .returned (.bool true) ∧ Below w.heap.size w w' := by
  have hb0 := (Below.refl w.heap.size w).alloc (Nat.le_refl _) (.cells (b.cells A cap).toArray 24)
  have HR0 := Lib.hid (Row.new w 24 (b.cells A cap))
  have HB0 := Lib.hid hb0
  have hzb := bt_zv
  have HLi : Hid (∀ W, Below w.heap.size w W → Calls Tryd.prog 9 #[.agg (b.cells A cap).toArray] W fun e w' => e = .returned (.bool (Po.light b)) ∧ Below W.heap.size W w') := Lib.hid (fun W hW => light_any b A cap W ((hP.below hW).mono hW.size) hf.texts hl)
  have HWr : Hid (Po.light b = true → ∀ W, Below w.heap.size w W → Tab W → Calls Tryd.prog 11 #[.agg (b.cells A cap).toArray] W fun e w' => e = .returned (two (Po.writeE b).1 (Po.writeE b).2) ∧ Below W.heap.size W w') := Lib.hid (fun hli W hW hTW => boxWrite_any b A cap W ((hP.below hW).mono hW.size) (fun _ => by have := Po.light_text hli; omega) (fun _ => by have := Po.light_pack hli; omega) hTW)
  have HAw : Hid (∀ W, Tab W → Calls Tryd.prog 10 #[] W fun e w' => e = .returned (.bool true) ∧ Below W.heap.size W w') := Lib.hid awake13_any
  have HT := Lib.hid hT
  have HCL : Hid ((b.cells A cap).length = 4) := Lib.hid rfl
  have HBL : Hid (Bt.zeroC.length = 4) := Lib.hid rfl
  have HPA : Hid (∀ W, Below w.heap.size w W → PartsAt W W.heap.size A b.parts) := Lib.hid (fun W hW => (hP.below hW).mono hW.size)
  have HW5 : Hid (∀ W, Below w.heap.size w W → Calls Tryd.prog 19 #[.agg (b.cells A cap).toArray] W fun e w' => e = .returned (two b.textE.1 b.textE.2) ∧ Below W.heap.size W w') := Lib.hid (fun W hW => rwriteBatch_any b A cap hf W ((hP.below hW).mono hW.size))
  obtain ⟨R, hR⟩ : ∃ R, Po.writeE b = R := ⟨_, rfl⟩
  rw [hR] at HWr
  obtain ⟨ts, te⟩ := R
  unfold two at HWr HW5
  simp only at HWr
  clear hP hT hb0
  rcases Bool.eq_false_or_eq_true (Po.light b) with hli | hli
  rotate_left
  · rw [hli] at HLi
    generalize b.cells A cap = C at *
    clear hli HWr HW5
    go_enter Tryd.func6, Tryd.ntmps6
    go_wp2_with ((with_reducible show wpList _ _ _ (⟨_, .load 24 (.tmp 2), _, _, _, _⟩ :: _) _ _); refine wpList_load_tx rfl 24 (.tmp 2) rfl w.heap.size 0 rfl C _ (row_range HR0.out) Tryd.underlying24 rfl (by rw [bt_size, HCL.out]) ?_)
    refine (HLi.out _ HB0.out).mono ?_
    rintro _ w1 ⟨rfl, hb1⟩
    have HB1 := Lib.hid (two_below' HB0.out hb1)
    clear hb1
    go_wp2_with fail
    refine (HAw.out _ (HT.out.below HB1.out HT.out.pos)).mono ?_
    rintro _ w4 ⟨rfl, hb4⟩
    have HB4 := Lib.hid (two_below' HB1.out hb4)
    clear hb4
    go_wp2_with fail
    go_ret
    exact ⟨rfl, HB4.out⟩
  have HWr := Lib.hid (HWr.out hli)
  by_cases he : te = 0
  rotate_left
  · have hts := Po.write_no hR he
    subst hts
    have dq : (te != 0) = true := by simpa using he
    rw [hli] at HLi
    generalize b.cells A cap = C at *
    clear hli he hR HW5
    go_enter Tryd.func6, Tryd.ntmps6
    go_wp2_with ((with_reducible show wpList _ _ _ (⟨_, .load 24 (.tmp 2), _, _, _, _⟩ :: _) _ _); refine wpList_load_tx rfl 24 (.tmp 2) rfl w.heap.size 0 rfl C _ (row_range HR0.out) Tryd.underlying24 rfl (by rw [bt_size, HCL.out]) ?_)
    refine (HLi.out _ HB0.out).mono ?_
    rintro _ w1 ⟨rfl, hb1⟩
    have HB1 := Lib.hid (two_below' HB0.out hb1)
    have HR1 := Lib.hid (HR0.out.below hb1)
    clear hb1
    go_wp2_with ((with_reducible show wpList _ _ _ (⟨_, .load 24 (.tmp 2), _, _, _, _⟩ :: _) _ _); refine wpList_load_tx rfl 24 (.tmp 2) rfl w.heap.size 0 rfl C _ (row_range HR1.out) Tryd.underlying24 rfl (by rw [bt_size, HCL.out]) ?_)
    refine (HWr.out _ HB1.out (HT.out.below HB1.out HT.out.pos)).mono ?_
    rintro _ w2 ⟨rfl, hb2⟩
    have HB2 := Lib.hid (two_below' HB1.out hb2)
    clear hb2
    go_wp2_with fail
    refine (HAw.out _ (HT.out.below HB2.out HT.out.pos)).mono ?_
    rintro _ w3 ⟨rfl, hb3⟩
    have HB3 := Lib.hid (two_below' HB2.out hb3)
    clear hb3
    go_wp2_with fail
    refine (HAw.out _ (HT.out.below HB3.out HT.out.pos)).mono ?_
    rintro _ w4 ⟨rfl, hb4⟩
    have HB4 := Lib.hid (two_below' HB3.out hb4)
    clear hb4
    go_wp2_with fail
    go_ret
    exact ⟨rfl, HB4.out⟩
  subst he
  have h0 := Po.write_text hR
  have hlen := Po.write_len hli hR
  have hrd := Po.read_write (by have := Po.light_text hli; omega) hR
  obtain ⟨k, hkn⟩ : ∃ k, n % 4 = k := ⟨_, rfl⟩
  have hk4 : k < 4 := by omega
  obtain ⟨u, hu, hul, hru⟩ := Po.read_way hk4 hli h0
  have hok : b.ok = true := (Po.read_ok hrd).2
  have htl := Po.light_text hli
  have HRd : Hid (∀ (x : List UInt8), x.length ≤ 60000 → Po.read x = (0, some b) → ∀ W, Tab W → Calls Tryd.prog 13 #[S x] W fun e w' => RdEnds (0, some b) W.heap.size e w' ∧ Below W.heap.size W w') := Lib.hid (fun x hx hr W hTW => by
    have h := boxRead_any ⟨x.toArray⟩ W (by show x.toArray.size ≤ _; simp; omega) hTW
    have e : (⟨x.toArray⟩ : ByteArray).data.toList = x := by simp
    rw [e, hr] at h
    exact h)
  have HRd1 := Lib.hid (HRd.out ts hlen hrd)
  have HRd2 := Lib.hid (HRd.out u hul hru)
  have HHd : Hid (∀ W, Calls Tryd.prog 21 #[.int .i64 (k : Int), S b.textE.1] W fun e w' => e = .returned (S (Cr.head k b.textE.1)) ∧ Below W.heap.size W w') := Lib.hid (fun W => by
    have h := head_any k ⟨b.textE.1.toArray⟩ W (by omega) (by show b.textE.1.toArray.size ≤ _; simp; omega)
    have e : (⟨b.textE.1.toArray⟩ : ByteArray).data.toList = b.textE.1 := by simp
    rw [e] at h
    exact h)
  have HWy : Hid (∀ W, Calls Tryd.prog 22 #[.int .i64 (k : Int), S b.textE.1] W fun e w' => e = .returned (S (Cr.way k b.textE.1)) ∧ Below W.heap.size W w') := Lib.hid (fun W => by
    have h := way_any k ⟨b.textE.1.toArray⟩ W hk4 (by show b.textE.1.toArray.size ≤ _; simp; omega)
    have e : (⟨b.textE.1.toArray⟩ : ByteArray).data.toList = b.textE.1 := by simp
    rw [e] at h
    exact h)
  have hwl := Cr.way_len13 (k := k) htl
  have HSe : Hid (∀ W, Calls Tryd.prog 20 #[S (Cr.head k b.textE.1 ++ Cr.way k b.textE.1)] W fun e w' => e = .returned (.tuple #[S u, .int .i64 0]) ∧ Below W.heap.size W w') := Lib.hid (fun W => by
    have h := rseal_any hRS (Cr.head k b.textE.1 ++ Cr.way k b.textE.1) (by omega) W
    rw [hu] at h
    exact h)
  have HBa : Hid (∀ (C : List Value) (q : Int) (lo : Nat) (W : World), Below w.heap.size w W → PfOf (some b) C q lo W → Calls Tryd.prog 15 #[.agg C.toArray, .agg (b.cells A cap).toArray] W fun e w' => e = .returned (.bool true) ∧ Below W.heap.size W w') := Lib.hid (fun C q lo W hW h => batches_one hf hok W h (HPA.out W hW))
  rw [hli] at HLi
  rw [h0] at HW5
  have hrem : (n : Int) % 4 = (k : Int) := by omega
  have hk256 : (k : Int) % 256 = (k : Int) := by omega
  have hkb : (k : Int) < 4 := by omega
  obtain ⟨ZC, hZC⟩ : ∃ ZC, ZC = Bt.zeroC := ⟨_, rfl⟩
  simp only [← hZC] at hzb HBL
  generalize b.cells A cap = C at *
  generalize b.textE.1 = t at *
  generalize Cr.head k t = hd at *
  generalize Cr.way k t = wy at *
  rw [List.length_append] at hwl
  obtain ⟨P, hPq⟩ : ∃ P : ByteArray, (⟨wy.toArray⟩ : ByteArray) = P := ⟨_, rfl⟩
  obtain ⟨H, hHq⟩ : ∃ H : ByteArray, (⟨hd.toArray⟩ : ByteArray) = H := ⟨_, rfl⟩
  have hPz : P.size ≤ 6000 := by rw [← hPq]; show wy.length ≤ _; omega
  have hHz : H.size ≤ 6000 := by rw [← hHq]; show hd.length ≤ _; omega
  have es1 : S hd = .string H := by rw [← hHq]
  have es2 : S wy = .string P := by rw [← hPq]
  have es3 : S (hd ++ wy) = .string (H ++ P) := by rw [← hPq, ← hHq, append_list]
  simp only [es1] at HHd
  simp only [es2] at HWy
  simp only [es3] at HSe
  clear es1 es2 es3 hPq hHq
  clear hli hR hlen hrd hu hul hru hok htl h0 hwl HRd hl hf hZC HPA hkn
  go_enter Tryd.func6, Tryd.ntmps6
  go_wp2_with ((with_reducible show wpList _ _ _ (⟨_, .load 24 (.tmp 2), _, _, _, _⟩ :: _) _ _); refine wpList_load_tx rfl 24 (.tmp 2) rfl w.heap.size 0 rfl C _ (row_range HR0.out) Tryd.underlying24 rfl (by rw [bt_size, HCL.out]) ?_)
  refine (HLi.out _ HB0.out).mono ?_
  rintro _ w1 ⟨rfl, hb1⟩
  have HB1 := Lib.hid (two_below' HB0.out hb1)
  have HR1 := Lib.hid (HR0.out.below hb1)
  clear hb1
  go_wp2_with ((with_reducible show wpList _ _ _ (⟨_, .load 24 (.tmp 2), _, _, _, _⟩ :: _) _ _); refine wpList_load_tx rfl 24 (.tmp 2) rfl w.heap.size 0 rfl C _ (row_range HR1.out) Tryd.underlying24 rfl (by rw [bt_size, HCL.out]) ?_)
  refine (HWr.out _ HB1.out (HT.out.below HB1.out HT.out.pos)).mono ?_
  rintro _ w2 ⟨rfl, hb2⟩
  have HB2 := Lib.hid (two_below' HB1.out hb2)
  have HR2 := Lib.hid (HR1.out.below hb2)
  clear hb2
  go_wp2_with fail
  refine (HAw.out _ (HT.out.below HB2.out HT.out.pos)).mono ?_
  rintro _ w3 ⟨rfl, hb3⟩
  have HB3 := Lib.hid (two_below' HB2.out hb3)
  have HR3 := Lib.hid (HR2.out.below hb3)
  clear hb3
  go_wp2_with fail
  refine (HRd1.out _ (HT.out.below HB3.out HT.out.pos)).mono ?_
  rintro e w4 ⟨hrd, hb4⟩
  obtain ⟨C1, q1, rfl, hp1⟩ := hrd.of
  obtain ⟨h1l, h11, _⟩ := hp1.cells
  have HB4 := Lib.hid (two_below' HB3.out hb4)
  have HR4 := Lib.hid (HR3.out.below hb4)
  have HP4 := Lib.hid hp1
  have H1L := Lib.hid h1l
  have H11 := Lib.hid h11
  have HN := Lib.hid (Row.new w4 24 ZC)
  clear hrd hb4 hp1 h1l h11
  go_wp2_with (first
  | (with_reducible show wpList _ _ _ (⟨_, .store 24 _ _, _, _, _, _⟩ :: _) _ _
     refine wpList_store_at rfl 24 (.tmp 7) (.tmp 38) rfl w4.heap.size 0 C1 _ _ rfl rfl HN.out (by rw [HBL.out, H1L.out]; decide) (by rw [bt_size, H1L.out]) H11.out ?_
     intro w5 hr hg
     rw [splice_all (H1L.out.trans HBL.out.symm)] at hr
     have hbs := below_own ((Below.refl w4.heap.size w4).alloc (Nat.le_refl _) (.cells ZC.toArray 24)) hg (fun k hk => by cases hk; exact Nat.le_refl _)
     have HX5 := Lib.hid hr
     have HR5 := Lib.hid (HR4.out.below hbs)
     have HP5 := Lib.hid (HP4.out.grown (grownBy_of_below hbs none) (fun k hk => by cases hk))
     have HB5 := Lib.hid (two_below' HB4.out hbs)
     clear hr hg hbs)
  | ((with_reducible show wpList _ _ _ (⟨_, .load 24 (.tmp 2), _, _, _, _⟩ :: _) _ _); refine wpList_load_tx rfl 24 (.tmp 2) rfl w.heap.size 0 rfl C _ (row_range HR5.out) Tryd.underlying24 rfl (by rw [bt_size, HCL.out]) ?_))
  refine (HW5.out _ HB5.out).mono ?_
  rintro _ w6 ⟨rfl, hb6⟩
  have HB6 := Lib.hid (two_below' HB5.out hb6)
  have HR6 := Lib.hid (HR5.out.below hb6)
  have HX6 := Lib.hid (HX5.out.below hb6)
  have HP6 := Lib.hid (HP5.out.grown (grownBy_of_below hb6 none) (fun k hk => by cases hk))
  clear hb6
  go_wp2_with fail
  refine (HHd.out _).mono ?_
  rintro _ w7 ⟨rfl, hb7⟩
  have HB7 := Lib.hid (two_below' HB6.out hb7)
  have HR7 := Lib.hid (HR6.out.below hb7)
  have HX7 := Lib.hid (HX6.out.below hb7)
  have HP7 := Lib.hid (HP6.out.grown (grownBy_of_below hb7 none) (fun k hk => by cases hk))
  clear hb7
  go_wp2_with fail
  refine (HWy.out _).mono ?_
  rintro _ w8 ⟨rfl, hb8⟩
  have HB8 := Lib.hid (two_below' HB7.out hb8)
  have HR8 := Lib.hid (HR7.out.below hb8)
  have HX8 := Lib.hid (HX7.out.below hb8)
  have HP8 := Lib.hid (HP7.out.grown (grownBy_of_below hb8 none) (fun k hk => by cases hk))
  clear hb8
  go_wp2_with fail
  refine (HSe.out _).mono ?_
  rintro _ w9 ⟨rfl, hb9⟩
  have HB9 := Lib.hid (two_below' HB8.out hb9)
  have HR9 := Lib.hid (HR8.out.below hb9)
  have HX9 := Lib.hid (HX8.out.below hb9)
  have HP9 := Lib.hid (HP8.out.grown (grownBy_of_below hb9 none) (fun k hk => by cases hk))
  clear hb9
  go_wp2_with fail
  refine (HRd2.out _ (HT.out.below HB9.out HT.out.pos)).mono ?_
  rintro e w10 ⟨hrd, hb10⟩
  obtain ⟨C2, q2, rfl, hp2⟩ := hrd.of
  obtain ⟨h2l, h21, _⟩ := hp2.cells
  have HB10 := Lib.hid (two_below' HB9.out hb10)
  have HR10 := Lib.hid (HR9.out.below hb10)
  have HX10 := Lib.hid (HX9.out.below hb10)
  have HP10 := Lib.hid (HP9.out.grown (grownBy_of_below hb10 none) (fun k hk => by cases hk))
  have HQ10 := Lib.hid hp2
  have H2L := Lib.hid h2l
  have H21 := Lib.hid h21
  have HN2 := Lib.hid (Row.new w10 24 ZC)
  clear hrd hb10 hp2 h2l h21
  go_wp2_with (first
  | (with_reducible show wpList _ _ _ (⟨_, .store 24 _ _, _, _, _, _⟩ :: _) _ _
     refine wpList_store_at rfl 24 (.tmp 13) (.tmp 63) rfl w10.heap.size 0 C2 _ _ rfl rfl HN2.out (by rw [HBL.out, H2L.out]; decide) (by rw [bt_size, H2L.out]) H21.out ?_
     intro w11 hr hg
     rw [splice_all (H2L.out.trans HBL.out.symm)] at hr
     have hbs := below_own ((Below.refl w10.heap.size w10).alloc (Nat.le_refl _) (.cells ZC.toArray 24)) hg (fun k hk => by cases hk; exact Nat.le_refl _)
     have HY11 := Lib.hid hr
     have HR11 := Lib.hid (HR10.out.below hbs)
     have HX11 := Lib.hid (HX10.out.below hbs)
     have HP11 := Lib.hid (HP10.out.grown (grownBy_of_below hbs none) (fun k hk => by cases hk))
     have HQ11 := Lib.hid (HQ10.out.grown (grownBy_of_below hbs none) (fun k hk => by cases hk))
     have HB11 := Lib.hid (two_below' HB10.out hbs)
     clear hr hg hbs)
  | ((with_reducible show wpList _ _ _ (⟨_, .load 24 (.tmp 7), _, _, _, _⟩ :: _) _ _); refine wpList_load_tx rfl 24 (.tmp 7) rfl w4.heap.size 0 rfl C1 _ (row_range HX11.out) Tryd.underlying24 rfl (by rw [bt_size, H1L.out]) ?_)
  | ((with_reducible show wpList _ _ _ (⟨_, .load 24 (.tmp 2), _, _, _, _⟩ :: _) _ _); refine wpList_load_tx rfl 24 (.tmp 2) rfl w.heap.size 0 rfl C _ (row_range HR11.out) Tryd.underlying24 rfl (by rw [bt_size, HCL.out]) ?_))
  refine (HBa.out C1 q1 _ _ HB11.out HP11.out).mono ?_
  rintro _ w12 ⟨rfl, hb12⟩
  have HB12 := Lib.hid (two_below' HB11.out hb12)
  have HR12 := Lib.hid (HR11.out.below hb12)
  have HY12 := Lib.hid (HY11.out.below hb12)
  have HQ12 := Lib.hid (HQ11.out.grown (grownBy_of_below hb12 none) (fun k hk => by cases hk))
  clear hb12
  go_wp2_with (first
  | ((with_reducible show wpList _ _ _ (⟨_, .load 24 (.tmp 13), _, _, _, _⟩ :: _) _ _); refine wpList_load_tx rfl 24 (.tmp 13) rfl w10.heap.size 0 rfl C2 _ (row_range HY12.out) Tryd.underlying24 rfl (by rw [bt_size, H2L.out]) ?_)
  | ((with_reducible show wpList _ _ _ (⟨_, .load 24 (.tmp 2), _, _, _, _⟩ :: _) _ _); refine wpList_load_tx rfl 24 (.tmp 2) rfl w.heap.size 0 rfl C _ (row_range HR12.out) Tryd.underlying24 rfl (by rw [bt_size, HCL.out]) ?_))
  refine (HBa.out C2 q2 _ _ HB12.out HQ12.out).mono ?_
  rintro _ w13 ⟨rfl, hb13⟩
  have HB13 := Lib.hid (two_below' HB12.out hb13)
  clear hb13
  go_wp2_with fail
  go_ret
  exact ⟨rfl, HB13.out⟩
end Go.Proofs.YtinciddchpccnaaDoor
