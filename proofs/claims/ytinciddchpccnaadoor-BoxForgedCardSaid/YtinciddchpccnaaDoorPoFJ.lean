/- What is forged, and what lands in order: mathematics. -/
/- The law BoxWrites. -/
/- The law BoxBack. -/
/- The law BoxForged. -/
import Derived.Test.YtinciddchpccnaaDoorPoC
import Derived.Test.YtinciddchpccnaaDoorPoB
import Derived.Test.YtinciddchpccnaaDoorShaRefSum
namespace Go.Proofs.YtinciddchpccnaaDoor
open Go.RowKit
set_option linter.unusedVariables false
set_option linter.unusedSimpArgs false

namespace Po
theorem check_no {c t : T8} (h : t ≠ tag c) : Seal.check2 64 4 c t = 21 := by
  unfold Seal.check2
  rw [if_neg (by rw [tag_ok]; simp), if_pos (fun e => h e.symm)]
/-- a post with another tag is nobody's -/
theorem read_no {u c t : T8} (hu : Oct.listE [c, t] = (u, 0)) (ht : t.length = 32) (h : t ≠ tag c) : read u = (21, none) := by
  unfold read
  rw [look_yes (Tx.listAll_listE hu) ht]
  simp only [check_no h]
  rfl
/-- what a post has -/
theorem write_list {b : Bt} {s : T8} (h : writeE b = (s, 0)) : Oct.listE [Cr.pack b.textE.1, tag (Cr.pack b.textE.1)] = (s, 0) := by
  unfold writeE at h
  split at h
  · exact h
  · next h0 =>
    simp only [Prod.mk.injEq] at h
    exact absurd h.2 h0
theorem seal_len2 {c t : T8} (hc : c.length ≤ 10000) (ht : t.length = 32) : ∃ u, Oct.listE [c, t] = (u, 0) ∧ u.length ≤ 20000 := by
  have hn := Oct.num_length_le c.length
  have hn2 := Oct.num_length_le t.length
  unfold Oct.listE Oct.listGo Oct.listGo Oct.listGo
  rw [if_neg (by simp), if_neg (by omega), if_neg (by omega)]
  have h3 := Oct.num_length_le [c, t].length
  refine ⟨_, rfl, ?_⟩
  unfold Oct.text
  simp only [List.length_append, List.length_cons, List.length_nil] at h3 ⊢
  omega
theorem landed_append (l m : List Bk) : ∃ r, landed (l ++ m) = landed l ++ r := by
  have hstep : ∀ (blk : Int) (s : List (Int × Bt)) (i : It), ∃ r, step blk s i = s ++ r := fun blk s i => by
    unfold step
    split
    · split
      · exact ⟨_, rfl⟩
      · exact ⟨[], (List.append_nil s).symm⟩
    · exact ⟨[], (List.append_nil s).symm⟩
  have hfold : ∀ (blk : Int) (its : List It) (s : List (Int × Bt)), ∃ r, its.foldl (step blk) s = s ++ r := fun blk its => by
    induction its with
    | nil => exact fun s => ⟨[], (List.append_nil s).symm⟩
    | cons i its ih =>
      intro s
      obtain ⟨r1, h1⟩ := hstep blk s i
      obtain ⟨r2, h2⟩ := ih (s ++ r1)
      exact ⟨r1 ++ r2, by rw [List.foldl_cons, h1, h2, List.append_assoc]⟩
  have hall : ∀ (k : List Bk) (s : List (Int × Bt)), ∃ r, k.foldl block s = s ++ r := fun k => by
    induction k with
    | nil => exact fun s => ⟨[], (List.append_nil s).symm⟩
    | cons b k ih =>
      intro s
      obtain ⟨r1, h1⟩ := hfold b.number b.items s
      obtain ⟨r2, h2⟩ := ih (s ++ r1)
      refine ⟨r1 ++ r2, ?_⟩
      rw [List.foldl_cons]
      have e : block s b = s ++ r1 := h1
      rw [e, h2, List.append_assoc]
  unfold landed
  rw [List.foldl_append]
  exact hall m _
/-- the numbers of what landed -/
theorem landed_seq (l : List Bk) : ∀ i (h : i < (landed l).length), (landed l)[i].2.seq = (i : Int) := by
  have hkey : ∀ (blk : Int) (s : List (Int × Bt)) (i : It), step blk s i = s ∨ ∃ b : Bt, b.seq = s.length ∧ step blk s i = s ++ [(blk, b)] := fun blk s i => by
    unfold step
    split
    · next e b he =>
      split
      · next hq => exact .inr ⟨b, hq.2, rfl⟩
      · exact .inl rfl
    · exact .inl rfl
  have hstep : ∀ (blk : Int) (s : List (Int × Bt)) (i : It), (∀ k (h : k < s.length), s[k].2.seq = (k : Int)) → ∀ k (h : k < (step blk s i).length), (step blk s i)[k].2.seq = (k : Int) := fun blk s i hs => by
    rcases hkey blk s i with e | ⟨b, hq, e⟩
    · rw [e]; exact hs
    · rw [e]
      intro k hk
      by_cases h1 : k < s.length
      · rw [List.getElem_append_left h1]
        exact hs k h1
      · have hk2 : k = s.length := by simp at hk; omega
        subst hk2
        simp only [List.getElem_append_right (Nat.le_refl _), Nat.sub_self, List.getElem_cons_zero]
        exact hq
  have hfold : ∀ (blk : Int) (its : List It) (s : List (Int × Bt)), (∀ k (h : k < s.length), s[k].2.seq = (k : Int)) → ∀ k (h : k < (its.foldl (step blk) s).length), (its.foldl (step blk) s)[k].2.seq = (k : Int) := fun blk its => by
    induction its with
    | nil => exact fun s hs => hs
    | cons i its ih => exact fun s hs => ih _ (hstep blk s i hs)
  have hall : ∀ (k : List Bk) (s : List (Int × Bt)), (∀ j (h : j < s.length), s[j].2.seq = (j : Int)) → ∀ j (h : j < (k.foldl block s).length), (k.foldl block s)[j].2.seq = (j : Int) := fun k => by
    induction k with
    | nil => exact fun s hs => hs
    | cons b k ih => exact fun s hs => ih _ (hfold b.number b.items s hs)
  exact hall l [] (fun j h => by simp at h)
end Po
end Go.Proofs.YtinciddchpccnaaDoor
namespace Go.Proofs.YtinciddchpccnaaDoor
open Go.RowKit
set_option linter.unusedVariables false
set_option linter.unusedSimpArgs false

theorem Cr.pack_len13 {l : List UInt8} (hl : l.length ≤ 32768) : (Cr.pack l).length ≤ l.length + 14 := by
  obtain ⟨h1, h2, h3⟩ := Cr.choose_way l
  unfold Cr.pack
  rw [h1] at h3 ⊢
  have hn := Oct.num_length_le l.length
  unfold Cr.head
  simp only [List.length_append, List.length_cons, Cr.four_len]
  omega
namespace Po
theorem go_len : ∀ (L : List T8) (left : Nat) (b : T8), Oct.listGo left L = some b → b.length ≤ (L.map fun x => x.length + 9).sum
  | [], left, b, h => by simp [Oct.listGo] at h; subst h; simp
  | x :: L, left, b, h => by
    unfold Oct.listGo at h
    split at h
    · cases h
    · obtain ⟨r, hr, rfl⟩ := Option.map_eq_some_iff.1 h
      have h1 := go_len L _ r hr
      have h2 := Oct.num_length_le x.length
      simp only [Oct.text, List.length_append, List.map_cons, List.sum_cons]
      omega
theorem list_len (L : List T8) : (Oct.listE L).1.length ≤ 9 + (L.map fun x => x.length + 9).sum := by
  unfold Oct.listE
  split
  · simp
  · split
    · simp
    · next b hb =>
      have h1 := go_len L _ b hb
      have h2 := Oct.num_length_le L.length
      simp only [List.length_append]
      omega
theorem lay_wt : ∀ l : List Pt, ((l.map Pt.lay).map fun x => x.length + 9).sum ≤ 5 * wt l
  | [] => by simp [wt]
  | p :: l => by
    have h1 := lay_wt l
    have h2 : (Pt.lay p).length ≤ p.2.length + 1 := by
      unfold Pt.lay
      split
      · simp
      · simp
    unfold wt at h1 ⊢
    simp only [List.map_cons, List.sum_cons]
    omega
theorem light_text {b : Bt} (h : light b = true) : b.textE.1.length ≤ 4000 := by
  unfold light at h
  have hw := of_decide_eq_true h
  unfold Bt.textE
  split
  · have h1 := list_len b.fields
    have h2 := lay_wt b.parts
    have h3 := Oct.num_length_le b.seq.toNat
    have h4 := Oct.num_length_le b.first.toNat
    have h5 := Oct.num_length_le b.before.toNat
    have h6 : (b.fields.map fun x => x.length + 9).sum ≤ 54 + 5 * wt b.parts := by
      unfold Bt.fields Bt.numsL
      rw [List.map_append, List.sum_append]
      simp only [List.map_cons, List.map_nil, List.sum_cons, List.sum_nil]
      omega
    have h7 := Nat.le_trans h1 (Nat.add_le_add_left h6 9)
    omega
  · simp
theorem light_pack {b : Bt} (h : light b = true) : (Cr.pack b.textE.1).length ≤ 5000 := by
  have h1 := light_text h
  have := Cr.pack_len13 (l := b.textE.1) (by omega)
  omega
end Po
set_option maxRecDepth 20000 in
set_option maxHeartbeats 3200000 in
theorem boxWrites_any (hRS : RefSum) (b : Bt) (A : Option Addr) (cap : Nat) (hf : b.Fits) (w : World) (hP : PartsAt w w.heap.size A b.parts) (hl : b.parts.length ≤ 9223372036854775807) (hT : Tab w) :
    Calls Tryd.prog 3 #[.agg (b.cells A cap).toArray] w fun e w' => e = .returned (.bool true) ∧ Below w.heap.size w w' := by
  have hb0 := (Below.refl w.heap.size w).alloc (Nat.le_refl _) (.cells (b.cells A cap).toArray 24)
  have HR0 := Lib.hid (Row.new w 24 (b.cells A cap))
  have HB0 := Lib.hid hb0
  have HLi : Hid (∀ W, Below w.heap.size w W → Calls Tryd.prog 9 #[.agg (b.cells A cap).toArray] W fun e w' => e = .returned (.bool (Po.light b)) ∧ Below W.heap.size W w') := Lib.hid (fun W hW => light_any b A cap W ((hP.below hW).mono hW.size) hf.texts hl)
  have HWr : Hid (Po.light b = true → ∀ W, Below w.heap.size w W → Tab W → Calls Tryd.prog 11 #[.agg (b.cells A cap).toArray] W fun e w' => e = .returned (two (Po.writeE b).1 (Po.writeE b).2) ∧ Below W.heap.size W w') := Lib.hid (fun hli W hW hTW => boxWrite_any b A cap W ((hP.below hW).mono hW.size) (fun _ => by have := Po.light_text hli; omega) (fun _ => by have := Po.light_pack hli; omega) hTW)
  have HRw : Hid (Po.light b = true → ∀ W, Below w.heap.size w W → Calls Tryd.prog 12 #[.agg (b.cells A cap).toArray] W fun e w' => e = .returned (two (Po.writeE b).1 (Po.writeE b).2) ∧ Below W.heap.size W w') := Lib.hid (fun hli W hW => rboxWrite_any hRS b A cap hf W ((hP.below hW).mono hW.size) (fun _ => by have := Po.light_text hli; omega) (fun _ => by have := Po.light_pack hli; omega))
  have HAw : Hid (∀ W, Tab W → Calls Tryd.prog 10 #[] W fun e w' => e = .returned (.bool true) ∧ Below W.heap.size W w') := Lib.hid awake13_any
  have HT := Lib.hid hT
  have HCL : Hid ((b.cells A cap).length = 4) := Lib.hid rfl
  generalize b.cells A cap = C at *
  unfold two at HWr HRw
  generalize Po.writeE b = R at *
  obtain ⟨ts, te⟩ := R
  simp only at HWr HRw
  clear hP hl hf hT hb0
  rcases Bool.eq_false_or_eq_true (Po.light b) with hli | hli
  · have HWr := Lib.hid (HWr.out hli)
    have HRw := Lib.hid (HRw.out hli)
    rw [hli] at HLi
    clear hli
    go_enter Tryd.func3, Tryd.ntmps3
    go_wp2_with ((with_reducible show wpList _ _ _ (⟨_, .load 24 _, _, _, _, _⟩ :: _) _ _); refine wpList_load_tx rfl 24 (.tmp 1) rfl w.heap.size 0 rfl C _ (row_range HR0.out) Tryd.underlying24 rfl (by rw [bt_size, HCL.out]) ?_)
    refine (HLi.out _ HB0.out).mono ?_
    rintro _ w1 ⟨rfl, hb1⟩
    have HB1 := Lib.hid (two_below' HB0.out hb1)
    have HR1 := Lib.hid (HR0.out.below hb1)
    clear hb1
    go_wp2_with ((with_reducible show wpList _ _ _ (⟨_, .load 24 _, _, _, _, _⟩ :: _) _ _); refine wpList_load_tx rfl 24 (.tmp 1) rfl w.heap.size 0 rfl C _ (row_range HR1.out) Tryd.underlying24 rfl (by rw [bt_size, HCL.out]) ?_)
    refine (HWr.out _ HB1.out (HT.out.below HB1.out HT.out.pos)).mono ?_
    rintro _ w2 ⟨rfl, hb2⟩
    have HB2 := Lib.hid (two_below' HB1.out hb2)
    have HR2 := Lib.hid (HR1.out.below hb2)
    clear hb2
    go_wp2_with ((with_reducible show wpList _ _ _ (⟨_, .load 24 _, _, _, _, _⟩ :: _) _ _); refine wpList_load_tx rfl 24 (.tmp 1) rfl w.heap.size 0 rfl C _ (row_range HR2.out) Tryd.underlying24 rfl (by rw [bt_size, HCL.out]) ?_)
    refine (HRw.out _ HB2.out).mono ?_
    rintro _ w3 ⟨rfl, hb3⟩
    have HB3 := Lib.hid (two_below' HB2.out hb3)
    clear hb3
    go_wp2_with fail
    refine (HAw.out _ (HT.out.below HB3.out HT.out.pos)).mono ?_
    rintro _ w4 ⟨rfl, hb4⟩
    have HB4 := Lib.hid (two_below' HB3.out hb4)
    clear hb4
    go_wp2_with fail
    go_ret
    exact ⟨rfl, HB4.out⟩
  · rw [hli] at HLi
    clear hli HWr HRw
    go_enter Tryd.func3, Tryd.ntmps3
    go_wp2_with ((with_reducible show wpList _ _ _ (⟨_, .load 24 _, _, _, _, _⟩ :: _) _ _); refine wpList_load_tx rfl 24 (.tmp 1) rfl w.heap.size 0 rfl C _ (row_range HR0.out) Tryd.underlying24 rfl (by rw [bt_size, HCL.out]) ?_)
    refine (HLi.out _ HB0.out).mono ?_
    rintro _ w1 ⟨rfl, hb1⟩
    have HB1 := Lib.hid (two_below' HB0.out hb1)
    clear hb1
    go_wp2_with fail
    refine (HAw.out _ (HT.out.below HB1.out HT.out.pos)).mono ?_
    rintro _ w4 ⟨rfl, hb4⟩
    have HB4 := Lib.hid (two_below' HB1.out hb4)
    clear hb4
    go_wp2_with fail
    go_ret
    exact ⟨rfl, HB4.out⟩
end Go.Proofs.YtinciddchpccnaaDoor
namespace Go.Proofs.YtinciddchpccnaaDoor
open Go.RowKit
set_option linter.unusedVariables false
set_option linter.unusedSimpArgs false

theorem Cr.way_len13 {k : Nat} {t : List UInt8} (ht : t.length ≤ 4000) : (Cr.head k t ++ Cr.way k t).length ≤ 6000 := by
  have h1 : (Rn.Runs.pack t).length ≤ t.length + (t.length + 127) / 128 := Rn.Runs.pack_little t.length t (Nat.le_refl _)
  have h2 := Win.pack_little t
  have h3 := Win.pack_little (Rn.Runs.pack t)
  have hn := Oct.num_length_le t.length
  have hw : (Cr.way k t).length ≤ 5000 := by
    unfold Cr.way
    split
    · omega
    · split
      · omega
      · split <;> omega
  unfold Cr.head
  simp only [List.length_append, List.length_cons, Cr.four_len]
  omega
theorem Po.read_way {b : Bt} {k : Nat} (hk : k < 4) (hl : Po.light b = true) (h0 : b.textE.2 = 0) : ∃ u, Po.sealE (Cr.head k b.textE.1 ++ Cr.way k b.textE.1) = (u, 0) ∧ u.length ≤ 60000 ∧ Po.read u = (0, some b) := by
  have ht := Po.light_text hl
  have hw := Cr.way_len13 (k := k) ht
  obtain ⟨u, hu, hul⟩ := Po.sealE_ok (c := Cr.head k b.textE.1 ++ Cr.way k b.textE.1) (by omega)
  refine ⟨u, hu, by omega, Po.read_seal (t := b.textE.1) hu ?_ (Prod.ext rfl h0)⟩
  have := Cr.opened_way (w := k) (l := b.textE.1) hk (by omega) 32768
  rw [if_neg (by omega)] at this
  exact this
theorem Po.write_len {b : Bt} {s : List UInt8} (hl : Po.light b = true) (h : Po.writeE b = (s, 0)) : s.length ≤ 60000 := by
  unfold Po.writeE at h
  split at h
  · have hp := Po.light_pack hl
    obtain ⟨u, hu, hul⟩ := Po.sealE_ok (c := Cr.pack b.textE.1) (by omega)
    rw [hu] at h
    simp only [Prod.mk.injEq, and_true] at h
    rw [← h]; omega
  · next h0 =>
    simp only [Prod.mk.injEq] at h
    exact absurd h.2 h0
theorem Po.write_no {b : Bt} {s : List UInt8} {e : Int} (h : Po.writeE b = (s, e)) (he : e ≠ 0) : s = [] := by
  have key : ∀ L : List (List UInt8), (Oct.listE L).2 ≠ 0 → (Oct.listE L).1 = [] := fun L hL => by
    unfold Oct.listE at hL ⊢
    split
    · rfl
    · split
      · rfl
      · next h1 _ b hb => rw [if_neg h1, hb] at hL; exact absurd rfl hL
  unfold Po.writeE at h
  split at h
  · unfold Po.sealE at h
    have := key [Cr.pack b.textE.1, Po.tag (Cr.pack b.textE.1)] (by rw [h]; exact he)
    rw [h] at this
    exact this
  · simp only [Prod.mk.injEq] at h
    exact h.1.symm
theorem Po.write_text {b : Bt} {s : List UInt8} (h : Po.writeE b = (s, 0)) : b.textE.2 = 0 := by
  unfold Po.writeE at h
  split at h
  · next h0 => exact h0
  · simp only [Prod.mk.injEq] at h
    exact h.2
theorem batches_one {b : Bt} (hf : b.Fits) (hk : b.ok = true) {C : List Value} {q : Int} {lo : Nat} {A : Option Addr} {cap : Nat} (W : World) (h1 : PfOf (some b) C q lo W) (hP : PartsAt W W.heap.size A b.parts) :
    Calls Tryd.prog 15 #[.agg C.toArray, .agg (b.cells A cap).toArray] W fun e w' => e = .returned (.bool true) ∧ Below W.heap.size W w' := by
  obtain ⟨A1, c1, e1, _, p1, _⟩ := h1
  rw [e1]
  exact batches5_same b hf.texts ((Bt.ok_iff b).1 hk).2.1 A1 A c1 cap W p1.at hP
set_option maxRecDepth 20000 in
set_option maxHeartbeats 6400000 in
theorem boxBack_any (hRS : RefSum) (b : Bt) (A : Option Addr) (cap : Nat) (n : Nat) (hn : n < 256) (hf : b.Fits) (w : World) (hP : PartsAt w w.heap.size A b.parts) (hl : b.parts.length ≤ 9223372036854775807) (hT : Tab w) :
    Calls Tryd.prog 6 #[.agg (b.cells A cap).toArray, .int .u8 (n : Int)] w fun e w' => e = .returned (.bool true) ∧ Below w.heap.size w w' := by
  have hb0 := (Below.refl w.heap.size w).alloc (Nat.le_refl _) (.cells (b.cells A cap).toArray 24)
  have HR0 := Lib.hid (Row.new w 24 (b.cells A cap))
  have HB0 := Lib.hid hb0
  have hzb := bt_zv
  have HLi : Hid (∀ W, Below w.heap.size w W → Calls Tryd.prog 9 #[.agg (b.cells A cap).toArray] W fun e w' => e = .returned (.bool (Po.light b)) ∧ Below W.heap.size W w') := Lib.hid (fun W hW => light_any b A cap W ((hP.below hW).mono hW.size) hf.texts hl)
  have HWr : Hid (Po.light b = true → ∀ W, Below w.heap.size w W → Tab W → Calls Tryd.prog 11 #[.agg (b.cells A cap).toArray] W fun e w' => e = .returned (two (Po.writeE b).1 (Po.writeE b).2) ∧ Below W.heap.size W w') := Lib.hid (fun hli W hW hTW => boxWrite_any b A cap W ((hP.below hW).mono hW.size) (fun _ => by have := Po.light_text hli; omega) (fun _ => by have := Po.light_pack hli; omega) hTW)
  have HAw : Hid (∀ W, Tab W → Calls Tryd.prog 10 #[] W fun e w' => e = .returned (.bool true) ∧ Below W.heap.size W w') := Lib.hid awake13_any
  have HT := Lib.hid hT
  have HCL : Hid ((b.cells A cap).length = 4) := Lib.hid rfl
  have HBL : Hid (Bt.zeroC.length = 4) := Lib.hid rfl
  have HPA : Hid (∀ W, Below w.heap.size w W → PartsAt W W.heap.size A b.parts) := Lib.hid (fun W hW => (hP.below hW).mono hW.size)
  have HW5 : Hid (∀ W, Below w.heap.size w W → Calls Tryd.prog 19 #[.agg (b.cells A cap).toArray] W fun e w' => e = .returned (two b.textE.1 b.textE.2) ∧ Below W.heap.size W w') := Lib.hid (fun W hW => rwriteBatch_any b A cap hf W ((hP.below hW).mono hW.size))
  obtain ⟨R, hR⟩ : ∃ R, Po.writeE b = R := ⟨_, rfl⟩
  rw [hR] at HWr
  obtain ⟨ts, te⟩ := R
  unfold two at HWr HW5
  simp only at HWr
  clear hP hT hb0
  rcases Bool.eq_false_or_eq_true (Po.light b) with hli | hli
  rotate_left
  · rw [hli] at HLi
    generalize b.cells A cap = C at *
    clear hli HWr HW5
    go_enter Tryd.func6, Tryd.ntmps6
    go_wp2_with ((with_reducible show wpList _ _ _ (⟨_, .load 24 (.tmp 2), _, _, _, _⟩ :: _) _ _); refine wpList_load_tx rfl 24 (.tmp 2) rfl w.heap.size 0 rfl C _ (row_range HR0.out) Tryd.underlying24 rfl (by rw [bt_size, HCL.out]) ?_)
    refine (HLi.out _ HB0.out).mono ?_
    rintro _ w1 ⟨rfl, hb1⟩
    have HB1 := Lib.hid (two_below' HB0.out hb1)
    clear hb1
    go_wp2_with fail
    refine (HAw.out _ (HT.out.below HB1.out HT.out.pos)).mono ?_
    rintro _ w4 ⟨rfl, hb4⟩
    have HB4 := Lib.hid (two_below' HB1.out hb4)
    clear hb4
    go_wp2_with fail
    go_ret
    exact ⟨rfl, HB4.out⟩
  have HWr := Lib.hid (HWr.out hli)
  by_cases he : te = 0
  rotate_left
  · have hts := Po.write_no hR he
    subst hts
    have dq : (te != 0) = true := by simpa using he
    rw [hli] at HLi
    generalize b.cells A cap = C at *
    clear hli he hR HW5
    go_enter Tryd.func6, Tryd.ntmps6
    go_wp2_with ((with_reducible show wpList _ _ _ (⟨_, .load 24 (.tmp 2), _, _, _, _⟩ :: _) _ _); refine wpList_load_tx rfl 24 (.tmp 2) rfl w.heap.size 0 rfl C _ (row_range HR0.out) Tryd.underlying24 rfl (by rw [bt_size, HCL.out]) ?_)
    refine (HLi.out _ HB0.out).mono ?_
    rintro _ w1 ⟨rfl, hb1⟩
    have HB1 := Lib.hid (two_below' HB0.out hb1)
    have HR1 := Lib.hid (HR0.out.below hb1)
    clear hb1
    go_wp2_with ((with_reducible show wpList _ _ _ (⟨_, .load 24 (.tmp 2), _, _, _, _⟩ :: _) _ _); refine wpList_load_tx rfl 24 (.tmp 2) rfl w.heap.size 0 rfl C _ (row_range HR1.out) Tryd.underlying24 rfl (by rw [bt_size, HCL.out]) ?_)
    refine (HWr.out _ HB1.out (HT.out.below HB1.out HT.out.pos)).mono ?_
    rintro _ w2 ⟨rfl, hb2⟩
    have HB2 := Lib.hid (two_below' HB1.out hb2)
    clear hb2
    go_wp2_with fail
    refine (HAw.out _ (HT.out.below HB2.out HT.out.pos)).mono ?_
    rintro _ w3 ⟨rfl, hb3⟩
    have HB3 := Lib.hid (two_below' HB2.out hb3)
    clear hb3
    go_wp2_with fail
    refine (HAw.out _ (HT.out.below HB3.out HT.out.pos)).mono ?_
    rintro _ w4 ⟨rfl, hb4⟩
    have HB4 := Lib.hid (two_below' HB3.out hb4)
    clear hb4
    go_wp2_with fail
    go_ret
    exact ⟨rfl, HB4.out⟩
  subst he
  have h0 := Po.write_text hR
  have hlen := Po.write_len hli hR
  have hrd := Po.read_write (by have := Po.light_text hli; omega) hR
  obtain ⟨k, hkn⟩ : ∃ k, n % 4 = k := ⟨_, rfl⟩
  have hk4 : k < 4 := by omega
  obtain ⟨u, hu, hul, hru⟩ := Po.read_way hk4 hli h0
  have hok : b.ok = true := (Po.read_ok hrd).2
  have htl := Po.light_text hli
  have HRd : Hid (∀ (x : List UInt8), x.length ≤ 60000 → Po.read x = (0, some b) → ∀ W, Tab W → Calls Tryd.prog 13 #[S x] W fun e w' => RdEnds (0, some b) W.heap.size e w' ∧ Below W.heap.size W w') := Lib.hid (fun x hx hr W hTW => by
    have h := boxRead_any ⟨x.toArray⟩ W (by show x.toArray.size ≤ _; simp; omega) hTW
    have e : (⟨x.toArray⟩ : ByteArray).data.toList = x := by simp
    rw [e, hr] at h
    exact h)
  have HRd1 := Lib.hid (HRd.out ts hlen hrd)
  have HRd2 := Lib.hid (HRd.out u hul hru)
  have HHd : Hid (∀ W, Calls Tryd.prog 21 #[.int .i64 (k : Int), S b.textE.1] W fun e w' => e = .returned (S (Cr.head k b.textE.1)) ∧ Below W.heap.size W w') := Lib.hid (fun W => by
    have h := head_any k ⟨b.textE.1.toArray⟩ W (by omega) (by show b.textE.1.toArray.size ≤ _; simp; omega)
    have e : (⟨b.textE.1.toArray⟩ : ByteArray).data.toList = b.textE.1 := by simp
    rw [e] at h
    exact h)
  have HWy : Hid (∀ W, Calls Tryd.prog 22 #[.int .i64 (k : Int), S b.textE.1] W fun e w' => e = .returned (S (Cr.way k b.textE.1)) ∧ Below W.heap.size W w') := Lib.hid (fun W => by
    have h := way_any k ⟨b.textE.1.toArray⟩ W hk4 (by show b.textE.1.toArray.size ≤ _; simp; omega)
    have e : (⟨b.textE.1.toArray⟩ : ByteArray).data.toList = b.textE.1 := by simp
    rw [e] at h
    exact h)
  have hwl := Cr.way_len13 (k := k) htl
  have HSe : Hid (∀ W, Calls Tryd.prog 20 #[S (Cr.head k b.textE.1 ++ Cr.way k b.textE.1)] W fun e w' => e = .returned (.tuple #[S u, .int .i64 0]) ∧ Below W.heap.size W w') := Lib.hid (fun W => by
    have h := rseal_any hRS (Cr.head k b.textE.1 ++ Cr.way k b.textE.1) (by omega) W
    rw [hu] at h
    exact h)
  have HBa : Hid (∀ (C : List Value) (q : Int) (lo : Nat) (W : World), Below w.heap.size w W → PfOf (some b) C q lo W → Calls Tryd.prog 15 #[.agg C.toArray, .agg (b.cells A cap).toArray] W fun e w' => e = .returned (.bool true) ∧ Below W.heap.size W w') := Lib.hid (fun C q lo W hW h => batches_one hf hok W h (HPA.out W hW))
  rw [hli] at HLi
  rw [h0] at HW5
  have hrem : (n : Int) % 4 = (k : Int) := by omega
  have hk256 : (k : Int) % 256 = (k : Int) := by omega
  have hkb : (k : Int) < 4 := by omega
  obtain ⟨ZC, hZC⟩ : ∃ ZC, ZC = Bt.zeroC := ⟨_, rfl⟩
  simp only [← hZC] at hzb HBL
  generalize b.cells A cap = C at *
  generalize b.textE.1 = t at *
  generalize Cr.head k t = hd at *
  generalize Cr.way k t = wy at *
  rw [List.length_append] at hwl
  obtain ⟨P, hPq⟩ : ∃ P : ByteArray, (⟨wy.toArray⟩ : ByteArray) = P := ⟨_, rfl⟩
  obtain ⟨H, hHq⟩ : ∃ H : ByteArray, (⟨hd.toArray⟩ : ByteArray) = H := ⟨_, rfl⟩
  have hPz : P.size ≤ 6000 := by rw [← hPq]; show wy.length ≤ _; omega
  have hHz : H.size ≤ 6000 := by rw [← hHq]; show hd.length ≤ _; omega
  have es1 : S hd = .string H := by rw [← hHq]
  have es2 : S wy = .string P := by rw [← hPq]
  have es3 : S (hd ++ wy) = .string (H ++ P) := by rw [← hPq, ← hHq, append_list]
  simp only [es1] at HHd
  simp only [es2] at HWy
  simp only [es3] at HSe
  clear es1 es2 es3 hPq hHq
  clear hli hR hlen hrd hu hul hru hok htl h0 hwl HRd hl hf hZC HPA hkn
  go_enter Tryd.func6, Tryd.ntmps6
  go_wp2_with ((with_reducible show wpList _ _ _ (⟨_, .load 24 (.tmp 2), _, _, _, _⟩ :: _) _ _); refine wpList_load_tx rfl 24 (.tmp 2) rfl w.heap.size 0 rfl C _ (row_range HR0.out) Tryd.underlying24 rfl (by rw [bt_size, HCL.out]) ?_)
  refine (HLi.out _ HB0.out).mono ?_
  rintro _ w1 ⟨rfl, hb1⟩
  have HB1 := Lib.hid (two_below' HB0.out hb1)
  have HR1 := Lib.hid (HR0.out.below hb1)
  clear hb1
  go_wp2_with ((with_reducible show wpList _ _ _ (⟨_, .load 24 (.tmp 2), _, _, _, _⟩ :: _) _ _); refine wpList_load_tx rfl 24 (.tmp 2) rfl w.heap.size 0 rfl C _ (row_range HR1.out) Tryd.underlying24 rfl (by rw [bt_size, HCL.out]) ?_)
  refine (HWr.out _ HB1.out (HT.out.below HB1.out HT.out.pos)).mono ?_
  rintro _ w2 ⟨rfl, hb2⟩
  have HB2 := Lib.hid (two_below' HB1.out hb2)
  have HR2 := Lib.hid (HR1.out.below hb2)
  clear hb2
  go_wp2_with fail
  refine (HAw.out _ (HT.out.below HB2.out HT.out.pos)).mono ?_
  rintro _ w3 ⟨rfl, hb3⟩
  have HB3 := Lib.hid (two_below' HB2.out hb3)
  have HR3 := Lib.hid (HR2.out.below hb3)
  clear hb3
  go_wp2_with fail
  refine (HRd1.out _ (HT.out.below HB3.out HT.out.pos)).mono ?_
  rintro e w4 ⟨hrd, hb4⟩
  obtain ⟨C1, q1, rfl, hp1⟩ := hrd.of
  obtain ⟨h1l, h11, _⟩ := hp1.cells
  have HB4 := Lib.hid (two_below' HB3.out hb4)
  have HR4 := Lib.hid (HR3.out.below hb4)
  have HP4 := Lib.hid hp1
  have H1L := Lib.hid h1l
  have H11 := Lib.hid h11
  have HN := Lib.hid (Row.new w4 24 ZC)
  clear hrd hb4 hp1 h1l h11
  go_wp2_with (first
  | (with_reducible show wpList _ _ _ (⟨_, .store 24 _ _, _, _, _, _⟩ :: _) _ _
     refine wpList_store_at rfl 24 (.tmp 7) (.tmp 38) rfl w4.heap.size 0 C1 _ _ rfl rfl HN.out (by rw [HBL.out, H1L.out]; decide) (by rw [bt_size, H1L.out]) H11.out ?_
     intro w5 hr hg
     rw [splice_all (H1L.out.trans HBL.out.symm)] at hr
     have hbs := below_own ((Below.refl w4.heap.size w4).alloc (Nat.le_refl _) (.cells ZC.toArray 24)) hg (fun k hk => by cases hk; exact Nat.le_refl _)
     have HX5 := Lib.hid hr
     have HR5 := Lib.hid (HR4.out.below hbs)
     have HP5 := Lib.hid (HP4.out.grown (grownBy_of_below hbs none) (fun k hk => by cases hk))
     have HB5 := Lib.hid (two_below' HB4.out hbs)
     clear hr hg hbs)
  | ((with_reducible show wpList _ _ _ (⟨_, .load 24 (.tmp 2), _, _, _, _⟩ :: _) _ _); refine wpList_load_tx rfl 24 (.tmp 2) rfl w.heap.size 0 rfl C _ (row_range HR5.out) Tryd.underlying24 rfl (by rw [bt_size, HCL.out]) ?_))
  refine (HW5.out _ HB5.out).mono ?_
  rintro _ w6 ⟨rfl, hb6⟩
  have HB6 := Lib.hid (two_below' HB5.out hb6)
  have HR6 := Lib.hid (HR5.out.below hb6)
  have HX6 := Lib.hid (HX5.out.below hb6)
  have HP6 := Lib.hid (HP5.out.grown (grownBy_of_below hb6 none) (fun k hk => by cases hk))
  clear hb6
  go_wp2_with fail
  refine (HHd.out _).mono ?_
  rintro _ w7 ⟨rfl, hb7⟩
  have HB7 := Lib.hid (two_below' HB6.out hb7)
  have HR7 := Lib.hid (HR6.out.below hb7)
  have HX7 := Lib.hid (HX6.out.below hb7)
  have HP7 := Lib.hid (HP6.out.grown (grownBy_of_below hb7 none) (fun k hk => by cases hk))
  clear hb7
  go_wp2_with fail
  refine (HWy.out _).mono ?_
  rintro _ w8 ⟨rfl, hb8⟩
  have HB8 := Lib.hid (two_below' HB7.out hb8)
  have HR8 := Lib.hid (HR7.out.below hb8)
  have HX8 := Lib.hid (HX7.out.below hb8)
  have HP8 := Lib.hid (HP7.out.grown (grownBy_of_below hb8 none) (fun k hk => by cases hk))
  clear hb8
  go_wp2_with fail
  refine (HSe.out _).mono ?_
  rintro _ w9 ⟨rfl, hb9⟩
  have HB9 := Lib.hid (two_below' HB8.out hb9)
  have HR9 := Lib.hid (HR8.out.below hb9)
  have HX9 := Lib.hid (HX8.out.below hb9)
  have HP9 := Lib.hid (HP8.out.grown (grownBy_of_below hb9 none) (fun k hk => by cases hk))
  clear hb9
  go_wp2_with fail
  refine (HRd2.out _ (HT.out.below HB9.out HT.out.pos)).mono ?_
  rintro e w10 ⟨hrd, hb10⟩
  obtain ⟨C2, q2, rfl, hp2⟩ := hrd.of
  obtain ⟨h2l, h21, _⟩ := hp2.cells
  have HB10 := Lib.hid (two_below' HB9.out hb10)
  have HR10 := Lib.hid (HR9.out.below hb10)
  have HX10 := Lib.hid (HX9.out.below hb10)
  have HP10 := Lib.hid (HP9.out.grown (grownBy_of_below hb10 none) (fun k hk => by cases hk))
  have HQ10 := Lib.hid hp2
  have H2L := Lib.hid h2l
  have H21 := Lib.hid h21
  have HN2 := Lib.hid (Row.new w10 24 ZC)
  clear hrd hb10 hp2 h2l h21
  go_wp2_with (first
  | (with_reducible show wpList _ _ _ (⟨_, .store 24 _ _, _, _, _, _⟩ :: _) _ _
     refine wpList_store_at rfl 24 (.tmp 13) (.tmp 63) rfl w10.heap.size 0 C2 _ _ rfl rfl HN2.out (by rw [HBL.out, H2L.out]; decide) (by rw [bt_size, H2L.out]) H21.out ?_
     intro w11 hr hg
     rw [splice_all (H2L.out.trans HBL.out.symm)] at hr
     have hbs := below_own ((Below.refl w10.heap.size w10).alloc (Nat.le_refl _) (.cells ZC.toArray 24)) hg (fun k hk => by cases hk; exact Nat.le_refl _)
     have HY11 := Lib.hid hr
     have HR11 := Lib.hid (HR10.out.below hbs)
     have HX11 := Lib.hid (HX10.out.below hbs)
     have HP11 := Lib.hid (HP10.out.grown (grownBy_of_below hbs none) (fun k hk => by cases hk))
     have HQ11 := Lib.hid (HQ10.out.grown (grownBy_of_below hbs none) (fun k hk => by cases hk))
     have HB11 := Lib.hid (two_below' HB10.out hbs)
     clear hr hg hbs)
  | ((with_reducible show wpList _ _ _ (⟨_, .load 24 (.tmp 7), _, _, _, _⟩ :: _) _ _); refine wpList_load_tx rfl 24 (.tmp 7) rfl w4.heap.size 0 rfl C1 _ (row_range HX11.out) Tryd.underlying24 rfl (by rw [bt_size, H1L.out]) ?_)
  | ((with_reducible show wpList _ _ _ (⟨_, .load 24 (.tmp 2), _, _, _, _⟩ :: _) _ _); refine wpList_load_tx rfl 24 (.tmp 2) rfl w.heap.size 0 rfl C _ (row_range HR11.out) Tryd.underlying24 rfl (by rw [bt_size, HCL.out]) ?_))
  refine (HBa.out C1 q1 _ _ HB11.out HP11.out).mono ?_
  rintro _ w12 ⟨rfl, hb12⟩
  have HB12 := Lib.hid (two_below' HB11.out hb12)
  have HR12 := Lib.hid (HR11.out.below hb12)
  have HY12 := Lib.hid (HY11.out.below hb12)
  have HQ12 := Lib.hid (HQ11.out.grown (grownBy_of_below hb12 none) (fun k hk => by cases hk))
  clear hb12
  go_wp2_with (first
  | ((with_reducible show wpList _ _ _ (⟨_, .load 24 (.tmp 13), _, _, _, _⟩ :: _) _ _); refine wpList_load_tx rfl 24 (.tmp 13) rfl w10.heap.size 0 rfl C2 _ (row_range HY12.out) Tryd.underlying24 rfl (by rw [bt_size, H2L.out]) ?_)
  | ((with_reducible show wpList _ _ _ (⟨_, .load 24 (.tmp 2), _, _, _, _⟩ :: _) _ _); refine wpList_load_tx rfl 24 (.tmp 2) rfl w.heap.size 0 rfl C _ (row_range HR12.out) Tryd.underlying24 rfl (by rw [bt_size, HCL.out]) ?_))
  refine (HBa.out C2 q2 _ _ HB12.out HQ12.out).mono ?_
  rintro _ w13 ⟨rfl, hb13⟩
  have HB13 := Lib.hid (two_below' HB12.out hb13)
  clear hb13
  go_wp2_with fail
  go_ret
  exact ⟨rfl, HB13.out⟩
end Go.Proofs.YtinciddchpccnaaDoor
namespace Go.Proofs.YtinciddchpccnaaDoor
open Go.RowKit
set_option linter.unusedVariables false
set_option linter.unusedSimpArgs false

theorem Own8.set_ {w : World} {base g cap n : Nat} {bs : List UInt8} (h : Own8 w base (.slice (some ⟨g, 0, none⟩) n cap) bs) (q : Nat) (x : UInt8) (hq : q < bs.length) : Own8 (w.setCell ⟨g, q, none⟩ (.int .u8 (x.toNat : Int))) base (.slice (some ⟨g, 0, none⟩) n cap) (bs.set q x) ∧ w.frozen? ⟨g, q, none⟩ = false := by
  obtain ⟨g', cap', e, hg, hgs, hn, hm, hw, hc⟩ := h
  injection e with e1 e2 e3
  injection e1 with e1
  injection e1 with e1
  subst e1 e2 e3
  have hcell : ∀ i, i < cap → (w.setCell ⟨g, q, none⟩ (.int .u8 (x.toNat : Int))).cell? ⟨g, i, none⟩ = if i = q then some (.int .u8 (x.toNat : Int)) else w.cell? ⟨g, i, none⟩ := by
    intro i hi
    by_cases e : i = q
    · subst e
      rw [if_pos rfl]
      have hs := (hw i hi).1
      exact World.cell?_setCell_same' _ _ _ hs
    · rw [if_neg e]
      exact World.cell?_setCell_other _ _ _ _ (fun h => by cases h; exact e rfl)
  refine ⟨⟨g, cap, by rw [List.length_set], hg, by simpa [World.setCell] using hgs, by rw [List.length_set]; exact hn, hm, fun i hi => ⟨?_, ?_⟩, fun i hi => ?_⟩, (hw q (by omega)).2⟩
  · rw [hcell i hi]
    split
    · rfl
    · exact (hw i hi).1
  · rw [World.frozen?_setCell]; exact (hw i hi).2
  · rw [List.length_set] at hi
    rw [hcell i (by omega)]
    by_cases e : i = q
    · subst e
      rw [if_pos rfl, List.getElem_set_self]
    · rw [if_neg e, List.getElem_set_ne (fun h => e h.symm)]
      exact hc i hi
theorem xor8 {a b : Nat} (ha : a < 256) (hb : b < 256) : bits .xor .u8 (a : Int) (b : Int) = ((a ^^^ b : Nat) : Int) := by
  have h1 : ∀ c : Nat, c < 256 → (BitVec.ofInt 8 (c : Int)).toNat = c := fun c hc => by
    simp only [BitVec.ofInt_natCast, BitVec.toNat_ofNat]
    exact Nat.mod_eq_of_lt (by omega)
  have h2 : a ^^^ b < 256 := Nat.xor_lt_two_pow (n := 8) ha hb
  show IntKind.u8.wrap ((BitVec.ofInt 8 (a : Int) ^^^ BitVec.ofInt 8 (b : Int)).toNat : Int) = _
  rw [BitVec.toNat_xor, h1 a ha, h1 b hb, IntKind.wrap_u8]
  omega

theorem refList_at (a b u : List UInt8) (X Y : ByteArray) (hX : (⟨a.toArray⟩ : ByteArray) = X) (hY : (⟨b.toArray⟩ : ByteArray) = Y) (hu : Oct.listE [a, b] = (u, 0)) (W : World) (g : Nat) (h : Row W g 9 [.string X, .string Y]) :
    Calls Tryd.prog 24 #[.slice (some ⟨g, 0, none⟩) 2 2] W fun e w' => e = .returned (.tuple #[S u, .int .i64 0]) ∧ Below W.heap.size W w' := by
  have := refList_any (some ⟨g, 0, none⟩) 2 [a, b] W (fun _ => ⟨g, 0, rfl, h.lt, fun i hi => by
    match i, hi with
    | 0, _ => rw [h.cell 0 (by simp)]; show some (Value.string X) = some (S a); rw [← hX]
    | 1, _ => rw [h.cell 1 (by simp)]; show some (Value.string Y) = some (S b); rw [← hY]⟩)
  rw [hu] at this
  exact this
theorem refList_new (a b u : List UInt8) (X Y : ByteArray) (hX : (⟨a.toArray⟩ : ByteArray) = X) (hY : (⟨b.toArray⟩ : ByteArray) = Y) (hu : Oct.listE [a, b] = (u, 0)) (W : World) :
    Calls Tryd.prog 24 #[.slice (some ⟨W.heap.size, 0, none⟩) 2 2] (W.alloc (.cells #[.string X, .string Y] 9)) fun e w' => e = .returned (.tuple #[S u, .int .i64 0]) ∧ Below (W.alloc (.cells #[.string X, .string Y] 9)).heap.size (W.alloc (.cells #[.string X, .string Y] 9)) w' := by
  have hr := Row.new W 9 [.string X, .string Y]
  generalize hW : W.alloc (.cells #[.string X, .string Y] 9) = W2
  have hr : Row W2 W.heap.size 9 [.string X, .string Y] := by rw [← hW]; exact hr
  exact refList_at a b u X Y hX hY hu W2 W.heap.size hr
theorem rdl_at (c t ts : List UInt8) (h : Oct.listE [c, t] = (ts, 0)) (hl : ts.length ≤ 60000) (X Y : ByteArray) (hX : (⟨c.toArray⟩ : ByteArray) = X) (hY : (⟨t.toArray⟩ : ByteArray) = Y) (W : World) :
    Calls Tryd.prog 23 #[S ts, .int .i64 0] W fun e w' => (∃ g1 o1 c1 k1, e = .returned (.tuple #[.slice (some ⟨g1, o1, none⟩) 2 c1, .int .i64 k1, .int .i64 0]) ∧ g1 < w'.heap.size ∧ w'.cell? ⟨g1, o1, none⟩ = some (.string X) ∧ w'.cell? ⟨g1, o1 + 1, none⟩ = some (.string Y)) ∧ Below W.heap.size W w' := by
  have hh := refReadList_any ⟨ts.toArray⟩ 0 W (by show ts.toArray.size ≤ _; simp; omega)
  have hrd : Oct.rdList ts 0 = ([c, t], ((ts.length : Nat) : Int), 0) := by
    have := Oct.rdList_list [] [] [c, t] ts h
    simpa using this
  simp only [List.toList_toArray] at hh
  unfold ListEnds at hh
  rw [hrd] at hh
  refine hh.mono ?_
  rintro e w' ⟨v, rfl, ⟨A, c1, rfl, ht⟩, hb⟩
  obtain ⟨g1, o1, rfl, hlt, hat⟩ := ht (by simp)
  refine ⟨⟨g1, o1, c1, _, rfl, hlt, ?_, ?_⟩, hb⟩
  · have := hat 0 (by simp)
    rw [Nat.add_zero] at this
    rw [this]; show some (S c) = _; rw [← hX]
  · have := hat 1 (by simp)
    rw [this]; show some (S t) = _; rw [← hY]
set_option maxRecDepth 20000 in
set_option maxHeartbeats 6400000 in
theorem boxForged_any (hRS : RefSum) (b : Bt) (A : Option Addr) (cap : Nat) (n : Nat) (hn : n < 256) (O : ByteArray) (hO : O.size ≤ 140737488351232) (hf : b.Fits) (w : World) (hP : PartsAt w w.heap.size A b.parts) (hl : b.parts.length ≤ 9223372036854775807) (hT : Tab w) :
    Calls Tryd.prog 8 #[.agg (b.cells A cap).toArray, .int .u8 (n : Int), .string O] w fun e w' => e = .returned (.bool true) ∧ Below w.heap.size w w' := by
  have hb0 := (Below.refl w.heap.size w).alloc (Nat.le_refl _) (.cells (b.cells A cap).toArray 24)
  have HR0 := Lib.hid (Row.new w 24 (b.cells A cap))
  have HB0 := Lib.hid hb0
  have hzb := bt_zv
  have HLi : Hid (∀ W, Below w.heap.size w W → Calls Tryd.prog 9 #[.agg (b.cells A cap).toArray] W fun e w' => e = .returned (.bool (Po.light b)) ∧ Below W.heap.size W w') := Lib.hid (fun W hW => light_any b A cap W ((hP.below hW).mono hW.size) hf.texts hl)
  have HWr : Hid (Po.light b = true → ∀ W, Below w.heap.size w W → Tab W → Calls Tryd.prog 11 #[.agg (b.cells A cap).toArray] W fun e w' => e = .returned (two (Po.writeE b).1 (Po.writeE b).2) ∧ Below W.heap.size W w') := Lib.hid (fun hli W hW hTW => boxWrite_any b A cap W ((hP.below hW).mono hW.size) (fun _ => by have := Po.light_text hli; omega) (fun _ => by have := Po.light_pack hli; omega) hTW)
  have HAw : Hid (∀ W, Tab W → Calls Tryd.prog 10 #[] W fun e w' => e = .returned (.bool true) ∧ Below W.heap.size W w') := Lib.hid awake13_any
  have HT := Lib.hid hT
  have HCL : Hid ((b.cells A cap).length = 4) := Lib.hid rfl
  have HBL : Hid (Bt.zeroC.length = 4) := Lib.hid rfl
  obtain ⟨R, hR⟩ : ∃ R, Po.writeE b = R := ⟨_, rfl⟩
  rw [hR] at HWr
  obtain ⟨ts, te⟩ := R
  unfold two at HWr
  simp only at HWr
  clear hP hT hb0
  rcases Bool.eq_false_or_eq_true (Po.light b) with hli | hli
  rotate_left
  · rw [hli] at HLi
    generalize b.cells A cap = C at *
    clear hli HWr
    go_enter Tryd.func8, Tryd.ntmps8
    go_wp2_with ((with_reducible show wpList _ _ _ (⟨_, .load 24 (.tmp 3), _, _, _, _⟩ :: _) _ _); refine wpList_load_tx rfl 24 (.tmp 3) rfl w.heap.size 0 rfl C _ (row_range HR0.out) Tryd.underlying24 rfl (by rw [bt_size, HCL.out]) ?_)
    refine (HLi.out _ HB0.out).mono ?_
    rintro _ w1 ⟨rfl, hb1⟩
    have HB1 := Lib.hid (two_below' HB0.out hb1)
    clear hb1
    go_wp2_with fail
    refine (HAw.out _ (HT.out.below HB1.out HT.out.pos)).mono ?_
    rintro _ w4 ⟨rfl, hb4⟩
    have HB4 := Lib.hid (two_below' HB1.out hb4)
    clear hb4
    go_wp2_with fail
    go_ret
    exact ⟨rfl, HB4.out⟩
  have HWr := Lib.hid (HWr.out hli)
  by_cases he : te = 0
  rotate_left
  · have hts := Po.write_no hR he
    subst hts
    have dq : (te != 0) = true := by simpa using he
    rw [hli] at HLi
    generalize b.cells A cap = C at *
    clear hli he hR
    go_enter Tryd.func8, Tryd.ntmps8
    go_wp2_with ((with_reducible show wpList _ _ _ (⟨_, .load 24 (.tmp 3), _, _, _, _⟩ :: _) _ _); refine wpList_load_tx rfl 24 (.tmp 3) rfl w.heap.size 0 rfl C _ (row_range HR0.out) Tryd.underlying24 rfl (by rw [bt_size, HCL.out]) ?_)
    refine (HLi.out _ HB0.out).mono ?_
    rintro _ w1 ⟨rfl, hb1⟩
    have HB1 := Lib.hid (two_below' HB0.out hb1)
    have HR1 := Lib.hid (HR0.out.below hb1)
    clear hb1
    go_wp2_with ((with_reducible show wpList _ _ _ (⟨_, .load 24 (.tmp 3), _, _, _, _⟩ :: _) _ _); refine wpList_load_tx rfl 24 (.tmp 3) rfl w.heap.size 0 rfl C _ (row_range HR1.out) Tryd.underlying24 rfl (by rw [bt_size, HCL.out]) ?_)
    refine (HWr.out _ HB1.out (HT.out.below HB1.out HT.out.pos)).mono ?_
    rintro _ w2 ⟨rfl, hb2⟩
    have HB2 := Lib.hid (two_below' HB1.out hb2)
    clear hb2
    go_wp2_with fail
    refine (HAw.out _ (HT.out.below HB2.out HT.out.pos)).mono ?_
    rintro _ w3 ⟨rfl, hb3⟩
    have HB3 := Lib.hid (two_below' HB2.out hb3)
    clear hb3
    go_wp2_with fail
    refine (HAw.out _ (HT.out.below HB3.out HT.out.pos)).mono ?_
    rintro _ w4 ⟨rfl, hb4⟩
    have HB4 := Lib.hid (two_below' HB3.out hb4)
    clear hb4
    go_wp2_with fail
    go_ret
    exact ⟨rfl, HB4.out⟩
  subst he
  have hlist := Po.write_list hR
  have hlen := Po.write_len hli hR
  have hcl := Po.light_pack hli
  have htl := Po.tag_len (Cr.pack b.textE.1)
  rw [hli] at HLi
  obtain ⟨c, hc⟩ : ∃ c, Cr.pack b.textE.1 = c := ⟨_, rfl⟩
  rw [hc] at hlist hcl htl
  obtain ⟨tg, htg⟩ : ∃ tg, Po.tag c = tg := ⟨_, rfl⟩
  rw [htg] at hlist htl
  -- the bit
  obtain ⟨q, hq⟩ : ∃ q, n / 8 = q := ⟨_, rfl⟩
  obtain ⟨z, hz⟩ : ∃ z, n % 8 = z := ⟨_, rfl⟩
  have eq1 : (n : Int) / 8 = (q : Int) := by omega
  have ez : (n : Int) % 8 = (z : Int) := by omega
  have hq32 : q < 32 := by omega
  have hz8 : z < 8 := by omega
  have hqt : q < tg.length := by omega
  obtain ⟨b8, hb8e⟩ : ∃ b8, tg[q] = b8 := ⟨_, rfl⟩
  obtain ⟨sh, hsh⟩ : ∃ sh, 2 ^ z = sh := ⟨_, rfl⟩
  have hsh1 : sh < 256 ∧ 0 < sh := by
    subst hsh
    refine ⟨?_, Nat.two_pow_pos z⟩
    have : z = 0 ∨ z = 1 ∨ z = 2 ∨ z = 3 ∨ z = 4 ∨ z = 5 ∨ z = 6 ∨ z = 7 := by omega
    rcases this with rfl | rfl | rfl | rfl | rfl | rfl | rfl | rfl <;> decide
  have hb8 := b8.toNat_lt
  have hxor := xor8 (a := b8.toNat) (b := sh) (by omega) hsh1.1
  have hx256 : b8.toNat ^^^ sh < 256 := Nat.xor_lt_two_pow (n := 8) (by omega) hsh1.1
  obtain ⟨x8, hx8⟩ : ∃ x8, UInt8.ofNat (b8.toNat ^^^ sh) = x8 := ⟨_, rfl⟩
  have hx8n : x8.toNat = b8.toNat ^^^ sh := by rw [← hx8, UInt8.toNat_ofNat', Nat.mod_eq_of_lt (by omega)]
  have hbx : b8 ≠ x8 := by
    intro e
    have h := congrArg UInt8.toNat e
    rw [hx8n] at h
    have h2 := congrArg (fun t => b8.toNat ^^^ t) h
    simp only [Nat.xor_self, ← Nat.xor_assoc, Nat.zero_xor] at h2
    omega
  rw [← hx8n] at hxor
  have epw : (2 : Int) ^ z % 256 = (sh : Int) := by
    have : ((2 ^ z : Nat) : Int) = (sh : Int) := by rw [hsh]
    have h2 : (2 : Int) ^ z = (sh : Int) := by rw [← this]; simp
    rw [h2]; omega
  have hne : tg.set q x8 ≠ Po.tag c := by
    rw [htg]
    intro e
    have := congrArg (fun l => l[q]?) e
    simp only [List.getElem?_set_self hqt, List.getElem?_eq_getElem hqt, hb8e, Option.some.injEq] at this
    exact hbx this.symm
  obtain ⟨u, hu, hul⟩ := Po.seal_len2 (c := c) (t := tg.set q x8) (by omega) (by rw [List.length_set]; exact htl)
  have hru := Po.read_no hu (by rw [List.length_set]; exact htl) hne
  obtain ⟨CB, hCB⟩ : ∃ CB, (⟨c.toArray⟩ : ByteArray) = CB := ⟨_, rfl⟩
  obtain ⟨TG, hTG⟩ : ∃ TG, (⟨tg.toArray⟩ : ByteArray) = TG := ⟨_, rfl⟩
  obtain ⟨M2, hM2⟩ : ∃ M2, (⟨(tg.set q x8).toArray⟩ : ByteArray) = M2 := ⟨_, rfl⟩
  have HRL := Lib.hid (fun W => rdl_at c tg ts hlist hlen CB TG hCB hTG W)
  have HLi9 := Lib.hid (fun W g h => refList_at c (tg.set q x8) u CB M2 hCB hM2 hu W g h)
  have HRd : Hid (∀ W, Tab W → Calls Tryd.prog 13 #[S u] W fun e w' => RdEnds (21, none) W.heap.size e w' ∧ Below W.heap.size W w') := Lib.hid (fun W hTW => by
    have h := boxRead_any ⟨u.toArray⟩ W (by show u.toArray.size ≤ _; simp; omega) hTW
    have e : (⟨u.toArray⟩ : ByteArray).data.toList = u := by simp
    rw [e, hru] at h
    exact h)
  have hTGs : TG.size = 32 := by rw [← hTG]; exact htl
  have hTGl : TG.data.toList = tg := by rw [← hTG]
  have hcv : ∀ W : World, ∃ (cp : Nat) (W5 : World), (Go.convert 9 48 (.string TG)).run Tryd.prog W = .ok (.slice (some ⟨W.heap.size, 0, none⟩) 32 cp) W5 ∧ Own8 W5 W.heap.size (.slice (some ⟨W.heap.size, 0, none⟩) 32 cp) tg ∧ Below W.heap.size W W5 := fun W => by
    have h1 := Lib.run_convert_string_bytes (P := Tryd.prog) W 9 48 5 TG Tryd.underlying9 Tryd.underlying48 Tryd.underlying5
    have h2 := Own8.of_string W 5 TG (by unfold maxLen; omega)
    have h3 := below_bytes W 5 TG
    rw [hTGs] at h1 h2
    rw [hTGl] at h2
    exact ⟨_, _, h1, h2, h3⟩
  have Hcv := Lib.hid hcv
  have HSet : Hid (∀ (W : World) (g cp base : Nat), Own8 W base (.slice (some ⟨g, 0, none⟩) 32 cp) tg → Own8 (W.setCell ⟨g, q, none⟩ (.int .u8 (x8.toNat : Int))) base (.slice (some ⟨g, 0, none⟩) 32 cp) (tg.set q x8) ∧ W.frozen? ⟨g, q, none⟩ = false ∧ W.cell? ⟨g, q, none⟩ = some (.int .u8 (b8.toNat : Int))) := Lib.hid (fun W g cp base h => by
    obtain ⟨h1, h2⟩ := h.set_ q x8 hqt
    have h3 := h.at_ q hqt
    rw [hb8e] at h3
    exact ⟨h1, h2, h3⟩)
  have HFrom : Hid (∀ (W : World) (g cp base : Nat), Own8 W base (.slice (some ⟨g, 0, none⟩) 32 cp) (tg.set q x8) → (Go.convert 48 9 (.slice (some ⟨g, 0, none⟩) 32 cp)).run Tryd.prog W = .ok (.string M2) W) := Lib.hid (fun W g cp base h => by
    have := h.from_ (P := Tryd.prog) (k := 0) (by rw [List.length_set, htl]) (Nat.zero_le _) cp 48 5 Tryd.underlying48 Tryd.underlying5 9 Tryd.underlying9
    rw [Nat.sub_zero, List.drop_zero] at this
    rw [this, ← hM2])
  -- the other crate
  have hvs : O.size ≤ 1000 → ∃ v, Oct.listE [O.data.toList, tg] = (v, 0) ∧ v.length ≤ 20000 := fun h => Po.seal_len2 (by show O.size ≤ _; omega) htl
  have hvr : ∀ v, Oct.listE [O.data.toList, tg] = (v, 0) → tg ≠ Po.tag O.data.toList → Po.read v = (21, none) := fun v hv h => Po.read_no hv htl h
  have hOT := fun W => rtag_S hRS O.data.toList (by show O.size ≤ _; omega) W
  have hOe : (⟨O.data.toList.toArray⟩ : ByteArray) = O := by simp
  have hSO : S O.data.toList = .string O := by show Value.string _ = _; rw [hOe]
  have htc : (Seal.tag 64 4 O.data.toList).2 = 0 := Po.tag_ok _
  have hotl := Po.tag_len O.data.toList
  rw [hSO, htc] at hOT
  obtain ⟨ot, hot⟩ : ∃ ot, Po.tag O.data.toList = ot := ⟨_, rfl⟩
  rw [hot] at hvr hOT hotl
  obtain ⟨OT, hOTe⟩ : ∃ OT, (⟨ot.toArray⟩ : ByteArray) = OT := ⟨_, rfl⟩
  have hOTs : ot ≠ tg → OT ≠ TG := fun h e => h (by
    have := congrArg (fun x : ByteArray => x.data.toList) e
    rw [← hOTe, ← hTG] at this
    simpa using this)
  have HOT := Lib.hid hOT
  have HOTE := Lib.hid hOTe
  have HTGE := Lib.hid hTG
  have HO32 := Lib.hid (Tx.bRow_len _ hotl)
  have HO1 := Lib.hid (hash_one _ hotl)
  have HZ32 := Lib.hid (Tx.bRow_len Tx.zero rfl)
  have hzh := hash_zv
  have HBy : Hid (∀ W, Calls Tryd.prog 26 #[.agg (bRow ot)] W fun e w' => e = .returned (.string OT) ∧ Below W.heap.size W w') := Lib.hid (fun W => by
    have := bytes_any ot W hotl
    rw [← hOTe]; exact this)
  have HLi15 : Hid (∀ v, Oct.listE [O.data.toList, tg] = (v, 0) → ∀ W : World, Calls Tryd.prog 24 #[.slice (some ⟨W.heap.size, 0, none⟩) 2 2] (W.alloc (.cells #[.string O, .string TG] 9)) fun e w' => e = .returned (.tuple #[S v, .int .i64 0]) ∧ Below (W.alloc (.cells #[.string O, .string TG] 9)).heap.size (W.alloc (.cells #[.string O, .string TG] 9)) w') := by
    refine Lib.hid ?_
    intro v hv W
    exact refList_new O.data.toList tg v O TG hOe hTG hv W
  have HRd2 : Hid (∀ v : List UInt8, v.length ≤ 20000 → ∀ W, Tab W → Calls Tryd.prog 13 #[S v] W fun e w' => RdEnds (Po.read v) W.heap.size e w' ∧ Below W.heap.size W w') := Lib.hid (fun v hv W hTW => by
    have h := boxRead_any ⟨v.toArray⟩ W (by show v.toArray.size ≤ _; simp; omega) hTW
    have e : (⟨v.toArray⟩ : ByteArray).data.toList = v := by simp
    rw [e] at h
    exact h)
  obtain ⟨ZC, hZC⟩ : ∃ ZC, ZC = Bt.zeroC := ⟨_, rfl⟩
  have HZ3 : Hid (ZC[3]? = some (.slice none 0 0)) := Lib.hid (by rw [hZC]; rfl)
  have HZ1 : Hid (∀ v ∈ ZC, v.oneCell' = true) := Lib.hid (by rw [hZC]; intro v hv; simp [Bt.zeroC, Bt.cells] at hv; rcases hv with rfl | rfl | rfl | rfl <;> rfl)
  have HRd : Hid (∀ W, Tab W → Calls Tryd.prog 13 #[S u] W fun e w' => e = .returned (.tuple #[.agg ZC.toArray, .int .i64 21]) ∧ Below W.heap.size W w') := Lib.hid (fun W hTW => (HRd.out W hTW).mono fun e w' h => ⟨by rw [hZC]; exact h.1, h.2⟩)
  simp only [← hZC] at hzb HBL
  have Hvs := Lib.hid hvs
  have Hvr := Lib.hid hvr
  have HOTs := Lib.hid hOTs
  have hO63 : (O.size : Int) ≤ 9223372036854775807 := by omega
  generalize b.cells A cap = C at *
  have Hzs := Lib.hid hsh
  have Hb8 := Lib.hid hb8
  have HCO : Hid (O = CB ∨ O ≠ CB) := Lib.hid (Classical.em _)
  clear hvs hvr hOTs hOT hSO htc hcv hTGs hTGl hru hul hu hne hcl hlist hlen htl hli hR hc htg hCB hTG hM2 hOTe hot hotl hOe hb8e hx8 hx8n hbx hx256 hqt hq hz hsh hb8 hf hl hZC
  go_enter Tryd.func8, Tryd.ntmps8
  go_wp2_with ((with_reducible show wpList _ _ _ (⟨_, .load 24 (.tmp 3), _, _, _, _⟩ :: _) _ _); refine wpList_load_tx rfl 24 (.tmp 3) rfl w.heap.size 0 rfl C _ (row_range HR0.out) Tryd.underlying24 rfl (by rw [bt_size, HCL.out]) ?_)
  refine (HLi.out _ HB0.out).mono ?_
  rintro _ w1 ⟨rfl, hb1⟩
  have HB1 := Lib.hid (two_below' HB0.out hb1)
  have HR1 := Lib.hid (HR0.out.below hb1)
  clear hb1
  go_wp2_with ((with_reducible show wpList _ _ _ (⟨_, .load 24 (.tmp 3), _, _, _, _⟩ :: _) _ _); refine wpList_load_tx rfl 24 (.tmp 3) rfl w.heap.size 0 rfl C _ (row_range HR1.out) Tryd.underlying24 rfl (by rw [bt_size, HCL.out]) ?_)
  refine (HWr.out _ HB1.out (HT.out.below HB1.out HT.out.pos)).mono ?_
  rintro _ w2 ⟨rfl, hb2⟩
  have HB2 := Lib.hid (two_below' HB1.out hb2)
  clear hb2
  go_wp2_with fail
  refine (HAw.out _ (HT.out.below HB2.out HT.out.pos)).mono ?_
  rintro _ w3 ⟨rfl, hb3⟩
  have HB3 := Lib.hid (two_below' HB2.out hb3)
  clear hb3
  go_wp2_with fail
  refine (HRL.out _).mono ?_
  rintro _ w4 ⟨⟨g1, o1, c1, k1, rfl, hg1, hc0, hc1⟩, hb4⟩
  have HB4 := Lib.hid (two_below' HB3.out hb4)
  obtain ⟨cp, w5, hcv5, how5, hb5⟩ := Hcv.out w4
  obtain ⟨how6, hfr6, hce6⟩ := HSet.out w5 _ _ _ how5
  have HC5 : Hid (∀ W, Below w4.heap.size w4 W → W.cell? ⟨g1, o1, none⟩ = some (.string CB) ∧ W.cell? ⟨g1, o1 + 1, none⟩ = some (.string TG)) := Lib.hid (fun W hW => ⟨(hW.cell (p := ⟨g1, o1, none⟩) hg1).trans hc0, (hW.cell (p := ⟨g1, o1 + 1, none⟩) hg1).trans hc1⟩)
  have HB5 := Lib.hid hb5
  have How6 := Lib.hid how6
  have hb6 := hb5.setCell (Nat.le_refl _) (.int .u8 (x8.toNat : Int)) (p := ⟨w4.heap.size, q, none⟩)
  have HB6 := Lib.hid hb6
  have hq32i : (q : Int) < 32 := by omega
  clear hb4 how5 hb5 how6 hb6
  go_wp2_with fail
  generalize w5.setCell ⟨w4.heap.size, q, none⟩ (.int .u8 (x8.toNat : Int)) = w6 at *
  generalize hgB : w4.heap.size = B at *
  clear hfr6 hce6 hcv5 hc0 hc1
  have HFr6 : Hid (∀ W, Below w6.heap.size w6 W → (Go.convert 48 9 (.slice (some ⟨B, 0, none⟩) 32 cp)).run Tryd.prog W = .ok (.string M2) W) := Lib.hid (fun W hW => HFrom.out W B cp B (How6.out.below hW))
  have HC6 : Hid (∀ W, Below w6.heap.size w6 W → W.cell? ⟨g1, o1, none⟩ = some (.string CB) ∧ W.cell? ⟨g1, o1 + 1, none⟩ = some (.string TG)) := Lib.hid (fun W hW => HC5.out W (HB6.out.trans (hW.mono (by have := HB6.out.size; omega))))
  have HB6w : Hid (Below w.heap.size w w6) := Lib.hid (HB4.out.trans (HB6.out.mono (by rw [← hgB]; exact HB4.out.size)))
  clear hgB
  refine wp_region_held_drew (S := fun w' => Below w6.heap.size w6 w') (by kernel_rfl) ((Below.refl w6.heap.size w6).drew) (fun hHeld => ?_)
  generalize w6.drew = wr9 at *
  refine wpAnyH_take (i := 0) (v := .slice (some ⟨g1, o1, none⟩) 2 c1) rfl (by kernel_rfl) (by kernel_rfl) (by kernel_rfl) (fun _ _ _ h => h) (Or.inl ⟨by rfl, fun w' hSw => by go_simp⟩) hHeld ?_
  try simp only [Act.put, List.getElem_toArray, List.getElem_cons_succ, List.getElem_cons_zero, List.setIfInBounds_toArray, List.set_cons_zero, List.set_cons_succ]
  refine wpAnyH_take (i := 1) (v := .pointer (some ⟨g1, o1, none⟩)) rfl (by kernel_rfl) (by kernel_rfl) (by kernel_rfl) (fun _ _ _ h => h) (Or.inl ⟨by rfl, fun w' hSw => by go_simp⟩) hHeld ?_
  try simp only [Act.put, List.getElem_toArray, List.getElem_cons_succ, List.getElem_cons_zero, List.setIfInBounds_toArray, List.set_cons_zero, List.set_cons_succ]
  refine wpAnyH_take (i := 2) (v := .string CB) rfl (by kernel_rfl) (by kernel_rfl) (by kernel_rfl) (fun _ _ _ h => h) (Or.inl ⟨by rfl, fun w' hSw => by have hq := hSw; have hd := (HC6.out _ hq).1; go_simp⟩) hHeld ?_
  try simp only [Act.put, List.getElem_toArray, List.getElem_cons_succ, List.getElem_cons_zero, List.setIfInBounds_toArray, List.set_cons_zero, List.set_cons_succ]
  refine wpAnyH_take (i := 3) (v := .slice (some ⟨B, 0, none⟩) 32 cp) rfl (by kernel_rfl) (by kernel_rfl) (by kernel_rfl) (fun _ _ _ h => h) (Or.inl ⟨by rfl, fun w' hSw => by go_simp⟩) hHeld ?_
  try simp only [Act.put, List.getElem_toArray, List.getElem_cons_succ, List.getElem_cons_zero, List.setIfInBounds_toArray, List.set_cons_zero, List.set_cons_succ]
  refine wpAnyH_take (i := 4) (v := .string M2) rfl (by kernel_rfl) (by kernel_rfl) (by kernel_rfl) (fun _ _ _ h => h) (Or.inl ⟨by rfl, fun w' hSw => by have hq := hSw; have hd := HFr6.out _ hq; go_simp⟩) hHeld ?_
  try simp only [Act.put, List.getElem_toArray, List.getElem_cons_succ, List.getElem_cons_zero, List.setIfInBounds_toArray, List.set_cons_zero, List.set_cons_succ]
  refine wpAnyH_ready (rs := [5]) (by kernel_rfl) (by simp) (AllReadyH.cons rfl (fun K1 hK1 => ?_) AllReadyH.nil)
  try simp only [Act.put, List.getElem_toArray, List.getElem_cons_succ, List.getElem_cons_zero, List.setIfInBounds_toArray, List.set_cons_zero, List.set_cons_succ]
  go_simp
  have hd2 := (Below.refl wr9.heap.size wr9).alloc (Nat.le_refl _) (.cells #[.string CB, .string M2] 9)
  have rT9 : Row (wr9.alloc (.cells #[.string CB, .string M2] 9)) wr9.heap.size 9 ([.string CB, .string M2]) := Row.new wr9 9 ([.string CB, .string M2])
  have hHeld2 := two_below' hHeld hd2
  generalize wr9.alloc (.cells #[.string CB, .string M2] 9) = wb1 at *
  obtain ⟨gb3, gb3e⟩ : ∃ gb3, gb3 = wr9.heap.size := ⟨_, rfl⟩
  rw [← gb3e] at rT9 ⊢
  refine hK1.out _ _ (hHeld2) (fun hHeld => ?_)
  clear hK1 K1
  try simp only [Act.put, List.getElem_toArray, List.getElem_cons_succ, List.getElem_cons_zero, List.setIfInBounds_toArray, List.set_cons_zero, List.set_cons_succ]
  clear hHeld2 gb3e
  refine wpAnyH_ready (rs := [6]) (by kernel_rfl) (by simp) (AllReadyH.cons rfl (fun K1 hK1 => ?_) AllReadyH.nil)
  try simp only [Act.put, List.getElem_toArray, List.getElem_cons_succ, List.getElem_cons_zero, List.setIfInBounds_toArray, List.set_cons_zero, List.set_cons_succ]
  go_simp
  refine Calls.mono (HLi9.out _ _ rT9) ?_
  rintro e wc4 ⟨rfl, hc5⟩
  have rT9 := rT9.kept (grownBy_of_below hc5 none) (by simp)
  refine hK1.out _ _ (two_below' hHeld hc5) (fun hHeld => ?_)
  clear hK1 K1
  try simp only [Act.put, List.getElem_toArray, List.getElem_cons_succ, List.getElem_cons_zero, List.setIfInBounds_toArray, List.set_cons_zero, List.set_cons_succ]
  refine wpAnyH_take (i := 7) (v := .tuple #[S u, .int .i64 0]) rfl (by kernel_rfl) (by kernel_rfl) (by kernel_rfl) (fun _ _ _ h => h) (Or.inl ⟨by rfl, fun w' hSw => by go_simp⟩) hHeld ?_
  try simp only [Act.put, List.getElem_toArray, List.getElem_cons_succ, List.getElem_cons_zero, List.setIfInBounds_toArray, List.set_cons_zero, List.set_cons_succ]
  refine wpAnyH_take (i := 8) (v := S u) rfl (by kernel_rfl) (by kernel_rfl) (by kernel_rfl) (fun _ _ _ h => h) (Or.inl ⟨by rfl, fun w' hSw => by go_simp⟩) hHeld ?_
  try simp only [Act.put, List.getElem_toArray, List.getElem_cons_succ, List.getElem_cons_zero, List.setIfInBounds_toArray, List.set_cons_zero, List.set_cons_succ]
  refine wpAnyH_take (i := 9) (v := .int .i64 0) rfl (by kernel_rfl) (by kernel_rfl) (by kernel_rfl) (fun _ _ _ h => h) (Or.inl ⟨by rfl, fun w' hSw => by go_simp⟩) hHeld ?_
  try simp only [Act.put, List.getElem_toArray, List.getElem_cons_succ, List.getElem_cons_zero, List.setIfInBounds_toArray, List.set_cons_zero, List.set_cons_succ]
  refine wpAnyH_take (i := 10) (v := S u) rfl (by kernel_rfl) (by kernel_rfl) (by kernel_rfl) (fun _ _ _ h => h) (Or.inl ⟨by rfl, fun w' hSw => by go_simp⟩) hHeld ?_
  try simp only [Act.put, List.getElem_toArray, List.getElem_cons_succ, List.getElem_cons_zero, List.setIfInBounds_toArray, List.set_cons_zero, List.set_cons_succ]
  refine wpAnyH_take (i := 11) (v := .int .i64 0) rfl (by kernel_rfl) (by kernel_rfl) (by kernel_rfl) (fun _ _ _ h => h) (Or.inl ⟨by rfl, fun w' hSw => by go_simp⟩) hHeld ?_
  try simp only [Act.put, List.getElem_toArray, List.getElem_cons_succ, List.getElem_cons_zero, List.setIfInBounds_toArray, List.set_cons_zero, List.set_cons_succ]
  refine wpAnyH_done (by kernel_rfl) ?_ _

  have HB9 := Lib.hid hHeld
  have HB9w := Lib.hid (two_below' HB6w.out hHeld)
  clear hHeld
  go_wp2_with fail
  refine (HRd.out _ (HT.out.below HB9w.out HT.out.pos)).mono ?_
  rintro _ w10 ⟨rfl, hb10⟩
  have HB10 := Lib.hid (two_below' HB9.out hb10)
  have HN := Lib.hid (Row.new w10 24 ZC)
  clear hb10
  have hcase : O = CB ∨ 1000 < O.size ∨ (O ≠ CB ∧ O.size ≤ 1000) := by
    rcases HCO.out with h | h
    · exact .inl h
    · rcases Nat.lt_or_ge 1000 O.size with h2 | h2
      · exact .inr (.inl h2)
      · exact .inr (.inr ⟨h, h2⟩)
  rcases hcase with hOC | hOC
  · subst hOC
    go_wp2_with (first
    | (with_reducible show wpList _ _ _ (⟨_, .store 24 _ _, _, _, _, _⟩ :: _) _ _
       refine wpList_store_at rfl 24 (.tmp 15) (.tmp 72) rfl w10.heap.size 0 ZC _ _ rfl rfl HN.out (by rw [HBL.out]; decide) (by rw [bt_size, HBL.out]) HZ1.out ?_
       intro w11 hr hg
       rw [splice_all rfl] at hr
       have HB11 := Lib.hid (two_below' HB10.out (below_own ((Below.refl w10.heap.size w10).alloc (Nat.le_refl _) (.cells ZC.toArray 24)) hg (fun k hk => by cases hk; exact Nat.le_refl _)))
       have HB11w := Lib.hid (two_below' HB6w.out HB11.out)
       have hc3 : w11.cell? ⟨w10.heap.size, 3, none⟩ = some (.slice none 0 0) := by
         have := row_range hr 3 _ HZ3.out
         simpa using this
       have hcc0 := (HC6.out _ HB11.out).1
       have hcc1 := (HC6.out _ HB11.out).2
       clear hr hg))
    go_ret
    exact ⟨rfl, HB11w.out⟩
  have HOC := Lib.hid hOC
  by_cases hne : O = CB
  · subst hne
    go_wp2_with (first
    | (with_reducible show wpList _ _ _ (⟨_, .store 24 _ _, _, _, _, _⟩ :: _) _ _
       refine wpList_store_at rfl 24 (.tmp 15) (.tmp 72) rfl w10.heap.size 0 ZC _ _ rfl rfl HN.out (by rw [HBL.out]; decide) (by rw [bt_size, HBL.out]) HZ1.out ?_
       intro w11 hr hg
       rw [splice_all rfl] at hr
       have HB11 := Lib.hid (two_below' HB10.out (below_own ((Below.refl w10.heap.size w10).alloc (Nat.le_refl _) (.cells ZC.toArray 24)) hg (fun k hk => by cases hk; exact Nat.le_refl _)))
       have HB11w := Lib.hid (two_below' HB6w.out HB11.out)
       have hc3 : w11.cell? ⟨w10.heap.size, 3, none⟩ = some (.slice none 0 0) := by
         have := row_range hr 3 _ HZ3.out
         simpa using this
       have hcc0 := (HC6.out _ HB11.out).1
       have hcc1 := (HC6.out _ HB11.out).2
       clear hr hg))
    go_ret
    exact ⟨rfl, HB11w.out⟩
  have hs2 : (O.toList == CB.toList) = false := by
    rw [beq_eq_false_iff_ne]
    intro e
    apply hne
    have e1 := ByteArray.toList_eq O
    have e2 := ByteArray.toList_eq CB
    rw [e1, e2] at e
    exact ByteArray.ext (Array.ext' e)
  by_cases hbig : 1000 < O.size
  · have dbig : decide ((1000 : Int) < (O.size : Int)) = true := by simp; omega
    clear hne hOC
    go_wp2_with (first
    | (with_reducible show wpList _ _ _ (⟨_, .store 24 _ _, _, _, _, _⟩ :: _) _ _
       refine wpList_store_at rfl 24 (.tmp 15) (.tmp 72) rfl w10.heap.size 0 ZC _ _ rfl rfl HN.out (by rw [HBL.out]; decide) (by rw [bt_size, HBL.out]) HZ1.out ?_
       intro w11 hr hg
       rw [splice_all rfl] at hr
       have HB11 := Lib.hid (two_below' HB10.out (below_own ((Below.refl w10.heap.size w10).alloc (Nat.le_refl _) (.cells ZC.toArray 24)) hg (fun k hk => by cases hk; exact Nat.le_refl _)))
       have HB11w := Lib.hid (two_below' HB6w.out HB11.out)
       have hc3 : w11.cell? ⟨w10.heap.size, 3, none⟩ = some (.slice none 0 0) := by
         have := row_range hr 3 _ HZ3.out
         simpa using this
       have hcc0 := (HC6.out _ HB11.out).1
       have hcc1 := (HC6.out _ HB11.out).2
       clear hr hg))
    go_ret
    exact ⟨rfl, HB11w.out⟩
  have dbig : decide ((1000 : Int) < (O.size : Int)) = false := by simp; omega
  obtain ⟨v, hv, hvl⟩ := Hvs.out (by omega)
  have HV := Lib.hid hv
  have HVL := Lib.hid hvl
  have HOC2 := Lib.hid hbig
  clear hne hOC hv hvl hbig
  go_wp2_with (first
  | (with_reducible show wpList _ _ _ (⟨_, .store 24 _ _, _, _, _, _⟩ :: _) _ _
     refine wpList_store_at rfl 24 (.tmp 15) (.tmp 72) rfl w10.heap.size 0 ZC _ _ rfl rfl HN.out (by rw [HBL.out]; decide) (by rw [bt_size, HBL.out]) HZ1.out ?_
     intro w11 hr hg
     rw [splice_all rfl] at hr
     have HB11 := Lib.hid (two_below' HB10.out (below_own ((Below.refl w10.heap.size w10).alloc (Nat.le_refl _) (.cells ZC.toArray 24)) hg (fun k hk => by cases hk; exact Nat.le_refl _)))
     have HB11w := Lib.hid (two_below' HB6w.out HB11.out)
     have hc3 : w11.cell? ⟨w10.heap.size, 3, none⟩ = some (.slice none 0 0) := by
       have := row_range hr 3 _ HZ3.out
       simpa using this
     have hcc0 := (HC6.out _ HB11.out).1
     have hcc1 := (HC6.out _ HB11.out).2
     clear hr hg))
  refine (HLi15.out v HV.out _).mono ?_
  rintro _ w15 ⟨rfl, hb15⟩
  have HB15 := Lib.hid (two_below' (HB11.out.alloc HB11.out.size (.cells #[.string O, .string TG] 9)) hb15)
  have HB15w := Lib.hid (two_below' HB6w.out HB15.out)
  clear hb15
  go_wp2_with fail
  refine (HRd2.out v HVL.out _ (HT.out.below HB15w.out HT.out.pos)).mono ?_
  rintro _ w16 ⟨hrd, hb16⟩
  obtain ⟨C2, q2, rfl, hp2⟩ := hrd.of
  obtain ⟨h2l, h21, _⟩ := hp2.cells
  have H2L := Lib.hid h2l
  have H21 := Lib.hid h21
  have HB16 := Lib.hid (two_below' HB15.out hb16)
  have HN2 := Lib.hid (Row.new w16 24 ZC)
  have Hrv := Lib.hid (Hvr.out v HV.out)
  obtain ⟨rv, hrv⟩ : ∃ rv, (Po.read v).1 = rv := ⟨_, rfl⟩
  have Hrv2 : Hid (tg ≠ ot → rv = 21) := Lib.hid (fun h => by rw [← hrv, Hrv.out h])
  rw [hrv]
  clear hrd hb16 hp2 h2l h21 hrv
  go_wp2_with (first
  | (with_reducible show wpList _ _ _ (⟨_, .store 24 _ _, _, _, _, _⟩ :: _) _ _
     refine wpList_store_at rfl 24 (.tmp 19) (.tmp 104) rfl w16.heap.size 0 C2 _ _ rfl rfl HN2.out (by rw [HBL.out, H2L.out]; decide) (by rw [bt_size, H2L.out]) H21.out ?_
     intro w17 hr hg
     have HB17 := Lib.hid (two_below' HB16.out (below_own ((Below.refl w16.heap.size w16).alloc (Nat.le_refl _) (.cells ZC.toArray 24)) hg (fun k hk => by cases hk; exact Nat.le_refl _)))
     clear hr hg))
  refine (HOT.out _).mono ?_
  rintro _ w18 ⟨rfl, hb18⟩
  have HB18 := Lib.hid (two_below' HB17.out hb18)
  have HN3 := Lib.hid (Row.new w18 51 (bRow Tx.zero).toList)
  rw [Array.toArray_toList] at HN3
  clear hb18
  go_wp2_with (first
  | (with_reducible show wpList _ _ _ (⟨_, .store 51 _ _, _, _, _, _⟩ :: _) _ _
     refine wpList_store_at rfl 51 (.tmp 21) (.tmp 109) rfl w18.heap.size 0 (bRow ot).toList (bRow Tx.zero).toList _ rfl rfl HN3.out (by have := HZ32.out; have := HO32.out; omega) (by rw [hash_info, HO32.out]) HO1.out ?_
     intro w19 hr4 hg4
     rw [splice_all (HO32.out.trans HZ32.out.symm)] at hr4
     have HR19 := Lib.hid hr4
     have HB19 := Lib.hid (two_below' HB18.out (below_own ((Below.refl w18.heap.size w18).alloc (Nat.le_refl _) _) hg4 (fun k hk => by cases hk; exact Nat.le_refl _)))
     clear hr4 hg4))
  have HC19 : Hid (∀ W, Below w19.heap.size w19 W → W.cell? ⟨g1, o1, none⟩ = some (.string CB) ∧ W.cell? ⟨g1, o1 + 1, none⟩ = some (.string TG)) := Lib.hid (fun W hW => HC6.out W (HB19.out.trans (hW.mono HB19.out.size)))
  have HRg : Hid (∀ W, Below w19.heap.size w19 W → W.rangeAt w18.heap.size 0 (bRow ot).toList) := Lib.hid (fun W hW => row_range (HR19.out.below hW))
  generalize w18.heap.size = g18 at *
  rcases Classical.em (OT = TG) with hOTT | hOTT
  · subst hOTT
    refine wp_region_held_drew (S := fun w' => Below w19.heap.size w19 w') (by kernel_rfl) ((Below.refl w19.heap.size w19).drew) (fun hHeld => ?_)
    generalize w19.drew = wr18 at *
    refine' wpAnyH_take (i := 0) (v := _) rfl (by kernel_rfl) (by kernel_rfl) (by kernel_rfl) (fun _ _ _ h => h) (yieldsIf_load_mid (by rfl) _ _ rfl g18 0 rfl (bRow ot).toList _ (fun w' hSw => HRg.out _ hSw) Tryd.underlying51 rfl (by rw [hash_info, HO32.out])) hHeld ?_
    try simp only [Act.put, List.getElem_toArray, List.getElem_cons_succ, List.getElem_cons_zero, List.setIfInBounds_toArray, List.set_cons_zero, List.set_cons_succ]
    refine wpAnyH_take (i := 2) (v := .slice (some ⟨g1, o1, none⟩) 2 c1) rfl (by kernel_rfl) (by kernel_rfl) (by kernel_rfl) (fun _ _ _ h => h) (Or.inl ⟨by rfl, fun w' hSw => by go_simp⟩) hHeld ?_
    try simp only [Act.put, List.getElem_toArray, List.getElem_cons_succ, List.getElem_cons_zero, List.setIfInBounds_toArray, List.set_cons_zero, List.set_cons_succ]
    refine wpAnyH_take (i := 3) (v := .pointer (some ⟨g1, o1 + 1, none⟩)) rfl (by kernel_rfl) (by kernel_rfl) (by kernel_rfl) (fun _ _ _ h => h) (Or.inl ⟨by rfl, fun w' hSw => by go_simp⟩) hHeld ?_
    try simp only [Act.put, List.getElem_toArray, List.getElem_cons_succ, List.getElem_cons_zero, List.setIfInBounds_toArray, List.set_cons_zero, List.set_cons_succ]
    refine wpAnyH_take (i := 4) (v := .string OT) rfl (by kernel_rfl) (by kernel_rfl) (by kernel_rfl) (fun _ _ _ h => h) (Or.inl ⟨by rfl, fun w' hSw => by have hq := hSw; have hd := (HC19.out _ hq).2; go_simp⟩) hHeld ?_
    try simp only [Act.put, List.getElem_toArray, List.getElem_cons_succ, List.getElem_cons_zero, List.setIfInBounds_toArray, List.set_cons_zero, List.set_cons_succ]
    refine wpAnyH_ready (rs := [1]) (by kernel_rfl) (by simp) (AllReadyH.cons rfl (fun K1 hK1 => ?_) AllReadyH.nil)
    try simp only [Act.put, List.getElem_toArray, List.getElem_cons_succ, List.getElem_cons_zero, List.setIfInBounds_toArray, List.set_cons_zero, List.set_cons_succ]
    go_simp
    refine Calls.mono (HBy.out _) ?_
    rintro e wc1 ⟨rfl, hc2⟩
    refine hK1.out _ _ (two_below' hHeld hc2) (fun hHeld => ?_)
    clear hK1 K1
    try simp only [Act.put, List.getElem_toArray, List.getElem_cons_succ, List.getElem_cons_zero, List.setIfInBounds_toArray, List.set_cons_zero, List.set_cons_succ]
    refine wpAnyH_take (i := 5) (v := .bool true) rfl (by kernel_rfl) (by kernel_rfl) (by kernel_rfl) (fun _ _ _ h => h) (Or.inl ⟨by rfl, fun w' hSw => by go_simp⟩) hHeld ?_
    try simp only [Act.put, List.getElem_toArray, List.getElem_cons_succ, List.getElem_cons_zero, List.setIfInBounds_toArray, List.set_cons_zero, List.set_cons_succ]
    refine wpAnyH_take (i := 6) (v := .bool true) rfl (by kernel_rfl) (by kernel_rfl) (by kernel_rfl) (fun _ _ _ h => h) (Or.inl ⟨by rfl, fun w' hSw => by go_simp⟩) hHeld ?_
    try simp only [Act.put, List.getElem_toArray, List.getElem_cons_succ, List.getElem_cons_zero, List.setIfInBounds_toArray, List.set_cons_zero, List.set_cons_succ]
    refine wpAnyH_take (i := 7) (v := undef) rfl (by kernel_rfl) (by kernel_rfl) (by kernel_rfl) (fun _ _ _ h => h) (Or.inr ⟨by rfl, rfl⟩) hHeld ?_
    try simp only [Act.put, List.getElem_toArray, List.getElem_cons_succ, List.getElem_cons_zero, List.setIfInBounds_toArray, List.set_cons_zero, List.set_cons_succ]
    refine wpAnyH_take (i := 8) (v := undef) rfl (by kernel_rfl) (by kernel_rfl) (by kernel_rfl) (fun _ _ _ h => h) (Or.inr ⟨by rfl, rfl⟩) hHeld ?_
    try simp only [Act.put, List.getElem_toArray, List.getElem_cons_succ, List.getElem_cons_zero, List.setIfInBounds_toArray, List.set_cons_zero, List.set_cons_succ]
    refine wpAnyH_take (i := 9) (v := .bool true) rfl (by kernel_rfl) (by kernel_rfl) (by kernel_rfl) (fun _ _ _ h => h) (Or.inl ⟨by rfl, fun w' hSw => by go_simp⟩) hHeld ?_
    try simp only [Act.put, List.getElem_toArray, List.getElem_cons_succ, List.getElem_cons_zero, List.setIfInBounds_toArray, List.set_cons_zero, List.set_cons_succ]
    refine wpAnyH_take (i := 10) (v := .bool true) rfl (by kernel_rfl) (by kernel_rfl) (by kernel_rfl) (fun _ _ _ h => h) (Or.inl ⟨by rfl, fun w' hSw => by go_simp⟩) hHeld ?_
    try simp only [Act.put, List.getElem_toArray, List.getElem_cons_succ, List.getElem_cons_zero, List.setIfInBounds_toArray, List.set_cons_zero, List.set_cons_succ]
    refine wpAnyH_done (by kernel_rfl) ?_ _

    have HBe := Lib.hid (two_below' (two_below' HB6w.out HB19.out) hHeld)
    clear hHeld
    go_wp2_with fail
    go_ret
    exact ⟨rfl, HBe.out⟩
  · have hrv21 : rv = 21 := Hrv2.out (fun e => hOTT (by
      have := HOTE.out; have := HTGE.out
      subst e
      simp_all))
    subst hrv21
    have hs4 : (OT.toList == TG.toList) = false := by
      rw [beq_eq_false_iff_ne]
      intro e
      apply hOTT
      rw [ByteArray.toList_eq OT, ByteArray.toList_eq TG] at e
      exact ByteArray.ext (Array.ext' e)
    have hOTT2 := Lib.hid hOTT
    clear hOTT
    refine wp_region_held_drew (S := fun w' => Below w19.heap.size w19 w') (by kernel_rfl) ((Below.refl w19.heap.size w19).drew) (fun hHeld => ?_)
    generalize w19.drew = wr18 at *
    refine' wpAnyH_take (i := 0) (v := _) rfl (by kernel_rfl) (by kernel_rfl) (by kernel_rfl) (fun _ _ _ h => h) (yieldsIf_load_mid (by rfl) _ _ rfl g18 0 rfl (bRow ot).toList _ (fun w' hSw => HRg.out _ hSw) Tryd.underlying51 rfl (by rw [hash_info, HO32.out])) hHeld ?_
    try simp only [Act.put, List.getElem_toArray, List.getElem_cons_succ, List.getElem_cons_zero, List.setIfInBounds_toArray, List.set_cons_zero, List.set_cons_succ]
    refine wpAnyH_take (i := 2) (v := .slice (some ⟨g1, o1, none⟩) 2 c1) rfl (by kernel_rfl) (by kernel_rfl) (by kernel_rfl) (fun _ _ _ h => h) (Or.inl ⟨by rfl, fun w' hSw => by go_simp⟩) hHeld ?_
    try simp only [Act.put, List.getElem_toArray, List.getElem_cons_succ, List.getElem_cons_zero, List.setIfInBounds_toArray, List.set_cons_zero, List.set_cons_succ]
    refine wpAnyH_take (i := 3) (v := .pointer (some ⟨g1, o1 + 1, none⟩)) rfl (by kernel_rfl) (by kernel_rfl) (by kernel_rfl) (fun _ _ _ h => h) (Or.inl ⟨by rfl, fun w' hSw => by go_simp⟩) hHeld ?_
    try simp only [Act.put, List.getElem_toArray, List.getElem_cons_succ, List.getElem_cons_zero, List.setIfInBounds_toArray, List.set_cons_zero, List.set_cons_succ]
    refine wpAnyH_take (i := 4) (v := .string TG) rfl (by kernel_rfl) (by kernel_rfl) (by kernel_rfl) (fun _ _ _ h => h) (Or.inl ⟨by rfl, fun w' hSw => by have hq := hSw; have hd := (HC19.out _ hq).2; go_simp⟩) hHeld ?_
    try simp only [Act.put, List.getElem_toArray, List.getElem_cons_succ, List.getElem_cons_zero, List.setIfInBounds_toArray, List.set_cons_zero, List.set_cons_succ]
    refine wpAnyH_ready (rs := [1]) (by kernel_rfl) (by simp) (AllReadyH.cons rfl (fun K1 hK1 => ?_) AllReadyH.nil)
    try simp only [Act.put, List.getElem_toArray, List.getElem_cons_succ, List.getElem_cons_zero, List.setIfInBounds_toArray, List.set_cons_zero, List.set_cons_succ]
    go_simp
    refine Calls.mono (HBy.out _) ?_
    rintro e wc1 ⟨rfl, hc2⟩
    refine hK1.out _ _ (two_below' hHeld hc2) (fun hHeld => ?_)
    clear hK1 K1
    try simp only [Act.put, List.getElem_toArray, List.getElem_cons_succ, List.getElem_cons_zero, List.setIfInBounds_toArray, List.set_cons_zero, List.set_cons_succ]
    refine wpAnyH_take (i := 5) (v := .bool false) rfl (by kernel_rfl) (by kernel_rfl) (by kernel_rfl) (fun _ _ _ h => h) (Or.inl ⟨by rfl, fun w' hSw => by go_simp⟩) hHeld ?_
    try simp only [Act.put, List.getElem_toArray, List.getElem_cons_succ, List.getElem_cons_zero, List.setIfInBounds_toArray, List.set_cons_zero, List.set_cons_succ]
    refine wpAnyH_take (i := 6) (v := .bool false) rfl (by kernel_rfl) (by kernel_rfl) (by kernel_rfl) (fun _ _ _ h => h) (Or.inl ⟨by rfl, fun w' hSw => by go_simp⟩) hHeld ?_
    try simp only [Act.put, List.getElem_toArray, List.getElem_cons_succ, List.getElem_cons_zero, List.setIfInBounds_toArray, List.set_cons_zero, List.set_cons_succ]
    refine wpAnyH_take (i := 7) (v := .int .i64 21) rfl (by kernel_rfl) (by kernel_rfl) (by kernel_rfl) (fun _ _ _ h => h) (Or.inl ⟨by rfl, fun w' hSw => by go_simp⟩) hHeld ?_
    try simp only [Act.put, List.getElem_toArray, List.getElem_cons_succ, List.getElem_cons_zero, List.setIfInBounds_toArray, List.set_cons_zero, List.set_cons_succ]
    refine wpAnyH_take (i := 8) (v := .bool true) rfl (by kernel_rfl) (by kernel_rfl) (by kernel_rfl) (fun _ _ _ h => h) (Or.inl ⟨by rfl, fun w' hSw => by go_simp⟩) hHeld ?_
    try simp only [Act.put, List.getElem_toArray, List.getElem_cons_succ, List.getElem_cons_zero, List.setIfInBounds_toArray, List.set_cons_zero, List.set_cons_succ]
    refine wpAnyH_take (i := 9) (v := .bool true) rfl (by kernel_rfl) (by kernel_rfl) (by kernel_rfl) (fun _ _ _ h => h) (Or.inl ⟨by rfl, fun w' hSw => by go_simp⟩) hHeld ?_
    try simp only [Act.put, List.getElem_toArray, List.getElem_cons_succ, List.getElem_cons_zero, List.setIfInBounds_toArray, List.set_cons_zero, List.set_cons_succ]
    refine wpAnyH_take (i := 10) (v := .bool true) rfl (by kernel_rfl) (by kernel_rfl) (by kernel_rfl) (fun _ _ _ h => h) (Or.inl ⟨by rfl, fun w' hSw => by go_simp⟩) hHeld ?_
    try simp only [Act.put, List.getElem_toArray, List.getElem_cons_succ, List.getElem_cons_zero, List.setIfInBounds_toArray, List.set_cons_zero, List.set_cons_succ]
    refine wpAnyH_done (by kernel_rfl) ?_ _

    have HBe := Lib.hid (two_below' (two_below' HB6w.out HB19.out) hHeld)
    clear hHeld
    go_wp2_with fail
    go_ret
    exact ⟨rfl, HBe.out⟩
end Go.Proofs.YtinciddchpccnaaDoor
