/- inbox.Messages: what it returns. -/
import Derived.Test.YtjeooegkfjlejaaDoorInbPut
import Derived.WalkMore
namespace Go.Proofs.YtjeooegkfjlejaaDoor
open Go.RowKit
set_option linter.unusedVariables false
set_option linter.unusedSimpArgs false

namespace Inb
def tot (l : List Bk) : Nat := (l.map fun b => b.items.length).sum
theorem tot_take (l : List Bk) (k : Nat) (hk : k < l.length) : tot (l.take k) + l[k].items.length = tot (l.take (k + 1)) := by
  rw [List.take_succ_eq_append_getElem hk]
  unfold tot
  rw [List.map_append, List.sum_append]
  simp only [List.map_cons, List.map_nil, List.sum_cons, List.sum_nil, Nat.add_zero]
theorem tot_le (l : List Bk) (k : Nat) : tot (l.take k) ≤ tot l := by
  have e : tot l = tot (l.take k) + tot (l.drop k) := by
    unfold tot
    rw [← List.sum_append, ← List.map_append, List.take_append_drop]
  omega
theorem step_count (blk : Int) (s : List UInt8 × List En) (i : It) : (step blk s i).2.length ≤ s.2.length + 1 := by
  unfold step
  split
  · simp
  · omega
theorem fold_count (blk : Int) : ∀ (its : List It) (s : List UInt8 × List En), (its.foldl (step blk) s).2.length ≤ s.2.length + its.length
  | [], s => Nat.le_refl _
  | i :: its, s => by
    have h1 := fold_count blk its (step blk s i)
    have h2 := step_count blk s i
    simp only [List.foldl_cons, List.length_cons]
    omega
theorem count_from : ∀ (l : List Bk) (s : List UInt8 × List En), (l.foldl block s).2.length ≤ s.2.length + tot l
  | [], s => Nat.le_add_right _ _
  | b :: l, s => by
    have h1 := count_from l (block s b)
    have h2 := fold_count b.number b.items s
    have h3 : tot (b :: l) = b.items.length + tot l := by unfold tot; simp
    simp only [List.foldl_cons]
    unfold block at h1
    unfold block
    omega
theorem run_count (l : List Bk) : (run l).2.length ≤ tot l := by
  have := count_from l start
  have e : start.2.length = 0 := rfl
  unfold run
  omega
theorem fold_take {α β : Type} {its : List α} {j : Nat} (h : j < its.length) (f : β → α → β) (s : β) : (its.take (j + 1)).foldl f s = f ((its.take j).foldl f s) its[j] := by
  rw [List.take_succ_eq_append_getElem h, List.foldl_append]; rfl
theorem run_take {l : List Bk} {k : Nat} (h : k < l.length) : run (l.take (k + 1)) = block (run (l.take k)) l[k] := fold_take h block start
theorem step_no {blk : Int} {s : List UInt8 × List En} {i : It} (h : item i = false) : step blk s i = s := by unfold step; rw [if_neg (by rw [h]; simp)]
theorem step_yes {blk : Int} {s : List UInt8 × List En} {i : It} (h : item i = true) : step blk s i = (link s.1 i.who i.text, s.2 ++ [⟨i.who, i.text, blk, link s.1 i.who i.text⟩]) := by unfold step; rw [if_pos h]; rfl
end Inb
def Bk.zero : Bk := ⟨0, 0, Tx.zero, []⟩
def Bk.zeroC : List Value := Bk.zero.cells none 0
theorem Bk.zeroC_len : Bk.zeroC.length = 35 := Bk.cells_len rfl
theorem block_zv (W : World) : (zeroValue 45).run Tryd.prog W = .ok (.agg Bk.zeroC.toArray) W := by kernel_rfl
theorem item_zv (W : World) : (zeroValue 98).run Tryd.prog W = .ok (.agg It.zero.cells.toArray) W := by kernel_rfl
/-- entries that come back as a slice of the call's own -/
def EnsOut (base : Nat) (L : List En) (e : Ending) (w' : World) : Prop := ∃ v, e = .returned v ∧ w'.ownsRow base 78 35 v L.length (En.flat L)
/-- where Messages stands -/
def MsgAt (w wr : World) (s : List UInt8 × List En) : Prop := Vars wr w.heap.size w.heap.size (w.heap.size + 1) s.1 s.2 ∧ Below w.heap.size w wr
theorem MsgAt.step {w wr w' : World} {s : List UInt8 × List En} (h : MsgAt w wr s) (hb : Below wr.heap.size wr w') : MsgAt w w' s := ⟨h.1.step hb, two_below' h.2 hb⟩
theorem below_of_store {w w1 w2 : World} {g : Nat} (hb : Below w.heap.size w w1) (hg : w1.grownBy w2 (some g)) (h : w.heap.size ≤ g) : Below w.heap.size w w2 := below_own hb hg (fun k hk => by cases hk; exact h)
theorem MsgAt.put {w wr w' : World} {g : Nat} {T : TypeId} {xs : List Value} {s : List UInt8 × List En} (h : MsgAt w wr s) (hr : Row wr g T xs) (h1 : T ≠ 78) (h2 : T ≠ 68) (h3 : T ≠ 42)
    (hg : wr.grownBy w' (some g)) (hle : w.heap.size ≤ g) : MsgAt w w' s := ⟨h.1.put hr h1 h2 h3 hg, below_of_store h.2 hg hle⟩
theorem MsgAt.lt {w wr : World} {s : List UInt8 × List En} (h : MsgAt w wr s) : w.heap.size + 1 < wr.heap.size := by have := h.1.lt; omega
set_option maxRecDepth 20000 in
set_option maxHeartbeats 3200000 in
theorem messages_any (A : Option Addr) (c : Nat) (l : List Bk) (w : World) (hB : BksAt w w.heap.size A l) (hl : l.length ≤ 9223372036854775807) (htot : Inb.tot l ≤ 3000000) (hT : Tab w) :
    Calls Tryd.prog 40 #[.slice A l.length c] w fun e w' => EnsOut w.heap.size (Inb.msgs l) e w' ∧ Below w.heap.size w w' := by
  obtain ⟨n, hn⟩ : ∃ n, n = l.length := ⟨_, rfl⟩
  rw [← hn]
  have HN := Lib.hid hn
  have HB := Lib.hid hB
  have HT := Lib.hid hT
  have hp := hT.pos
  have hz42 := hash_zv
  have hz45 := block_zv
  have hz98 := item_zv
  rw [← hn] at hl
  clear hn hB hT
  go_enter Tryd.func40, Tryd.ntmps40
  go_wp2_with fail
  have hV0 : Vars ((w.alloc (.cells #[.slice none 0 0] 68)).alloc (.cells (bRow Tx.zero) 42)) w.heap.size w.heap.size (w.heap.size + 1) Tx.zero [] := by
    obtain ⟨r1, r2, r3⟩ := row_two w #[.slice none 0 0] (bRow Tx.zero) 68 42
    exact ⟨Nat.le_refl _, by omega, rfl, by simp, _, r3, r1, by simp [En.flat], .inl ⟨rfl, rfl⟩⟩
  have Hb0 := Lib.hid (((Below.refl w.heap.size w).alloc (Nat.le_refl _) (.cells #[.slice none 0 0] 68)).alloc (by simp) (.cells (bRow Tx.zero) 42))
  have HV0 := Lib.hid hV0
  clear hV0
  clear hz42
  go_loopw [13] (fun i wr => ∃ k : Nat, k ≤ n ∧ i = .int .i64 k ∧ MsgAt w wr (Inb.run (l.take k))) (fun i _ => n - (intOf i).toNat)
  case atStart => exact ⟨0, Nat.zero_le _, rfl, HV0.out, Hb0.out⟩
  case round =>
    obtain ⟨k, hk, rfl, hM⟩ := hrel
    have HM := Lib.hid hM
    clear hM HV0 Hb0
    by_cases hlt : k < n
    · have hki : (k : Int) < (n : Int) := by omega
      have hkl : k < l.length := by rw [← HN.out]; exact hlt
      obtain ⟨bb, off, rfl, hbb, hat⟩ := HB.out (by intro e; rw [e] at hkl; simp at hkl)
      obtain ⟨A', cp, hrng, hits, hcap, hpl⟩ := hat k hkl
      have HRun := Lib.hid (Inb.run_take hkl)
      have HC0 := Lib.hid (Inb.run_count (l.take k))
      have htk : Inb.tot (l.take k) + l[k].items.length ≤ 3000000 := by have h1 := Inb.tot_take l k hkl; have h2 := Inb.tot_le l (k + 1); omega
      have HCL := Lib.hid (Bk.cells_len (b := l[k]) (A := A') (cap := cp) hpl)
      have HC1 := Lib.hid (Bk.cells_one (b := l[k]) (A := A') (cap := cp) hpl)
      have H34 := Lib.hid (Bk.cell34 (b := l[k]) (A := A') (cap := cp) hpl)
      have H00 := Lib.hid (Bk.cell0 l[k] A' cp)
      have Hrng := Lib.hid (range_below hrng HM.out.2 hbb)
      have Hits := Lib.hid hits.1
      have hml := hits.2
      have hbsz : Inb.block (Inb.run (l.take k)) l[k] = l[k].items.foldl (Inb.step l[k].number) (Inb.run (l.take k)) := rfl
      have HBlk := Lib.hid hbsz
      obtain ⟨s0, hs0⟩ : ∃ s0, s0 = Inb.run (l.take k) := ⟨_, rfl⟩
      rw [← hs0] at HRun HM HC0 HBlk
      have hs0c : s0.2.length + l[k].items.length ≤ 3000000 := by have := HC0.out; omega
      generalize l[k].cells A' cp = C at *
      obtain ⟨its, hit⟩ : ∃ its, its = l[k].items := ⟨_, rfl⟩
      obtain ⟨num, hnum⟩ : ∃ num, num = l[k].number := ⟨_, rfl⟩
      rw [← hit] at HBlk Hits hml hs0c H34
      rw [← hnum] at HBlk H00
      obtain ⟨m, hm⟩ : ∃ m, m = its.length := ⟨_, rfl⟩
      rw [← hm] at hml hs0c H34
      have HMl := Lib.hid hm
      clear hit hnum hs0 hat hrng hits hcap hpl hbsz htk hm HC0
      have Hwr := Lib.hid (Row.new wr 45 Bk.zeroC)
      have HZL := Lib.hid Bk.zeroC_len
      go_wp2_with (first
      | ((with_reducible show wpList _ _ _ (⟨_, .load 45 _, _, _, _, _⟩ :: _) _ _); refine wpList_load_tx rfl 45 (.tmp 15) rfl bb (off + k * 35) rfl C _ Hrng.out Tryd.underlying45 rfl (by rw [block_size, HCL.out]) ?_)
      | (with_reducible show wpList _ _ _ (⟨_, .store 45 _ _, _, _, _, _⟩ :: _) _ _
         refine wpList_store_at rfl 45 (.tmp 7) (.tmp 16) rfl wr.heap.size 0 C _ _ rfl rfl Hwr.out (by have := HZL.out; have := HCL.out; omega) (by rw [block_size, HCL.out]) HC1.out ?_
         intro w4 hr4 hg4
         rw [splice_all (HCL.out.trans HZL.out.symm)] at hr4
         have c34 := (row_range hr4) 34 _ H34.out
         have c00 := (row_range hr4) 0 _ H00.out
         have HR4 := Lib.hid hr4
         have Hg4 := Lib.hid hg4
         clear hr4 hg4))
      have hM4 : MsgAt w w4 s0 := (HM.out.step ((Below.refl wr.heap.size wr).alloc (Nat.le_refl _) (.cells Bk.zeroC.toArray 45))).put Hwr.out (by decide) (by decide) (by decide) Hg4.out (by have := HM.out.lt; omega)
      have hg7 : w.heap.size + 1 < wr.heap.size := HM.out.lt
      have HM4 := Lib.hid hM4
      clear hM4 c34 c00 Hrng Hg4 Hwr HM hz45 H34
      generalize wr.heap.size = g7 at *
      generalize wr = wo at *
      go_loopw [20] (fun i wr => ∃ j : Nat, j ≤ m ∧ i = .int .i64 j ∧ MsgAt w wr ((its.take j).foldl (Inb.step num) s0) ∧ Row wr g7 45 C) (fun i _ => m - (intOf i).toNat)
      case atStart => exact ⟨0, Nat.zero_le _, rfl, HM4.out, HR4.out⟩
      case round =>
        obtain ⟨j, hj, rfl, hM2, hRow2⟩ := hrel
        have HM2 := Lib.hid hM2
        have HRow2 := Lib.hid hRow2
        clear hM2 hRow2 HM4 HR4
        by_cases hjm : j < m
        · have hji : (j : Int) < (m : Int) := by omega
          have hjl : j < its.length := by rw [← HMl.out]; exact hjm
          obtain ⟨b2, off2, rfl, hb2, hat2⟩ := Hits.out (by intro e; rw [e] at hjl; simp at hjl)
          have Hr2 := Lib.hid (range_below (hat2 j hjl) HM2.out.2 hb2)
          have HF := Lib.hid (Inb.fold_take hjl (Inb.step num) s0)
          have hcnt : ((its.take j).foldl (Inb.step num) s0).2.length ≤ 4000000 := by
            have h1 := Inb.fold_count num (its.take j) s0
            rw [List.length_take] at h1
            omega
          generalize (its.take j).foldl (Inb.step num) s0 = s1 at *
          generalize its[j] = it at *
          clear hat2
          obtain ⟨kd, who, nn, tx⟩ := it
          obtain ⟨t, rfl⟩ : ∃ t : List UInt8, tx = ⟨t.toArray⟩ := ⟨tx.data.toList, (bytes_back tx).symm⟩
          have HMB := Lib.hid (fun W => mayBe_any ⟨kd, who, nn, ⟨t.toArray⟩⟩ W)
          have HIL : Hid ((It.mk kd who nn ⟨t.toArray⟩).cells.length = 4) := Lib.hid rfl
          have HI1 := Lib.hid (item_one ⟨kd, who, nn, ⟨t.toArray⟩⟩)
          have HI00 : Hid ((It.mk kd who nn ⟨t.toArray⟩).cells[0]? = some (.int .i64 kd)) := Lib.hid rfl
          have HI03 : Hid ((It.mk kd who nn ⟨t.toArray⟩).cells[3]? = some (S t)) := Lib.hid rfl
          have HZI : Hid (It.zero.cells.length = 4) := Lib.hid rfl
          have Hnew := Lib.hid (Row.new wr 98 It.zero.cells)
          have HItD : Hid (Inb.item ⟨kd, who, nn, ⟨t.toArray⟩⟩ = (decide (kd = 1) && (decide (t.length ≤ 640) && (It.mk kd who nn ⟨t.toArray⟩).ok))) := Lib.hid rfl
          have HPut : Hid ((kd = 1 ∧ t.length ≤ 640 ∧ (It.mk kd who nn ⟨t.toArray⟩).ok = true) → ∀ W, Vars W w.heap.size w.heap.size (w.heap.size + 1) s1.1 s1.2 → Tab W → Calls Tryd.prog 64 #[.int .i64 num, .agg (It.mk kd who nn ⟨t.toArray⟩).cells.toArray, .pointer (some ⟨w.heap.size + 1, 0, none⟩), .pointer (some ⟨w.heap.size, 0, none⟩)] W fun e w' =>
              e = .returned (.tuple #[]) ∧ Vars w' w.heap.size w.heap.size (w.heap.size + 1) (Inb.link s1.1 who ⟨t.toArray⟩) (s1.2 ++ [⟨who, ⟨t.toArray⟩, num, Inb.link s1.1 who ⟨t.toArray⟩⟩]) ∧ Below w.heap.size W w' ∧ Stay W w') := Lib.hid (fun hok W hV hTW => by
            have h4 := (It.ok_iff _).1 hok.2.2
            simp only at h4
            exact put12_any num kd who nn t W _ _ _ _ _ hV (by omega) (by omega) hok.2.1 hcnt hTW hp)
          generalize (It.mk kd who nn ⟨t.toArray⟩).cells = IC at *
          rcases Bool.eq_false_or_eq_true (kd == 1) with k1 | k1
          · have k1' : kd = 1 := by simpa using k1
            by_cases hsz : t.length ≤ 640
            · have z1 : decide ((t.length : Int) ≤ 640) = true := by simp; omega
              have z2 : (t.length : Int) ≤ 640 := by omega
              rcases Bool.eq_false_or_eq_true (It.mk kd who nn ⟨t.toArray⟩).ok with hok | hok
              · have HItem : Hid (Inb.item ⟨kd, who, nn, ⟨t.toArray⟩⟩ = true) := Lib.hid (by rw [HItD.out, hok]; simp [k1', hsz])
                have HPut := Lib.hid (HPut.out ⟨k1', hsz, hok⟩)
                rw [hok] at HMB
                clear hok k1' HItD
                go_wp2_with (first
                | ((with_reducible show wpList _ _ _ (⟨_, .load 98 (.tmp 22), _, _, _, _⟩ :: _) _ _); refine wpList_load_tx rfl 98 (.tmp 22) rfl b2 (off2 + j * 4) rfl IC _ Hr2.out Tryd.underlying98 rfl (by rw [item_size, HIL.out]) ?_)
                | ((with_reducible show wpList _ _ _ (⟨_, .load 98 (.tmp 9), _, _, _, _⟩ :: _) _ _); refine wpList_load_tx rfl 98 (.tmp 9) rfl wr.heap.size 0 rfl IC _ (row_range HR7.out) Tryd.underlying98 rfl (by rw [item_size, HIL.out]) ?_)
                | (with_reducible show wpList _ _ _ (⟨_, .store 98 _ _, _, _, _, _⟩ :: _) _ _
                   refine wpList_store_at rfl 98 (.tmp 9) (.tmp 23) rfl wr.heap.size 0 IC _ _ rfl rfl Hnew.out (by have := HIL.out; have := HZI.out; omega) (by rw [item_size, HIL.out]) HI1.out ?_
                   intro w7 hr7 hg7
                   rw [splice_all (HIL.out.trans HZI.out.symm)] at hr7
                   have c0 := (row_range hr7) 0 _ HI00.out
                   have c3 := (row_range hr7) 3 _ HI03.out
                   rw [Nat.zero_add] at c0 c3
                   have HM7 := Lib.hid ((HM2.out.step ((Below.refl wr.heap.size wr).alloc (Nat.le_refl _) (.cells It.zero.cells.toArray 98))).put Hnew.out (by decide) (by decide) (by decide) hg7 (by have := HM2.out.lt; omega))
                   have HB7 := Lib.hid ((HRow2.out.kept (grownBy_alloc wr (.cells It.zero.cells.toArray 98) none) (by simp)).kept hg7 (by have := HRow2.out.lt; simp; omega))
                   have HR7 := Lib.hid hr7
                   clear hr7 hg7))
                refine (HMB.out _).mono ?_
                rintro _ w8 ⟨rfl, hb8⟩
                have HM8 := Lib.hid (HM7.out.step hb8)
                have hB8 := HB7.out.kept (grownBy_of_below hb8 none) (by simp)
                have c008 := (row_range hB8) 0 _ H00.out
                rw [Nat.zero_add] at c008
                have HB8 := Lib.hid hB8
                have HR8 := Lib.hid (HR7.out.kept (grownBy_of_below hb8 none) (by simp))
                clear hb8 c0 c3 hB8
                go_wp2_with ((with_reducible show wpList _ _ _ (⟨_, .load 98 (.tmp 9), _, _, _, _⟩ :: _) _ _); refine wpList_load_tx rfl 98 (.tmp 9) rfl wr.heap.size 0 rfl IC _ (row_range HR8.out) Tryd.underlying98 rfl (by rw [item_size, HIL.out]) ?_)
                refine (HPut.out _ HM8.out.1 (HT.out.below HM8.out.2 hp)).mono ?_
                rintro _ w9 ⟨rfl, hv9, hb9, hst9⟩
                have HM9 : Hid (MsgAt w w9 (Inb.step num s1 ⟨kd, who, nn, ⟨t.toArray⟩⟩)) := Lib.hid (by rw [Inb.step_yes HItem.out]; exact ⟨hv9, HM8.out.2.trans hb9⟩)
                have HB9 := Lib.hid (hst9 _ _ _ HB8.out (by decide) (by decide) (by decide))
                clear hv9 hb9 hst9 c008
                go_wp2_with fail
                exact ⟨⟨j + 1, hjm, by go_num, by rw [HF.out]; exact HM9.out, HB9.out⟩, by simp [intOf]; omega⟩
              · have HItem : Hid (Inb.item ⟨kd, who, nn, ⟨t.toArray⟩⟩ = false) := Lib.hid (by rw [HItD.out, hok]; simp)
                rw [hok] at HMB
                clear hok k1' HItD
                go_wp2_with (first
                | ((with_reducible show wpList _ _ _ (⟨_, .load 98 (.tmp 22), _, _, _, _⟩ :: _) _ _); refine wpList_load_tx rfl 98 (.tmp 22) rfl b2 (off2 + j * 4) rfl IC _ Hr2.out Tryd.underlying98 rfl (by rw [item_size, HIL.out]) ?_)
                | ((with_reducible show wpList _ _ _ (⟨_, .load 98 (.tmp 9), _, _, _, _⟩ :: _) _ _); refine wpList_load_tx rfl 98 (.tmp 9) rfl wr.heap.size 0 rfl IC _ (row_range HR7.out) Tryd.underlying98 rfl (by rw [item_size, HIL.out]) ?_)
                | (with_reducible show wpList _ _ _ (⟨_, .store 98 _ _, _, _, _, _⟩ :: _) _ _
                   refine wpList_store_at rfl 98 (.tmp 9) (.tmp 23) rfl wr.heap.size 0 IC _ _ rfl rfl Hnew.out (by have := HIL.out; have := HZI.out; omega) (by rw [item_size, HIL.out]) HI1.out ?_
                   intro w7 hr7 hg7
                   rw [splice_all (HIL.out.trans HZI.out.symm)] at hr7
                   have c0 := (row_range hr7) 0 _ HI00.out
                   have c3 := (row_range hr7) 3 _ HI03.out
                   rw [Nat.zero_add] at c0 c3
                   have HM7 := Lib.hid ((HM2.out.step ((Below.refl wr.heap.size wr).alloc (Nat.le_refl _) (.cells It.zero.cells.toArray 98))).put Hnew.out (by decide) (by decide) (by decide) hg7 (by have := HM2.out.lt; omega))
                   have HB7 := Lib.hid ((HRow2.out.kept (grownBy_alloc wr (.cells It.zero.cells.toArray 98) none) (by simp)).kept hg7 (by have := HRow2.out.lt; simp; omega))
                   have HR7 := Lib.hid hr7
                   clear hr7 hg7))
                refine (HMB.out _).mono ?_
                rintro _ w8 ⟨rfl, hb8⟩
                have HM8 := Lib.hid (HM7.out.step hb8)
                have hB8 := HB7.out.kept (grownBy_of_below hb8 none) (by simp)
                have c008 := (row_range hB8) 0 _ H00.out
                rw [Nat.zero_add] at c008
                have HB8 := Lib.hid hB8
                have HR8 := Lib.hid (HR7.out.kept (grownBy_of_below hb8 none) (by simp))
                clear hb8 c0 c3 hB8
                go_wp2_with fail
                exact ⟨⟨j + 1, hjm, by go_num, by rw [HF.out, Inb.step_no HItem.out]; exact HM8.out, HB8.out⟩, by simp [intOf]; omega⟩
            · have z1 : decide ((t.length : Int) ≤ 640) = false := by simp; omega
              have z2 : ¬ (t.length : Int) ≤ 640 := by omega
              have HItem : Hid (Inb.item ⟨kd, who, nn, ⟨t.toArray⟩⟩ = false) := Lib.hid (by rw [HItD.out]; simp [hsz])
              clear k1' HItD
              go_wp2_with (first
              | ((with_reducible show wpList _ _ _ (⟨_, .load 98 (.tmp 22), _, _, _, _⟩ :: _) _ _); refine wpList_load_tx rfl 98 (.tmp 22) rfl b2 (off2 + j * 4) rfl IC _ Hr2.out Tryd.underlying98 rfl (by rw [item_size, HIL.out]) ?_)
              | ((with_reducible show wpList _ _ _ (⟨_, .load 98 (.tmp 9), _, _, _, _⟩ :: _) _ _); refine wpList_load_tx rfl 98 (.tmp 9) rfl wr.heap.size 0 rfl IC _ (row_range HR7.out) Tryd.underlying98 rfl (by rw [item_size, HIL.out]) ?_)
              | (with_reducible show wpList _ _ _ (⟨_, .store 98 _ _, _, _, _, _⟩ :: _) _ _
                 refine wpList_store_at rfl 98 (.tmp 9) (.tmp 23) rfl wr.heap.size 0 IC _ _ rfl rfl Hnew.out (by have := HIL.out; have := HZI.out; omega) (by rw [item_size, HIL.out]) HI1.out ?_
                 intro w7 hr7 hg7
                 rw [splice_all (HIL.out.trans HZI.out.symm)] at hr7
                 have c0 := (row_range hr7) 0 _ HI00.out
                 have c3 := (row_range hr7) 3 _ HI03.out
                 rw [Nat.zero_add] at c0 c3
                 have HM7 := Lib.hid ((HM2.out.step ((Below.refl wr.heap.size wr).alloc (Nat.le_refl _) (.cells It.zero.cells.toArray 98))).put Hnew.out (by decide) (by decide) (by decide) hg7 (by have := HM2.out.lt; omega))
                 have HB7 := Lib.hid ((HRow2.out.kept (grownBy_alloc wr (.cells It.zero.cells.toArray 98) none) (by simp)).kept hg7 (by have := HRow2.out.lt; simp; omega))
                 have HR7 := Lib.hid hr7
                 clear hr7 hg7))
              exact ⟨⟨j + 1, hjm, by go_num, by rw [HF.out, Inb.step_no HItem.out]; exact HM7.out, HB7.out⟩, by simp [intOf]; omega⟩
          · have HItem : Hid (Inb.item ⟨kd, who, nn, ⟨t.toArray⟩⟩ = false) := Lib.hid (by rw [HItD.out]; have : ¬ kd = 1 := by simpa using k1
                                                                                          simp [this])
            clear HItD
            go_wp2_with (first
            | ((with_reducible show wpList _ _ _ (⟨_, .load 98 (.tmp 22), _, _, _, _⟩ :: _) _ _); refine wpList_load_tx rfl 98 (.tmp 22) rfl b2 (off2 + j * 4) rfl IC _ Hr2.out Tryd.underlying98 rfl (by rw [item_size, HIL.out]) ?_)
            | ((with_reducible show wpList _ _ _ (⟨_, .load 98 (.tmp 9), _, _, _, _⟩ :: _) _ _); refine wpList_load_tx rfl 98 (.tmp 9) rfl wr.heap.size 0 rfl IC _ (row_range HR7.out) Tryd.underlying98 rfl (by rw [item_size, HIL.out]) ?_)
            | (with_reducible show wpList _ _ _ (⟨_, .store 98 _ _, _, _, _, _⟩ :: _) _ _
               refine wpList_store_at rfl 98 (.tmp 9) (.tmp 23) rfl wr.heap.size 0 IC _ _ rfl rfl Hnew.out (by have := HIL.out; have := HZI.out; omega) (by rw [item_size, HIL.out]) HI1.out ?_
               intro w7 hr7 hg7
               rw [splice_all (HIL.out.trans HZI.out.symm)] at hr7
               have c0 := (row_range hr7) 0 _ HI00.out
               have c3 := (row_range hr7) 3 _ HI03.out
               rw [Nat.zero_add] at c0 c3
               have HM7 := Lib.hid ((HM2.out.step ((Below.refl wr.heap.size wr).alloc (Nat.le_refl _) (.cells It.zero.cells.toArray 98))).put Hnew.out (by decide) (by decide) (by decide) hg7 (by have := HM2.out.lt; omega))
               have HB7 := Lib.hid ((HRow2.out.kept (grownBy_alloc wr (.cells It.zero.cells.toArray 98) none) (by simp)).kept hg7 (by have := HRow2.out.lt; simp; omega))
               have HR7 := Lib.hid hr7
               clear hr7 hg7))
            exact ⟨⟨j + 1, hjm, by go_num, by rw [HF.out, Inb.step_no HItem.out]; exact HM7.out, HB7.out⟩, by simp [intOf]; omega⟩
        · have hji : (m : Int) ≤ (j : Int) := by omega
          have hje : j = its.length := by rw [← HMl.out]; omega
          have HMe : Hid (MsgAt w wr (Inb.run (l.take (k + 1)))) := Lib.hid (by
            rw [HRun.out, HBlk.out]
            have := HM2.out
            rw [hje, List.take_length] at this
            exact this)
          clear hje
          go_wp2_with fail
          exact ⟨⟨k + 1, hlt, by go_num, HMe.out⟩, by simp [intOf]; omega⟩
    · have hki : (n : Int) ≤ (k : Int) := by omega
      have hke : k = l.length := by rw [← HN.out]; omega
      have hMe : MsgAt w wr (Inb.run l) := by
        have := HM.out
        rw [hke, List.take_length] at this
        exact this
      obtain ⟨⟨_, _, _, _, v, hE, _, ho⟩, hbe⟩ := hMe
      have cE := hE.cell 0 (by simp)
      simp only [List.getElem_cons_zero] at cE
      have Ho := Lib.hid ho
      have Hbe := Lib.hid hbe
      clear hke ho hbe hE
      go_wp2_with fail
      go_ret
      exact ⟨⟨v, rfl, Ho.out⟩, Hbe.out⟩
end Go.Proofs.YtjeooegkfjlejaaDoor
