/- The reference's Landed. -/
/- The reference's Same, of lists that are the same. -/
/- What is forged, and what lands in order: mathematics. -/
/- A []Block that came in, opened. -/
/- Blocks with where their items lie; append of blocks. -/
/- The law BoxOrders. -/
import Derived.Test.YtinciddchpccnaaDoorPoB
import Derived.Test.YtinciddchpccnaaDoorPoC
import Derived.Test.YtinciddchpccnaaDoorPoA
import Derived.Deep.Slices
import Derived.Lib.SmallJoins
import Derived.Laws.OwnMore
import Derived.Deep.DeepAppendWide
namespace Go.Proofs.YtinciddchpccnaaDoor
open Go.RowKit
set_option linter.unusedVariables false
set_option linter.unusedSimpArgs false

theorem It.ok_text {i : It} (h : i.ok = true) : i.textE.2 = 0 := by
  unfold It.textE
  rw [if_pos h]
  have h1 := Oct.num_length_le i.kind.toNat
  have h2 := Oct.num_length_le i.who.toNat
  have h3 := Oct.num_length_le i.n.toNat
  have he : i.text.size = i.text.data.toList.length := (Array.length_toList).symm
  have h5 : i.text.data.toList.length ≤ 65472 := by
    rcases (It.ok_iff i).1 h with ⟨_, _, _, _, h1⟩ | ⟨_, _, _, _, h1⟩
    · omega
    · rw [h1]; simp
  unfold It.fields Oct.listE Oct.listGo Oct.listGo Oct.listGo Oct.listGo Oct.listGo
  rw [if_neg (by simp), if_neg (by omega), if_neg (by omega), if_neg (by omega), if_neg (by omega)]
  rfl
set_option maxRecDepth 20000 in
set_option maxHeartbeats 6400000 in
theorem rlanded_any (hRS : RefSum) (A : Option Addr) (c : Nat) (l : List Bk) (w : World) (hB : BksAt w w.heap.size A l) (hl : l.length ≤ 9223372036854775807) :
    Calls Tryd.prog 18 #[.slice A l.length c] w fun e w' => (∃ v, e = .returned v ∧ LdAt w' w.heap.size v (Po.landed l)) ∧ Below w.heap.size w w' := by
  obtain ⟨n, hn⟩ : ∃ n, n = l.length := ⟨_, rfl⟩
  rw [← hn]
  have HN := Lib.hid hn
  have HB := Lib.hid hB
  have hzb := bt_zv
  have hzi := item_zv
  rw [← hn] at hl
  have HBL : Hid (Bt.zeroC.length = 4) := Lib.hid rfl
  obtain ⟨ZC, hZC⟩ : ∃ ZC, ZC = Bt.zeroC := ⟨_, rfl⟩
  simp only [← hZC] at hzb HBL
  obtain ⟨i0, hi, h2⟩ := Option.map_eq_some_iff.1 ld_info
  simp only [Prod.mk.injEq] at h2
  obtain ⟨hz0, hsz, hby⟩ := h2
  have Hi := Lib.hid hi
  obtain ⟨ZL, hZL⟩ : ∃ ZL, ZL = Ld.cells ⟨0, Bt.zero, none, 0⟩ := ⟨_, rfl⟩
  rw [← hZL] at hz0
  have HZL5 : Hid ((Value.agg ZL.toArray).cells.size = 5) := Lib.hid (by rw [hZL]; rfl)
  have Hz := Lib.hid hz0
  have Hsz := Lib.hid hsz
  have Hby := Lib.hid hby
  clear hn hB hZC hi hz0 hsz hby hZL
  go_enter Tryd.func18, Tryd.ntmps18
  go_wp2_with fail
  have HL0 : Hid (LsAt w w (.slice none 0 0) (Po.landed (l.take 0))) := Lib.hid ⟨LdAt.nil _ _, Below.refl _ _⟩
  go_loopw [3, 4] (fun v i wr => ∃ (k : Nat) (A3 : Option Addr) (c3 : Nat), k ≤ n ∧ i = .int .i64 k ∧ v = .slice A3 (Po.landed (l.take k)).length c3 ∧ LsAt w wr (.slice A3 (Po.landed (l.take k)).length c3) (Po.landed (l.take k))) (fun _ i _ => n - (intOf i).toNat)
  case atStart => exact ⟨0, none, 0, Nat.zero_le _, rfl, rfl, HL0.out⟩
  case round =>
    obtain ⟨k, A3, c3, hk, rfl, rfl, hM⟩ := hrel
    have HM := Lib.hid hM
    clear hM HL0
    by_cases hlt : k < n
    · have hki : (k : Int) < (n : Int) := by omega
      have hkl : k < l.length := by rw [← HN.out]; exact hlt
      obtain ⟨bb, off, rfl, hbb, hat⟩ := HB.out (by intro e; rw [e] at hkl; simp at hkl)
      obtain ⟨A', cp, hrng, hits, hcap, hpl⟩ := hat k hkl
      have HRun := Lib.hid (Po.landed_take hkl)
      have HBlk := Lib.hid (block_num hkl)
      have h34 := Bk.cell34 (b := l[k]) (A := A') (cap := cp) hpl
      have h00 := Bk.cell0 l[k] A' cp
      have Hits := Lib.hid hits.1
      have hml := hits.2
      obtain ⟨s0, hs0⟩ : ∃ s0, s0 = Po.landed (l.take k) := ⟨_, rfl⟩
      rw [← hs0] at HRun HM HBlk ⊢
      generalize l[k].cells A' cp = C at *
      obtain ⟨its, hit⟩ : ∃ its, its = l[k].items := ⟨_, rfl⟩
      obtain ⟨num, hnum⟩ : ∃ num, num = l[k].number := ⟨_, rfl⟩
      rw [← hit] at HBlk Hits hml h34
      rw [← hnum] at HBlk h00
      obtain ⟨m, hm⟩ : ∃ m, m = its.length := ⟨_, rfl⟩
      rw [← hm] at hml h34
      have HMl := Lib.hid hm
      have H34 : Hid (∀ W, Below w.heap.size w W → W.cell? ⟨bb, off + k * 35 + 34, none⟩ = some (.slice A' m cp)) := Lib.hid (fun W hW => range_cell (range_below hrng hW hbb) 34 _ h34)
      have H00 : Hid (∀ W, Below w.heap.size w W → W.cell? ⟨bb, off + k * 35, none⟩ = some (.int .i64 num)) := Lib.hid (fun W hW => by have := range_cell (range_below hrng hW hbb) 0 _ h00; rw [Nat.add_zero] at this; exact this)
      clear hit hnum hs0 hat hrng hits hcap hpl hm h34 h00
      have c34 := H34.out _ HM.out.2
      go_wp2_with fail
      generalize wr = wo at *
      go_loopw [3, 5] (fun v i wr => ∃ (j : Nat) (A3 : Option Addr) (c3 : Nat), j ≤ m ∧ i = .int .i64 j ∧ v = .slice A3 ((its.take j).foldl (Po.step num) s0).length c3 ∧ LsAt w wr (.slice A3 ((its.take j).foldl (Po.step num) s0).length c3) ((its.take j).foldl (Po.step num) s0)) (fun _ i _ => m - (intOf i).toNat)
      case atStart => exact ⟨0, A3, c3, Nat.zero_le _, rfl, rfl, HM.out⟩
      case round =>
        obtain ⟨j, A4, c4, hj, rfl, rfl, hM2⟩ := hrel
        have HM2 := Lib.hid hM2
        clear hM2 HM c34
        have c34 := H34.out _ HM2.out.2
        by_cases hjm : j < m
        · have hji : (j : Int) < (m : Int) := by omega
          have hjl : j < its.length := by rw [← HMl.out]; exact hjm
          obtain ⟨b2, off2, rfl, hb2, hat2⟩ := Hits.out (by intro e; rw [e] at hjl; simp at hjl)
          have Hr2 := Lib.hid (range_below (hat2 j hjl) HM2.out.2 hb2)
          have HF := Lib.hid (Po.fold_take hjl (Po.step num) s0)
          obtain ⟨s1, hs1⟩ : ∃ s1, s1 = (its.take j).foldl (Po.step num) s0 := ⟨_, rfl⟩
          rw [← hs1] at HF HM2 ⊢
          generalize its[j] = it at *
          clear hat2 hs1
          have hlen : s1.length ≤ 9223372036854775807 := by
            obtain ⟨ls, _, h2, _⟩ := HM2.out.1
            exact own_max13 h2
          have HIt : Hid (∀ W, Calls Tryd.prog 42 #[.agg it.cells.toArray] W fun e w' => e = .returned (.bool it.ok) ∧ Below W.heap.size W w') := Lib.hid (fun W => item5_any it W)
          have HIL : Hid (it.cells.length = 4) := Lib.hid rfl
          have HI1 := Lib.hid (item_one13 it)
          have HZI : Hid (It.zero.cells.length = 4) := Lib.hid rfl
          have Hnew := Lib.hid (Row.new wr 59 It.zero.cells)
          have HI0 : Hid (it.cells[0]? = some (.int .i64 it.kind)) := Lib.hid rfl
          have HI3 : Hid (it.cells[3]? = some (.string it.text)) := Lib.hid rfl
          obtain ⟨kd, who, nn, tx⟩ := it
          simp only at HI0 HI3
          generalize (It.mk kd who nn tx).cells = IC at *
          by_cases hk3 : kd = 3
          rotate_left
          · have dk : (kd != 3) = true := by simpa using hk3
            have HStep : Hid (Po.step num s1 (It.mk kd who nn tx) = s1) := Lib.hid (Po.step_no (fun b hb _ => by unfold Po.itemE at hb; rw [if_neg hk3] at hb; simp at hb))
            generalize It.mk kd who nn tx = it at *
            clear hk3
            go_wp2_with (first
            | ((with_reducible show wpList _ _ _ (⟨_, .load 59 (.tmp 31), _, _, _, _⟩ :: _) _ _); refine wpList_load_tx rfl 59 (.tmp 31) rfl b2 (off2 + j * 4) rfl IC _ Hr2.out Tryd.underlying59 rfl (by rw [item_size, HIL.out]) ?_)
            | ((with_reducible show wpList _ _ _ (⟨_, .load 59 (.tmp 6), _, _, _, _⟩ :: _) _ _); refine wpList_load_tx rfl 59 (.tmp 6) rfl wr.heap.size 0 rfl IC _ (row_range HR7.out) Tryd.underlying59 rfl (by rw [item_size, HIL.out]) ?_)
            | (with_reducible show wpList _ _ _ (⟨_, .store 59 _ _, _, _, _, _⟩ :: _) _ _
               refine wpList_store_at rfl 59 (.tmp 6) (.tmp 32) rfl wr.heap.size 0 IC _ _ rfl rfl Hnew.out (by have := HIL.out; have := HZI.out; omega) (by rw [item_size, HIL.out]) HI1.out ?_
               intro w7 hr7 hg7
               rw [splice_all (HIL.out.trans HZI.out.symm)] at hr7
               have hbw7 := below_own ((Below.refl wr.heap.size wr).alloc (Nat.le_refl _) (.cells It.zero.cells.toArray 59)) hg7 (fun k hk => by cases hk; exact Nat.le_refl _)
               have HM7 := Lib.hid (HM2.out.step hbw7)
               have HR7 := Lib.hid hr7
               have c70 := (row_range hr7) 0 _ HI0.out
               have c73 := (row_range hr7) 3 _ HI3.out
               rw [Nat.zero_add] at c70 c73
               have c34n := H34.out _ HM7.out.2
               clear hr7 hg7 hbw7))
            have HFn : Hid ((its.take (j + 1)).foldl (Po.step num) s0 = s1) := Lib.hid (by rw [HF.out]; exact HStep.out)
            exact ⟨⟨j + 1, A4, c4, hjm, by go_num, by rw [HFn.out], by rw [HFn.out]; exact HM7.out⟩, by simp [intOf]; omega⟩
          have dk : (kd != 3) = false := by simp [hk3]
          rcases Bool.eq_false_or_eq_true (It.mk kd who nn tx).ok with hok | hok
          rotate_left
          · have HStep : Hid (Po.step num s1 (It.mk kd who nn tx) = s1) := Lib.hid (Po.step_no (fun b hb _ => by
              have h0 : (It.mk kd who nn tx).textE.2 ≠ 0 := by unfold It.textE; rw [if_neg (by rw [hok]; simp)]; simp
              unfold Po.itemE at hb; rw [if_pos hk3, if_neg h0] at hb; simp at hb))
            rw [hok] at HIt
            generalize It.mk kd who nn tx = it at *
            clear hk3 hok
            go_wp2_with (first
            | ((with_reducible show wpList _ _ _ (⟨_, .load 59 (.tmp 31), _, _, _, _⟩ :: _) _ _); refine wpList_load_tx rfl 59 (.tmp 31) rfl b2 (off2 + j * 4) rfl IC _ Hr2.out Tryd.underlying59 rfl (by rw [item_size, HIL.out]) ?_)
            | ((with_reducible show wpList _ _ _ (⟨_, .load 59 (.tmp 6), _, _, _, _⟩ :: _) _ _); refine wpList_load_tx rfl 59 (.tmp 6) rfl wr.heap.size 0 rfl IC _ (row_range HR7.out) Tryd.underlying59 rfl (by rw [item_size, HIL.out]) ?_)
            | (with_reducible show wpList _ _ _ (⟨_, .store 59 _ _, _, _, _, _⟩ :: _) _ _
               refine wpList_store_at rfl 59 (.tmp 6) (.tmp 32) rfl wr.heap.size 0 IC _ _ rfl rfl Hnew.out (by have := HIL.out; have := HZI.out; omega) (by rw [item_size, HIL.out]) HI1.out ?_
               intro w7 hr7 hg7
               rw [splice_all (HIL.out.trans HZI.out.symm)] at hr7
               have hbw7 := below_own ((Below.refl wr.heap.size wr).alloc (Nat.le_refl _) (.cells It.zero.cells.toArray 59)) hg7 (fun k hk => by cases hk; exact Nat.le_refl _)
               have HM7 := Lib.hid (HM2.out.step hbw7)
               have HR7 := Lib.hid hr7
               have c70 := (row_range hr7) 0 _ HI0.out
               have c73 := (row_range hr7) 3 _ HI3.out
               rw [Nat.zero_add] at c70 c73
               have c34n := H34.out _ HM7.out.2
               clear hr7 hg7 hbw7))
            refine (HIt.out _).mono ?_
            rintro _ w8 ⟨rfl, hb8⟩
            have HM8 := Lib.hid (HM7.out.step hb8)
            have c34m := H34.out _ HM8.out.2
            clear hb8 c70 c73
            go_wp2_with fail
            have HFn : Hid ((its.take (j + 1)).foldl (Po.step num) s0 = s1) := Lib.hid (by rw [HF.out]; exact HStep.out)
            exact ⟨⟨j + 1, A4, c4, hjm, by go_num, by rw [HFn.out], by rw [HFn.out]; exact HM8.out⟩, by simp [intOf]; omega⟩
          have hie : Po.itemE (It.mk kd who nn tx) = Po.read tx.data.toList := by unfold Po.itemE; rw [if_pos hk3, if_pos (It.ok_text hok)]
          have HRd : Hid (∀ W, Calls Tryd.prog 14 #[.string tx] W fun e w' => RdEnds (Po.read tx.data.toList) W.heap.size e w' ∧ Below W.heap.size W w') := Lib.hid (fun W => rboxRead_any hRS tx W (by have := It.text_small (It.ok_text hok); simp only at this; omega))
          rw [hok] at HIt
          rw [← hie] at HRd
          have HStepD : Hid (∀ R : Int × Option Bt, Po.itemE (It.mk kd who nn tx) = R → ((R.1 ≠ 0 ∨ ∀ u, R.2 = some u → u.seq ≠ s1.length) → Po.step num s1 (It.mk kd who nn tx) = s1) ∧ (∀ u, R = (0, some u) → u.seq = s1.length → Po.step num s1 (It.mk kd who nn tx) = s1 ++ [(num, u)])) := Lib.hid (fun R hR => ⟨fun h => Po.step_no (fun b hb hq => by
              rw [hR] at hb
              subst hb
              rcases h with h | h
              · exact h rfl
              · exact h b rfl hq), fun u hu hs => Po.step_yes (hR.trans hu) hs⟩)
          have HIok : Hid (∀ R : Int × Option Bt, Po.itemE (It.mk kd who nn tx) = R → (∀ u, R.2 = some u → R.1 = 0 ∧ u.ok = true) ∧ (R.1 = 0 → ∃ u, R.2 = some u)) := Lib.hid (fun R hR => ⟨fun u hu => Po.item_ok (i := It.mk kd who nn tx) (hR.trans (Prod.ext rfl hu)), fun h0 => by
              obtain ⟨u, hu⟩ := Po.item_err (i := It.mk kd who nn tx) (by rw [hR]; exact h0)
              rw [hR] at hu
              exact ⟨u, by rw [hu]⟩⟩)
          obtain ⟨R, hR⟩ : ∃ R, Po.itemE (It.mk kd who nn tx) = R := ⟨_, rfl⟩
          have HStepR := Lib.hid (HStepD.out R hR)
          have HOkR := Lib.hid (HIok.out R hR)
          rw [hR] at HRd
          clear HStepD HIok hie hR hok hk3
          generalize It.mk kd who nn tx = it at *
          obtain ⟨ec, ob⟩ := R
          simp only at HStepR HOkR HRd
          go_wp2_with (first
          | ((with_reducible show wpList _ _ _ (⟨_, .load 59 (.tmp 31), _, _, _, _⟩ :: _) _ _); refine wpList_load_tx rfl 59 (.tmp 31) rfl b2 (off2 + j * 4) rfl IC _ Hr2.out Tryd.underlying59 rfl (by rw [item_size, HIL.out]) ?_)
          | ((with_reducible show wpList _ _ _ (⟨_, .load 59 (.tmp 6), _, _, _, _⟩ :: _) _ _); refine wpList_load_tx rfl 59 (.tmp 6) rfl wr.heap.size 0 rfl IC _ (row_range HR7.out) Tryd.underlying59 rfl (by rw [item_size, HIL.out]) ?_)
          | (with_reducible show wpList _ _ _ (⟨_, .store 59 _ _, _, _, _, _⟩ :: _) _ _
             refine wpList_store_at rfl 59 (.tmp 6) (.tmp 32) rfl wr.heap.size 0 IC _ _ rfl rfl Hnew.out (by have := HIL.out; have := HZI.out; omega) (by rw [item_size, HIL.out]) HI1.out ?_
             intro w7 hr7 hg7
             rw [splice_all (HIL.out.trans HZI.out.symm)] at hr7
             have hbw7 := below_own ((Below.refl wr.heap.size wr).alloc (Nat.le_refl _) (.cells It.zero.cells.toArray 59)) hg7 (fun k hk => by cases hk; exact Nat.le_refl _)
             have HM7 := Lib.hid (HM2.out.step hbw7)
             have HR7 := Lib.hid hr7
             have c70 := (row_range hr7) 0 _ HI0.out
             have c73 := (row_range hr7) 3 _ HI3.out
             rw [Nat.zero_add] at c70 c73
             have c34n := H34.out _ HM7.out.2
             clear hr7 hg7 hbw7))
          refine (HIt.out _).mono ?_
          rintro _ w8 ⟨rfl, hb8⟩
          have HM8 := Lib.hid (HM7.out.step hb8)
          have c83 := (row_range (HR7.out.below hb8)) 3 _ HI3.out
          rw [Nat.zero_add] at c83
          clear hb8 c70 c73
          go_wp2_with fail
          refine (HRd.out _).mono ?_
          rintro e w9 ⟨hrd, hb9⟩
          obtain ⟨C6, sq, rfl, hpf⟩ := hrd.of
          obtain ⟨h6l, h61, h60⟩ := hpf.cells
          have HM9 := Lib.hid (HM8.out.step hb9)
          have HPf9 := Lib.hid (hpf.mono HM8.out.2.size)
          have H6L := Lib.hid h6l
          have H61 := Lib.hid h61
          have H60 := Lib.hid h60
          have HN9 := Lib.hid (Row.new w9 24 ZC)
          clear hrd hb9 hpf h6l h61 h60 c83
          by_cases he : ec = 0
          rotate_left
          · have de : (ec == 0) = false := by simpa using he
            have HStep := Lib.hid (HStepR.out.1 (.inl he))
            clear he
            go_wp2_with (first
            | (with_reducible show wpList _ _ _ (⟨_, .store 24 _ _, _, _, _, _⟩ :: _) _ _
               refine wpList_store_at rfl 24 (.tmp 7) (.tmp 45) rfl w9.heap.size 0 C6 _ _ rfl rfl HN9.out (by rw [HBL.out, H6L.out]; decide) (by rw [bt_size, H6L.out]) H61.out ?_
               intro w10 hr10 hg10
               rw [splice_all (H6L.out.trans HBL.out.symm)] at hr10
               have hbs := below_own ((Below.refl w9.heap.size w9).alloc (Nat.le_refl _) (.cells ZC.toArray 24)) hg10 (fun k hk => by cases hk; exact Nat.le_refl _)
               have HR10 := Lib.hid hr10
               have HM10 := Lib.hid (HM9.out.step hbs)
               have HPf10 := Lib.hid (HPf9.out.grown (grownBy_of_below hbs none) (fun k hk => by cases hk))
               have c100 := (row_range hr10) 0 _ H60.out
               rw [Nat.zero_add] at c100
               have c34n := H34.out _ HM10.out.2
               clear hr10 hg10 hbs))
            have HFn : Hid ((its.take (j + 1)).foldl (Po.step num) s0 = s1) := Lib.hid (by rw [HF.out]; exact HStep.out)
            exact ⟨⟨j + 1, A4, c4, hjm, by go_num, by rw [HFn.out], by rw [HFn.out]; exact HM10.out⟩, by simp [intOf]; omega⟩
          have de : (ec == 0) = true := by simpa using he
          by_cases hq : sq = (s1.length : Int)
          rotate_left
          · have dq : (sq == (s1.length : Int)) = false := by simpa using hq
            have HQ := Lib.hid hq
            have HStep := Lib.hid (HStepR.out.1 (.inr (fun u hu hs => HQ.out (by
              have h1 := HPf9.out
              rw [show ob = some u from hu] at h1
              obtain ⟨_, _, _, h2, _⟩ := h1
              exact h2.trans hs))))
            clear he hq
            go_wp2_with (first
            | (with_reducible show wpList _ _ _ (⟨_, .store 24 _ _, _, _, _, _⟩ :: _) _ _
               refine wpList_store_at rfl 24 (.tmp 7) (.tmp 45) rfl w9.heap.size 0 C6 _ _ rfl rfl HN9.out (by rw [HBL.out, H6L.out]; decide) (by rw [bt_size, H6L.out]) H61.out ?_
               intro w10 hr10 hg10
               rw [splice_all (H6L.out.trans HBL.out.symm)] at hr10
               have hbs := below_own ((Below.refl w9.heap.size w9).alloc (Nat.le_refl _) (.cells ZC.toArray 24)) hg10 (fun k hk => by cases hk; exact Nat.le_refl _)
               have HR10 := Lib.hid hr10
               have HM10 := Lib.hid (HM9.out.step hbs)
               have HPf10 := Lib.hid (HPf9.out.grown (grownBy_of_below hbs none) (fun k hk => by cases hk))
               have c100 := (row_range hr10) 0 _ H60.out
               rw [Nat.zero_add] at c100
               have c34n := H34.out _ HM10.out.2
               clear hr10 hg10 hbs))
            have HFn : Hid ((its.take (j + 1)).foldl (Po.step num) s0 = s1) := Lib.hid (by rw [HF.out]; exact HStep.out)
            exact ⟨⟨j + 1, A4, c4, hjm, by go_num, by rw [HFn.out], by rw [HFn.out]; exact HM10.out⟩, by simp [intOf]; omega⟩
          subst hq
          subst he
          obtain ⟨u, hu⟩ := HOkR.out.2 rfl
          subst hu
          have hpf := HPf9.out
          obtain ⟨A6, c6, h6, hqu, hpu, hcu⟩ := hpf
          have Hq : Hid (u.seq = s1.length) := Lib.hid hqu.symm
          have Hcu := Lib.hid hcu
          have HStep := Lib.hid (HStepR.out.2 u rfl hqu.symm)
          have hsq : s1.length ≤ 1099511627776 := by
            have := (Bt.ok_iff u).1 (HOkR.out.1 u rfl).2
            have h3 := Hq.out
            omega
          have hbu := ld_built ⟨num, u, A6, c6⟩
          simp only [← h6] at hbu
          obtain ⟨XC, hXC⟩ : ∃ XC, XC = Ld.cells ⟨num, u, A6, c6⟩ := ⟨_, rfl⟩
          rw [← hXC] at hbu
          have HXC := Lib.hid hXC.symm
          have HXL : Hid (XC.length = 5) := Lib.hid (by rw [hXC]; rfl)
          have HX1 : Hid (∀ v ∈ XC, v.oneCell' = true) := Lib.hid (by rw [hXC]; exact Ld.one _)
          have HBu := Lib.hid hbu
          have HPu9 := Lib.hid hpu
          have hk63 : s1.length + 1 ≤ maxLen := by unfold maxLen; omega
          have hk48 : ((s1.length + 1) + (s1.length + 1) / 4 + 192) * 56 ≤ 281474976710656 := by omega
          clear h6 hqu hpu hcu hsq hbu hXC HStepR HOkR
          go_wp2_with (first
          | (with_reducible show wpList _ _ _ (⟨_, .store 24 _ _, _, _, _, _⟩ :: _) _ _
             refine wpList_store_at rfl 24 (.tmp 7) (.tmp 45) rfl w9.heap.size 0 C6 _ _ rfl rfl HN9.out (by rw [HBL.out, H6L.out]; decide) (by rw [bt_size, H6L.out]) H61.out ?_
             intro w10 hr10 hg10
             rw [splice_all (H6L.out.trans HBL.out.symm)] at hr10
             have hbs := below_own ((Below.refl w9.heap.size w9).alloc (Nat.le_refl _) (.cells ZC.toArray 24)) hg10 (fun k hk => by cases hk; exact Nat.le_refl _)
             have HR10 := Lib.hid hr10
             have HM10 := Lib.hid (HM9.out.step hbs)
             have HPf10 := Lib.hid (HPf9.out.grown (grownBy_of_below hbs none) (fun k hk => by cases hk))
             have c100 := (row_range hr10) 0 _ H60.out
             rw [Nat.zero_add] at c100
             have HPu := Lib.hid (HPu9.out.grown (grownBy_of_below hbs none) (fun k hk => by cases hk))
             clear hr10 hg10 hbs))
          generalize w9.heap.size = g10 at *
          refine wp_region_held_drew (S := fun w' => Row w' g10 24 C6 ∧ Below w.heap.size w w') (by kernel_rfl) (⟨HR10.out.below ((Below.refl _ _).drew), HM10.out.2.trans ((Below.refl _ _).drew.mono HM10.out.2.size)⟩) (fun hHeld => ?_)
          have hM11 := HM10.out.step ((Below.refl w10.heap.size w10).drew)
          have hpq := HPu.out.grown (grownBy_drew w10 none) (fun k hk => by cases hk)
          have hg10 : g10 < w10.drew.heap.size := (HR10.out.below ((Below.refl _ _).drew)).lt
          obtain ⟨wq, hwq⟩ : ∃ x, x = w10.drew := ⟨_, rfl⟩
          rw [← hwq] at hHeld hM11 hpq hg10 ⊢
          clear hwq
          refine wpAnyH_take (i := 0) (v := .slice A4 s1.length c4) rfl (by kernel_rfl) (by kernel_rfl) (by kernel_rfl) (fun _ _ _ h => h) (Or.inl ⟨by rfl, fun w' hSw => by go_simp⟩) hHeld ?_
          try simp only [Act.put, List.getElem_toArray, List.getElem_cons_succ, List.getElem_cons_zero, List.setIfInBounds_toArray, List.set_cons_zero, List.set_cons_succ]
          refine wpAnyH_take (i := 1) (v := .slice (some ⟨bb, off, none⟩) n c) rfl (by kernel_rfl) (by kernel_rfl) (by kernel_rfl) (fun _ _ _ h => h) (Or.inl ⟨by rfl, fun w' hSw => by go_simp⟩) hHeld ?_
          try simp only [Act.put, List.getElem_toArray, List.getElem_cons_succ, List.getElem_cons_zero, List.setIfInBounds_toArray, List.set_cons_zero, List.set_cons_succ]
          refine wpAnyH_take (i := 2) (v := .int .i64 k) rfl (by kernel_rfl) (by kernel_rfl) (by kernel_rfl) (fun _ _ _ h => h) (Or.inl ⟨by rfl, fun w' hSw => by go_simp⟩) hHeld ?_
          try simp only [Act.put, List.getElem_toArray, List.getElem_cons_succ, List.getElem_cons_zero, List.setIfInBounds_toArray, List.set_cons_zero, List.set_cons_succ]
          refine wpAnyH_take (i := 3) (v := .pointer (some ⟨bb, (off + k * 35), none⟩)) rfl (by kernel_rfl) (by kernel_rfl) (by kernel_rfl) (fun _ _ _ h => h) (Or.inl ⟨by rfl, fun w' hSw => by go_simp⟩) hHeld ?_
          try simp only [Act.put, List.getElem_toArray, List.getElem_cons_succ, List.getElem_cons_zero, List.setIfInBounds_toArray, List.set_cons_zero, List.set_cons_succ]
          refine wpAnyH_take (i := 4) (v := .pointer (some ⟨bb, (off + k * 35), none⟩)) rfl (by kernel_rfl) (by kernel_rfl) (by kernel_rfl) (fun _ _ _ h => h) (Or.inl ⟨by rfl, fun w' hSw => by go_simp⟩) hHeld ?_
          try simp only [Act.put, List.getElem_toArray, List.getElem_cons_succ, List.getElem_cons_zero, List.setIfInBounds_toArray, List.set_cons_zero, List.set_cons_succ]
          refine wpAnyH_take (i := 5) (v := .int .i64 num) rfl (by kernel_rfl) (by kernel_rfl) (by kernel_rfl) (fun _ _ _ h => h) (Or.inl ⟨by rfl, fun w' hSw => by have hq := hSw; have hd := H00.out _ hq.2; go_simp⟩) hHeld ?_
          try simp only [Act.put, List.getElem_toArray, List.getElem_cons_succ, List.getElem_cons_zero, List.setIfInBounds_toArray, List.set_cons_zero, List.set_cons_succ]
          refine' wpAnyH_take (i := 6) (v := _) rfl (by kernel_rfl) (by kernel_rfl) (by kernel_rfl) (fun _ _ _ h => h) (yieldsIf_load_mid (by rfl) _ _ rfl g10 0 rfl C6 _ (fun w' hSw => row_range hSw.1) Tryd.underlying24 rfl (by rw [bt_size, H6L.out])) hHeld ?_
          try simp only [Act.put, List.getElem_toArray, List.getElem_cons_succ, List.getElem_cons_zero, List.setIfInBounds_toArray, List.set_cons_zero, List.set_cons_succ]
          refine' wpAnyH_take (i := 7) (v := .agg XC.toArray) rfl (by kernel_rfl) (by kernel_rfl) (by kernel_rfl) (fun _ _ _ h => h) (yieldsIf_buildL (by rfl) 43 [(0, .tmp 61), (1, .tmp 62)] rfl [(0, .int .i64 num), (1, .agg C6.toArray)] rfl XC.toArray HBu.out) hHeld ?_
          try simp only [Act.put, List.getElem_toArray, List.getElem_cons_succ, List.getElem_cons_zero, List.setIfInBounds_toArray, List.set_cons_zero, List.set_cons_succ]
          refine wpAnyH_ready (rs := [8]) (by kernel_rfl) (by simp) (AllReadyH.cons rfl (fun K1 hK1 => ?_) AllReadyH.nil)
          try simp only [Act.put, List.getElem_toArray, List.getElem_cons_succ, List.getElem_cons_zero, List.setIfInBounds_toArray, List.set_cons_zero, List.set_cons_succ]
          rw [if_pos (by rfl)]
          refine wp_buildSlice 36 43 1 _ rfl XC.toArray i0 (.agg ZL.toArray) Tryd.underlying36 Hi.out Hz.out (by rw [Hsz.out]; decide) (by rw [Hsz.out]; decide) (by rw [Hsz.out, Array.toList_map]; exact fill_one13 5 (.agg ZL.toArray) XC HXL.out) ?_
          have hal := (Below.refl wq.heap.size wq).alloc (Nat.le_refl _) (.cells XC.toArray 43)
          have rN := Row.new wq 43 XC
          have hM12 := hM11.step hal
          have hp12 := hpq.grown (grownBy_of_below hal none) (fun k hk => by cases hk)
          have hr12 := hHeld.1.below hal
          obtain ⟨⟨ls, hmap, ho, hps⟩, hbe⟩ := hM12
          have hz12 : w.heap.size ≤ (wq.alloc (.cells XC.toArray 43)).heap.size := hbe.size
          refine hK1.out _ _ ⟨hr12, hbe⟩ (fun hHeld => ?_)
          clear hK1 K1
          try simp only [Act.put, List.getElem_toArray, List.getElem_cons_succ, List.getElem_cons_zero, List.setIfInBounds_toArray, List.set_cons_zero, List.set_cons_succ]
          refine wpAnyH_ready (rs := [9]) (by kernel_rfl) (by simp) (AllReadyH.cons rfl (fun K1 hK1 => ?_) AllReadyH.nil)
          try simp only [Act.put, List.getElem_toArray, List.getElem_cons_succ, List.getElem_cons_zero, List.setIfInBounds_toArray, List.set_cons_zero, List.set_cons_succ]
          rw [if_pos (by rfl)]
          refine wp_append_own_wide _ _ _ 36 rfl w.heap.size 43 i0 (.agg ZL.toArray) 5 56 Tryd.underlying36 Hi.out Hz.out Hsz.out Hby.out HZL5.out (by decide) (.slice A4 s1.length c4) s1.length (Ld.flat ls) rfl ho ⟨wq.heap.size, 0, none⟩ 1 1 XC rfl (by rw [HXL.out]) (row_news rN) HX1.out hk63 hk48 hz12 ?_
          intro v' w13 hown13 hgrow13 _
          obtain ⟨g13, cp13, rfl⟩ := ownsRow_succ hown13
          have hbe13 : Below w.heap.size w w13 := below_own hbe hgrow13 (fun k hk => (ho.lt k hk).1)
          have hr13 := hr12.kept hgrow13 (row_ne_own13 hr12 ho (by decide)).symm
          refine hK1.out _ _ ⟨hr13, hbe13⟩ (fun hHeld => ?_)
          clear hK1 K1
          try simp only [Act.put, List.getElem_toArray, List.getElem_cons_succ, List.getElem_cons_zero, List.setIfInBounds_toArray, List.set_cons_zero, List.set_cons_succ]
          refine wpAnyH_take (i := 10) (v := .slice (some ⟨g13, 0, none⟩) (s1.length + 1) cp13) rfl (by kernel_rfl) (by kernel_rfl) (by kernel_rfl) (fun _ _ _ h => h) (Or.inl ⟨by rfl, fun w' hSw => by go_simp⟩) hHeld ?_
          try simp only [Act.put, List.getElem_toArray, List.getElem_cons_succ, List.getElem_cons_zero, List.setIfInBounds_toArray, List.set_cons_zero, List.set_cons_succ]
          refine wpAnyH_done (by kernel_rfl) ?_ _
          have hL13 : LdAt w13 w.heap.size (.slice (some ⟨g13, 0, none⟩) (s1.length + 1) cp13) (s1 ++ [(num, u)]) := LdAt.push1 (x := ⟨num, u, A6, c6⟩) hmap ho hps hp12 Hcu.out hgrow13 (by rw [HXC.out]; exact hown13)
          have HL13 := Lib.hid hL13
          have HBe13 := Lib.hid hbe13
          have HFn : Hid ((its.take (j + 1)).foldl (Po.step num) s0 = s1 ++ [(num, u)]) := Lib.hid (by rw [HF.out]; exact HStep.out)
          clear hL13 hbe13 hr13 hown13 hgrow13 hmap ho hps hbe hp12 hr12 rN hz12 hM11 hpq hHeld hal
          go_wp2_with fail
          refine ⟨⟨j + 1, some ⟨g13, 0, none⟩, cp13, hjm, by go_num, by rw [HFn.out, List.length_append]; rfl, ?_⟩, by simp [intOf]; omega⟩
          rw [HFn.out, List.length_append]
          exact ⟨HL13.out, HBe13.out⟩
        · have hji : (m : Int) ≤ (j : Int) := by omega
          have hje : j = its.length := by rw [← HMl.out]; omega
          have HMe := Lib.hid HM2.out
          have HFe : Hid ((its.take j).foldl (Po.step num) s0 = Po.landed (l.take (k + 1))) := Lib.hid (by rw [HRun.out, HBlk.out, hje, List.take_length])
          rw [HFe.out] at HMe ⊢
          clear hje HM2
          go_wp2_with fail
          exact ⟨⟨k + 1, _, _, hlt, by go_num, rfl, HMe.out⟩, by simp [intOf]; omega⟩
    · have hki : (n : Int) ≤ (k : Int) := by omega
      have hke : k = l.length := by rw [← HN.out]; omega
      have hMe : LsAt w wr (.slice A3 (Po.landed l).length c3) (Po.landed l) := by
        have := HM.out
        rw [hke, List.take_length] at this
        exact this
      have hte : Po.landed (l.take k) = Po.landed l := by rw [hke, List.take_length]
      rw [hte]
      have HMe := Lib.hid hMe
      clear hke hMe hte HM
      go_wp2_with fail
      go_ret
      exact ⟨⟨_, rfl, HMe.out.1⟩, HMe.out.2⟩
end Go.Proofs.YtinciddchpccnaaDoor
namespace Go.Proofs.YtinciddchpccnaaDoor
open Go.RowKit
set_option linter.unusedVariables false
set_option linter.unusedSimpArgs false

/-- batches that landed, as a slice to read -/
def LdR (w : World) (B : Nat) (A : Option Addr) (L : List (Int × Bt)) : Prop :=
  L ≠ [] → ∃ g off, A = some ⟨g, off, none⟩ ∧ g < B ∧ ∀ i (h : i < L.length), ∃ (A' : Option Addr) (c' : Nat), w.rangeAt g (off + i * 5) (Ld.cells ⟨L[i].1, L[i].2, A', c'⟩) ∧ PartsAt w B A' L[i].2.parts
theorem LdR.below {w w' : World} {B : Nat} {A : Option Addr} {L : List (Int × Bt)} (h : LdR w B A L) (hb : Below B w w') : LdR w' B A L := fun hne => by
  obtain ⟨g, off, h1, h2, h3⟩ := h hne
  exact ⟨g, off, h1, h2, fun i hi => by
    obtain ⟨A', c', q1, q2⟩ := h3 i hi
    exact ⟨A', c', range_below q1 hb h2, q2.below hb⟩⟩
theorem LdR.mono {w : World} {B B' : Nat} {A : Option Addr} {L : List (Int × Bt)} (h : LdR w B A L) (hB : B ≤ B') : LdR w B' A L := fun hne => by
  obtain ⟨g, off, h1, h2, h3⟩ := h hne
  exact ⟨g, off, h1, by omega, fun i hi => by
    obtain ⟨A', c', q1, q2⟩ := h3 i hi
    exact ⟨A', c', q1, q2.mono hB⟩⟩
theorem LdR.take {w : World} {B : Nat} {A : Option Addr} {L : List (Int × Bt)} (h : LdR w B A L) (k : Nat) : LdR w B A (L.take k) := fun hne => by
  have hl : L ≠ [] := fun e => hne (by rw [e, List.take_nil])
  obtain ⟨g, off, h1, h2, h3⟩ := h hl
  refine ⟨g, off, h1, h2, fun i hi => ?_⟩
  rw [List.length_take] at hi
  have := h3 i (by omega)
  rw [List.getElem_take]
  exact this
/-- what landed may be read -/
theorem LdAt.read {w : World} {base : Nat} {v : Value} {L : List (Int × Bt)} (h : LdAt w base v L) : ∃ A c, v = .slice A L.length c ∧ L.length ≤ c ∧ L.length ≤ 9223372036854775807 ∧ LdR w w.heap.size A L := by
  obtain ⟨ls, hm, ho, hp⟩ := h
  obtain ⟨A, c, rfl, hc, hA⟩ := own_form13 ho
  refine ⟨A, c, rfl, hc, own_max13 ho, fun hne => ?_⟩
  have hpos : 0 < L.length := List.length_pos_iff.2 hne
  obtain ⟨m, hme⟩ : ∃ m, L.length = m + 1 := ⟨L.length - 1, by omega⟩
  rw [hme] at ho
  obtain ⟨g, cap, e⟩ := ownsRow_succ ho
  rw [e] at ho
  injection e with e1 e2 e3
  subst e1
  have hll : ls.length = L.length := by rw [← hm, List.length_map]
  refine ⟨g, 0, rfl, (ho.lt g rfl).2, fun i hi => ?_⟩
  have hi' : i < ls.length := by omega
  have hLi : L[i] = ls[i].key := by
    have : L = ls.map Ld.key := hm.symm
    subst this
    simp
  refine ⟨ls[i].A, ls[i].cap, fun j v hv => ?_, ?_⟩
  · rw [hLi] at hv
    have hf := Ld.flat_at ls i hi' j v hv
    have hlt := (List.getElem?_eq_some_iff.1 hf).1
    rw [ho.1] at hlt
    rw [Nat.zero_add]
    exact (ho.cellAt _ hlt).trans hf
  · rw [hLi]
    exact (hp _ (List.getElem_mem hi')).1.at
theorem landed_ok {l : List Bk} : ∀ x ∈ Po.landed l, x.2.ok = true := by
  have hstep : ∀ (blk : Int) (s : List (Int × Bt)) (i : It), (∀ x ∈ s, x.2.ok = true) → ∀ x ∈ Po.step blk s i, x.2.ok = true := fun blk s i hs => by
    unfold Po.step
    split
    · next e b he =>
      split
      · intro x hx
        rcases List.mem_append.1 hx with hx | hx
        · exact hs x hx
        · simp only [List.mem_singleton] at hx
          subst hx
          exact (Po.item_ok he).2
      · exact hs
    · exact hs
  have hfold : ∀ (blk : Int) (its : List It) (s : List (Int × Bt)), (∀ x ∈ s, x.2.ok = true) → ∀ x ∈ its.foldl (Po.step blk) s, x.2.ok = true := fun blk its => by
    induction its with
    | nil => exact fun s hs => hs
    | cons i its ih => exact fun s hs => ih _ (hstep blk s i hs)
  have hall : ∀ (l : List Bk) (s : List (Int × Bt)), (∀ x ∈ s, x.2.ok = true) → ∀ x ∈ l.foldl Po.block s, x.2.ok = true := fun l => by
    induction l with
    | nil => exact fun s hs => hs
    | cons b l ih => exact fun s hs => ih _ (hfold b.number b.items s hs)
  exact hall l [] (fun x hx => by simp at hx)
theorem ld_parts {w : World} {g o : Nat} {x : Ld} (h : w.rangeAt g o x.cells) : w.cell? ⟨g, o, none⟩ = some (.int .i64 x.blk) ∧ w.rangeAt g (o + 1) (x.bt.cells x.A x.cap) := by
  refine ⟨by have := h 0 (.int .i64 x.blk) rfl; rw [Nat.add_zero] at this; exact this, fun j v hv => ?_⟩
  have := h (j + 1) v (by show (_ :: x.bt.cells x.A x.cap)[j + 1]? = _; rw [List.getElem?_cons_succ]; exact hv)
  rw [show o + 1 + j = o + (j + 1) by omega]
  exact this
set_option maxRecDepth 20000 in
set_option maxHeartbeats 3200000 in
theorem same13_any (L : List (Int × Bt)) (hok : ∀ x ∈ L, x.2.ok = true) (hl : L.length ≤ 9223372036854775807) (A1 A2 : Option Addr) (c1 c2 : Nat) (w : World) (h1 : LdR w w.heap.size A1 L) (h2 : LdR w w.heap.size A2 L) :
    Calls Tryd.prog 16 #[.slice A1 L.length c1, .slice A2 L.length c2] w fun e w' => e = .returned (.bool true) ∧ Below w.heap.size w w' := by
  obtain ⟨n, hn⟩ : ∃ n, n = L.length := ⟨_, rfl⟩
  rw [← hn] at hl ⊢
  have HN := Lib.hid hn
  have HA := Lib.hid h1
  have HB := Lib.hid h2
  have HK := Lib.hid hok
  clear hn h1 h2 hok
  go_enter Tryd.func16, Tryd.ntmps16
  go_wp2_with fail
  go_loopw [5] (fun i wr => ∃ k : Nat, k ≤ n ∧ i = .int .i64 (k : Int) ∧ Below w.heap.size w wr) (fun i _ => n - (intOf i).toNat)
  case atStart => exact ⟨0, Nat.zero_le _, rfl, Below.refl _ _⟩
  case round =>
    obtain ⟨k, hk, rfl, hbw⟩ := hrel
    have HBw := Lib.hid hbw
    clear hbw
    by_cases hlt : k < n
    · have hki : (k : Int) < (n : Int) := by omega
      have hkl : k < L.length := by rw [← HN.out]; exact hlt
      have hne : L ≠ [] := fun e => by rw [e] at hkl; simp at hkl
      obtain ⟨g1, o1, rfl, hg1, hat1⟩ := HA.out hne
      obtain ⟨g2, o2, rfl, hg2, hat2⟩ := HB.out hne
      obtain ⟨B1, d1, r1, p1⟩ := hat1 k hkl
      obtain ⟨B2, d2, r2, p2⟩ := hat2 k hkl
      have hxk := HK.out _ (List.getElem_mem hkl)
      generalize L[k] = x at *
      obtain ⟨num, b⟩ := x
      simp only at r1 r2 p1 p2 hxk
      have HN1 : Hid (∀ W, Below w.heap.size w W → W.cell? ⟨g1, o1 + k * 5, none⟩ = some (.int .i64 num)) := Lib.hid (fun W hW => (ld_parts (range_below r1 hW hg1)).1)
      have HN2 : Hid (∀ W, Below w.heap.size w W → W.cell? ⟨g2, o2 + k * 5, none⟩ = some (.int .i64 num)) := Lib.hid (fun W hW => (ld_parts (range_below r2 hW hg2)).1)
      have HR1 : Hid (∀ W, Below w.heap.size w W → W.rangeAt g1 (o1 + k * 5 + 1) (b.cells B1 d1)) := Lib.hid (fun W hW => (ld_parts (range_below r1 hW hg1)).2)
      have HR2 : Hid (∀ W, Below w.heap.size w W → W.rangeAt g2 (o2 + k * 5 + 1) (b.cells B2 d2)) := Lib.hid (fun W hW => (ld_parts (range_below r2 hW hg2)).2)
      have HBa : Hid (∀ W, Below w.heap.size w W → Calls Tryd.prog 15 #[.agg (b.cells B1 d1).toArray, .agg (b.cells B2 d2).toArray] W fun e w' => e = .returned (.bool true) ∧ Below W.heap.size W w') := Lib.hid (fun W hW => by
        have hkk := (Bt.ok_iff b).1 hxk
        refine batches5_same b (fun p hp => ?_) hkk.2.1 B1 B2 d1 d2 W ((p1.below hW).mono hW.size) ((p2.below hW).mono hW.size)
        have := List.all_eq_true.1 hkk.2.2 p hp
        unfold Pt.ok at this
        simp only [Bool.and_eq_true, decide_eq_true_eq] at this
        omega)
      have H1L : Hid ((b.cells B1 d1).length = 4) := Lib.hid rfl
      have H2L : Hid ((b.cells B2 d2).length = 4) := Lib.hid rfl
      generalize b.cells B1 d1 = C1 at *
      generalize b.cells B2 d2 = C2 at *
      clear hat1 hat2 r1 r2 p1 p2 hxk hne
      go_wp2_with fail
      refine wp_region_held_drew (S := fun w' => Below w.heap.size w w') (by kernel_rfl) (HBw.out.drew) (fun hHeld => ?_)
      generalize wr.drew = wq at *
      refine wpAnyH_take (i := 0) (v := .slice (some ⟨g1, o1, none⟩) n c1) rfl (by kernel_rfl) (by kernel_rfl) (by kernel_rfl) (fun _ _ _ h => h) (Or.inl ⟨by rfl, fun w' hSw => by go_simp⟩) hHeld ?_
      try simp only [Act.put, List.getElem_toArray, List.getElem_cons_succ, List.getElem_cons_zero, List.setIfInBounds_toArray, List.set_cons_zero, List.set_cons_succ]
      refine wpAnyH_take (i := 1) (v := .int .i64 k) rfl (by kernel_rfl) (by kernel_rfl) (by kernel_rfl) (fun _ _ _ h => h) (Or.inl ⟨by rfl, fun w' hSw => by go_simp⟩) hHeld ?_
      try simp only [Act.put, List.getElem_toArray, List.getElem_cons_succ, List.getElem_cons_zero, List.setIfInBounds_toArray, List.set_cons_zero, List.set_cons_succ]
      refine wpAnyH_take (i := 2) (v := .pointer (some ⟨g1, (o1 + k * 5), none⟩)) rfl (by kernel_rfl) (by kernel_rfl) (by kernel_rfl) (fun _ _ _ h => h) (Or.inl ⟨by rfl, fun w' hSw => by go_simp⟩) hHeld ?_
      try simp only [Act.put, List.getElem_toArray, List.getElem_cons_succ, List.getElem_cons_zero, List.setIfInBounds_toArray, List.set_cons_zero, List.set_cons_succ]
      refine wpAnyH_take (i := 3) (v := .pointer (some ⟨g1, (o1 + k * 5), none⟩)) rfl (by kernel_rfl) (by kernel_rfl) (by kernel_rfl) (fun _ _ _ h => h) (Or.inl ⟨by rfl, fun w' hSw => by go_simp⟩) hHeld ?_
      try simp only [Act.put, List.getElem_toArray, List.getElem_cons_succ, List.getElem_cons_zero, List.setIfInBounds_toArray, List.set_cons_zero, List.set_cons_succ]
      refine wpAnyH_take (i := 4) (v := .int .i64 num) rfl (by kernel_rfl) (by kernel_rfl) (by kernel_rfl) (fun _ _ _ h => h) (Or.inl ⟨by rfl, fun w' hSw => by have hq := hSw; have hd := HN1.out _ hq; go_simp⟩) hHeld ?_
      try simp only [Act.put, List.getElem_toArray, List.getElem_cons_succ, List.getElem_cons_zero, List.setIfInBounds_toArray, List.set_cons_zero, List.set_cons_succ]
      refine wpAnyH_take (i := 5) (v := .slice (some ⟨g2, o2, none⟩) n c2) rfl (by kernel_rfl) (by kernel_rfl) (by kernel_rfl) (fun _ _ _ h => h) (Or.inl ⟨by rfl, fun w' hSw => by go_simp⟩) hHeld ?_
      try simp only [Act.put, List.getElem_toArray, List.getElem_cons_succ, List.getElem_cons_zero, List.setIfInBounds_toArray, List.set_cons_zero, List.set_cons_succ]
      refine wpAnyH_take (i := 6) (v := .int .i64 k) rfl (by kernel_rfl) (by kernel_rfl) (by kernel_rfl) (fun _ _ _ h => h) (Or.inl ⟨by rfl, fun w' hSw => by go_simp⟩) hHeld ?_
      try simp only [Act.put, List.getElem_toArray, List.getElem_cons_succ, List.getElem_cons_zero, List.setIfInBounds_toArray, List.set_cons_zero, List.set_cons_succ]
      refine wpAnyH_take (i := 7) (v := .pointer (some ⟨g2, (o2 + k * 5), none⟩)) rfl (by kernel_rfl) (by kernel_rfl) (by kernel_rfl) (fun _ _ _ h => h) (Or.inl ⟨by rfl, fun w' hSw => by go_simp⟩) hHeld ?_
      try simp only [Act.put, List.getElem_toArray, List.getElem_cons_succ, List.getElem_cons_zero, List.setIfInBounds_toArray, List.set_cons_zero, List.set_cons_succ]
      refine wpAnyH_take (i := 8) (v := .pointer (some ⟨g2, (o2 + k * 5), none⟩)) rfl (by kernel_rfl) (by kernel_rfl) (by kernel_rfl) (fun _ _ _ h => h) (Or.inl ⟨by rfl, fun w' hSw => by go_simp⟩) hHeld ?_
      try simp only [Act.put, List.getElem_toArray, List.getElem_cons_succ, List.getElem_cons_zero, List.setIfInBounds_toArray, List.set_cons_zero, List.set_cons_succ]
      refine wpAnyH_take (i := 9) (v := .int .i64 num) rfl (by kernel_rfl) (by kernel_rfl) (by kernel_rfl) (fun _ _ _ h => h) (Or.inl ⟨by rfl, fun w' hSw => by have hq := hSw; have hd := HN2.out _ hq; go_simp⟩) hHeld ?_
      try simp only [Act.put, List.getElem_toArray, List.getElem_cons_succ, List.getElem_cons_zero, List.setIfInBounds_toArray, List.set_cons_zero, List.set_cons_succ]
      refine wpAnyH_take (i := 10) (v := .bool false) rfl (by kernel_rfl) (by kernel_rfl) (by kernel_rfl) (fun _ _ _ h => h) (Or.inl ⟨by rfl, fun w' hSw => by go_simp⟩) hHeld ?_
      try simp only [Act.put, List.getElem_toArray, List.getElem_cons_succ, List.getElem_cons_zero, List.setIfInBounds_toArray, List.set_cons_zero, List.set_cons_succ]
      refine wpAnyH_take (i := 11) (v := .bool false) rfl (by kernel_rfl) (by kernel_rfl) (by kernel_rfl) (fun _ _ _ h => h) (Or.inl ⟨by rfl, fun w' hSw => by go_simp⟩) hHeld ?_
      try simp only [Act.put, List.getElem_toArray, List.getElem_cons_succ, List.getElem_cons_zero, List.setIfInBounds_toArray, List.set_cons_zero, List.set_cons_succ]
      refine wpAnyH_take (i := 12) (v := .slice (some ⟨g1, o1, none⟩) n c1) rfl (by kernel_rfl) (by kernel_rfl) (by kernel_rfl) (fun _ _ _ h => h) (Or.inl ⟨by rfl, fun w' hSw => by go_simp⟩) hHeld ?_
      try simp only [Act.put, List.getElem_toArray, List.getElem_cons_succ, List.getElem_cons_zero, List.setIfInBounds_toArray, List.set_cons_zero, List.set_cons_succ]
      refine wpAnyH_take (i := 13) (v := .int .i64 k) rfl (by kernel_rfl) (by kernel_rfl) (by kernel_rfl) (fun _ _ _ h => h) (Or.inl ⟨by rfl, fun w' hSw => by go_simp⟩) hHeld ?_
      try simp only [Act.put, List.getElem_toArray, List.getElem_cons_succ, List.getElem_cons_zero, List.setIfInBounds_toArray, List.set_cons_zero, List.set_cons_succ]
      refine wpAnyH_take (i := 14) (v := .pointer (some ⟨g1, (o1 + k * 5), none⟩)) rfl (by kernel_rfl) (by kernel_rfl) (by kernel_rfl) (fun _ _ _ h => h) (Or.inl ⟨by rfl, fun w' hSw => by go_simp⟩) hHeld ?_
      try simp only [Act.put, List.getElem_toArray, List.getElem_cons_succ, List.getElem_cons_zero, List.setIfInBounds_toArray, List.set_cons_zero, List.set_cons_succ]
      refine wpAnyH_take (i := 15) (v := .pointer (some ⟨g1, (o1 + k * 5 + 1), none⟩)) rfl (by kernel_rfl) (by kernel_rfl) (by kernel_rfl) (fun _ _ _ h => h) (Or.inl ⟨by rfl, fun w' hSw => by go_simp⟩) hHeld ?_
      try simp only [Act.put, List.getElem_toArray, List.getElem_cons_succ, List.getElem_cons_zero, List.setIfInBounds_toArray, List.set_cons_zero, List.set_cons_succ]
      refine' wpAnyH_take (i := 16) (v := _) rfl (by kernel_rfl) (by kernel_rfl) (by kernel_rfl) (fun _ _ _ h => h) (yieldsIf_load_mid (by rfl) _ _ rfl g1 (o1 + k * 5 + 1) rfl C1 _ (fun w' hSw => HR1.out _ hSw) Tryd.underlying24 rfl (by rw [bt_size, H1L.out])) hHeld ?_
      try simp only [Act.put, List.getElem_toArray, List.getElem_cons_succ, List.getElem_cons_zero, List.setIfInBounds_toArray, List.set_cons_zero, List.set_cons_succ]
      refine wpAnyH_take (i := 17) (v := .slice (some ⟨g2, o2, none⟩) n c2) rfl (by kernel_rfl) (by kernel_rfl) (by kernel_rfl) (fun _ _ _ h => h) (Or.inl ⟨by rfl, fun w' hSw => by go_simp⟩) hHeld ?_
      try simp only [Act.put, List.getElem_toArray, List.getElem_cons_succ, List.getElem_cons_zero, List.setIfInBounds_toArray, List.set_cons_zero, List.set_cons_succ]
      refine wpAnyH_take (i := 18) (v := .int .i64 k) rfl (by kernel_rfl) (by kernel_rfl) (by kernel_rfl) (fun _ _ _ h => h) (Or.inl ⟨by rfl, fun w' hSw => by go_simp⟩) hHeld ?_
      try simp only [Act.put, List.getElem_toArray, List.getElem_cons_succ, List.getElem_cons_zero, List.setIfInBounds_toArray, List.set_cons_zero, List.set_cons_succ]
      refine wpAnyH_take (i := 19) (v := .pointer (some ⟨g2, (o2 + k * 5), none⟩)) rfl (by kernel_rfl) (by kernel_rfl) (by kernel_rfl) (fun _ _ _ h => h) (Or.inl ⟨by rfl, fun w' hSw => by go_simp⟩) hHeld ?_
      try simp only [Act.put, List.getElem_toArray, List.getElem_cons_succ, List.getElem_cons_zero, List.setIfInBounds_toArray, List.set_cons_zero, List.set_cons_succ]
      refine wpAnyH_take (i := 20) (v := .pointer (some ⟨g2, (o2 + k * 5 + 1), none⟩)) rfl (by kernel_rfl) (by kernel_rfl) (by kernel_rfl) (fun _ _ _ h => h) (Or.inl ⟨by rfl, fun w' hSw => by go_simp⟩) hHeld ?_
      try simp only [Act.put, List.getElem_toArray, List.getElem_cons_succ, List.getElem_cons_zero, List.setIfInBounds_toArray, List.set_cons_zero, List.set_cons_succ]
      refine' wpAnyH_take (i := 21) (v := _) rfl (by kernel_rfl) (by kernel_rfl) (by kernel_rfl) (fun _ _ _ h => h) (yieldsIf_load_mid (by rfl) _ _ rfl g2 (o2 + k * 5 + 1) rfl C2 _ (fun w' hSw => HR2.out _ hSw) Tryd.underlying24 rfl (by rw [bt_size, H2L.out])) hHeld ?_
      try simp only [Act.put, List.getElem_toArray, List.getElem_cons_succ, List.getElem_cons_zero, List.setIfInBounds_toArray, List.set_cons_zero, List.set_cons_succ]
      refine wpAnyH_ready (rs := [22]) (by kernel_rfl) (by simp) (AllReadyH.cons rfl (fun K1 hK1 => ?_) AllReadyH.nil)
      try simp only [Act.put, List.getElem_toArray, List.getElem_cons_succ, List.getElem_cons_zero, List.setIfInBounds_toArray, List.set_cons_zero, List.set_cons_succ]
      go_simp
      refine Calls.mono (HBa.out _ hHeld) ?_
      rintro e w3 ⟨rfl, hb3⟩
      refine hK1.out _ _ ((two_below' hHeld hb3)) (fun hHeld => ?_)
      clear hK1 K1
      try simp only [Act.put, List.getElem_toArray, List.getElem_cons_succ, List.getElem_cons_zero, List.setIfInBounds_toArray, List.set_cons_zero, List.set_cons_succ]
      clear hb3
      refine wpAnyH_take (i := 23) (v := .bool false) rfl (by kernel_rfl) (by kernel_rfl) (by kernel_rfl) (fun _ _ _ h => h) (Or.inl ⟨by rfl, fun w' hSw => by go_simp⟩) hHeld ?_
      try simp only [Act.put, List.getElem_toArray, List.getElem_cons_succ, List.getElem_cons_zero, List.setIfInBounds_toArray, List.set_cons_zero, List.set_cons_succ]
      refine wpAnyH_take (i := 24) (v := .bool false) rfl (by kernel_rfl) (by kernel_rfl) (by kernel_rfl) (fun _ _ _ h => h) (Or.inl ⟨by rfl, fun w' hSw => by go_simp⟩) hHeld ?_
      try simp only [Act.put, List.getElem_toArray, List.getElem_cons_succ, List.getElem_cons_zero, List.setIfInBounds_toArray, List.set_cons_zero, List.set_cons_succ]
      refine wpAnyH_done (by kernel_rfl) ?_ _
      have HBe := Lib.hid hHeld
      clear hHeld
      go_wp2_with fail
      exact ⟨⟨k + 1, hlt, by go_num, HBe.out⟩, by simp [intOf]; omega⟩
    · have hki : (n : Int) ≤ (k : Int) := by omega
      go_wp2_with fail
      go_ret
      exact ⟨rfl, HBw.out⟩
end Go.Proofs.YtinciddchpccnaaDoor
namespace Go.Proofs.YtinciddchpccnaaDoor
open Go.RowKit
set_option linter.unusedVariables false
set_option linter.unusedSimpArgs false

namespace Po
theorem check_no {c t : T8} (h : t ≠ tag c) : Seal.check2 64 4 c t = 21 := by
  unfold Seal.check2
  rw [if_neg (by rw [tag_ok]; simp), if_pos (fun e => h e.symm)]
/-- a post with another tag is nobody's -/
theorem read_no {u c t : T8} (hu : Oct.listE [c, t] = (u, 0)) (ht : t.length = 32) (h : t ≠ tag c) : read u = (21, none) := by
  unfold read
  rw [look_yes (Tx.listAll_listE hu) ht]
  simp only [check_no h]
  rfl
/-- what a post has -/
theorem write_list {b : Bt} {s : T8} (h : writeE b = (s, 0)) : Oct.listE [Cr.pack b.textE.1, tag (Cr.pack b.textE.1)] = (s, 0) := by
  unfold writeE at h
  split at h
  · exact h
  · next h0 =>
    simp only [Prod.mk.injEq] at h
    exact absurd h.2 h0
theorem seal_len2 {c t : T8} (hc : c.length ≤ 10000) (ht : t.length = 32) : ∃ u, Oct.listE [c, t] = (u, 0) ∧ u.length ≤ 20000 := by
  have hn := Oct.num_length_le c.length
  have hn2 := Oct.num_length_le t.length
  unfold Oct.listE Oct.listGo Oct.listGo Oct.listGo
  rw [if_neg (by simp), if_neg (by omega), if_neg (by omega)]
  have h3 := Oct.num_length_le [c, t].length
  refine ⟨_, rfl, ?_⟩
  unfold Oct.text
  simp only [List.length_append, List.length_cons, List.length_nil] at h3 ⊢
  omega
theorem landed_append (l m : List Bk) : ∃ r, landed (l ++ m) = landed l ++ r := by
  have hstep : ∀ (blk : Int) (s : List (Int × Bt)) (i : It), ∃ r, step blk s i = s ++ r := fun blk s i => by
    unfold step
    split
    · split
      · exact ⟨_, rfl⟩
      · exact ⟨[], (List.append_nil s).symm⟩
    · exact ⟨[], (List.append_nil s).symm⟩
  have hfold : ∀ (blk : Int) (its : List It) (s : List (Int × Bt)), ∃ r, its.foldl (step blk) s = s ++ r := fun blk its => by
    induction its with
    | nil => exact fun s => ⟨[], (List.append_nil s).symm⟩
    | cons i its ih =>
      intro s
      obtain ⟨r1, h1⟩ := hstep blk s i
      obtain ⟨r2, h2⟩ := ih (s ++ r1)
      exact ⟨r1 ++ r2, by rw [List.foldl_cons, h1, h2, List.append_assoc]⟩
  have hall : ∀ (k : List Bk) (s : List (Int × Bt)), ∃ r, k.foldl block s = s ++ r := fun k => by
    induction k with
    | nil => exact fun s => ⟨[], (List.append_nil s).symm⟩
    | cons b k ih =>
      intro s
      obtain ⟨r1, h1⟩ := hfold b.number b.items s
      obtain ⟨r2, h2⟩ := ih (s ++ r1)
      refine ⟨r1 ++ r2, ?_⟩
      rw [List.foldl_cons]
      have e : block s b = s ++ r1 := h1
      rw [e, h2, List.append_assoc]
  unfold landed
  rw [List.foldl_append]
  exact hall m _
/-- the numbers of what landed -/
theorem landed_seq (l : List Bk) : ∀ i (h : i < (landed l).length), (landed l)[i].2.seq = (i : Int) := by
  have hkey : ∀ (blk : Int) (s : List (Int × Bt)) (i : It), step blk s i = s ∨ ∃ b : Bt, b.seq = s.length ∧ step blk s i = s ++ [(blk, b)] := fun blk s i => by
    unfold step
    split
    · next e b he =>
      split
      · next hq => exact .inr ⟨b, hq.2, rfl⟩
      · exact .inl rfl
    · exact .inl rfl
  have hstep : ∀ (blk : Int) (s : List (Int × Bt)) (i : It), (∀ k (h : k < s.length), s[k].2.seq = (k : Int)) → ∀ k (h : k < (step blk s i).length), (step blk s i)[k].2.seq = (k : Int) := fun blk s i hs => by
    rcases hkey blk s i with e | ⟨b, hq, e⟩
    · rw [e]; exact hs
    · rw [e]
      intro k hk
      by_cases h1 : k < s.length
      · rw [List.getElem_append_left h1]
        exact hs k h1
      · have hk2 : k = s.length := by simp at hk; omega
        subst hk2
        simp only [List.getElem_append_right (Nat.le_refl _), Nat.sub_self, List.getElem_cons_zero]
        exact hq
  have hfold : ∀ (blk : Int) (its : List It) (s : List (Int × Bt)), (∀ k (h : k < s.length), s[k].2.seq = (k : Int)) → ∀ k (h : k < (its.foldl (step blk) s).length), (its.foldl (step blk) s)[k].2.seq = (k : Int) := fun blk its => by
    induction its with
    | nil => exact fun s hs => hs
    | cons i its ih => exact fun s hs => ih _ (hstep blk s i hs)
  have hall : ∀ (k : List Bk) (s : List (Int × Bt)), (∀ j (h : j < s.length), s[j].2.seq = (j : Int)) → ∀ j (h : j < (k.foldl block s).length), (k.foldl block s)[j].2.seq = (j : Int) := fun k => by
    induction k with
    | nil => exact fun s hs => hs
    | cons b k ih => exact fun s hs => ih _ (hfold b.number b.items s hs)
  exact hall l [] (fun j h => by simp at h)
end Po
end Go.Proofs.YtinciddchpccnaaDoor
/- ---- InbOpen ---- -/
/- A law's argument that is a list of blocks, a list of entries, or a call, opened. -/
namespace Go.Proofs.YtinciddchpccnaaDoor
open Go.ChangeShapes Go.WideShapes Go.ChangeAt Go.RowKit Go.Joins Go.Deep
set_option linter.unusedVariables false
set_option linter.unusedSimpArgs false
set_option maxRecDepth 100000

theorem bulk_pos {H : Type} (d : DataW H) : 1 ≤ Rows.uptoBulk d := by
  unfold Rows.uptoBulk
  split <;> omega
theorem bulk_len {H : Type} : ∀ l : List (DataW H), l.length ≤ Rows.uptoBulkAll l
  | [] => Nat.zero_le _
  | d :: l => by
    have h1 := bulk_pos d
    have h2 := bulk_len l
    unfold Rows.uptoBulkAll
    simp only [List.length_cons]
    omega
namespace Inb
def tot (l : List Bk) : Nat := (l.map fun b => b.items.length).sum
theorem tot_take (l : List Bk) (k : Nat) (hk : k < l.length) : tot (l.take k) + l[k].items.length = tot (l.take (k + 1)) := by
  rw [List.take_succ_eq_append_getElem hk]
  unfold tot
  rw [List.map_append, List.sum_append]
  simp only [List.map_cons, List.map_nil, List.sum_cons, List.sum_nil, Nat.add_zero]
theorem tot_le (l : List Bk) (k : Nat) : tot (l.take k) ≤ tot l := by
  have e : tot l = tot (l.take k) + tot (l.drop k) := by
    unfold tot
    rw [← List.sum_append, ← List.map_append, List.take_append_drop]
  omega
end Inb
theorem bulk_tot {H : Type} (f : Nat → Bv) (D : Nat → DataW H) : ∀ (is : List Nat), (∀ i ∈ is, (f i).b.items.length ≤ Rows.uptoBulk (D i)) → Inb.tot (bks (is.map f)) ≤ Rows.uptoBulkAll (is.map D)
  | [], _ => Nat.zero_le _
  | i :: is, h => by
    have h1 := h i (by simp)
    have h2 := bulk_tot f D is (fun j hj => h j (by simp [hj]))
    simp only [List.map_cons, Rows.uptoBulkAll]
    have e : Inb.tot (bks (f i :: is.map f)) = (f i).b.items.length + Inb.tot (bks (is.map f)) := by unfold Inb.tot bks; simp
    omega
/-- things of one size that lie at an address, as a list -/
theorem pick_list {α : Type} (W : World) (a : Addr) (n m sz : Nat) (hnm : n ≤ m) (C : α → List Value) (P : Nat → α → Prop) (hC : ∀ x, ∃ v, (C x)[0]? = some v) (hdef : α)
    (h : ∀ i, i < m → ∃ x : α, (∀ j v, (C x)[j]? = some v → W.cell? ((a.add (i * sz)).add j) = some v) ∧ P i x) :
    ∃ (f : Nat → α) , (∀ i, i < n → P i (f i)) ∧ (0 < n → ∃ b off, a = ⟨b, off, none⟩ ∧ b < W.heap.size ∧ ∀ i, i < n → W.rangeAt b (off + i * sz) (C (f i))) := by
  by_cases hn : n = 0
  · subst hn
    exact ⟨fun _ => hdef, fun i hi => absurd hi (by omega), fun h0 => absurd h0 (by omega)⟩
  · obtain ⟨x0, _⟩ := h 0 (by omega)
    have hch : ∃ f : Nat → α, ∀ i, i < n → (∀ j v, (C (f i))[j]? = some v → W.cell? ((a.add (i * sz)).add j) = some v) ∧ P i (f i) := by
      refine ⟨fun i => if h' : i < n then (h i (by omega)).choose else x0, fun i hi => ?_⟩
      simp only [dif_pos hi]
      exact (h i (by omega)).choose_spec
    obtain ⟨f, hf⟩ := hch
    refine ⟨f, fun i hi => (hf i hi).2, fun h0 => ?_⟩
    obtain ⟨v, hv⟩ := hC (f 0)
    have hc0 := (hf 0 h0).1 0 v hv
    have ez : (a.add (0 * sz)).add 0 = a := by simp [Addr.add]
    rw [ez] at hc0
    have hsp := World.cell?_spot hc0
    have hblt := World.block_lt_of_cell? W a hc0
    obtain ⟨b, off, sp⟩ := a
    subst hsp
    have hadd : ∀ k i, (⟨b, k, none⟩ : Addr).add i = ⟨b, k + i, none⟩ := fun k i => by unfold Addr.add; split <;> simp_all
    refine ⟨b, off, rfl, hblt, fun i hi j v hv => ?_⟩
    have := (hf i hi).1 j v hv
    rwa [hadd, hadd] at this
section
variable {H : Type} {enc : TypeId × Value → H} {fuel : Nat}
theorem cellsH12 : Tryd.prog.cellsOf 51 = 32 := by kernel_rfl
theorem cellsL12 : Tryd.prog.cellsOf 60 = 1 := by kernel_rfl
/-- items that a slice reads as -/
theorem items_cells {W : World} {A : Option Addr} {n cap : Nat} {x : DataW H × List MemPlace} (h : DataW.trod enc Tryd.prog W 0 (fun _ => true) true fuel 60 [.slice A n cap] = some x) :
    ∃ its : List It, its.length = n ∧ BkItems W W.heap.size A its ∧ its.length ≤ cap ∧ its.length ≤ Rows.uptoBulk x.1 := by
  have hC : Tryd.prog.cellsOf 59 = 4 := by kernel_rfl
  rcases open_slice Tryd.underlying60 h with ⟨hcs, hx⟩ | ⟨a, len, cap', m, n', D, Pl, hcs, _, hlc, hcm, hm, hx, hi⟩
  · have hcs' : Value.slice A n cap = .slice none 0 0 := by injection hcs
    injection hcs' with _ e2 e3
    subst e2 e3
    exact ⟨[], rfl, ⟨fun hne => absurd rfl hne, by simp⟩, by simp, Nat.zero_le _⟩
  · have hcs' : Value.slice A n cap = .slice (some a) len cap' := by injection hcs
    injection hcs' with e1 e2 e3
    subst e1 e2 e3
    rw [if_pos rfl] at hm
    subst hm
    obtain ⟨f, hf1, hf2⟩ := pick_list W a n m 4 hlc It.cells (fun _ _ => True) (fun x => ⟨_, rfl⟩) It.zero (fun i him => by
      obtain ⟨cs', hc, ht⟩ := hi i him
      rw [hC] at hc
      obtain ⟨_, hcl, hat⟩ := World.cells?_some hc
      obtain ⟨it, e⟩ := item_cells hcl ht
      refine ⟨it, fun j v hv => ?_, trivial⟩
      have hv : cs'[j]? = some v := by rw [e]; exact hv
      rw [hat j (by have := (List.getElem?_eq_some_iff.1 hv).1; omega), hv])
    have hmax : m ≤ 9223372036854775807 := by have := hcm; unfold maxLen at this; omega
    refine ⟨(List.range n).map f, by simp, ⟨fun hne => ?_, by simp; omega⟩, by simp; exact hlc, ?_⟩
    · have hpos : 0 < n := by
        rcases Nat.eq_zero_or_pos n with h0 | h0
        · subst h0; simp at hne
        · exact h0
      obtain ⟨b, off, e, hb, hr⟩ := hf2 hpos
      refine ⟨b, off, by rw [e], hb, fun i hi2 => ?_⟩
      have hi3 : i < n := by simpa using hi2
      simp only [List.getElem_map, List.getElem_range]
      exact hr i hi3
    · have hx1 : x.1 = .slice ((List.range n).map D) ((List.range (m - n)).map fun i => D (n + i)) ∨ Rows.uptoBulkAll ((List.range n).map D) ≤ Rows.uptoBulk x.1 := by
        right
        rw [(Prod.mk.inj hx).1]
        simp only [Rows.uptoBulk]
        omega
      have h2 := bulk_len ((List.range n).map D)
      simp only [List.length_map, List.length_range] at h2 ⊢
      have h3 : Rows.uptoBulkAll ((List.range n).map D) ≤ Rows.uptoBulk x.1 := by
        rw [(Prod.mk.inj hx).1]
        simp only [Rows.uptoBulk]
        omega
      omega
theorem bk_four {a b s : Value} {r : List Value} : ∀ (l : List Value), l.length = 35 → (l.drop 0).take 1 = [a] → (l.drop 1).take 1 = [b] → (l.drop 2).take 32 = r → (l.drop 34).take 1 = [s] → l = [a, b] ++ (r ++ [s])
  | x0 :: x1 :: q, hl, h0, h1, h2, h3 => by
    have hq : q.length = 33 := by simpa using hl
    simp at h0 h1 h2 h3
    rw [h0, h1, ← h2]
    have e : q.drop 32 = [s] := by
      rw [← h3, List.take_of_length_le (by simp; omega)]
    rw [← e, List.take_append_drop]; rfl
  | [], hl, _, _, _, _ => by simp at hl
  | [_], hl, _, _, _, _ => by simp at hl
theorem block_cells {W : World} {cs : List Value} {x : DataW H × List MemPlace} (hcs : cs.length = 35) (h : DataW.trod enc Tryd.prog W 0 (fun _ => true) true fuel 62 cs = some x) :
    ∃ y : Bv, y.Fits ∧ cs = y.cells ∧ BkItems W W.heap.size y.A y.b.items ∧ y.b.items.length ≤ y.cap ∧ y.b.items.length ≤ Rows.uptoBulk x.1 := by
  obtain ⟨xs, n, _, hx, _, hlen, hg⟩ := DataW.trod_struct Tryd.underlying62 h
  have h0 : DataW.trod enc Tryd.prog W 0 (fun _ => true) true n 3 ((cs.drop 0).take (Tryd.prog.cellsOf 3)) = xs[0]? := hg 0 _ rfl
  have h1 : DataW.trod enc Tryd.prog W 0 (fun _ => true) true n 3 ((cs.drop 1).take (Tryd.prog.cellsOf 3)) = xs[1]? := hg 1 _ rfl
  have h2 : DataW.trod enc Tryd.prog W 0 (fun _ => true) true n 51 ((cs.drop 2).take (Tryd.prog.cellsOf 51)) = xs[2]? := hg 2 _ rfl
  have h3 : DataW.trod enc Tryd.prog W 0 (fun _ => true) true n 60 ((cs.drop 34).take (Tryd.prog.cellsOf 60)) = xs[3]? := hg 3 _ rfl
  rw [cellsI] at h0 h1
  rw [cellsH12] at h2
  rw [cellsL12] at h3
  match xs, hlen with
  | [y0, y1, y2, y3], _ =>
    obtain ⟨n0, e0, f0, w0⟩ := DataW.trod_int Tryd.underlying3 h0
    obtain ⟨n1, e1, f1, w1⟩ := DataW.trod_int Tryd.underlying3 h1
    obtain ⟨R, hR, e2, _⟩ := hash_cells h2
    have e3 : ∃ A k c, (cs.drop 34).take 1 = [.slice A k c] := by
      rcases open_slice Tryd.underlying60 h3 with ⟨e, _⟩ | ⟨_, _, _, _, _, _, _, e, _⟩
      · exact ⟨_, _, _, e⟩
      · exact ⟨_, _, _, e⟩
    obtain ⟨A, k, c, e3⟩ := e3
    rw [e3] at h3
    obtain ⟨its, hk, hI, hcap, hbk⟩ := items_cells h3
    subst hk
    have hde : x.1 = .agg [y0.1, y1.1, y2.1, y3.1] := by rw [hx]; rfl
    refine ⟨⟨⟨n0, n1, R, its⟩, A, c⟩, ⟨hR, bounds_i64 w0⟩, bk_four cs hcs e0 e1 e2 e3, hI, hcap, ?_⟩
    rw [hde]
    simp only [Rows.uptoBulk, Rows.uptoBulkAll]
    show its.length ≤ _
    omega
end
section
variable {H : Type} {enc : TypeId × Value → H} {W : World} {r : Reach} {b0 : Nat} {v : Value} {d : DataW H} {ps : List MemPlace}
/-- a list of blocks -/
theorem open_bvs (hv : Value.okWide Tryd.prog W r b0 34 v) (h : DataW.Trod enc Tryd.prog W 0 (fun _ => true) true 34 v d ps) :
    ∃ (A : Option Addr) (c : Nat) (l : List Bv), v = .slice A l.length c ∧ BvIn W W.heap.size A c l ∧ (∀ x ∈ l, x.Fits) ∧ l.length ≤ 9223372036854775807 ∧ Inb.tot (bks l) ≤ Rows.uptoBulk d := by
  obtain ⟨A, n, cap, rfl⟩ := okWide_slice Tryd.underlying34 hv
  obtain ⟨fuel, hf⟩ := h
  have hC : Tryd.prog.cellsOf 62 = 35 := by kernel_rfl
  rcases open_slice Tryd.underlying34 hf with ⟨hcs, hx⟩ | ⟨a, len, cap', m, n', D, Pl, hcs, _, hlc, hcm, hm, hx, hi⟩
  · have hcs' : Value.slice A n cap = .slice none 0 0 := by simpa [Value.cells] using hcs
    injection hcs' with e1 e2 e3
    subst e1 e2 e3
    exact ⟨none, 0, [], rfl, ⟨fun hne => absurd rfl hne, fun _ => ⟨rfl, rfl⟩, Nat.le_refl _⟩, by simp, by simp, Nat.zero_le _⟩
  · have hcs' : Value.slice A n cap = .slice (some a) len cap' := by simpa [Value.cells] using hcs
    injection hcs' with e1 e2 e3
    subst e1 e2 e3
    rw [if_pos rfl] at hm
    subst hm
    obtain ⟨rfl, _⟩ := Prod.mk.inj hx
    obtain ⟨f, hf1, hf2⟩ := pick_list W a n m 35 hlc Bv.cells (fun i y => y.Fits ∧ BkItems W W.heap.size y.A y.b.items ∧ y.b.items.length ≤ y.cap ∧ y.b.items.length ≤ Rows.uptoBulk (D i)) (fun x => ⟨_, rfl⟩) ⟨Bk.zero, none, 0⟩ (fun i him => by
      obtain ⟨cs', hc, ht⟩ := hi i him
      rw [hC] at hc
      obtain ⟨_, hcl, hat⟩ := World.cells?_some hc
      obtain ⟨y, q1, e, q2, q3, q4⟩ := block_cells hcl ht
      refine ⟨y, fun j v hv => ?_, q1, q2, q3, q4⟩
      have hv : cs'[j]? = some v := by rw [e]; exact hv
      rw [hat j (by have := (List.getElem?_eq_some_iff.1 hv).1; omega), hv])
    have hmax : m ≤ 9223372036854775807 := by have := hcm; unfold maxLen at this; omega
    refine ⟨some a, m, (List.range n).map f, by simp, ⟨fun hne => ?_, fun e => (by cases e), by simp; exact hlc⟩, fun x hx => ?_, by simp; omega, ?_⟩
    · have hpos : 0 < n := by
        rcases Nat.eq_zero_or_pos n with h0 | h0
        · subst h0; simp at hne
        · exact h0
      obtain ⟨b, off, e, hb, hr⟩ := hf2 hpos
      refine ⟨b, off, by rw [e], hb, fun i hi2 => ?_⟩
      have hi3 : i < n := by simpa using hi2
      simp only [List.getElem_map, List.getElem_range]
      exact ⟨hr i hi3, (hf1 i hi3).2.1, (hf1 i hi3).2.2.1⟩
    · obtain ⟨i, hi1, rfl⟩ := List.mem_map.1 hx
      exact (hf1 i (List.mem_range.1 hi1)).1
    · have h1 := bulk_tot f D (List.range n) (fun i hi => (hf1 i (List.mem_range.1 hi)).2.2.2)
      simp only [Rows.uptoBulk]
      omega
end
end Go.Proofs.YtinciddchpccnaaDoor
namespace Go.Proofs.YtinciddchpccnaaDoor
open Go.RowKit
set_option linter.unusedVariables false
set_option linter.unusedSimpArgs false

theorem bk_info : (Tryd.prog.info? 62).map (fun i => (i.zero, i.size, i.bytes)) = some (some (.agg Bk.zeroC.toArray), 35, 72) := by kernel_rfl
namespace Bv
def flat (l : List Bv) : List Value := l.flatMap cells
theorem cells_len {x : Bv} (h : x.Fits) : x.cells.length = 35 := Bk.cells_len h.1
theorem flat_append (l m : List Bv) : flat (l ++ m) = flat l ++ flat m := List.flatMap_append
theorem flat_len : ∀ {l : List Bv}, (∀ x ∈ l, x.Fits) → (flat l).length = l.length * 35
  | [], _ => rfl
  | x :: r, h => by
    show (x.cells ++ flat r).length = _
    rw [List.length_append, cells_len (h x (by simp)), flat_len (fun y hy => h y (by simp [hy])), List.length_cons]
    omega
theorem flat_one : ∀ {l : List Bv}, (∀ x ∈ l, x.Fits) → ∀ v ∈ flat l, v.oneCell' = true
  | [], _, v, hv => by cases hv
  | x :: r, h, v, hv => by
    rcases List.mem_append.1 (show v ∈ x.cells ++ flat r from hv) with hv | hv
    · exact Bk.cells_one (h x (by simp)).1 v hv
    · exact flat_one (fun y hy => h y (by simp [hy])) v hv
theorem flat_at : ∀ (l : List Bv) (hl : ∀ x ∈ l, x.Fits) (i : Nat) (hi : i < l.length) (j : Nat) (v : Value), l[i].cells[j]? = some v → (flat l)[i * 35 + j]? = some v
  | x :: r, hl, 0, hi, j, v, h => by
    show (x.cells ++ flat r)[_]? = _
    simp only [List.getElem_cons_zero] at h
    have hj := (List.getElem?_eq_some_iff.1 h).1
    rw [Nat.zero_mul, Nat.zero_add, List.getElem?_append_left hj]
    exact h
  | x :: r, hl, i + 1, hi, j, v, h => by
    have hc := cells_len (hl x (by simp))
    show (x.cells ++ flat r)[_]? = _
    simp only [List.getElem_cons_succ] at h
    rw [List.getElem?_append_right (by omega), hc, show (i + 1) * 35 + j - 35 = i * 35 + j by omega]
    exact flat_at r (fun e he => hl e (by simp [he])) i (by simpa using hi) j v h
theorem flat_range {w : World} {g : Nat} : ∀ (l : List Bv) (off : Nat), (∀ x ∈ l, x.Fits) → (∀ i (h : i < l.length), w.rangeAt g (off + i * 35) l[i].cells) → w.rangeAt g off (flat l)
  | [], off, _, _ => fun j v hv => by simp [flat] at hv
  | x :: r, off, hf, h => fun j v hv => by
    have hc := cells_len (hf x (by simp))
    have hv : (x.cells ++ flat r)[j]? = some v := hv
    by_cases hj : j < 35
    · rw [List.getElem?_append_left (by omega)] at hv
      have := h 0 (by simp) j v hv
      rwa [Nat.zero_mul, Nat.add_zero] at this
    · rw [List.getElem?_append_right (by omega), hc] at hv
      have := flat_range r (off + 35) (fun y hy => hf y (by simp [hy])) (fun i hi => by
        have := h (i + 1) (by simpa using hi)
        rw [show off + 35 + i * 35 = off + (i + 1) * 35 by omega]
        simpa using this) (j - 35) v hv
      rwa [show off + 35 + (j - 35) = off + j by omega] at this
end Bv
theorem bks_len (l : List Bv) : (bks l).length = l.length := List.length_map ..
theorem BvsAt.below {w w' : World} {B : Nat} {A : Option Addr} {l : List Bv} (h : BvsAt w B A l) (hb : Below B w w') : BvsAt w' B A l :=
  ListAt.map h (Nat.le_refl _) fun b o x hlt ⟨h1, h2, h3⟩ => ⟨range_below h1 hb hlt, h2.below hb, h3⟩
theorem BvsAt.mono {w : World} {B B' : Nat} {A : Option Addr} {l : List Bv} (h : BvsAt w B A l) (hB : B ≤ B') : BvsAt w B' A l :=
  ListAt.map h hB fun b o x hlt ⟨h1, h2, h3⟩ => ⟨h1, h2.mono hB, h3⟩
theorem items_of {w : World} {B : Nat} {A : Option Addr} {l : List Bv} (h : BvsAt w B A l) : ∀ x ∈ l, BkItems w B x.A x.b.items ∧ x.b.items.length ≤ x.cap := fun x hx => by
  obtain ⟨i, hi, rfl⟩ := List.getElem_of_mem hx
  obtain ⟨g, off, h1, h2, h3⟩ := h (by intro e; rw [e] at hi; simp at hi)
  exact (h3 i hi).2
theorem bvs_own {w : World} {base : Nat} {A : Option Addr} {n c B : Nat} {l : List Bv} (h : w.ownsRow base 62 35 (.slice A n c) n (Bv.flat l)) (hl : ∀ x ∈ l, x.Fits) (hn : n = l.length) (hB : B = w.heap.size) (hi : ∀ x ∈ l, BkItems w B x.A x.b.items ∧ x.b.items.length ≤ x.cap) : BvsAt w B A l := fun hne => by
  have hpos : 0 < n := by rw [hn]; exact List.length_pos_iff.2 hne
  obtain ⟨m, rfl⟩ : ∃ m, n = m + 1 := ⟨n - 1, by omega⟩
  obtain ⟨g, cap, e⟩ := ownsRow_succ h
  rw [e] at h
  injection e with e1 e2 e3
  subst e1
  refine ⟨g, 0, rfl, by rw [hB]; exact (h.lt g rfl).2, fun i hi2 => ⟨fun j v hv => ?_, hi _ (List.getElem_mem _)⟩⟩
  have hf := Bv.flat_at l hl i hi2 j v hv
  have hlt := (List.getElem?_eq_some_iff.1 hf).1
  rw [h.1] at hlt
  rw [Nat.zero_add]
  exact (h.cellAt _ hlt).trans hf
theorem BvIn.below {w w' : World} {B : Nat} {A : Option Addr} {c : Nat} {l : List Bv} (h : BvIn w B A c l) (hb : Below B w w') : BvIn w' B A c l :=
  ⟨h.1.below hb, h.2.1, h.2.2⟩
set_option maxRecDepth 20000 in
theorem wp_append_blocks {w : World} {o : Oper} {a : Act} {K : Act → World → Prop} {Q : Exit → Act → World → Prop} (s x : Operand)
    (ho : o.op = .call { callee := .builtin .append, args := #[s, x], argTypes := #[34, 34] }) (base : Nat) (v : Value) (n : Nat) (xs : List Value) (hs : a.eval s = v) (hown : w.ownsRow base 62 35 v n xs)
    (B : Nat) (A : Option Addr) (c : Nat) (l : List Bv) (m : Nat) (hm : m = l.length) (hx : a.eval x = .slice A m c) (hin : BvIn w B A c l) (hf : ∀ y ∈ l, y.Fits) (hb : n + m ≤ 1000000) (hbase : base ≤ w.heap.size)
    (h : ∀ v' w', w'.ownsRow base 62 35 v' (n + m) (xs ++ Bv.flat l) → w.grownBy w' v.ownBlock → K (a.put o.dst v') w') : o.wp Tryd.prog a w K Q := by
  subst hm
  obtain ⟨i0, hi, h2⟩ := Option.map_eq_some_iff.1 bk_info
  simp only [Prod.mk.injEq] at h2
  cases A with
  | none =>
    obtain ⟨rfl, rfl⟩ := hin.2.1 rfl
    have hrun := run_append_owned_none (P := Tryd.prog) (w := w) base 34 o.type 62 i0 35 Tryd.underlying34 hi v n xs hown
    unfold Oper.wp
    simp [execOp, ho, resolve, invoke, builtin, hs, hx, hrun, Result.andThen]
    exact h v w (by rw [show Bv.flat [] = [] from rfl, List.append_nil]; exact hown) (World.grownBy.refl w _)
  | some ad =>
    refine wp_append_own_wide w s x 34 ho base 62 i0 (.agg Bk.zeroC.toArray) 35 72 Tryd.underlying34 hi h2.1 h2.2.1 h2.2.2 (by rw [← Bk.zeroC_len]; rfl) (by decide) v n xs hs hown ad l.length c (Bv.flat l) hx (Bv.flat_len hf) (fun j u hj => ?_) (Bv.flat_one hf) (Nat.le_trans hb (by decide)) (by omega) hbase fun v' w' h3 h4 _ => h v' w' h3 h4
    have hne : l ≠ [] := fun e => by rw [e] at hj; simp [Bv.flat] at hj
    obtain ⟨g, off, e, _, hat⟩ := hin.1 hne
    injection e with e
    subst e
    have e : (⟨g, off, none⟩ : Addr).add j = ⟨g, off + j, none⟩ := by unfold Addr.add; split <;> simp_all
    rw [e]
    exact Bv.flat_range l off hf (fun i hi => (hat i hi).1) j u hj
theorem wpList_append_blocks {w : World} {ops : Array Oper} {rest : List Oper} {o : Oper} {a : Act} {Q : Exit → Act → World → Prop} (hg : o.guard = none) (s x : Operand)
    (ho : o.op = .call { callee := .builtin .append, args := #[s, x], argTypes := #[34, 34] }) (base : Nat) (v : Value) (n : Nat) (xs : List Value) (hs : a.eval s = v) (hown : w.ownsRow base 62 35 v n xs)
    (B : Nat) (A : Option Addr) (c : Nat) (l : List Bv) (m : Nat) (hm : m = l.length) (hx : a.eval x = .slice A m c) (hin : BvIn w B A c l) (hf : ∀ y ∈ l, y.Fits) (hb : n + m ≤ 1000000) (hbase : base ≤ w.heap.size)
    (h : ∀ v' w', w'.ownsRow base 62 35 v' (n + m) (xs ++ Bv.flat l) → w.grownBy w' v.ownBlock → wpList Tryd.prog ops Q rest (a.put o.dst v') w') : wpList Tryd.prog ops Q (o :: rest) a w :=
  wpList_step fun K hK => by
    have hw : Region.wanted o (yielded ops a.tmps) = true := by simp [Region.wanted, hg]
    rw [if_pos hw]
    exact wp_append_blocks s x ho base v n xs hs hown B A c l m hm hx hin hf hb hbase fun v' w' h3 h4 => hK _ _ (h v' w' h3 h4)
theorem sliceHeadB (A : Option Addr) (n k cp : Nat) (hc : k ≤ cp) (W : World) : (Instr.slice 34 (.slice A n cp) none (some (.int .i64 k)) none).run Tryd.prog W = .ok (.slice A k cp) W := by
  have hz : (sizeOf (Tryd.prog.elem 34)).run Tryd.prog W = .ok 35 W := by kernel_rfl
  have e := run_slice_h (P := Tryd.prog) (w := W) (t := 34) (a := A) (len := n) (cap := cp) (by kernel_rfl) (kh := .i64) (h := (k : Int)) (by omega) (by omega)
  rw [hz] at e
  simp only [Result.andThen, Int.toNat_natCast] at e
  rw [e]
  unfold sliced
  have e2 : A.map (fun x => x.add (0 * 35)) = A := by
    cases A with
    | none => rfl
    | some a => simp [Addr.add]
  rw [e2]
  simp
theorem sliceHeadL (A : Option Addr) (n k cp : Nat) (hc : k ≤ cp) (W : World) : (Instr.slice 36 (.slice A n cp) none (some (.int .i64 k)) none).run Tryd.prog W = .ok (.slice A k cp) W := by
  have hz : (sizeOf (Tryd.prog.elem 36)).run Tryd.prog W = .ok 5 W := by kernel_rfl
  have e := run_slice_h (P := Tryd.prog) (w := W) (t := 36) (a := A) (len := n) (cap := cp) (by kernel_rfl) (kh := .i64) (h := (k : Int)) (by omega) (by omega)
  rw [hz] at e
  simp only [Result.andThen, Int.toNat_natCast] at e
  rw [e]
  unfold sliced
  have e2 : A.map (fun x => x.add (0 * 5)) = A := by
    cases A with
    | none => rfl
    | some a => simp [Addr.add]
  rw [e2]
  simp
theorem bks_append (l m : List Bv) : bks (l ++ m) = bks l ++ bks m := List.map_append
end Go.Proofs.YtinciddchpccnaaDoor
namespace Go.Proofs.YtinciddchpccnaaDoor
open Go.RowKit
set_option linter.unusedVariables false
set_option linter.unusedSimpArgs false

set_option maxRecDepth 20000 in
set_option maxHeartbeats 6400000 in
theorem boxOrders_ff (A1 A2 : Option Addr) (c1 c2 : Nat) (l1 l2 : List Bv) (w : World) (h1 : BvIn w w.heap.size A1 c1 l1) (h2 : BvIn w w.heap.size A2 c2 l2) (f1 : ∀ x ∈ l1, x.Fits) (f2 : ∀ x ∈ l2, x.Fits)
    (hl1 : l1.length ≤ 9223372036854775807) (hl2 : l2.length ≤ 9223372036854775807) (hT : Tab w) (j1 : ¬ 15 < l1.length) (j2 : ¬ 15 < l2.length) :
    Calls Tryd.prog 7 #[.slice A1 l1.length c1, .slice A2 l2.length c2] w fun e w' => e = .returned (.bool true) ∧ Below w.heap.size w w' := by
  have AW := Lib.hid (fun W (hW : Below w.heap.size w W) => awake13_any W (hT.below hW hT.pos))
  have HT := Lib.hid hT
  obtain ⟨k1, hk1⟩ : ∃ k1, k1 = l1 := ⟨_, rfl⟩
  obtain ⟨n1, hn1⟩ : ∃ n1, n1 = l1.length := ⟨_, rfl⟩
  have hL1 : n1 = k1.length := by rw [hk1]; exact hn1
  have hI1 : BvIn w w.heap.size A1 c1 k1 := by rw [hk1]; exact h1
  have hF1 : ∀ x ∈ k1, x.Fits := fun x hx => f1 x (by rw [← hk1]; exact hx)
  have d1 : decide ((15 : Int) < (l1.length : Int)) = false := by simp; omega
  have hs1 : n1 ≤ 15 := by omega
  obtain ⟨k2, hk2⟩ : ∃ k2, k2 = l2 := ⟨_, rfl⟩
  obtain ⟨n2, hn2⟩ : ∃ n2, n2 = l2.length := ⟨_, rfl⟩
  have hL2 : n2 = k2.length := by rw [hk2]; exact hn2
  have hI2 : BvIn w w.heap.size A2 c2 k2 := by rw [hk2]; exact h2
  have hF2 : ∀ x ∈ k2, x.Fits := fun x hx => f2 x (by rw [← hk2]; exact hx)
  have d2 : decide ((15 : Int) < (l2.length : Int)) = false := by simp; omega
  have hs2 : n2 ≤ 15 := by omega
  have HL1 := Lib.hid hL1
  have HL2 := Lib.hid hL2
  have H1 := Lib.hid hI1
  have H2 := Lib.hid hI2
  have HF1 := Lib.hid hF1
  have HF2 := Lib.hid hF2
  have M1 := Lib.hid (fun W (hW : Below w.heap.size w W) => landed_any A1 c1 (bks k1) W (((BvsAt.bks hI1.1 hF1).below hW).mono hW.size) (by rw [bks_len]; omega) (hT.below hW hT.pos))
  rw [bks_len, ← hL1] at M1
  rw [← hn1] at d1 j1 ⊢
  rw [← hn2] at d2 j2 ⊢
  clear hI1 hI2 hF1 hF2 h1 h2 f1 f2 hT hL1 hL2 hk1 hk2 hn1 hn2
  go_enter Tryd.func7, Tryd.ntmps7
  go_wp2_with fail
  clear d1 d2
  refine (M1.out _ (Below.refl _ _)).mono ?_
  rintro _ w5 ⟨⟨v5, rfl, ho5⟩, hb5⟩
  obtain ⟨A5, c5, rfl, hc5, hm5, hr5⟩ := ho5.read
  have HB5 := Lib.hid hb5
  have HA5 := Lib.hid hr5
  have HM5 := Lib.hid hm5
  obtain ⟨na, hna⟩ : ∃ na, na = (Po.landed (bks k1)).length := ⟨_, rfl⟩
  rw [← hna] at hc5 hm5 ⊢
  have HNA := Lib.hid hna
  clear ho5 hb5 hr5 hc5 hna
  have hown0 : (w5.alloc (.cells #[] 62)).ownsRow w5.heap.size 62 35 (.slice (some ⟨w5.heap.size, 0, none⟩) 0 0) 0 [] := ⟨rfl, .inr ⟨w5.heap.size, 0, #[], rfl, Nat.le_refl _, heap_alloc_new _ _, Nat.le_refl _, Nat.zero_le _, rfl, rfl⟩⟩
  have hb5a := (Below.refl w5.heap.size w5).alloc (Nat.le_refl _) (.cells #[] 62)
  have Hown0 := Lib.hid hown0
  have Hb5a := Lib.hid hb5a
  have hz5 : w5.heap.size ≤ (w5.alloc (.cells #[] 62)).heap.size := hb5a.size
  clear hown0 hb5a
  go_wp2_with (first
  | (at_builtin
     refine wpList_append_blocks rfl (.tmp 21) (.tmp 22) rfl w5.heap.size (.slice (some ⟨w5.heap.size, 0, none⟩) 0 0) 0 [] rfl Hown0.out w.heap.size A1 c1 k1 n1 HL1.out rfl (H1.out.below (two_below' HB5.out Hb5a.out)) HF1.out (by omega) hz5 ?_
     intro v6 w6 ho6 hg6
     have Ho6 := Lib.hid ho6
     have Hb6 := Lib.hid (below_row Hb5a.out hz5 Hown0.out hg6)
     have hz6 : w5.heap.size ≤ w6.heap.size := Hb6.out.size
     clear ho6 hg6)
  | (at_builtin
     refine wpList_append_blocks rfl (.tmp 23) (.tmp 24) rfl w5.heap.size v6 (0 + n1) ([] ++ Bv.flat k1) rfl Ho6.out w.heap.size A2 c2 k2 n2 HL2.out rfl (H2.out.below (two_below' HB5.out Hb6.out)) HF2.out (by omega) hz6 ?_
     intro v7 w7 ho7 hg7
     have Ho7 := Lib.hid ho7
     have Hb7 := Lib.hid (below_row Hb6.out hz6 Ho6.out hg7)
     clear ho7 hg7))
  obtain ⟨A7, c7, rfl, hcap7, _⟩ := own_form13 Ho7.out
  have hlen7 : 0 + n1 + n2 = (k1 ++ k2).length := by rw [List.length_append]; have := HL1.out; have := HL2.out; omega
  have Hb7w := Lib.hid (two_below' HB5.out Hb7.out)
  have hB7 : BvsAt w7 w7.heap.size A7 (k1 ++ k2) := bvs_own (n := 0 + n1 + n2) (c := c7) (by rw [Bv.flat_append]; exact Ho7.out) (fun x hx => by
    rcases List.mem_append.1 hx with hx | hx
    · exact HF1.out x hx
    · exact HF2.out x hx) hlen7 rfl (fun x hx => by
    rcases List.mem_append.1 hx with hx | hx
    · have := items_of H1.out.1 x hx
      exact ⟨(this.1.below Hb7w.out).mono Hb7w.out.size, this.2⟩
    · have := items_of H2.out.1 x hx
      exact ⟨(this.1.below Hb7w.out).mono Hb7w.out.size, this.2⟩)
  have hFit : ∀ x ∈ k1 ++ k2, x.Fits := fun x hx => by
    rcases List.mem_append.1 hx with hx | hx
    · exact HF1.out x hx
    · exact HF2.out x hx
  have M7 := landed_any A7 c7 (bks (k1 ++ k2)) w7 (hB7.bks hFit) (by rw [bks_len, ← hlen7]; omega) (HT.out.below Hb7w.out HT.out.pos)
  rw [bks_len, ← hlen7] at M7
  have M7 := Lib.hid M7
  obtain ⟨r7, hr7⟩ := Po.landed_append (bks k1) (bks k2)
  rw [← bks_append] at hr7
  have Hr7 := Lib.hid hr7
  have hseq := Po.landed_seq (bks (k1 ++ k2))
  have Hseq := Lib.hid hseq
  clear hB7 hFit hlen7 hr7 hseq hcap7
  refine M7.out.mono ?_
  rintro _ w8 ⟨⟨v8, rfl, ho8⟩, hb8⟩
  obtain ⟨A8, c8, rfl, hc8, hm8, hr8⟩ := ho8.read
  have HB8 := Lib.hid (two_below' Hb7.out hb8)
  have HA8 := Lib.hid hr8
  obtain ⟨Lb, hLb⟩ : ∃ Lb, Lb = Po.landed (bks (k1 ++ k2)) := ⟨_, rfl⟩
  rw [← hLb] at HA8 Hseq Hr7 hc8 hm8 hr8 ⊢
  obtain ⟨nb, hnb⟩ : ∃ nb, nb = Lb.length := ⟨_, rfl⟩
  rw [← hnb] at hc8 hm8 ⊢
  have HNB := Lib.hid hnb
  have hab : na ≤ nb := by rw [hnb, HNA.out, Hr7.out, List.length_append]; omega
  have htk : Lb.take na = Po.landed (bks k1) := by rw [Hr7.out, HNA.out, List.take_left]
  have hra8 : LdR w8 w8.heap.size A8 (Po.landed (bks k1)) := by rw [← htk]; exact hr8.take na
  have HSa := Lib.hid (fun W (hW : Below w8.heap.size w8 W) => same13_any (Po.landed (bks k1)) landed_ok (by have := HM5.out; omega) A5 A8 c5 c8 W (((HA5.out.below HB8.out).mono HB8.out.size |>.below hW).mono hW.size) ((hra8.below hW).mono hW.size))
  rw [← HNA.out] at HSa
  have HB8w := Lib.hid (two_below' HB5.out HB8.out)
  have hsl := fun W => sliceHeadL A8 nb na c8 (by omega) W
  have Hsl := Lib.hid hsl
  have hca8 : ¬ ((nb : Int) < (na : Int)) := by omega
  have dab : decide ((nb : Int) < (na : Int)) = false := by simp; omega
  clear ho8 hb8 hr8 hra8 htk hLb hnb hsl
  go_wp2_with fail
  refine (AW.out _ HB8w.out).mono ?_
  rintro _ w9 ⟨rfl, hb9⟩
  have HB9 := Lib.hid hb9
  have hsl := Hsl.out w9
  clear hb9
  go_wp2_with fail
  clear hsl
  refine (HSa.out _ HB9.out).mono ?_
  rintro _ w10 ⟨rfl, hb10⟩
  have HB10 := Lib.hid (two_below' HB9.out hb10)
  clear hb10
  go_wp2_with fail
  clear dab hca8
  generalize w10 = wo at *
  go_loopw [7] (fun i wr => ∃ k : Nat, k ≤ nb ∧ i = .int .i64 k ∧ wr = wo) (fun i _ => nb - (intOf i).toNat)
  case atStart => exact ⟨0, Nat.zero_le _, rfl, rfl⟩
  case round =>
    obtain ⟨k, hk, rfl, hwr⟩ := hrel
    subst hwr
    by_cases hlt : k < nb
    · have hki : (k : Int) < (nb : Int) := by omega
      have hkl : k < Lb.length := by rw [← HNB.out]; exact hlt
      obtain ⟨g8, o8, hA8e, hg8, hat8⟩ := HA8.out (by intro e; rw [e] at hkl; simp at hkl)
      obtain ⟨A', c', hrg, _⟩ := hat8 k hkl
      have hsq := Hseq.out k hkl
      have hc1 : wr.cell? ⟨g8, o8 + k * 5 + 1, none⟩ = some (.int .i64 (k : Int)) := by
        have h1 := (range_below hrg HB10.out hg8) 1 (.int .i64 (k : Int)) (by rw [← hsq]; rfl)
        exact h1
      clear hat8 hrg hsq
      rw [hA8e]
      go_wp2_with fail
      exact ⟨⟨k + 1, hlt, by go_num, by trivial⟩, by simp [intOf]; omega⟩
    · have hki : (nb : Int) ≤ (k : Int) := by omega
      have hkn : ¬ (k : Int) < (nb : Int) := by omega
      clear Hsl Hseq
      have hownb : (wr.alloc (.cells #[] 62)).ownsRow wr.heap.size 62 35 (.slice (some ⟨wr.heap.size, 0, none⟩) 0 0) 0 [] := ⟨rfl, .inr ⟨wr.heap.size, 0, #[], rfl, Nat.le_refl _, heap_alloc_new _ _, Nat.le_refl _, Nat.zero_le _, rfl, rfl⟩⟩
      have hbba := (Below.refl wr.heap.size wr).alloc (Nat.le_refl _) (.cells #[] 62)
      have Hownb := Lib.hid hownb
      have Hbba := Lib.hid hbba
      have hzb : wr.heap.size ≤ (wr.alloc (.cells #[] 62)).heap.size := hbba.size
      have HBr := Lib.hid (two_below' HB8w.out HB10.out)
      clear hownb hbba
      go_wp2_with (first
      | (at_builtin
         refine wpList_append_blocks rfl (.tmp 59) (.tmp 60) rfl wr.heap.size (.slice (some ⟨wr.heap.size, 0, none⟩) 0 0) 0 [] rfl Hownb.out w.heap.size A1 c1 k1 n1 HL1.out rfl (H1.out.below (two_below' HBr.out Hbba.out)) HF1.out (by omega) hzb ?_
         intro v16 w16 ho16 hg16
         have Ho16 := Lib.hid ho16
         have Hb16 := Lib.hid (below_row Hbba.out hzb Hownb.out hg16)
         have hz16 : wr.heap.size ≤ w16.heap.size := Hb16.out.size
         clear ho16 hg16)
      | (at_builtin
         refine wpList_append_blocks rfl (.tmp 61) (.tmp 62) rfl wr.heap.size v16 (0 + n1) ([] ++ Bv.flat k1) rfl Ho16.out w.heap.size A1 c1 k1 n1 HL1.out rfl (H1.out.below (two_below' HBr.out Hb16.out)) HF1.out (by omega) hz16 ?_
         intro v17 w17 ho17 hg17
         have Ho17 := Lib.hid ho17
         have Hb17 := Lib.hid (below_row Hb16.out hz16 Ho16.out hg17)
         clear ho17 hg17))
      obtain ⟨A17, c17, rfl, hcap17, _⟩ := own_form13 Ho17.out
      have hlen17 : 0 + n1 + n1 = (k1 ++ k1).length := by rw [List.length_append]; have := HL1.out; omega
      have Hb17w := Lib.hid (two_below' HBr.out Hb17.out)
      have hB17 : BvsAt w17 w17.heap.size A17 (k1 ++ k1) := bvs_own (n := 0 + n1 + n1) (c := c17) (by rw [Bv.flat_append]; exact Ho17.out) (fun x hx => by
        rcases List.mem_append.1 hx with hx | hx
        · exact HF1.out x hx
        · exact HF1.out x hx) hlen17 rfl (fun x hx => by
        rcases List.mem_append.1 hx with hx | hx
        · have := items_of H1.out.1 x hx
          exact ⟨(this.1.below Hb17w.out).mono Hb17w.out.size, this.2⟩
        · have := items_of H1.out.1 x hx
          exact ⟨(this.1.below Hb17w.out).mono Hb17w.out.size, this.2⟩)
      have hFit : ∀ x ∈ k1 ++ k1, x.Fits := fun x hx => by
        rcases List.mem_append.1 hx with hx | hx
        · exact HF1.out x hx
        · exact HF1.out x hx
      have M17 := landed_any A17 c17 (bks (k1 ++ k1)) w17 (hB17.bks hFit) (by rw [bks_len, ← hlen17]; omega) (HT.out.below Hb17w.out HT.out.pos)
      rw [bks_len, ← hlen17] at M17
      have M17 := Lib.hid M17
      obtain ⟨r17, hr17⟩ := Po.landed_append (bks k1) (bks k1)
      rw [← bks_append] at hr17
      have Hr17 := Lib.hid hr17
      clear hB17 hFit hlen17 hr17 hcap17
      refine M17.out.mono ?_
      rintro _ w18 ⟨⟨v18, rfl, ho18⟩, hb18⟩
      obtain ⟨A18, c18, rfl, hc18, hm18, hr18⟩ := ho18.read
      have HB18 := Lib.hid (two_below' Hb17.out hb18)
      obtain ⟨Lc, hLc⟩ : ∃ Lc, Lc = Po.landed (bks (k1 ++ k1)) := ⟨_, rfl⟩
      rw [← hLc] at Hr17 hc18 hm18 hr18 ⊢
      obtain ⟨nc, hnc⟩ : ∃ nc, nc = Lc.length := ⟨_, rfl⟩
      rw [← hnc] at hc18 hm18 ⊢
      have hac : na ≤ nc := by rw [hnc, HNA.out, Hr17.out, List.length_append]; omega
      have htk : Lc.take na = Po.landed (bks k1) := by rw [Hr17.out, HNA.out, List.take_left]
      have hra18 : LdR w18 w18.heap.size A18 (Po.landed (bks k1)) := by rw [← htk]; exact hr18.take na
      have hA5c : LdR w18 w18.heap.size A5 (Po.landed (bks k1)) := by
        have q1 := (HA5.out.below HB8.out).mono HB8.out.size
        have q2 := (q1.below HB10.out).mono HB10.out.size
        exact (q2.below HB18.out).mono HB18.out.size
      have HSc := same13_any (Po.landed (bks k1)) landed_ok (by have := HM5.out; omega) A5 A18 c5 c18 w18 hA5c hra18
      rw [← HNA.out] at HSc
      have HSc := Lib.hid HSc
      have hsl := sliceHeadL A18 nc na c18 (by omega) w18
      have dac : decide ((na : Int) ≤ (nc : Int)) = true := by simp; omega
      have hcc : (na : Int) ≤ (nc : Int) := by omega
      have HB18w := Lib.hid (two_below' HBr.out HB18.out)
      clear ho18 hb18 hr18 hra18 hA5c htk hLc hnc Hr17
      go_wp2_with fail
      refine HSc.out.mono ?_
      rintro _ w19 ⟨rfl, hb19⟩
      have HB19 := Lib.hid (two_below' HB18w.out hb19)
      clear hb19
      go_wp2_with fail
      go_ret
      exact ⟨rfl, HB19.out⟩
set_option maxRecDepth 20000 in
set_option maxHeartbeats 6400000 in
theorem boxOrders_ft (A1 A2 : Option Addr) (c1 c2 : Nat) (l1 l2 : List Bv) (w : World) (h1 : BvIn w w.heap.size A1 c1 l1) (h2 : BvIn w w.heap.size A2 c2 l2) (f1 : ∀ x ∈ l1, x.Fits) (f2 : ∀ x ∈ l2, x.Fits)
    (hl1 : l1.length ≤ 9223372036854775807) (hl2 : l2.length ≤ 9223372036854775807) (hT : Tab w) (j1 : ¬ 15 < l1.length) (j2 : 15 < l2.length) :
    Calls Tryd.prog 7 #[.slice A1 l1.length c1, .slice A2 l2.length c2] w fun e w' => e = .returned (.bool true) ∧ Below w.heap.size w w' := by
  have AW := Lib.hid (fun W (hW : Below w.heap.size w W) => awake13_any W (hT.below hW hT.pos))
  have HT := Lib.hid hT
  obtain ⟨k1, hk1⟩ : ∃ k1, k1 = l1 := ⟨_, rfl⟩
  obtain ⟨n1, hn1⟩ : ∃ n1, n1 = l1.length := ⟨_, rfl⟩
  have hL1 : n1 = k1.length := by rw [hk1]; exact hn1
  have hI1 : BvIn w w.heap.size A1 c1 k1 := by rw [hk1]; exact h1
  have hF1 : ∀ x ∈ k1, x.Fits := fun x hx => f1 x (by rw [← hk1]; exact hx)
  have d1 : decide ((15 : Int) < (l1.length : Int)) = false := by simp; omega
  have hs1 : n1 ≤ 15 := by omega
  obtain ⟨k2, hk2⟩ : ∃ k2, k2 = l2.take 15 := ⟨_, rfl⟩
  have hL2 : 15 = k2.length := by rw [hk2, List.length_take]; omega
  have hI2 : BvIn w w.heap.size A2 c2 k2 := by rw [hk2]; exact h2.take f2 15
  have hF2 : ∀ x ∈ k2, x.Fits := fun x hx => f2 x (List.mem_of_mem_take (by rw [← hk2]; exact hx))
  have d2 : decide ((15 : Int) < (l2.length : Int)) = true := by simp; omega
  have hc2 : (15 : Int) ≤ (c2 : Int) := by have := h2.2.2; omega
  have hcn2 : 15 ≤ c2 := by omega
  have hcz2 : ¬ c2 = 0 := by omega
  have hA2 : ∃ g off, A2 = some ⟨g, off, none⟩ := by
    obtain ⟨b, off, e, _⟩ := h2.1 (by intro e; rw [e] at j2; simp at j2)
    exact ⟨b, off, e⟩
  obtain ⟨g2, o2, rfl⟩ := hA2
  have HL1 := Lib.hid hL1
  have HL2 := Lib.hid hL2
  have H1 := Lib.hid hI1
  have H2 := Lib.hid hI2
  have HF1 := Lib.hid hF1
  have HF2 := Lib.hid hF2
  have M1 := Lib.hid (fun W (hW : Below w.heap.size w W) => landed_any A1 c1 (bks k1) W (((BvsAt.bks hI1.1 hF1).below hW).mono hW.size) (by rw [bks_len]; omega) (hT.below hW hT.pos))
  rw [bks_len, ← hL1] at M1
  rw [← hn1] at d1 j1 ⊢
  generalize l2.length = m2 at *
  clear hI1 hI2 hF1 hF2 h1 h2 f1 f2 hT hL1 hL2 hk1 hk2 hn1
  go_enter Tryd.func7, Tryd.ntmps7
  go_wp2_with fail
  clear d1 d2
  refine (M1.out _ (Below.refl _ _)).mono ?_
  rintro _ w5 ⟨⟨v5, rfl, ho5⟩, hb5⟩
  obtain ⟨A5, c5, rfl, hc5, hm5, hr5⟩ := ho5.read
  have HB5 := Lib.hid hb5
  have HA5 := Lib.hid hr5
  have HM5 := Lib.hid hm5
  obtain ⟨na, hna⟩ : ∃ na, na = (Po.landed (bks k1)).length := ⟨_, rfl⟩
  rw [← hna] at hc5 hm5 ⊢
  have HNA := Lib.hid hna
  clear ho5 hb5 hr5 hc5 hna
  have hown0 : (w5.alloc (.cells #[] 62)).ownsRow w5.heap.size 62 35 (.slice (some ⟨w5.heap.size, 0, none⟩) 0 0) 0 [] := ⟨rfl, .inr ⟨w5.heap.size, 0, #[], rfl, Nat.le_refl _, heap_alloc_new _ _, Nat.le_refl _, Nat.zero_le _, rfl, rfl⟩⟩
  have hb5a := (Below.refl w5.heap.size w5).alloc (Nat.le_refl _) (.cells #[] 62)
  have Hown0 := Lib.hid hown0
  have Hb5a := Lib.hid hb5a
  have hz5 : w5.heap.size ≤ (w5.alloc (.cells #[] 62)).heap.size := hb5a.size
  clear hown0 hb5a
  go_wp2_with (first
  | (at_builtin
     refine wpList_append_blocks rfl (.tmp 21) (.tmp 22) rfl w5.heap.size (.slice (some ⟨w5.heap.size, 0, none⟩) 0 0) 0 [] rfl Hown0.out w.heap.size A1 c1 k1 n1 HL1.out rfl (H1.out.below (two_below' HB5.out Hb5a.out)) HF1.out (by omega) hz5 ?_
     intro v6 w6 ho6 hg6
     have Ho6 := Lib.hid ho6
     have Hb6 := Lib.hid (below_row Hb5a.out hz5 Hown0.out hg6)
     have hz6 : w5.heap.size ≤ w6.heap.size := Hb6.out.size
     clear ho6 hg6)
  | (at_builtin
     refine wpList_append_blocks rfl (.tmp 23) (.tmp 24) rfl w5.heap.size v6 (0 + n1) ([] ++ Bv.flat k1) rfl Ho6.out w.heap.size (some ⟨g2, o2, none⟩) c2 k2 15 HL2.out rfl (H2.out.below (two_below' HB5.out Hb6.out)) HF2.out (by omega) hz6 ?_
     intro v7 w7 ho7 hg7
     have Ho7 := Lib.hid ho7
     have Hb7 := Lib.hid (below_row Hb6.out hz6 Ho6.out hg7)
     clear ho7 hg7))
  obtain ⟨A7, c7, rfl, hcap7, _⟩ := own_form13 Ho7.out
  have hlen7 : 0 + n1 + 15 = (k1 ++ k2).length := by rw [List.length_append]; have := HL1.out; have := HL2.out; omega
  have Hb7w := Lib.hid (two_below' HB5.out Hb7.out)
  have hB7 : BvsAt w7 w7.heap.size A7 (k1 ++ k2) := bvs_own (n := 0 + n1 + 15) (c := c7) (by rw [Bv.flat_append]; exact Ho7.out) (fun x hx => by
    rcases List.mem_append.1 hx with hx | hx
    · exact HF1.out x hx
    · exact HF2.out x hx) hlen7 rfl (fun x hx => by
    rcases List.mem_append.1 hx with hx | hx
    · have := items_of H1.out.1 x hx
      exact ⟨(this.1.below Hb7w.out).mono Hb7w.out.size, this.2⟩
    · have := items_of H2.out.1 x hx
      exact ⟨(this.1.below Hb7w.out).mono Hb7w.out.size, this.2⟩)
  have hFit : ∀ x ∈ k1 ++ k2, x.Fits := fun x hx => by
    rcases List.mem_append.1 hx with hx | hx
    · exact HF1.out x hx
    · exact HF2.out x hx
  have M7 := landed_any A7 c7 (bks (k1 ++ k2)) w7 (hB7.bks hFit) (by rw [bks_len, ← hlen7]; omega) (HT.out.below Hb7w.out HT.out.pos)
  rw [bks_len, ← hlen7] at M7
  have M7 := Lib.hid M7
  obtain ⟨r7, hr7⟩ := Po.landed_append (bks k1) (bks k2)
  rw [← bks_append] at hr7
  have Hr7 := Lib.hid hr7
  have hseq := Po.landed_seq (bks (k1 ++ k2))
  have Hseq := Lib.hid hseq
  clear hB7 hFit hlen7 hr7 hseq hcap7
  refine M7.out.mono ?_
  rintro _ w8 ⟨⟨v8, rfl, ho8⟩, hb8⟩
  obtain ⟨A8, c8, rfl, hc8, hm8, hr8⟩ := ho8.read
  have HB8 := Lib.hid (two_below' Hb7.out hb8)
  have HA8 := Lib.hid hr8
  obtain ⟨Lb, hLb⟩ : ∃ Lb, Lb = Po.landed (bks (k1 ++ k2)) := ⟨_, rfl⟩
  rw [← hLb] at HA8 Hseq Hr7 hc8 hm8 hr8 ⊢
  obtain ⟨nb, hnb⟩ : ∃ nb, nb = Lb.length := ⟨_, rfl⟩
  rw [← hnb] at hc8 hm8 ⊢
  have HNB := Lib.hid hnb
  have hab : na ≤ nb := by rw [hnb, HNA.out, Hr7.out, List.length_append]; omega
  have htk : Lb.take na = Po.landed (bks k1) := by rw [Hr7.out, HNA.out, List.take_left]
  have hra8 : LdR w8 w8.heap.size A8 (Po.landed (bks k1)) := by rw [← htk]; exact hr8.take na
  have HSa := Lib.hid (fun W (hW : Below w8.heap.size w8 W) => same13_any (Po.landed (bks k1)) landed_ok (by have := HM5.out; omega) A5 A8 c5 c8 W (((HA5.out.below HB8.out).mono HB8.out.size |>.below hW).mono hW.size) ((hra8.below hW).mono hW.size))
  rw [← HNA.out] at HSa
  have HB8w := Lib.hid (two_below' HB5.out HB8.out)
  have hsl := fun W => sliceHeadL A8 nb na c8 (by omega) W
  have Hsl := Lib.hid hsl
  have hca8 : ¬ ((nb : Int) < (na : Int)) := by omega
  have dab : decide ((nb : Int) < (na : Int)) = false := by simp; omega
  clear ho8 hb8 hr8 hra8 htk hLb hnb hsl
  go_wp2_with fail
  refine (AW.out _ HB8w.out).mono ?_
  rintro _ w9 ⟨rfl, hb9⟩
  have HB9 := Lib.hid hb9
  have hsl := Hsl.out w9
  clear hb9
  go_wp2_with fail
  clear hsl
  refine (HSa.out _ HB9.out).mono ?_
  rintro _ w10 ⟨rfl, hb10⟩
  have HB10 := Lib.hid (two_below' HB9.out hb10)
  clear hb10
  go_wp2_with fail
  clear dab hca8
  generalize w10 = wo at *
  go_loopw [7] (fun i wr => ∃ k : Nat, k ≤ nb ∧ i = .int .i64 k ∧ wr = wo) (fun i _ => nb - (intOf i).toNat)
  case atStart => exact ⟨0, Nat.zero_le _, rfl, rfl⟩
  case round =>
    obtain ⟨k, hk, rfl, hwr⟩ := hrel
    subst hwr
    by_cases hlt : k < nb
    · have hki : (k : Int) < (nb : Int) := by omega
      have hkl : k < Lb.length := by rw [← HNB.out]; exact hlt
      obtain ⟨g8, o8, hA8e, hg8, hat8⟩ := HA8.out (by intro e; rw [e] at hkl; simp at hkl)
      obtain ⟨A', c', hrg, _⟩ := hat8 k hkl
      have hsq := Hseq.out k hkl
      have hc1 : wr.cell? ⟨g8, o8 + k * 5 + 1, none⟩ = some (.int .i64 (k : Int)) := by
        have h1 := (range_below hrg HB10.out hg8) 1 (.int .i64 (k : Int)) (by rw [← hsq]; rfl)
        exact h1
      clear hat8 hrg hsq
      rw [hA8e]
      go_wp2_with fail
      exact ⟨⟨k + 1, hlt, by go_num, by trivial⟩, by simp [intOf]; omega⟩
    · have hki : (nb : Int) ≤ (k : Int) := by omega
      have hkn : ¬ (k : Int) < (nb : Int) := by omega
      clear Hsl Hseq
      have hownb : (wr.alloc (.cells #[] 62)).ownsRow wr.heap.size 62 35 (.slice (some ⟨wr.heap.size, 0, none⟩) 0 0) 0 [] := ⟨rfl, .inr ⟨wr.heap.size, 0, #[], rfl, Nat.le_refl _, heap_alloc_new _ _, Nat.le_refl _, Nat.zero_le _, rfl, rfl⟩⟩
      have hbba := (Below.refl wr.heap.size wr).alloc (Nat.le_refl _) (.cells #[] 62)
      have Hownb := Lib.hid hownb
      have Hbba := Lib.hid hbba
      have hzb : wr.heap.size ≤ (wr.alloc (.cells #[] 62)).heap.size := hbba.size
      have HBr := Lib.hid (two_below' HB8w.out HB10.out)
      clear hownb hbba
      go_wp2_with (first
      | (at_builtin
         refine wpList_append_blocks rfl (.tmp 59) (.tmp 60) rfl wr.heap.size (.slice (some ⟨wr.heap.size, 0, none⟩) 0 0) 0 [] rfl Hownb.out w.heap.size A1 c1 k1 n1 HL1.out rfl (H1.out.below (two_below' HBr.out Hbba.out)) HF1.out (by omega) hzb ?_
         intro v16 w16 ho16 hg16
         have Ho16 := Lib.hid ho16
         have Hb16 := Lib.hid (below_row Hbba.out hzb Hownb.out hg16)
         have hz16 : wr.heap.size ≤ w16.heap.size := Hb16.out.size
         clear ho16 hg16)
      | (at_builtin
         refine wpList_append_blocks rfl (.tmp 61) (.tmp 62) rfl wr.heap.size v16 (0 + n1) ([] ++ Bv.flat k1) rfl Ho16.out w.heap.size A1 c1 k1 n1 HL1.out rfl (H1.out.below (two_below' HBr.out Hb16.out)) HF1.out (by omega) hz16 ?_
         intro v17 w17 ho17 hg17
         have Ho17 := Lib.hid ho17
         have Hb17 := Lib.hid (below_row Hb16.out hz16 Ho16.out hg17)
         clear ho17 hg17))
      obtain ⟨A17, c17, rfl, hcap17, _⟩ := own_form13 Ho17.out
      have hlen17 : 0 + n1 + n1 = (k1 ++ k1).length := by rw [List.length_append]; have := HL1.out; omega
      have Hb17w := Lib.hid (two_below' HBr.out Hb17.out)
      have hB17 : BvsAt w17 w17.heap.size A17 (k1 ++ k1) := bvs_own (n := 0 + n1 + n1) (c := c17) (by rw [Bv.flat_append]; exact Ho17.out) (fun x hx => by
        rcases List.mem_append.1 hx with hx | hx
        · exact HF1.out x hx
        · exact HF1.out x hx) hlen17 rfl (fun x hx => by
        rcases List.mem_append.1 hx with hx | hx
        · have := items_of H1.out.1 x hx
          exact ⟨(this.1.below Hb17w.out).mono Hb17w.out.size, this.2⟩
        · have := items_of H1.out.1 x hx
          exact ⟨(this.1.below Hb17w.out).mono Hb17w.out.size, this.2⟩)
      have hFit : ∀ x ∈ k1 ++ k1, x.Fits := fun x hx => by
        rcases List.mem_append.1 hx with hx | hx
        · exact HF1.out x hx
        · exact HF1.out x hx
      have M17 := landed_any A17 c17 (bks (k1 ++ k1)) w17 (hB17.bks hFit) (by rw [bks_len, ← hlen17]; omega) (HT.out.below Hb17w.out HT.out.pos)
      rw [bks_len, ← hlen17] at M17
      have M17 := Lib.hid M17
      obtain ⟨r17, hr17⟩ := Po.landed_append (bks k1) (bks k1)
      rw [← bks_append] at hr17
      have Hr17 := Lib.hid hr17
      clear hB17 hFit hlen17 hr17 hcap17
      refine M17.out.mono ?_
      rintro _ w18 ⟨⟨v18, rfl, ho18⟩, hb18⟩
      obtain ⟨A18, c18, rfl, hc18, hm18, hr18⟩ := ho18.read
      have HB18 := Lib.hid (two_below' Hb17.out hb18)
      obtain ⟨Lc, hLc⟩ : ∃ Lc, Lc = Po.landed (bks (k1 ++ k1)) := ⟨_, rfl⟩
      rw [← hLc] at Hr17 hc18 hm18 hr18 ⊢
      obtain ⟨nc, hnc⟩ : ∃ nc, nc = Lc.length := ⟨_, rfl⟩
      rw [← hnc] at hc18 hm18 ⊢
      have hac : na ≤ nc := by rw [hnc, HNA.out, Hr17.out, List.length_append]; omega
      have htk : Lc.take na = Po.landed (bks k1) := by rw [Hr17.out, HNA.out, List.take_left]
      have hra18 : LdR w18 w18.heap.size A18 (Po.landed (bks k1)) := by rw [← htk]; exact hr18.take na
      have hA5c : LdR w18 w18.heap.size A5 (Po.landed (bks k1)) := by
        have q1 := (HA5.out.below HB8.out).mono HB8.out.size
        have q2 := (q1.below HB10.out).mono HB10.out.size
        exact (q2.below HB18.out).mono HB18.out.size
      have HSc := same13_any (Po.landed (bks k1)) landed_ok (by have := HM5.out; omega) A5 A18 c5 c18 w18 hA5c hra18
      rw [← HNA.out] at HSc
      have HSc := Lib.hid HSc
      have hsl := sliceHeadL A18 nc na c18 (by omega) w18
      have dac : decide ((na : Int) ≤ (nc : Int)) = true := by simp; omega
      have hcc : (na : Int) ≤ (nc : Int) := by omega
      have HB18w := Lib.hid (two_below' HBr.out HB18.out)
      clear ho18 hb18 hr18 hra18 hA5c htk hLc hnc Hr17
      go_wp2_with fail
      refine HSc.out.mono ?_
      rintro _ w19 ⟨rfl, hb19⟩
      have HB19 := Lib.hid (two_below' HB18w.out hb19)
      clear hb19
      go_wp2_with fail
      go_ret
      exact ⟨rfl, HB19.out⟩
set_option maxRecDepth 20000 in
set_option maxHeartbeats 6400000 in
theorem boxOrders_tf (A1 A2 : Option Addr) (c1 c2 : Nat) (l1 l2 : List Bv) (w : World) (h1 : BvIn w w.heap.size A1 c1 l1) (h2 : BvIn w w.heap.size A2 c2 l2) (f1 : ∀ x ∈ l1, x.Fits) (f2 : ∀ x ∈ l2, x.Fits)
    (hl1 : l1.length ≤ 9223372036854775807) (hl2 : l2.length ≤ 9223372036854775807) (hT : Tab w) (j1 : 15 < l1.length) (j2 : ¬ 15 < l2.length) :
    Calls Tryd.prog 7 #[.slice A1 l1.length c1, .slice A2 l2.length c2] w fun e w' => e = .returned (.bool true) ∧ Below w.heap.size w w' := by
  have AW := Lib.hid (fun W (hW : Below w.heap.size w W) => awake13_any W (hT.below hW hT.pos))
  have HT := Lib.hid hT
  obtain ⟨k1, hk1⟩ : ∃ k1, k1 = l1.take 15 := ⟨_, rfl⟩
  have hL1 : 15 = k1.length := by rw [hk1, List.length_take]; omega
  have hI1 : BvIn w w.heap.size A1 c1 k1 := by rw [hk1]; exact h1.take f1 15
  have hF1 : ∀ x ∈ k1, x.Fits := fun x hx => f1 x (List.mem_of_mem_take (by rw [← hk1]; exact hx))
  have d1 : decide ((15 : Int) < (l1.length : Int)) = true := by simp; omega
  have hc1 : (15 : Int) ≤ (c1 : Int) := by have := h1.2.2; omega
  have hcn1 : 15 ≤ c1 := by omega
  have hcz1 : ¬ c1 = 0 := by omega
  have hA1 : ∃ g off, A1 = some ⟨g, off, none⟩ := by
    obtain ⟨b, off, e, _⟩ := h1.1 (by intro e; rw [e] at j1; simp at j1)
    exact ⟨b, off, e⟩
  obtain ⟨g1, o1, rfl⟩ := hA1
  obtain ⟨k2, hk2⟩ : ∃ k2, k2 = l2 := ⟨_, rfl⟩
  obtain ⟨n2, hn2⟩ : ∃ n2, n2 = l2.length := ⟨_, rfl⟩
  have hL2 : n2 = k2.length := by rw [hk2]; exact hn2
  have hI2 : BvIn w w.heap.size A2 c2 k2 := by rw [hk2]; exact h2
  have hF2 : ∀ x ∈ k2, x.Fits := fun x hx => f2 x (by rw [← hk2]; exact hx)
  have d2 : decide ((15 : Int) < (l2.length : Int)) = false := by simp; omega
  have hs2 : n2 ≤ 15 := by omega
  have HL1 := Lib.hid hL1
  have HL2 := Lib.hid hL2
  have H1 := Lib.hid hI1
  have H2 := Lib.hid hI2
  have HF1 := Lib.hid hF1
  have HF2 := Lib.hid hF2
  have M1 := Lib.hid (fun W (hW : Below w.heap.size w W) => landed_any (some ⟨g1, o1, none⟩) c1 (bks k1) W (((BvsAt.bks hI1.1 hF1).below hW).mono hW.size) (by rw [bks_len]; omega) (hT.below hW hT.pos))
  rw [bks_len, ← hL1] at M1
  generalize l1.length = m1 at *
  rw [← hn2] at d2 j2 ⊢
  clear hI1 hI2 hF1 hF2 h1 h2 f1 f2 hT hL1 hL2 hk1 hk2 hn2
  go_enter Tryd.func7, Tryd.ntmps7
  go_wp2_with fail
  clear d1 d2
  refine (M1.out _ (Below.refl _ _)).mono ?_
  rintro _ w5 ⟨⟨v5, rfl, ho5⟩, hb5⟩
  obtain ⟨A5, c5, rfl, hc5, hm5, hr5⟩ := ho5.read
  have HB5 := Lib.hid hb5
  have HA5 := Lib.hid hr5
  have HM5 := Lib.hid hm5
  obtain ⟨na, hna⟩ : ∃ na, na = (Po.landed (bks k1)).length := ⟨_, rfl⟩
  rw [← hna] at hc5 hm5 ⊢
  have HNA := Lib.hid hna
  clear ho5 hb5 hr5 hc5 hna
  have hown0 : (w5.alloc (.cells #[] 62)).ownsRow w5.heap.size 62 35 (.slice (some ⟨w5.heap.size, 0, none⟩) 0 0) 0 [] := ⟨rfl, .inr ⟨w5.heap.size, 0, #[], rfl, Nat.le_refl _, heap_alloc_new _ _, Nat.le_refl _, Nat.zero_le _, rfl, rfl⟩⟩
  have hb5a := (Below.refl w5.heap.size w5).alloc (Nat.le_refl _) (.cells #[] 62)
  have Hown0 := Lib.hid hown0
  have Hb5a := Lib.hid hb5a
  have hz5 : w5.heap.size ≤ (w5.alloc (.cells #[] 62)).heap.size := hb5a.size
  clear hown0 hb5a
  go_wp2_with (first
  | (at_builtin
     refine wpList_append_blocks rfl (.tmp 21) (.tmp 22) rfl w5.heap.size (.slice (some ⟨w5.heap.size, 0, none⟩) 0 0) 0 [] rfl Hown0.out w.heap.size (some ⟨g1, o1, none⟩) c1 k1 15 HL1.out rfl (H1.out.below (two_below' HB5.out Hb5a.out)) HF1.out (by omega) hz5 ?_
     intro v6 w6 ho6 hg6
     have Ho6 := Lib.hid ho6
     have Hb6 := Lib.hid (below_row Hb5a.out hz5 Hown0.out hg6)
     have hz6 : w5.heap.size ≤ w6.heap.size := Hb6.out.size
     clear ho6 hg6)
  | (at_builtin
     refine wpList_append_blocks rfl (.tmp 23) (.tmp 24) rfl w5.heap.size v6 (0 + 15) ([] ++ Bv.flat k1) rfl Ho6.out w.heap.size A2 c2 k2 n2 HL2.out rfl (H2.out.below (two_below' HB5.out Hb6.out)) HF2.out (by omega) hz6 ?_
     intro v7 w7 ho7 hg7
     have Ho7 := Lib.hid ho7
     have Hb7 := Lib.hid (below_row Hb6.out hz6 Ho6.out hg7)
     clear ho7 hg7))
  obtain ⟨A7, c7, rfl, hcap7, _⟩ := own_form13 Ho7.out
  have hlen7 : 0 + 15 + n2 = (k1 ++ k2).length := by rw [List.length_append]; have := HL1.out; have := HL2.out; omega
  have Hb7w := Lib.hid (two_below' HB5.out Hb7.out)
  have hB7 : BvsAt w7 w7.heap.size A7 (k1 ++ k2) := bvs_own (n := 0 + 15 + n2) (c := c7) (by rw [Bv.flat_append]; exact Ho7.out) (fun x hx => by
    rcases List.mem_append.1 hx with hx | hx
    · exact HF1.out x hx
    · exact HF2.out x hx) hlen7 rfl (fun x hx => by
    rcases List.mem_append.1 hx with hx | hx
    · have := items_of H1.out.1 x hx
      exact ⟨(this.1.below Hb7w.out).mono Hb7w.out.size, this.2⟩
    · have := items_of H2.out.1 x hx
      exact ⟨(this.1.below Hb7w.out).mono Hb7w.out.size, this.2⟩)
  have hFit : ∀ x ∈ k1 ++ k2, x.Fits := fun x hx => by
    rcases List.mem_append.1 hx with hx | hx
    · exact HF1.out x hx
    · exact HF2.out x hx
  have M7 := landed_any A7 c7 (bks (k1 ++ k2)) w7 (hB7.bks hFit) (by rw [bks_len, ← hlen7]; omega) (HT.out.below Hb7w.out HT.out.pos)
  rw [bks_len, ← hlen7] at M7
  have M7 := Lib.hid M7
  obtain ⟨r7, hr7⟩ := Po.landed_append (bks k1) (bks k2)
  rw [← bks_append] at hr7
  have Hr7 := Lib.hid hr7
  have hseq := Po.landed_seq (bks (k1 ++ k2))
  have Hseq := Lib.hid hseq
  clear hB7 hFit hlen7 hr7 hseq hcap7
  refine M7.out.mono ?_
  rintro _ w8 ⟨⟨v8, rfl, ho8⟩, hb8⟩
  obtain ⟨A8, c8, rfl, hc8, hm8, hr8⟩ := ho8.read
  have HB8 := Lib.hid (two_below' Hb7.out hb8)
  have HA8 := Lib.hid hr8
  obtain ⟨Lb, hLb⟩ : ∃ Lb, Lb = Po.landed (bks (k1 ++ k2)) := ⟨_, rfl⟩
  rw [← hLb] at HA8 Hseq Hr7 hc8 hm8 hr8 ⊢
  obtain ⟨nb, hnb⟩ : ∃ nb, nb = Lb.length := ⟨_, rfl⟩
  rw [← hnb] at hc8 hm8 ⊢
  have HNB := Lib.hid hnb
  have hab : na ≤ nb := by rw [hnb, HNA.out, Hr7.out, List.length_append]; omega
  have htk : Lb.take na = Po.landed (bks k1) := by rw [Hr7.out, HNA.out, List.take_left]
  have hra8 : LdR w8 w8.heap.size A8 (Po.landed (bks k1)) := by rw [← htk]; exact hr8.take na
  have HSa := Lib.hid (fun W (hW : Below w8.heap.size w8 W) => same13_any (Po.landed (bks k1)) landed_ok (by have := HM5.out; omega) A5 A8 c5 c8 W (((HA5.out.below HB8.out).mono HB8.out.size |>.below hW).mono hW.size) ((hra8.below hW).mono hW.size))
  rw [← HNA.out] at HSa
  have HB8w := Lib.hid (two_below' HB5.out HB8.out)
  have hsl := fun W => sliceHeadL A8 nb na c8 (by omega) W
  have Hsl := Lib.hid hsl
  have hca8 : ¬ ((nb : Int) < (na : Int)) := by omega
  have dab : decide ((nb : Int) < (na : Int)) = false := by simp; omega
  clear ho8 hb8 hr8 hra8 htk hLb hnb hsl
  go_wp2_with fail
  refine (AW.out _ HB8w.out).mono ?_
  rintro _ w9 ⟨rfl, hb9⟩
  have HB9 := Lib.hid hb9
  have hsl := Hsl.out w9
  clear hb9
  go_wp2_with fail
  clear hsl
  refine (HSa.out _ HB9.out).mono ?_
  rintro _ w10 ⟨rfl, hb10⟩
  have HB10 := Lib.hid (two_below' HB9.out hb10)
  clear hb10
  go_wp2_with fail
  clear dab hca8
  generalize w10 = wo at *
  go_loopw [7] (fun i wr => ∃ k : Nat, k ≤ nb ∧ i = .int .i64 k ∧ wr = wo) (fun i _ => nb - (intOf i).toNat)
  case atStart => exact ⟨0, Nat.zero_le _, rfl, rfl⟩
  case round =>
    obtain ⟨k, hk, rfl, hwr⟩ := hrel
    subst hwr
    by_cases hlt : k < nb
    · have hki : (k : Int) < (nb : Int) := by omega
      have hkl : k < Lb.length := by rw [← HNB.out]; exact hlt
      obtain ⟨g8, o8, hA8e, hg8, hat8⟩ := HA8.out (by intro e; rw [e] at hkl; simp at hkl)
      obtain ⟨A', c', hrg, _⟩ := hat8 k hkl
      have hsq := Hseq.out k hkl
      have hc1 : wr.cell? ⟨g8, o8 + k * 5 + 1, none⟩ = some (.int .i64 (k : Int)) := by
        have h1 := (range_below hrg HB10.out hg8) 1 (.int .i64 (k : Int)) (by rw [← hsq]; rfl)
        exact h1
      clear hat8 hrg hsq
      rw [hA8e]
      go_wp2_with fail
      exact ⟨⟨k + 1, hlt, by go_num, by trivial⟩, by simp [intOf]; omega⟩
    · have hki : (nb : Int) ≤ (k : Int) := by omega
      have hkn : ¬ (k : Int) < (nb : Int) := by omega
      clear Hsl Hseq
      have hownb : (wr.alloc (.cells #[] 62)).ownsRow wr.heap.size 62 35 (.slice (some ⟨wr.heap.size, 0, none⟩) 0 0) 0 [] := ⟨rfl, .inr ⟨wr.heap.size, 0, #[], rfl, Nat.le_refl _, heap_alloc_new _ _, Nat.le_refl _, Nat.zero_le _, rfl, rfl⟩⟩
      have hbba := (Below.refl wr.heap.size wr).alloc (Nat.le_refl _) (.cells #[] 62)
      have Hownb := Lib.hid hownb
      have Hbba := Lib.hid hbba
      have hzb : wr.heap.size ≤ (wr.alloc (.cells #[] 62)).heap.size := hbba.size
      have HBr := Lib.hid (two_below' HB8w.out HB10.out)
      clear hownb hbba
      go_wp2_with (first
      | (at_builtin
         refine wpList_append_blocks rfl (.tmp 59) (.tmp 60) rfl wr.heap.size (.slice (some ⟨wr.heap.size, 0, none⟩) 0 0) 0 [] rfl Hownb.out w.heap.size (some ⟨g1, o1, none⟩) c1 k1 15 HL1.out rfl (H1.out.below (two_below' HBr.out Hbba.out)) HF1.out (by omega) hzb ?_
         intro v16 w16 ho16 hg16
         have Ho16 := Lib.hid ho16
         have Hb16 := Lib.hid (below_row Hbba.out hzb Hownb.out hg16)
         have hz16 : wr.heap.size ≤ w16.heap.size := Hb16.out.size
         clear ho16 hg16)
      | (at_builtin
         refine wpList_append_blocks rfl (.tmp 61) (.tmp 62) rfl wr.heap.size v16 (0 + 15) ([] ++ Bv.flat k1) rfl Ho16.out w.heap.size (some ⟨g1, o1, none⟩) c1 k1 15 HL1.out rfl (H1.out.below (two_below' HBr.out Hb16.out)) HF1.out (by omega) hz16 ?_
         intro v17 w17 ho17 hg17
         have Ho17 := Lib.hid ho17
         have Hb17 := Lib.hid (below_row Hb16.out hz16 Ho16.out hg17)
         clear ho17 hg17))
      obtain ⟨A17, c17, rfl, hcap17, _⟩ := own_form13 Ho17.out
      have hlen17 : 0 + 15 + 15 = (k1 ++ k1).length := by rw [List.length_append]; have := HL1.out; omega
      have Hb17w := Lib.hid (two_below' HBr.out Hb17.out)
      have hB17 : BvsAt w17 w17.heap.size A17 (k1 ++ k1) := bvs_own (n := 0 + 15 + 15) (c := c17) (by rw [Bv.flat_append]; exact Ho17.out) (fun x hx => by
        rcases List.mem_append.1 hx with hx | hx
        · exact HF1.out x hx
        · exact HF1.out x hx) hlen17 rfl (fun x hx => by
        rcases List.mem_append.1 hx with hx | hx
        · have := items_of H1.out.1 x hx
          exact ⟨(this.1.below Hb17w.out).mono Hb17w.out.size, this.2⟩
        · have := items_of H1.out.1 x hx
          exact ⟨(this.1.below Hb17w.out).mono Hb17w.out.size, this.2⟩)
      have hFit : ∀ x ∈ k1 ++ k1, x.Fits := fun x hx => by
        rcases List.mem_append.1 hx with hx | hx
        · exact HF1.out x hx
        · exact HF1.out x hx
      have M17 := landed_any A17 c17 (bks (k1 ++ k1)) w17 (hB17.bks hFit) (by rw [bks_len, ← hlen17]; omega) (HT.out.below Hb17w.out HT.out.pos)
      rw [bks_len, ← hlen17] at M17
      have M17 := Lib.hid M17
      obtain ⟨r17, hr17⟩ := Po.landed_append (bks k1) (bks k1)
      rw [← bks_append] at hr17
      have Hr17 := Lib.hid hr17
      clear hB17 hFit hlen17 hr17 hcap17
      refine M17.out.mono ?_
      rintro _ w18 ⟨⟨v18, rfl, ho18⟩, hb18⟩
      obtain ⟨A18, c18, rfl, hc18, hm18, hr18⟩ := ho18.read
      have HB18 := Lib.hid (two_below' Hb17.out hb18)
      obtain ⟨Lc, hLc⟩ : ∃ Lc, Lc = Po.landed (bks (k1 ++ k1)) := ⟨_, rfl⟩
      rw [← hLc] at Hr17 hc18 hm18 hr18 ⊢
      obtain ⟨nc, hnc⟩ : ∃ nc, nc = Lc.length := ⟨_, rfl⟩
      rw [← hnc] at hc18 hm18 ⊢
      have hac : na ≤ nc := by rw [hnc, HNA.out, Hr17.out, List.length_append]; omega
      have htk : Lc.take na = Po.landed (bks k1) := by rw [Hr17.out, HNA.out, List.take_left]
      have hra18 : LdR w18 w18.heap.size A18 (Po.landed (bks k1)) := by rw [← htk]; exact hr18.take na
      have hA5c : LdR w18 w18.heap.size A5 (Po.landed (bks k1)) := by
        have q1 := (HA5.out.below HB8.out).mono HB8.out.size
        have q2 := (q1.below HB10.out).mono HB10.out.size
        exact (q2.below HB18.out).mono HB18.out.size
      have HSc := same13_any (Po.landed (bks k1)) landed_ok (by have := HM5.out; omega) A5 A18 c5 c18 w18 hA5c hra18
      rw [← HNA.out] at HSc
      have HSc := Lib.hid HSc
      have hsl := sliceHeadL A18 nc na c18 (by omega) w18
      have dac : decide ((na : Int) ≤ (nc : Int)) = true := by simp; omega
      have hcc : (na : Int) ≤ (nc : Int) := by omega
      have HB18w := Lib.hid (two_below' HBr.out HB18.out)
      clear ho18 hb18 hr18 hra18 hA5c htk hLc hnc Hr17
      go_wp2_with fail
      refine HSc.out.mono ?_
      rintro _ w19 ⟨rfl, hb19⟩
      have HB19 := Lib.hid (two_below' HB18w.out hb19)
      clear hb19
      go_wp2_with fail
      go_ret
      exact ⟨rfl, HB19.out⟩
set_option maxRecDepth 20000 in
set_option maxHeartbeats 6400000 in
theorem boxOrders_tt (A1 A2 : Option Addr) (c1 c2 : Nat) (l1 l2 : List Bv) (w : World) (h1 : BvIn w w.heap.size A1 c1 l1) (h2 : BvIn w w.heap.size A2 c2 l2) (f1 : ∀ x ∈ l1, x.Fits) (f2 : ∀ x ∈ l2, x.Fits)
    (hl1 : l1.length ≤ 9223372036854775807) (hl2 : l2.length ≤ 9223372036854775807) (hT : Tab w) (j1 : 15 < l1.length) (j2 : 15 < l2.length) :
    Calls Tryd.prog 7 #[.slice A1 l1.length c1, .slice A2 l2.length c2] w fun e w' => e = .returned (.bool true) ∧ Below w.heap.size w w' := by
  have AW := Lib.hid (fun W (hW : Below w.heap.size w W) => awake13_any W (hT.below hW hT.pos))
  have HT := Lib.hid hT
  obtain ⟨k1, hk1⟩ : ∃ k1, k1 = l1.take 15 := ⟨_, rfl⟩
  have hL1 : 15 = k1.length := by rw [hk1, List.length_take]; omega
  have hI1 : BvIn w w.heap.size A1 c1 k1 := by rw [hk1]; exact h1.take f1 15
  have hF1 : ∀ x ∈ k1, x.Fits := fun x hx => f1 x (List.mem_of_mem_take (by rw [← hk1]; exact hx))
  have d1 : decide ((15 : Int) < (l1.length : Int)) = true := by simp; omega
  have hc1 : (15 : Int) ≤ (c1 : Int) := by have := h1.2.2; omega
  have hcn1 : 15 ≤ c1 := by omega
  have hcz1 : ¬ c1 = 0 := by omega
  have hA1 : ∃ g off, A1 = some ⟨g, off, none⟩ := by
    obtain ⟨b, off, e, _⟩ := h1.1 (by intro e; rw [e] at j1; simp at j1)
    exact ⟨b, off, e⟩
  obtain ⟨g1, o1, rfl⟩ := hA1
  obtain ⟨k2, hk2⟩ : ∃ k2, k2 = l2.take 15 := ⟨_, rfl⟩
  have hL2 : 15 = k2.length := by rw [hk2, List.length_take]; omega
  have hI2 : BvIn w w.heap.size A2 c2 k2 := by rw [hk2]; exact h2.take f2 15
  have hF2 : ∀ x ∈ k2, x.Fits := fun x hx => f2 x (List.mem_of_mem_take (by rw [← hk2]; exact hx))
  have d2 : decide ((15 : Int) < (l2.length : Int)) = true := by simp; omega
  have hc2 : (15 : Int) ≤ (c2 : Int) := by have := h2.2.2; omega
  have hcn2 : 15 ≤ c2 := by omega
  have hcz2 : ¬ c2 = 0 := by omega
  have hA2 : ∃ g off, A2 = some ⟨g, off, none⟩ := by
    obtain ⟨b, off, e, _⟩ := h2.1 (by intro e; rw [e] at j2; simp at j2)
    exact ⟨b, off, e⟩
  obtain ⟨g2, o2, rfl⟩ := hA2
  have HL1 := Lib.hid hL1
  have HL2 := Lib.hid hL2
  have H1 := Lib.hid hI1
  have H2 := Lib.hid hI2
  have HF1 := Lib.hid hF1
  have HF2 := Lib.hid hF2
  have M1 := Lib.hid (fun W (hW : Below w.heap.size w W) => landed_any (some ⟨g1, o1, none⟩) c1 (bks k1) W (((BvsAt.bks hI1.1 hF1).below hW).mono hW.size) (by rw [bks_len]; omega) (hT.below hW hT.pos))
  rw [bks_len, ← hL1] at M1
  generalize l1.length = m1 at *
  generalize l2.length = m2 at *
  clear hI1 hI2 hF1 hF2 h1 h2 f1 f2 hT hL1 hL2 hk1 hk2
  go_enter Tryd.func7, Tryd.ntmps7
  go_wp2_with fail
  clear d1 d2
  refine (M1.out _ (Below.refl _ _)).mono ?_
  rintro _ w5 ⟨⟨v5, rfl, ho5⟩, hb5⟩
  obtain ⟨A5, c5, rfl, hc5, hm5, hr5⟩ := ho5.read
  have HB5 := Lib.hid hb5
  have HA5 := Lib.hid hr5
  have HM5 := Lib.hid hm5
  obtain ⟨na, hna⟩ : ∃ na, na = (Po.landed (bks k1)).length := ⟨_, rfl⟩
  rw [← hna] at hc5 hm5 ⊢
  have HNA := Lib.hid hna
  clear ho5 hb5 hr5 hc5 hna
  have hown0 : (w5.alloc (.cells #[] 62)).ownsRow w5.heap.size 62 35 (.slice (some ⟨w5.heap.size, 0, none⟩) 0 0) 0 [] := ⟨rfl, .inr ⟨w5.heap.size, 0, #[], rfl, Nat.le_refl _, heap_alloc_new _ _, Nat.le_refl _, Nat.zero_le _, rfl, rfl⟩⟩
  have hb5a := (Below.refl w5.heap.size w5).alloc (Nat.le_refl _) (.cells #[] 62)
  have Hown0 := Lib.hid hown0
  have Hb5a := Lib.hid hb5a
  have hz5 : w5.heap.size ≤ (w5.alloc (.cells #[] 62)).heap.size := hb5a.size
  clear hown0 hb5a
  go_wp2_with (first
  | (at_builtin
     refine wpList_append_blocks rfl (.tmp 21) (.tmp 22) rfl w5.heap.size (.slice (some ⟨w5.heap.size, 0, none⟩) 0 0) 0 [] rfl Hown0.out w.heap.size (some ⟨g1, o1, none⟩) c1 k1 15 HL1.out rfl (H1.out.below (two_below' HB5.out Hb5a.out)) HF1.out (by omega) hz5 ?_
     intro v6 w6 ho6 hg6
     have Ho6 := Lib.hid ho6
     have Hb6 := Lib.hid (below_row Hb5a.out hz5 Hown0.out hg6)
     have hz6 : w5.heap.size ≤ w6.heap.size := Hb6.out.size
     clear ho6 hg6)
  | (at_builtin
     refine wpList_append_blocks rfl (.tmp 23) (.tmp 24) rfl w5.heap.size v6 (0 + 15) ([] ++ Bv.flat k1) rfl Ho6.out w.heap.size (some ⟨g2, o2, none⟩) c2 k2 15 HL2.out rfl (H2.out.below (two_below' HB5.out Hb6.out)) HF2.out (by omega) hz6 ?_
     intro v7 w7 ho7 hg7
     have Ho7 := Lib.hid ho7
     have Hb7 := Lib.hid (below_row Hb6.out hz6 Ho6.out hg7)
     clear ho7 hg7))
  obtain ⟨A7, c7, rfl, hcap7, _⟩ := own_form13 Ho7.out
  have hlen7 : 0 + 15 + 15 = (k1 ++ k2).length := by rw [List.length_append]; have := HL1.out; have := HL2.out; omega
  have Hb7w := Lib.hid (two_below' HB5.out Hb7.out)
  have hB7 : BvsAt w7 w7.heap.size A7 (k1 ++ k2) := bvs_own (n := 0 + 15 + 15) (c := c7) (by rw [Bv.flat_append]; exact Ho7.out) (fun x hx => by
    rcases List.mem_append.1 hx with hx | hx
    · exact HF1.out x hx
    · exact HF2.out x hx) hlen7 rfl (fun x hx => by
    rcases List.mem_append.1 hx with hx | hx
    · have := items_of H1.out.1 x hx
      exact ⟨(this.1.below Hb7w.out).mono Hb7w.out.size, this.2⟩
    · have := items_of H2.out.1 x hx
      exact ⟨(this.1.below Hb7w.out).mono Hb7w.out.size, this.2⟩)
  have hFit : ∀ x ∈ k1 ++ k2, x.Fits := fun x hx => by
    rcases List.mem_append.1 hx with hx | hx
    · exact HF1.out x hx
    · exact HF2.out x hx
  have M7 := landed_any A7 c7 (bks (k1 ++ k2)) w7 (hB7.bks hFit) (by rw [bks_len, ← hlen7]; omega) (HT.out.below Hb7w.out HT.out.pos)
  rw [bks_len, ← hlen7] at M7
  have M7 := Lib.hid M7
  obtain ⟨r7, hr7⟩ := Po.landed_append (bks k1) (bks k2)
  rw [← bks_append] at hr7
  have Hr7 := Lib.hid hr7
  have hseq := Po.landed_seq (bks (k1 ++ k2))
  have Hseq := Lib.hid hseq
  clear hB7 hFit hlen7 hr7 hseq hcap7
  refine M7.out.mono ?_
  rintro _ w8 ⟨⟨v8, rfl, ho8⟩, hb8⟩
  obtain ⟨A8, c8, rfl, hc8, hm8, hr8⟩ := ho8.read
  have HB8 := Lib.hid (two_below' Hb7.out hb8)
  have HA8 := Lib.hid hr8
  obtain ⟨Lb, hLb⟩ : ∃ Lb, Lb = Po.landed (bks (k1 ++ k2)) := ⟨_, rfl⟩
  rw [← hLb] at HA8 Hseq Hr7 hc8 hm8 hr8 ⊢
  obtain ⟨nb, hnb⟩ : ∃ nb, nb = Lb.length := ⟨_, rfl⟩
  rw [← hnb] at hc8 hm8 ⊢
  have HNB := Lib.hid hnb
  have hab : na ≤ nb := by rw [hnb, HNA.out, Hr7.out, List.length_append]; omega
  have htk : Lb.take na = Po.landed (bks k1) := by rw [Hr7.out, HNA.out, List.take_left]
  have hra8 : LdR w8 w8.heap.size A8 (Po.landed (bks k1)) := by rw [← htk]; exact hr8.take na
  have HSa := Lib.hid (fun W (hW : Below w8.heap.size w8 W) => same13_any (Po.landed (bks k1)) landed_ok (by have := HM5.out; omega) A5 A8 c5 c8 W (((HA5.out.below HB8.out).mono HB8.out.size |>.below hW).mono hW.size) ((hra8.below hW).mono hW.size))
  rw [← HNA.out] at HSa
  have HB8w := Lib.hid (two_below' HB5.out HB8.out)
  have hsl := fun W => sliceHeadL A8 nb na c8 (by omega) W
  have Hsl := Lib.hid hsl
  have hca8 : ¬ ((nb : Int) < (na : Int)) := by omega
  have dab : decide ((nb : Int) < (na : Int)) = false := by simp; omega
  clear ho8 hb8 hr8 hra8 htk hLb hnb hsl
  go_wp2_with fail
  refine (AW.out _ HB8w.out).mono ?_
  rintro _ w9 ⟨rfl, hb9⟩
  have HB9 := Lib.hid hb9
  have hsl := Hsl.out w9
  clear hb9
  go_wp2_with fail
  clear hsl
  refine (HSa.out _ HB9.out).mono ?_
  rintro _ w10 ⟨rfl, hb10⟩
  have HB10 := Lib.hid (two_below' HB9.out hb10)
  clear hb10
  go_wp2_with fail
  clear dab hca8
  generalize w10 = wo at *
  go_loopw [7] (fun i wr => ∃ k : Nat, k ≤ nb ∧ i = .int .i64 k ∧ wr = wo) (fun i _ => nb - (intOf i).toNat)
  case atStart => exact ⟨0, Nat.zero_le _, rfl, rfl⟩
  case round =>
    obtain ⟨k, hk, rfl, hwr⟩ := hrel
    subst hwr
    by_cases hlt : k < nb
    · have hki : (k : Int) < (nb : Int) := by omega
      have hkl : k < Lb.length := by rw [← HNB.out]; exact hlt
      obtain ⟨g8, o8, hA8e, hg8, hat8⟩ := HA8.out (by intro e; rw [e] at hkl; simp at hkl)
      obtain ⟨A', c', hrg, _⟩ := hat8 k hkl
      have hsq := Hseq.out k hkl
      have hc1 : wr.cell? ⟨g8, o8 + k * 5 + 1, none⟩ = some (.int .i64 (k : Int)) := by
        have h1 := (range_below hrg HB10.out hg8) 1 (.int .i64 (k : Int)) (by rw [← hsq]; rfl)
        exact h1
      clear hat8 hrg hsq
      rw [hA8e]
      go_wp2_with fail
      exact ⟨⟨k + 1, hlt, by go_num, by trivial⟩, by simp [intOf]; omega⟩
    · have hki : (nb : Int) ≤ (k : Int) := by omega
      have hkn : ¬ (k : Int) < (nb : Int) := by omega
      clear Hsl Hseq
      have hownb : (wr.alloc (.cells #[] 62)).ownsRow wr.heap.size 62 35 (.slice (some ⟨wr.heap.size, 0, none⟩) 0 0) 0 [] := ⟨rfl, .inr ⟨wr.heap.size, 0, #[], rfl, Nat.le_refl _, heap_alloc_new _ _, Nat.le_refl _, Nat.zero_le _, rfl, rfl⟩⟩
      have hbba := (Below.refl wr.heap.size wr).alloc (Nat.le_refl _) (.cells #[] 62)
      have Hownb := Lib.hid hownb
      have Hbba := Lib.hid hbba
      have hzb : wr.heap.size ≤ (wr.alloc (.cells #[] 62)).heap.size := hbba.size
      have HBr := Lib.hid (two_below' HB8w.out HB10.out)
      clear hownb hbba
      go_wp2_with (first
      | (at_builtin
         refine wpList_append_blocks rfl (.tmp 59) (.tmp 60) rfl wr.heap.size (.slice (some ⟨wr.heap.size, 0, none⟩) 0 0) 0 [] rfl Hownb.out w.heap.size (some ⟨g1, o1, none⟩) c1 k1 15 HL1.out rfl (H1.out.below (two_below' HBr.out Hbba.out)) HF1.out (by omega) hzb ?_
         intro v16 w16 ho16 hg16
         have Ho16 := Lib.hid ho16
         have Hb16 := Lib.hid (below_row Hbba.out hzb Hownb.out hg16)
         have hz16 : wr.heap.size ≤ w16.heap.size := Hb16.out.size
         clear ho16 hg16)
      | (at_builtin
         refine wpList_append_blocks rfl (.tmp 61) (.tmp 62) rfl wr.heap.size v16 (0 + 15) ([] ++ Bv.flat k1) rfl Ho16.out w.heap.size (some ⟨g1, o1, none⟩) c1 k1 15 HL1.out rfl (H1.out.below (two_below' HBr.out Hb16.out)) HF1.out (by omega) hz16 ?_
         intro v17 w17 ho17 hg17
         have Ho17 := Lib.hid ho17
         have Hb17 := Lib.hid (below_row Hb16.out hz16 Ho16.out hg17)
         clear ho17 hg17))
      obtain ⟨A17, c17, rfl, hcap17, _⟩ := own_form13 Ho17.out
      have hlen17 : 0 + 15 + 15 = (k1 ++ k1).length := by rw [List.length_append]; have := HL1.out; omega
      have Hb17w := Lib.hid (two_below' HBr.out Hb17.out)
      have hB17 : BvsAt w17 w17.heap.size A17 (k1 ++ k1) := bvs_own (n := 0 + 15 + 15) (c := c17) (by rw [Bv.flat_append]; exact Ho17.out) (fun x hx => by
        rcases List.mem_append.1 hx with hx | hx
        · exact HF1.out x hx
        · exact HF1.out x hx) hlen17 rfl (fun x hx => by
        rcases List.mem_append.1 hx with hx | hx
        · have := items_of H1.out.1 x hx
          exact ⟨(this.1.below Hb17w.out).mono Hb17w.out.size, this.2⟩
        · have := items_of H1.out.1 x hx
          exact ⟨(this.1.below Hb17w.out).mono Hb17w.out.size, this.2⟩)
      have hFit : ∀ x ∈ k1 ++ k1, x.Fits := fun x hx => by
        rcases List.mem_append.1 hx with hx | hx
        · exact HF1.out x hx
        · exact HF1.out x hx
      have M17 := landed_any A17 c17 (bks (k1 ++ k1)) w17 (hB17.bks hFit) (by rw [bks_len, ← hlen17]; omega) (HT.out.below Hb17w.out HT.out.pos)
      rw [bks_len, ← hlen17] at M17
      have M17 := Lib.hid M17
      obtain ⟨r17, hr17⟩ := Po.landed_append (bks k1) (bks k1)
      rw [← bks_append] at hr17
      have Hr17 := Lib.hid hr17
      clear hB17 hFit hlen17 hr17 hcap17
      refine M17.out.mono ?_
      rintro _ w18 ⟨⟨v18, rfl, ho18⟩, hb18⟩
      obtain ⟨A18, c18, rfl, hc18, hm18, hr18⟩ := ho18.read
      have HB18 := Lib.hid (two_below' Hb17.out hb18)
      obtain ⟨Lc, hLc⟩ : ∃ Lc, Lc = Po.landed (bks (k1 ++ k1)) := ⟨_, rfl⟩
      rw [← hLc] at Hr17 hc18 hm18 hr18 ⊢
      obtain ⟨nc, hnc⟩ : ∃ nc, nc = Lc.length := ⟨_, rfl⟩
      rw [← hnc] at hc18 hm18 ⊢
      have hac : na ≤ nc := by rw [hnc, HNA.out, Hr17.out, List.length_append]; omega
      have htk : Lc.take na = Po.landed (bks k1) := by rw [Hr17.out, HNA.out, List.take_left]
      have hra18 : LdR w18 w18.heap.size A18 (Po.landed (bks k1)) := by rw [← htk]; exact hr18.take na
      have hA5c : LdR w18 w18.heap.size A5 (Po.landed (bks k1)) := by
        have q1 := (HA5.out.below HB8.out).mono HB8.out.size
        have q2 := (q1.below HB10.out).mono HB10.out.size
        exact (q2.below HB18.out).mono HB18.out.size
      have HSc := same13_any (Po.landed (bks k1)) landed_ok (by have := HM5.out; omega) A5 A18 c5 c18 w18 hA5c hra18
      rw [← HNA.out] at HSc
      have HSc := Lib.hid HSc
      have hsl := sliceHeadL A18 nc na c18 (by omega) w18
      have dac : decide ((na : Int) ≤ (nc : Int)) = true := by simp; omega
      have hcc : (na : Int) ≤ (nc : Int) := by omega
      have HB18w := Lib.hid (two_below' HBr.out HB18.out)
      clear ho18 hb18 hr18 hra18 hA5c htk hLc hnc Hr17
      go_wp2_with fail
      refine HSc.out.mono ?_
      rintro _ w19 ⟨rfl, hb19⟩
      have HB19 := Lib.hid (two_below' HB18w.out hb19)
      clear hb19
      go_wp2_with fail
      go_ret
      exact ⟨rfl, HB19.out⟩
set_option maxRecDepth 20000 in
set_option maxHeartbeats 6400000 in
theorem boxOrders_any (A1 A2 : Option Addr) (c1 c2 : Nat) (l1 l2 : List Bv) (w : World) (h1 : BvIn w w.heap.size A1 c1 l1) (h2 : BvIn w w.heap.size A2 c2 l2) (f1 : ∀ x ∈ l1, x.Fits) (f2 : ∀ x ∈ l2, x.Fits)
    (hl1 : l1.length ≤ 9223372036854775807) (hl2 : l2.length ≤ 9223372036854775807) (hT : Tab w) :
    Calls Tryd.prog 7 #[.slice A1 l1.length c1, .slice A2 l2.length c2] w fun e w' => e = .returned (.bool true) ∧ Below w.heap.size w w' := by
  by_cases j1 : 15 < l1.length
  · by_cases j2 : 15 < l2.length
    · exact boxOrders_tt A1 A2 c1 c2 l1 l2 w h1 h2 f1 f2 hl1 hl2 hT j1 j2
    · exact boxOrders_tf A1 A2 c1 c2 l1 l2 w h1 h2 f1 f2 hl1 hl2 hT j1 j2
  · by_cases j2 : 15 < l2.length
    · exact boxOrders_ft A1 A2 c1 c2 l1 l2 w h1 h2 f1 f2 hl1 hl2 hT j1 j2
    · exact boxOrders_ff A1 A2 c1 c2 l1 l2 w h1 h2 f1 f2 hl1 hl2 hT j1 j2
end Go.Proofs.YtinciddchpccnaaDoor
