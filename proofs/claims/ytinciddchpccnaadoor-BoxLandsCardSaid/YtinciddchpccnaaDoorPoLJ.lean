/- The reference's Landed. -/
/- The reference's Same, of lists that are the same. -/
/- The law BoxLands. -/
import Derived.Test.YtinciddchpccnaaDoorPoB
import Derived.Test.YtinciddchpccnaaDoorPoC
namespace Go.Proofs.YtinciddchpccnaaDoor
open Go.RowKit
set_option linter.unusedVariables false
set_option linter.unusedSimpArgs false

theorem It.ok_text {i : It} (h : i.ok = true) : i.textE.2 = 0 := by
  unfold It.textE
  rw [if_pos h]
  have h1 := Oct.num_length_le i.kind.toNat
  have h2 := Oct.num_length_le i.who.toNat
  have h3 := Oct.num_length_le i.n.toNat
  have he : i.text.size = i.text.data.toList.length := (Array.length_toList).symm
  have h5 : i.text.data.toList.length ≤ 65472 := by
    rcases (It.ok_iff i).1 h with ⟨_, _, _, _, h1⟩ | ⟨_, _, _, _, h1⟩
    · omega
    · rw [h1]; simp
  unfold It.fields Oct.listE Oct.listGo Oct.listGo Oct.listGo Oct.listGo Oct.listGo
  rw [if_neg (by simp), if_neg (by omega), if_neg (by omega), if_neg (by omega), if_neg (by omega)]
  rfl
set_option maxRecDepth 20000 in
set_option maxHeartbeats 6400000 in
theorem rlanded_any (hRS : RefSum) (A : Option Addr) (c : Nat) (l : List Bk) (w : World) (hB : BksAt w w.heap.size A l) (hl : l.length ≤ 9223372036854775807) :
    Calls Tryd.prog 18 #[.slice A l.length c] w fun e w' => (∃ v, e = .returned v ∧ LdAt w' w.heap.size v (Po.landed l)) ∧ Below w.heap.size w w' := by
  obtain ⟨n, hn⟩ : ∃ n, n = l.length := ⟨_, rfl⟩
  rw [← hn]
  have HN := Lib.hid hn
  have HB := Lib.hid hB
  have hzb := bt_zv
  have hzi := item_zv
  rw [← hn] at hl
  have HBL : Hid (Bt.zeroC.length = 4) := Lib.hid rfl
  obtain ⟨ZC, hZC⟩ : ∃ ZC, ZC = Bt.zeroC := ⟨_, rfl⟩
  simp only [← hZC] at hzb HBL
  obtain ⟨i0, hi, h2⟩ := Option.map_eq_some_iff.1 ld_info
  simp only [Prod.mk.injEq] at h2
  obtain ⟨hz0, hsz, hby⟩ := h2
  have Hi := Lib.hid hi
  obtain ⟨ZL, hZL⟩ : ∃ ZL, ZL = Ld.cells ⟨0, Bt.zero, none, 0⟩ := ⟨_, rfl⟩
  rw [← hZL] at hz0
  have HZL5 : Hid ((Value.agg ZL.toArray).cells.size = 5) := Lib.hid (by rw [hZL]; rfl)
  have Hz := Lib.hid hz0
  have Hsz := Lib.hid hsz
  have Hby := Lib.hid hby
  clear hn hB hZC hi hz0 hsz hby hZL
  go_enter Tryd.func18, Tryd.ntmps18
  go_wp2_with fail
  have HL0 : Hid (LsAt w w (.slice none 0 0) (Po.landed (l.take 0))) := Lib.hid ⟨LdAt.nil _ _, Below.refl _ _⟩
  go_loopw [3, 4] (fun v i wr => ∃ (k : Nat) (A3 : Option Addr) (c3 : Nat), k ≤ n ∧ i = .int .i64 k ∧ v = .slice A3 (Po.landed (l.take k)).length c3 ∧ LsAt w wr (.slice A3 (Po.landed (l.take k)).length c3) (Po.landed (l.take k))) (fun _ i _ => n - (intOf i).toNat)
  case atStart => exact ⟨0, none, 0, Nat.zero_le _, rfl, rfl, HL0.out⟩
  case round =>
    obtain ⟨k, A3, c3, hk, rfl, rfl, hM⟩ := hrel
    have HM := Lib.hid hM
    clear hM HL0
    by_cases hlt : k < n
    · have hki : (k : Int) < (n : Int) := by omega
      have hkl : k < l.length := by rw [← HN.out]; exact hlt
      obtain ⟨bb, off, rfl, hbb, hat⟩ := HB.out (by intro e; rw [e] at hkl; simp at hkl)
      obtain ⟨A', cp, hrng, hits, hcap, hpl⟩ := hat k hkl
      have HRun := Lib.hid (Po.landed_take hkl)
      have HBlk := Lib.hid (block_num hkl)
      have h34 := Bk.cell34 (b := l[k]) (A := A') (cap := cp) hpl
      have h00 := Bk.cell0 l[k] A' cp
      have Hits := Lib.hid hits.1
      have hml := hits.2
      obtain ⟨s0, hs0⟩ : ∃ s0, s0 = Po.landed (l.take k) := ⟨_, rfl⟩
      rw [← hs0] at HRun HM HBlk ⊢
      generalize l[k].cells A' cp = C at *
      obtain ⟨its, hit⟩ : ∃ its, its = l[k].items := ⟨_, rfl⟩
      obtain ⟨num, hnum⟩ : ∃ num, num = l[k].number := ⟨_, rfl⟩
      rw [← hit] at HBlk Hits hml h34
      rw [← hnum] at HBlk h00
      obtain ⟨m, hm⟩ : ∃ m, m = its.length := ⟨_, rfl⟩
      rw [← hm] at hml h34
      have HMl := Lib.hid hm
      have H34 : Hid (∀ W, Below w.heap.size w W → W.cell? ⟨bb, off + k * 35 + 34, none⟩ = some (.slice A' m cp)) := Lib.hid (fun W hW => range_cell (range_below hrng hW hbb) 34 _ h34)
      have H00 : Hid (∀ W, Below w.heap.size w W → W.cell? ⟨bb, off + k * 35, none⟩ = some (.int .i64 num)) := Lib.hid (fun W hW => by have := range_cell (range_below hrng hW hbb) 0 _ h00; rw [Nat.add_zero] at this; exact this)
      clear hit hnum hs0 hat hrng hits hcap hpl hm h34 h00
      have c34 := H34.out _ HM.out.2
      go_wp2_with fail
      generalize wr = wo at *
      go_loopw [3, 5] (fun v i wr => ∃ (j : Nat) (A3 : Option Addr) (c3 : Nat), j ≤ m ∧ i = .int .i64 j ∧ v = .slice A3 ((its.take j).foldl (Po.step num) s0).length c3 ∧ LsAt w wr (.slice A3 ((its.take j).foldl (Po.step num) s0).length c3) ((its.take j).foldl (Po.step num) s0)) (fun _ i _ => m - (intOf i).toNat)
      case atStart => exact ⟨0, A3, c3, Nat.zero_le _, rfl, rfl, HM.out⟩
      case round =>
        obtain ⟨j, A4, c4, hj, rfl, rfl, hM2⟩ := hrel
        have HM2 := Lib.hid hM2
        clear hM2 HM c34
        have c34 := H34.out _ HM2.out.2
        by_cases hjm : j < m
        · have hji : (j : Int) < (m : Int) := by omega
          have hjl : j < its.length := by rw [← HMl.out]; exact hjm
          obtain ⟨b2, off2, rfl, hb2, hat2⟩ := Hits.out (by intro e; rw [e] at hjl; simp at hjl)
          have Hr2 := Lib.hid (range_below (hat2 j hjl) HM2.out.2 hb2)
          have HF := Lib.hid (Po.fold_take hjl (Po.step num) s0)
          obtain ⟨s1, hs1⟩ : ∃ s1, s1 = (its.take j).foldl (Po.step num) s0 := ⟨_, rfl⟩
          rw [← hs1] at HF HM2 ⊢
          generalize its[j] = it at *
          clear hat2 hs1
          have hlen : s1.length ≤ 9223372036854775807 := by
            obtain ⟨ls, _, h2, _⟩ := HM2.out.1
            exact own_max13 h2
          have HIt : Hid (∀ W, Calls Tryd.prog 42 #[.agg it.cells.toArray] W fun e w' => e = .returned (.bool it.ok) ∧ Below W.heap.size W w') := Lib.hid (fun W => item5_any it W)
          have HIL : Hid (it.cells.length = 4) := Lib.hid rfl
          have HI1 := Lib.hid (item_one13 it)
          have HZI : Hid (It.zero.cells.length = 4) := Lib.hid rfl
          have Hnew := Lib.hid (Row.new wr 59 It.zero.cells)
          have HI0 : Hid (it.cells[0]? = some (.int .i64 it.kind)) := Lib.hid rfl
          have HI3 : Hid (it.cells[3]? = some (.string it.text)) := Lib.hid rfl
          obtain ⟨kd, who, nn, tx⟩ := it
          simp only at HI0 HI3
          generalize (It.mk kd who nn tx).cells = IC at *
          by_cases hk3 : kd = 3
          rotate_left
          · have dk : (kd != 3) = true := by simpa using hk3
            have HStep : Hid (Po.step num s1 (It.mk kd who nn tx) = s1) := Lib.hid (Po.step_no (fun b hb _ => by unfold Po.itemE at hb; rw [if_neg hk3] at hb; simp at hb))
            generalize It.mk kd who nn tx = it at *
            clear hk3
            go_wp2_with (first
            | ((with_reducible show wpList _ _ _ (⟨_, .load 59 (.tmp 31), _, _, _, _⟩ :: _) _ _); refine wpList_load_tx rfl 59 (.tmp 31) rfl b2 (off2 + j * 4) rfl IC _ Hr2.out Tryd.underlying59 rfl (by rw [item_size, HIL.out]) ?_)
            | ((with_reducible show wpList _ _ _ (⟨_, .load 59 (.tmp 6), _, _, _, _⟩ :: _) _ _); refine wpList_load_tx rfl 59 (.tmp 6) rfl wr.heap.size 0 rfl IC _ (row_range HR7.out) Tryd.underlying59 rfl (by rw [item_size, HIL.out]) ?_)
            | (with_reducible show wpList _ _ _ (⟨_, .store 59 _ _, _, _, _, _⟩ :: _) _ _
               refine wpList_store_at rfl 59 (.tmp 6) (.tmp 32) rfl wr.heap.size 0 IC _ _ rfl rfl Hnew.out (by have := HIL.out; have := HZI.out; omega) (by rw [item_size, HIL.out]) HI1.out ?_
               intro w7 hr7 hg7
               rw [splice_all (HIL.out.trans HZI.out.symm)] at hr7
               have hbw7 := below_own ((Below.refl wr.heap.size wr).alloc (Nat.le_refl _) (.cells It.zero.cells.toArray 59)) hg7 (fun k hk => by cases hk; exact Nat.le_refl _)
               have HM7 := Lib.hid (HM2.out.step hbw7)
               have HR7 := Lib.hid hr7
               have c70 := (row_range hr7) 0 _ HI0.out
               have c73 := (row_range hr7) 3 _ HI3.out
               rw [Nat.zero_add] at c70 c73
               have c34n := H34.out _ HM7.out.2
               clear hr7 hg7 hbw7))
            have HFn : Hid ((its.take (j + 1)).foldl (Po.step num) s0 = s1) := Lib.hid (by rw [HF.out]; exact HStep.out)
            exact ⟨⟨j + 1, A4, c4, hjm, by go_num, by rw [HFn.out], by rw [HFn.out]; exact HM7.out⟩, by simp [intOf]; omega⟩
          have dk : (kd != 3) = false := by simp [hk3]
          rcases Bool.eq_false_or_eq_true (It.mk kd who nn tx).ok with hok | hok
          rotate_left
          · have HStep : Hid (Po.step num s1 (It.mk kd who nn tx) = s1) := Lib.hid (Po.step_no (fun b hb _ => by
              have h0 : (It.mk kd who nn tx).textE.2 ≠ 0 := by unfold It.textE; rw [if_neg (by rw [hok]; simp)]; simp
              unfold Po.itemE at hb; rw [if_pos hk3, if_neg h0] at hb; simp at hb))
            rw [hok] at HIt
            generalize It.mk kd who nn tx = it at *
            clear hk3 hok
            go_wp2_with (first
            | ((with_reducible show wpList _ _ _ (⟨_, .load 59 (.tmp 31), _, _, _, _⟩ :: _) _ _); refine wpList_load_tx rfl 59 (.tmp 31) rfl b2 (off2 + j * 4) rfl IC _ Hr2.out Tryd.underlying59 rfl (by rw [item_size, HIL.out]) ?_)
            | ((with_reducible show wpList _ _ _ (⟨_, .load 59 (.tmp 6), _, _, _, _⟩ :: _) _ _); refine wpList_load_tx rfl 59 (.tmp 6) rfl wr.heap.size 0 rfl IC _ (row_range HR7.out) Tryd.underlying59 rfl (by rw [item_size, HIL.out]) ?_)
            | (with_reducible show wpList _ _ _ (⟨_, .store 59 _ _, _, _, _, _⟩ :: _) _ _
               refine wpList_store_at rfl 59 (.tmp 6) (.tmp 32) rfl wr.heap.size 0 IC _ _ rfl rfl Hnew.out (by have := HIL.out; have := HZI.out; omega) (by rw [item_size, HIL.out]) HI1.out ?_
               intro w7 hr7 hg7
               rw [splice_all (HIL.out.trans HZI.out.symm)] at hr7
               have hbw7 := below_own ((Below.refl wr.heap.size wr).alloc (Nat.le_refl _) (.cells It.zero.cells.toArray 59)) hg7 (fun k hk => by cases hk; exact Nat.le_refl _)
               have HM7 := Lib.hid (HM2.out.step hbw7)
               have HR7 := Lib.hid hr7
               have c70 := (row_range hr7) 0 _ HI0.out
               have c73 := (row_range hr7) 3 _ HI3.out
               rw [Nat.zero_add] at c70 c73
               have c34n := H34.out _ HM7.out.2
               clear hr7 hg7 hbw7))
            refine (HIt.out _).mono ?_
            rintro _ w8 ⟨rfl, hb8⟩
            have HM8 := Lib.hid (HM7.out.step hb8)
            have c34m := H34.out _ HM8.out.2
            clear hb8 c70 c73
            go_wp2_with fail
            have HFn : Hid ((its.take (j + 1)).foldl (Po.step num) s0 = s1) := Lib.hid (by rw [HF.out]; exact HStep.out)
            exact ⟨⟨j + 1, A4, c4, hjm, by go_num, by rw [HFn.out], by rw [HFn.out]; exact HM8.out⟩, by simp [intOf]; omega⟩
          have hie : Po.itemE (It.mk kd who nn tx) = Po.read tx.data.toList := by unfold Po.itemE; rw [if_pos hk3, if_pos (It.ok_text hok)]
          have HRd : Hid (∀ W, Calls Tryd.prog 14 #[.string tx] W fun e w' => RdEnds (Po.read tx.data.toList) W.heap.size e w' ∧ Below W.heap.size W w') := Lib.hid (fun W => rboxRead_any hRS tx W (by have := It.text_small (It.ok_text hok); simp only at this; omega))
          rw [hok] at HIt
          rw [← hie] at HRd
          have HStepD : Hid (∀ R : Int × Option Bt, Po.itemE (It.mk kd who nn tx) = R → ((R.1 ≠ 0 ∨ ∀ u, R.2 = some u → u.seq ≠ s1.length) → Po.step num s1 (It.mk kd who nn tx) = s1) ∧ (∀ u, R = (0, some u) → u.seq = s1.length → Po.step num s1 (It.mk kd who nn tx) = s1 ++ [(num, u)])) := Lib.hid (fun R hR => ⟨fun h => Po.step_no (fun b hb hq => by
              rw [hR] at hb
              subst hb
              rcases h with h | h
              · exact h rfl
              · exact h b rfl hq), fun u hu hs => Po.step_yes (hR.trans hu) hs⟩)
          have HIok : Hid (∀ R : Int × Option Bt, Po.itemE (It.mk kd who nn tx) = R → (∀ u, R.2 = some u → R.1 = 0 ∧ u.ok = true) ∧ (R.1 = 0 → ∃ u, R.2 = some u)) := Lib.hid (fun R hR => ⟨fun u hu => Po.item_ok (i := It.mk kd who nn tx) (hR.trans (Prod.ext rfl hu)), fun h0 => by
              obtain ⟨u, hu⟩ := Po.item_err (i := It.mk kd who nn tx) (by rw [hR]; exact h0)
              rw [hR] at hu
              exact ⟨u, by rw [hu]⟩⟩)
          obtain ⟨R, hR⟩ : ∃ R, Po.itemE (It.mk kd who nn tx) = R := ⟨_, rfl⟩
          have HStepR := Lib.hid (HStepD.out R hR)
          have HOkR := Lib.hid (HIok.out R hR)
          rw [hR] at HRd
          clear HStepD HIok hie hR hok hk3
          generalize It.mk kd who nn tx = it at *
          obtain ⟨ec, ob⟩ := R
          simp only at HStepR HOkR HRd
          go_wp2_with (first
          | ((with_reducible show wpList _ _ _ (⟨_, .load 59 (.tmp 31), _, _, _, _⟩ :: _) _ _); refine wpList_load_tx rfl 59 (.tmp 31) rfl b2 (off2 + j * 4) rfl IC _ Hr2.out Tryd.underlying59 rfl (by rw [item_size, HIL.out]) ?_)
          | ((with_reducible show wpList _ _ _ (⟨_, .load 59 (.tmp 6), _, _, _, _⟩ :: _) _ _); refine wpList_load_tx rfl 59 (.tmp 6) rfl wr.heap.size 0 rfl IC _ (row_range HR7.out) Tryd.underlying59 rfl (by rw [item_size, HIL.out]) ?_)
          | (with_reducible show wpList _ _ _ (⟨_, .store 59 _ _, _, _, _, _⟩ :: _) _ _
             refine wpList_store_at rfl 59 (.tmp 6) (.tmp 32) rfl wr.heap.size 0 IC _ _ rfl rfl Hnew.out (by have := HIL.out; have := HZI.out; omega) (by rw [item_size, HIL.out]) HI1.out ?_
             intro w7 hr7 hg7
             rw [splice_all (HIL.out.trans HZI.out.symm)] at hr7
             have hbw7 := below_own ((Below.refl wr.heap.size wr).alloc (Nat.le_refl _) (.cells It.zero.cells.toArray 59)) hg7 (fun k hk => by cases hk; exact Nat.le_refl _)
             have HM7 := Lib.hid (HM2.out.step hbw7)
             have HR7 := Lib.hid hr7
             have c70 := (row_range hr7) 0 _ HI0.out
             have c73 := (row_range hr7) 3 _ HI3.out
             rw [Nat.zero_add] at c70 c73
             have c34n := H34.out _ HM7.out.2
             clear hr7 hg7 hbw7))
          refine (HIt.out _).mono ?_
          rintro _ w8 ⟨rfl, hb8⟩
          have HM8 := Lib.hid (HM7.out.step hb8)
          have c83 := (row_range (HR7.out.below hb8)) 3 _ HI3.out
          rw [Nat.zero_add] at c83
          clear hb8 c70 c73
          go_wp2_with fail
          refine (HRd.out _).mono ?_
          rintro e w9 ⟨hrd, hb9⟩
          obtain ⟨C6, sq, rfl, hpf⟩ := hrd.of
          obtain ⟨h6l, h61, h60⟩ := hpf.cells
          have HM9 := Lib.hid (HM8.out.step hb9)
          have HPf9 := Lib.hid (hpf.mono HM8.out.2.size)
          have H6L := Lib.hid h6l
          have H61 := Lib.hid h61
          have H60 := Lib.hid h60
          have HN9 := Lib.hid (Row.new w9 24 ZC)
          clear hrd hb9 hpf h6l h61 h60 c83
          by_cases he : ec = 0
          rotate_left
          · have de : (ec == 0) = false := by simpa using he
            have HStep := Lib.hid (HStepR.out.1 (.inl he))
            clear he
            go_wp2_with (first
            | (with_reducible show wpList _ _ _ (⟨_, .store 24 _ _, _, _, _, _⟩ :: _) _ _
               refine wpList_store_at rfl 24 (.tmp 7) (.tmp 45) rfl w9.heap.size 0 C6 _ _ rfl rfl HN9.out (by rw [HBL.out, H6L.out]; decide) (by rw [bt_size, H6L.out]) H61.out ?_
               intro w10 hr10 hg10
               rw [splice_all (H6L.out.trans HBL.out.symm)] at hr10
               have hbs := below_own ((Below.refl w9.heap.size w9).alloc (Nat.le_refl _) (.cells ZC.toArray 24)) hg10 (fun k hk => by cases hk; exact Nat.le_refl _)
               have HR10 := Lib.hid hr10
               have HM10 := Lib.hid (HM9.out.step hbs)
               have HPf10 := Lib.hid (HPf9.out.grown (grownBy_of_below hbs none) (fun k hk => by cases hk))
               have c100 := (row_range hr10) 0 _ H60.out
               rw [Nat.zero_add] at c100
               have c34n := H34.out _ HM10.out.2
               clear hr10 hg10 hbs))
            have HFn : Hid ((its.take (j + 1)).foldl (Po.step num) s0 = s1) := Lib.hid (by rw [HF.out]; exact HStep.out)
            exact ⟨⟨j + 1, A4, c4, hjm, by go_num, by rw [HFn.out], by rw [HFn.out]; exact HM10.out⟩, by simp [intOf]; omega⟩
          have de : (ec == 0) = true := by simpa using he
          by_cases hq : sq = (s1.length : Int)
          rotate_left
          · have dq : (sq == (s1.length : Int)) = false := by simpa using hq
            have HQ := Lib.hid hq
            have HStep := Lib.hid (HStepR.out.1 (.inr (fun u hu hs => HQ.out (by
              have h1 := HPf9.out
              rw [show ob = some u from hu] at h1
              obtain ⟨_, _, _, h2, _⟩ := h1
              exact h2.trans hs))))
            clear he hq
            go_wp2_with (first
            | (with_reducible show wpList _ _ _ (⟨_, .store 24 _ _, _, _, _, _⟩ :: _) _ _
               refine wpList_store_at rfl 24 (.tmp 7) (.tmp 45) rfl w9.heap.size 0 C6 _ _ rfl rfl HN9.out (by rw [HBL.out, H6L.out]; decide) (by rw [bt_size, H6L.out]) H61.out ?_
               intro w10 hr10 hg10
               rw [splice_all (H6L.out.trans HBL.out.symm)] at hr10
               have hbs := below_own ((Below.refl w9.heap.size w9).alloc (Nat.le_refl _) (.cells ZC.toArray 24)) hg10 (fun k hk => by cases hk; exact Nat.le_refl _)
               have HR10 := Lib.hid hr10
               have HM10 := Lib.hid (HM9.out.step hbs)
               have HPf10 := Lib.hid (HPf9.out.grown (grownBy_of_below hbs none) (fun k hk => by cases hk))
               have c100 := (row_range hr10) 0 _ H60.out
               rw [Nat.zero_add] at c100
               have c34n := H34.out _ HM10.out.2
               clear hr10 hg10 hbs))
            have HFn : Hid ((its.take (j + 1)).foldl (Po.step num) s0 = s1) := Lib.hid (by rw [HF.out]; exact HStep.out)
            exact ⟨⟨j + 1, A4, c4, hjm, by go_num, by rw [HFn.out], by rw [HFn.out]; exact HM10.out⟩, by simp [intOf]; omega⟩
          subst hq
          subst he
          obtain ⟨u, hu⟩ := HOkR.out.2 rfl
          subst hu
          have hpf := HPf9.out
          obtain ⟨A6, c6, h6, hqu, hpu, hcu⟩ := hpf
          have Hq : Hid (u.seq = s1.length) := Lib.hid hqu.symm
          have Hcu := Lib.hid hcu
          have HStep := Lib.hid (HStepR.out.2 u rfl hqu.symm)
          have hsq : s1.length ≤ 1099511627776 := by
            have := (Bt.ok_iff u).1 (HOkR.out.1 u rfl).2
            have h3 := Hq.out
            omega
          have hbu := ld_built ⟨num, u, A6, c6⟩
          simp only [← h6] at hbu
          obtain ⟨XC, hXC⟩ : ∃ XC, XC = Ld.cells ⟨num, u, A6, c6⟩ := ⟨_, rfl⟩
          rw [← hXC] at hbu
          have HXC := Lib.hid hXC.symm
          have HXL : Hid (XC.length = 5) := Lib.hid (by rw [hXC]; rfl)
          have HX1 : Hid (∀ v ∈ XC, v.oneCell' = true) := Lib.hid (by rw [hXC]; exact Ld.one _)
          have HBu := Lib.hid hbu
          have HPu9 := Lib.hid hpu
          have hk63 : s1.length + 1 ≤ maxLen := by unfold maxLen; omega
          have hk48 : ((s1.length + 1) + (s1.length + 1) / 4 + 192) * 56 ≤ 281474976710656 := by omega
          clear h6 hqu hpu hcu hsq hbu hXC HStepR HOkR
          go_wp2_with (first
          | (with_reducible show wpList _ _ _ (⟨_, .store 24 _ _, _, _, _, _⟩ :: _) _ _
             refine wpList_store_at rfl 24 (.tmp 7) (.tmp 45) rfl w9.heap.size 0 C6 _ _ rfl rfl HN9.out (by rw [HBL.out, H6L.out]; decide) (by rw [bt_size, H6L.out]) H61.out ?_
             intro w10 hr10 hg10
             rw [splice_all (H6L.out.trans HBL.out.symm)] at hr10
             have hbs := below_own ((Below.refl w9.heap.size w9).alloc (Nat.le_refl _) (.cells ZC.toArray 24)) hg10 (fun k hk => by cases hk; exact Nat.le_refl _)
             have HR10 := Lib.hid hr10
             have HM10 := Lib.hid (HM9.out.step hbs)
             have HPf10 := Lib.hid (HPf9.out.grown (grownBy_of_below hbs none) (fun k hk => by cases hk))
             have c100 := (row_range hr10) 0 _ H60.out
             rw [Nat.zero_add] at c100
             have HPu := Lib.hid (HPu9.out.grown (grownBy_of_below hbs none) (fun k hk => by cases hk))
             clear hr10 hg10 hbs))
          generalize w9.heap.size = g10 at *
          refine wp_region_held_drew (S := fun w' => Row w' g10 24 C6 ∧ Below w.heap.size w w') (by kernel_rfl) (⟨HR10.out.below ((Below.refl _ _).drew), HM10.out.2.trans ((Below.refl _ _).drew.mono HM10.out.2.size)⟩) (fun hHeld => ?_)
          have hM11 := HM10.out.step ((Below.refl w10.heap.size w10).drew)
          have hpq := HPu.out.grown (grownBy_drew w10 none) (fun k hk => by cases hk)
          have hg10 : g10 < w10.drew.heap.size := (HR10.out.below ((Below.refl _ _).drew)).lt
          obtain ⟨wq, hwq⟩ : ∃ x, x = w10.drew := ⟨_, rfl⟩
          rw [← hwq] at hHeld hM11 hpq hg10 ⊢
          clear hwq
          refine wpAnyH_take (i := 0) (v := .slice A4 s1.length c4) rfl (by kernel_rfl) (by kernel_rfl) (by kernel_rfl) (fun _ _ _ h => h) (Or.inl ⟨by rfl, fun w' hSw => by go_simp⟩) hHeld ?_
          try simp only [Act.put, List.getElem_toArray, List.getElem_cons_succ, List.getElem_cons_zero, List.setIfInBounds_toArray, List.set_cons_zero, List.set_cons_succ]
          refine wpAnyH_take (i := 1) (v := .slice (some ⟨bb, off, none⟩) n c) rfl (by kernel_rfl) (by kernel_rfl) (by kernel_rfl) (fun _ _ _ h => h) (Or.inl ⟨by rfl, fun w' hSw => by go_simp⟩) hHeld ?_
          try simp only [Act.put, List.getElem_toArray, List.getElem_cons_succ, List.getElem_cons_zero, List.setIfInBounds_toArray, List.set_cons_zero, List.set_cons_succ]
          refine wpAnyH_take (i := 2) (v := .int .i64 k) rfl (by kernel_rfl) (by kernel_rfl) (by kernel_rfl) (fun _ _ _ h => h) (Or.inl ⟨by rfl, fun w' hSw => by go_simp⟩) hHeld ?_
          try simp only [Act.put, List.getElem_toArray, List.getElem_cons_succ, List.getElem_cons_zero, List.setIfInBounds_toArray, List.set_cons_zero, List.set_cons_succ]
          refine wpAnyH_take (i := 3) (v := .pointer (some ⟨bb, (off + k * 35), none⟩)) rfl (by kernel_rfl) (by kernel_rfl) (by kernel_rfl) (fun _ _ _ h => h) (Or.inl ⟨by rfl, fun w' hSw => by go_simp⟩) hHeld ?_
          try simp only [Act.put, List.getElem_toArray, List.getElem_cons_succ, List.getElem_cons_zero, List.setIfInBounds_toArray, List.set_cons_zero, List.set_cons_succ]
          refine wpAnyH_take (i := 4) (v := .pointer (some ⟨bb, (off + k * 35), none⟩)) rfl (by kernel_rfl) (by kernel_rfl) (by kernel_rfl) (fun _ _ _ h => h) (Or.inl ⟨by rfl, fun w' hSw => by go_simp⟩) hHeld ?_
          try simp only [Act.put, List.getElem_toArray, List.getElem_cons_succ, List.getElem_cons_zero, List.setIfInBounds_toArray, List.set_cons_zero, List.set_cons_succ]
          refine wpAnyH_take (i := 5) (v := .int .i64 num) rfl (by kernel_rfl) (by kernel_rfl) (by kernel_rfl) (fun _ _ _ h => h) (Or.inl ⟨by rfl, fun w' hSw => by have hq := hSw; have hd := H00.out _ hq.2; go_simp⟩) hHeld ?_
          try simp only [Act.put, List.getElem_toArray, List.getElem_cons_succ, List.getElem_cons_zero, List.setIfInBounds_toArray, List.set_cons_zero, List.set_cons_succ]
          refine' wpAnyH_take (i := 6) (v := _) rfl (by kernel_rfl) (by kernel_rfl) (by kernel_rfl) (fun _ _ _ h => h) (yieldsIf_load_mid (by rfl) _ _ rfl g10 0 rfl C6 _ (fun w' hSw => row_range hSw.1) Tryd.underlying24 rfl (by rw [bt_size, H6L.out])) hHeld ?_
          try simp only [Act.put, List.getElem_toArray, List.getElem_cons_succ, List.getElem_cons_zero, List.setIfInBounds_toArray, List.set_cons_zero, List.set_cons_succ]
          refine' wpAnyH_take (i := 7) (v := .agg XC.toArray) rfl (by kernel_rfl) (by kernel_rfl) (by kernel_rfl) (fun _ _ _ h => h) (yieldsIf_buildL (by rfl) 43 [(0, .tmp 61), (1, .tmp 62)] rfl [(0, .int .i64 num), (1, .agg C6.toArray)] rfl XC.toArray HBu.out) hHeld ?_
          try simp only [Act.put, List.getElem_toArray, List.getElem_cons_succ, List.getElem_cons_zero, List.setIfInBounds_toArray, List.set_cons_zero, List.set_cons_succ]
          refine wpAnyH_ready (rs := [8]) (by kernel_rfl) (by simp) (AllReadyH.cons rfl (fun K1 hK1 => ?_) AllReadyH.nil)
          try simp only [Act.put, List.getElem_toArray, List.getElem_cons_succ, List.getElem_cons_zero, List.setIfInBounds_toArray, List.set_cons_zero, List.set_cons_succ]
          rw [if_pos (by rfl)]
          refine wp_buildSlice 36 43 1 _ rfl XC.toArray i0 (.agg ZL.toArray) Tryd.underlying36 Hi.out Hz.out (by rw [Hsz.out]; decide) (by rw [Hsz.out]; decide) (by rw [Hsz.out, Array.toList_map]; exact fill_one13 5 (.agg ZL.toArray) XC HXL.out) ?_
          have hal := (Below.refl wq.heap.size wq).alloc (Nat.le_refl _) (.cells XC.toArray 43)
          have rN := Row.new wq 43 XC
          have hM12 := hM11.step hal
          have hp12 := hpq.grown (grownBy_of_below hal none) (fun k hk => by cases hk)
          have hr12 := hHeld.1.below hal
          obtain ⟨⟨ls, hmap, ho, hps⟩, hbe⟩ := hM12
          have hz12 : w.heap.size ≤ (wq.alloc (.cells XC.toArray 43)).heap.size := hbe.size
          refine hK1.out _ _ ⟨hr12, hbe⟩ (fun hHeld => ?_)
          clear hK1 K1
          try simp only [Act.put, List.getElem_toArray, List.getElem_cons_succ, List.getElem_cons_zero, List.setIfInBounds_toArray, List.set_cons_zero, List.set_cons_succ]
          refine wpAnyH_ready (rs := [9]) (by kernel_rfl) (by simp) (AllReadyH.cons rfl (fun K1 hK1 => ?_) AllReadyH.nil)
          try simp only [Act.put, List.getElem_toArray, List.getElem_cons_succ, List.getElem_cons_zero, List.setIfInBounds_toArray, List.set_cons_zero, List.set_cons_succ]
          rw [if_pos (by rfl)]
          refine wp_append_own_wide _ _ _ 36 rfl w.heap.size 43 i0 (.agg ZL.toArray) 5 56 Tryd.underlying36 Hi.out Hz.out Hsz.out Hby.out HZL5.out (by decide) (.slice A4 s1.length c4) s1.length (Ld.flat ls) rfl ho ⟨wq.heap.size, 0, none⟩ 1 1 XC rfl (by rw [HXL.out]) (row_news rN) HX1.out hk63 hk48 hz12 ?_
          intro v' w13 hown13 hgrow13 _
          obtain ⟨g13, cp13, rfl⟩ := ownsRow_succ hown13
          have hbe13 : Below w.heap.size w w13 := below_own hbe hgrow13 (fun k hk => (ho.lt k hk).1)
          have hr13 := hr12.kept hgrow13 (row_ne_own13 hr12 ho (by decide)).symm
          refine hK1.out _ _ ⟨hr13, hbe13⟩ (fun hHeld => ?_)
          clear hK1 K1
          try simp only [Act.put, List.getElem_toArray, List.getElem_cons_succ, List.getElem_cons_zero, List.setIfInBounds_toArray, List.set_cons_zero, List.set_cons_succ]
          refine wpAnyH_take (i := 10) (v := .slice (some ⟨g13, 0, none⟩) (s1.length + 1) cp13) rfl (by kernel_rfl) (by kernel_rfl) (by kernel_rfl) (fun _ _ _ h => h) (Or.inl ⟨by rfl, fun w' hSw => by go_simp⟩) hHeld ?_
          try simp only [Act.put, List.getElem_toArray, List.getElem_cons_succ, List.getElem_cons_zero, List.setIfInBounds_toArray, List.set_cons_zero, List.set_cons_succ]
          refine wpAnyH_done (by kernel_rfl) ?_ _
          have hL13 : LdAt w13 w.heap.size (.slice (some ⟨g13, 0, none⟩) (s1.length + 1) cp13) (s1 ++ [(num, u)]) := LdAt.push1 (x := ⟨num, u, A6, c6⟩) hmap ho hps hp12 Hcu.out hgrow13 (by rw [HXC.out]; exact hown13)
          have HL13 := Lib.hid hL13
          have HBe13 := Lib.hid hbe13
          have HFn : Hid ((its.take (j + 1)).foldl (Po.step num) s0 = s1 ++ [(num, u)]) := Lib.hid (by rw [HF.out]; exact HStep.out)
          clear hL13 hbe13 hr13 hown13 hgrow13 hmap ho hps hbe hp12 hr12 rN hz12 hM11 hpq hHeld hal
          go_wp2_with fail
          refine ⟨⟨j + 1, some ⟨g13, 0, none⟩, cp13, hjm, by go_num, by rw [HFn.out, List.length_append]; rfl, ?_⟩, by simp [intOf]; omega⟩
          rw [HFn.out, List.length_append]
          exact ⟨HL13.out, HBe13.out⟩
        · have hji : (m : Int) ≤ (j : Int) := by omega
          have hje : j = its.length := by rw [← HMl.out]; omega
          have HMe := Lib.hid HM2.out
          have HFe : Hid ((its.take j).foldl (Po.step num) s0 = Po.landed (l.take (k + 1))) := Lib.hid (by rw [HRun.out, HBlk.out, hje, List.take_length])
          rw [HFe.out] at HMe ⊢
          clear hje HM2
          go_wp2_with fail
          exact ⟨⟨k + 1, _, _, hlt, by go_num, rfl, HMe.out⟩, by simp [intOf]; omega⟩
    · have hki : (n : Int) ≤ (k : Int) := by omega
      have hke : k = l.length := by rw [← HN.out]; omega
      have hMe : LsAt w wr (.slice A3 (Po.landed l).length c3) (Po.landed l) := by
        have := HM.out
        rw [hke, List.take_length] at this
        exact this
      have hte : Po.landed (l.take k) = Po.landed l := by rw [hke, List.take_length]
      rw [hte]
      have HMe := Lib.hid hMe
      clear hke hMe hte HM
      go_wp2_with fail
      go_ret
      exact ⟨⟨_, rfl, HMe.out.1⟩, HMe.out.2⟩
end Go.Proofs.YtinciddchpccnaaDoor
namespace Go.Proofs.YtinciddchpccnaaDoor
open Go.RowKit
set_option linter.unusedVariables false
set_option linter.unusedSimpArgs false

/-- batches that landed, as a slice to read -/
def LdR (w : World) (B : Nat) (A : Option Addr) (L : List (Int × Bt)) : Prop :=
  L ≠ [] → ∃ g off, A = some ⟨g, off, none⟩ ∧ g < B ∧ ∀ i (h : i < L.length), ∃ (A' : Option Addr) (c' : Nat), w.rangeAt g (off + i * 5) (Ld.cells ⟨L[i].1, L[i].2, A', c'⟩) ∧ PartsAt w B A' L[i].2.parts
theorem LdR.below {w w' : World} {B : Nat} {A : Option Addr} {L : List (Int × Bt)} (h : LdR w B A L) (hb : Below B w w') : LdR w' B A L := fun hne => by
  obtain ⟨g, off, h1, h2, h3⟩ := h hne
  exact ⟨g, off, h1, h2, fun i hi => by
    obtain ⟨A', c', q1, q2⟩ := h3 i hi
    exact ⟨A', c', range_below q1 hb h2, q2.below hb⟩⟩
theorem LdR.mono {w : World} {B B' : Nat} {A : Option Addr} {L : List (Int × Bt)} (h : LdR w B A L) (hB : B ≤ B') : LdR w B' A L := fun hne => by
  obtain ⟨g, off, h1, h2, h3⟩ := h hne
  exact ⟨g, off, h1, by omega, fun i hi => by
    obtain ⟨A', c', q1, q2⟩ := h3 i hi
    exact ⟨A', c', q1, q2.mono hB⟩⟩
theorem LdR.take {w : World} {B : Nat} {A : Option Addr} {L : List (Int × Bt)} (h : LdR w B A L) (k : Nat) : LdR w B A (L.take k) := fun hne => by
  have hl : L ≠ [] := fun e => hne (by rw [e, List.take_nil])
  obtain ⟨g, off, h1, h2, h3⟩ := h hl
  refine ⟨g, off, h1, h2, fun i hi => ?_⟩
  rw [List.length_take] at hi
  have := h3 i (by omega)
  rw [List.getElem_take]
  exact this
/-- what landed may be read -/
theorem LdAt.read {w : World} {base : Nat} {v : Value} {L : List (Int × Bt)} (h : LdAt w base v L) : ∃ A c, v = .slice A L.length c ∧ L.length ≤ c ∧ L.length ≤ 9223372036854775807 ∧ LdR w w.heap.size A L := by
  obtain ⟨ls, hm, ho, hp⟩ := h
  obtain ⟨A, c, rfl, hc, hA⟩ := own_form13 ho
  refine ⟨A, c, rfl, hc, own_max13 ho, fun hne => ?_⟩
  have hpos : 0 < L.length := List.length_pos_iff.2 hne
  obtain ⟨m, hme⟩ : ∃ m, L.length = m + 1 := ⟨L.length - 1, by omega⟩
  rw [hme] at ho
  obtain ⟨g, cap, e⟩ := ownsRow_succ ho
  rw [e] at ho
  injection e with e1 e2 e3
  subst e1
  have hll : ls.length = L.length := by rw [← hm, List.length_map]
  refine ⟨g, 0, rfl, (ho.lt g rfl).2, fun i hi => ?_⟩
  have hi' : i < ls.length := by omega
  have hLi : L[i] = ls[i].key := by
    have : L = ls.map Ld.key := hm.symm
    subst this
    simp
  refine ⟨ls[i].A, ls[i].cap, fun j v hv => ?_, ?_⟩
  · rw [hLi] at hv
    have hf := Ld.flat_at ls i hi' j v hv
    have hlt := (List.getElem?_eq_some_iff.1 hf).1
    rw [ho.1] at hlt
    rw [Nat.zero_add]
    exact (ho.cellAt _ hlt).trans hf
  · rw [hLi]
    exact (hp _ (List.getElem_mem hi')).1.at
theorem landed_ok {l : List Bk} : ∀ x ∈ Po.landed l, x.2.ok = true := by
  have hstep : ∀ (blk : Int) (s : List (Int × Bt)) (i : It), (∀ x ∈ s, x.2.ok = true) → ∀ x ∈ Po.step blk s i, x.2.ok = true := fun blk s i hs => by
    unfold Po.step
    split
    · next e b he =>
      split
      · intro x hx
        rcases List.mem_append.1 hx with hx | hx
        · exact hs x hx
        · simp only [List.mem_singleton] at hx
          subst hx
          exact (Po.item_ok he).2
      · exact hs
    · exact hs
  have hfold : ∀ (blk : Int) (its : List It) (s : List (Int × Bt)), (∀ x ∈ s, x.2.ok = true) → ∀ x ∈ its.foldl (Po.step blk) s, x.2.ok = true := fun blk its => by
    induction its with
    | nil => exact fun s hs => hs
    | cons i its ih => exact fun s hs => ih _ (hstep blk s i hs)
  have hall : ∀ (l : List Bk) (s : List (Int × Bt)), (∀ x ∈ s, x.2.ok = true) → ∀ x ∈ l.foldl Po.block s, x.2.ok = true := fun l => by
    induction l with
    | nil => exact fun s hs => hs
    | cons b l ih => exact fun s hs => ih _ (hfold b.number b.items s hs)
  exact hall l [] (fun x hx => by simp at hx)
theorem ld_parts {w : World} {g o : Nat} {x : Ld} (h : w.rangeAt g o x.cells) : w.cell? ⟨g, o, none⟩ = some (.int .i64 x.blk) ∧ w.rangeAt g (o + 1) (x.bt.cells x.A x.cap) := by
  refine ⟨by have := h 0 (.int .i64 x.blk) rfl; rw [Nat.add_zero] at this; exact this, fun j v hv => ?_⟩
  have := h (j + 1) v (by show (_ :: x.bt.cells x.A x.cap)[j + 1]? = _; rw [List.getElem?_cons_succ]; exact hv)
  rw [show o + 1 + j = o + (j + 1) by omega]
  exact this
set_option maxRecDepth 20000 in
set_option maxHeartbeats 3200000 in
theorem same13_any (L : List (Int × Bt)) (hok : ∀ x ∈ L, x.2.ok = true) (hl : L.length ≤ 9223372036854775807) (A1 A2 : Option Addr) (c1 c2 : Nat) (w : World) (h1 : LdR w w.heap.size A1 L) (h2 : LdR w w.heap.size A2 L) :
    Calls Tryd.prog 16 #[.slice A1 L.length c1, .slice A2 L.length c2] w fun e w' => e = .returned (.bool true) ∧ Below w.heap.size w w' := by
  obtain ⟨n, hn⟩ : ∃ n, n = L.length := ⟨_, rfl⟩
  rw [← hn] at hl ⊢
  have HN := Lib.hid hn
  have HA := Lib.hid h1
  have HB := Lib.hid h2
  have HK := Lib.hid hok
  clear hn h1 h2 hok
  go_enter Tryd.func16, Tryd.ntmps16
  go_wp2_with fail
  go_loopw [5] (fun i wr => ∃ k : Nat, k ≤ n ∧ i = .int .i64 (k : Int) ∧ Below w.heap.size w wr) (fun i _ => n - (intOf i).toNat)
  case atStart => exact ⟨0, Nat.zero_le _, rfl, Below.refl _ _⟩
  case round =>
    obtain ⟨k, hk, rfl, hbw⟩ := hrel
    have HBw := Lib.hid hbw
    clear hbw
    by_cases hlt : k < n
    · have hki : (k : Int) < (n : Int) := by omega
      have hkl : k < L.length := by rw [← HN.out]; exact hlt
      have hne : L ≠ [] := fun e => by rw [e] at hkl; simp at hkl
      obtain ⟨g1, o1, rfl, hg1, hat1⟩ := HA.out hne
      obtain ⟨g2, o2, rfl, hg2, hat2⟩ := HB.out hne
      obtain ⟨B1, d1, r1, p1⟩ := hat1 k hkl
      obtain ⟨B2, d2, r2, p2⟩ := hat2 k hkl
      have hxk := HK.out _ (List.getElem_mem hkl)
      generalize L[k] = x at *
      obtain ⟨num, b⟩ := x
      simp only at r1 r2 p1 p2 hxk
      have HN1 : Hid (∀ W, Below w.heap.size w W → W.cell? ⟨g1, o1 + k * 5, none⟩ = some (.int .i64 num)) := Lib.hid (fun W hW => (ld_parts (range_below r1 hW hg1)).1)
      have HN2 : Hid (∀ W, Below w.heap.size w W → W.cell? ⟨g2, o2 + k * 5, none⟩ = some (.int .i64 num)) := Lib.hid (fun W hW => (ld_parts (range_below r2 hW hg2)).1)
      have HR1 : Hid (∀ W, Below w.heap.size w W → W.rangeAt g1 (o1 + k * 5 + 1) (b.cells B1 d1)) := Lib.hid (fun W hW => (ld_parts (range_below r1 hW hg1)).2)
      have HR2 : Hid (∀ W, Below w.heap.size w W → W.rangeAt g2 (o2 + k * 5 + 1) (b.cells B2 d2)) := Lib.hid (fun W hW => (ld_parts (range_below r2 hW hg2)).2)
      have HBa : Hid (∀ W, Below w.heap.size w W → Calls Tryd.prog 15 #[.agg (b.cells B1 d1).toArray, .agg (b.cells B2 d2).toArray] W fun e w' => e = .returned (.bool true) ∧ Below W.heap.size W w') := Lib.hid (fun W hW => by
        have hkk := (Bt.ok_iff b).1 hxk
        refine batches5_same b (fun p hp => ?_) hkk.2.1 B1 B2 d1 d2 W ((p1.below hW).mono hW.size) ((p2.below hW).mono hW.size)
        have := List.all_eq_true.1 hkk.2.2 p hp
        unfold Pt.ok at this
        simp only [Bool.and_eq_true, decide_eq_true_eq] at this
        omega)
      have H1L : Hid ((b.cells B1 d1).length = 4) := Lib.hid rfl
      have H2L : Hid ((b.cells B2 d2).length = 4) := Lib.hid rfl
      generalize b.cells B1 d1 = C1 at *
      generalize b.cells B2 d2 = C2 at *
      clear hat1 hat2 r1 r2 p1 p2 hxk hne
      go_wp2_with fail
      refine wp_region_held_drew (S := fun w' => Below w.heap.size w w') (by kernel_rfl) (HBw.out.drew) (fun hHeld => ?_)
      generalize wr.drew = wq at *
      refine wpAnyH_take (i := 0) (v := .slice (some ⟨g1, o1, none⟩) n c1) rfl (by kernel_rfl) (by kernel_rfl) (by kernel_rfl) (fun _ _ _ h => h) (Or.inl ⟨by rfl, fun w' hSw => by go_simp⟩) hHeld ?_
      try simp only [Act.put, List.getElem_toArray, List.getElem_cons_succ, List.getElem_cons_zero, List.setIfInBounds_toArray, List.set_cons_zero, List.set_cons_succ]
      refine wpAnyH_take (i := 1) (v := .int .i64 k) rfl (by kernel_rfl) (by kernel_rfl) (by kernel_rfl) (fun _ _ _ h => h) (Or.inl ⟨by rfl, fun w' hSw => by go_simp⟩) hHeld ?_
      try simp only [Act.put, List.getElem_toArray, List.getElem_cons_succ, List.getElem_cons_zero, List.setIfInBounds_toArray, List.set_cons_zero, List.set_cons_succ]
      refine wpAnyH_take (i := 2) (v := .pointer (some ⟨g1, (o1 + k * 5), none⟩)) rfl (by kernel_rfl) (by kernel_rfl) (by kernel_rfl) (fun _ _ _ h => h) (Or.inl ⟨by rfl, fun w' hSw => by go_simp⟩) hHeld ?_
      try simp only [Act.put, List.getElem_toArray, List.getElem_cons_succ, List.getElem_cons_zero, List.setIfInBounds_toArray, List.set_cons_zero, List.set_cons_succ]
      refine wpAnyH_take (i := 3) (v := .pointer (some ⟨g1, (o1 + k * 5), none⟩)) rfl (by kernel_rfl) (by kernel_rfl) (by kernel_rfl) (fun _ _ _ h => h) (Or.inl ⟨by rfl, fun w' hSw => by go_simp⟩) hHeld ?_
      try simp only [Act.put, List.getElem_toArray, List.getElem_cons_succ, List.getElem_cons_zero, List.setIfInBounds_toArray, List.set_cons_zero, List.set_cons_succ]
      refine wpAnyH_take (i := 4) (v := .int .i64 num) rfl (by kernel_rfl) (by kernel_rfl) (by kernel_rfl) (fun _ _ _ h => h) (Or.inl ⟨by rfl, fun w' hSw => by have hq := hSw; have hd := HN1.out _ hq; go_simp⟩) hHeld ?_
      try simp only [Act.put, List.getElem_toArray, List.getElem_cons_succ, List.getElem_cons_zero, List.setIfInBounds_toArray, List.set_cons_zero, List.set_cons_succ]
      refine wpAnyH_take (i := 5) (v := .slice (some ⟨g2, o2, none⟩) n c2) rfl (by kernel_rfl) (by kernel_rfl) (by kernel_rfl) (fun _ _ _ h => h) (Or.inl ⟨by rfl, fun w' hSw => by go_simp⟩) hHeld ?_
      try simp only [Act.put, List.getElem_toArray, List.getElem_cons_succ, List.getElem_cons_zero, List.setIfInBounds_toArray, List.set_cons_zero, List.set_cons_succ]
      refine wpAnyH_take (i := 6) (v := .int .i64 k) rfl (by kernel_rfl) (by kernel_rfl) (by kernel_rfl) (fun _ _ _ h => h) (Or.inl ⟨by rfl, fun w' hSw => by go_simp⟩) hHeld ?_
      try simp only [Act.put, List.getElem_toArray, List.getElem_cons_succ, List.getElem_cons_zero, List.setIfInBounds_toArray, List.set_cons_zero, List.set_cons_succ]
      refine wpAnyH_take (i := 7) (v := .pointer (some ⟨g2, (o2 + k * 5), none⟩)) rfl (by kernel_rfl) (by kernel_rfl) (by kernel_rfl) (fun _ _ _ h => h) (Or.inl ⟨by rfl, fun w' hSw => by go_simp⟩) hHeld ?_
      try simp only [Act.put, List.getElem_toArray, List.getElem_cons_succ, List.getElem_cons_zero, List.setIfInBounds_toArray, List.set_cons_zero, List.set_cons_succ]
      refine wpAnyH_take (i := 8) (v := .pointer (some ⟨g2, (o2 + k * 5), none⟩)) rfl (by kernel_rfl) (by kernel_rfl) (by kernel_rfl) (fun _ _ _ h => h) (Or.inl ⟨by rfl, fun w' hSw => by go_simp⟩) hHeld ?_
      try simp only [Act.put, List.getElem_toArray, List.getElem_cons_succ, List.getElem_cons_zero, List.setIfInBounds_toArray, List.set_cons_zero, List.set_cons_succ]
      refine wpAnyH_take (i := 9) (v := .int .i64 num) rfl (by kernel_rfl) (by kernel_rfl) (by kernel_rfl) (fun _ _ _ h => h) (Or.inl ⟨by rfl, fun w' hSw => by have hq := hSw; have hd := HN2.out _ hq; go_simp⟩) hHeld ?_
      try simp only [Act.put, List.getElem_toArray, List.getElem_cons_succ, List.getElem_cons_zero, List.setIfInBounds_toArray, List.set_cons_zero, List.set_cons_succ]
      refine wpAnyH_take (i := 10) (v := .bool false) rfl (by kernel_rfl) (by kernel_rfl) (by kernel_rfl) (fun _ _ _ h => h) (Or.inl ⟨by rfl, fun w' hSw => by go_simp⟩) hHeld ?_
      try simp only [Act.put, List.getElem_toArray, List.getElem_cons_succ, List.getElem_cons_zero, List.setIfInBounds_toArray, List.set_cons_zero, List.set_cons_succ]
      refine wpAnyH_take (i := 11) (v := .bool false) rfl (by kernel_rfl) (by kernel_rfl) (by kernel_rfl) (fun _ _ _ h => h) (Or.inl ⟨by rfl, fun w' hSw => by go_simp⟩) hHeld ?_
      try simp only [Act.put, List.getElem_toArray, List.getElem_cons_succ, List.getElem_cons_zero, List.setIfInBounds_toArray, List.set_cons_zero, List.set_cons_succ]
      refine wpAnyH_take (i := 12) (v := .slice (some ⟨g1, o1, none⟩) n c1) rfl (by kernel_rfl) (by kernel_rfl) (by kernel_rfl) (fun _ _ _ h => h) (Or.inl ⟨by rfl, fun w' hSw => by go_simp⟩) hHeld ?_
      try simp only [Act.put, List.getElem_toArray, List.getElem_cons_succ, List.getElem_cons_zero, List.setIfInBounds_toArray, List.set_cons_zero, List.set_cons_succ]
      refine wpAnyH_take (i := 13) (v := .int .i64 k) rfl (by kernel_rfl) (by kernel_rfl) (by kernel_rfl) (fun _ _ _ h => h) (Or.inl ⟨by rfl, fun w' hSw => by go_simp⟩) hHeld ?_
      try simp only [Act.put, List.getElem_toArray, List.getElem_cons_succ, List.getElem_cons_zero, List.setIfInBounds_toArray, List.set_cons_zero, List.set_cons_succ]
      refine wpAnyH_take (i := 14) (v := .pointer (some ⟨g1, (o1 + k * 5), none⟩)) rfl (by kernel_rfl) (by kernel_rfl) (by kernel_rfl) (fun _ _ _ h => h) (Or.inl ⟨by rfl, fun w' hSw => by go_simp⟩) hHeld ?_
      try simp only [Act.put, List.getElem_toArray, List.getElem_cons_succ, List.getElem_cons_zero, List.setIfInBounds_toArray, List.set_cons_zero, List.set_cons_succ]
      refine wpAnyH_take (i := 15) (v := .pointer (some ⟨g1, (o1 + k * 5 + 1), none⟩)) rfl (by kernel_rfl) (by kernel_rfl) (by kernel_rfl) (fun _ _ _ h => h) (Or.inl ⟨by rfl, fun w' hSw => by go_simp⟩) hHeld ?_
      try simp only [Act.put, List.getElem_toArray, List.getElem_cons_succ, List.getElem_cons_zero, List.setIfInBounds_toArray, List.set_cons_zero, List.set_cons_succ]
      refine' wpAnyH_take (i := 16) (v := _) rfl (by kernel_rfl) (by kernel_rfl) (by kernel_rfl) (fun _ _ _ h => h) (yieldsIf_load_mid (by rfl) _ _ rfl g1 (o1 + k * 5 + 1) rfl C1 _ (fun w' hSw => HR1.out _ hSw) Tryd.underlying24 rfl (by rw [bt_size, H1L.out])) hHeld ?_
      try simp only [Act.put, List.getElem_toArray, List.getElem_cons_succ, List.getElem_cons_zero, List.setIfInBounds_toArray, List.set_cons_zero, List.set_cons_succ]
      refine wpAnyH_take (i := 17) (v := .slice (some ⟨g2, o2, none⟩) n c2) rfl (by kernel_rfl) (by kernel_rfl) (by kernel_rfl) (fun _ _ _ h => h) (Or.inl ⟨by rfl, fun w' hSw => by go_simp⟩) hHeld ?_
      try simp only [Act.put, List.getElem_toArray, List.getElem_cons_succ, List.getElem_cons_zero, List.setIfInBounds_toArray, List.set_cons_zero, List.set_cons_succ]
      refine wpAnyH_take (i := 18) (v := .int .i64 k) rfl (by kernel_rfl) (by kernel_rfl) (by kernel_rfl) (fun _ _ _ h => h) (Or.inl ⟨by rfl, fun w' hSw => by go_simp⟩) hHeld ?_
      try simp only [Act.put, List.getElem_toArray, List.getElem_cons_succ, List.getElem_cons_zero, List.setIfInBounds_toArray, List.set_cons_zero, List.set_cons_succ]
      refine wpAnyH_take (i := 19) (v := .pointer (some ⟨g2, (o2 + k * 5), none⟩)) rfl (by kernel_rfl) (by kernel_rfl) (by kernel_rfl) (fun _ _ _ h => h) (Or.inl ⟨by rfl, fun w' hSw => by go_simp⟩) hHeld ?_
      try simp only [Act.put, List.getElem_toArray, List.getElem_cons_succ, List.getElem_cons_zero, List.setIfInBounds_toArray, List.set_cons_zero, List.set_cons_succ]
      refine wpAnyH_take (i := 20) (v := .pointer (some ⟨g2, (o2 + k * 5 + 1), none⟩)) rfl (by kernel_rfl) (by kernel_rfl) (by kernel_rfl) (fun _ _ _ h => h) (Or.inl ⟨by rfl, fun w' hSw => by go_simp⟩) hHeld ?_
      try simp only [Act.put, List.getElem_toArray, List.getElem_cons_succ, List.getElem_cons_zero, List.setIfInBounds_toArray, List.set_cons_zero, List.set_cons_succ]
      refine' wpAnyH_take (i := 21) (v := _) rfl (by kernel_rfl) (by kernel_rfl) (by kernel_rfl) (fun _ _ _ h => h) (yieldsIf_load_mid (by rfl) _ _ rfl g2 (o2 + k * 5 + 1) rfl C2 _ (fun w' hSw => HR2.out _ hSw) Tryd.underlying24 rfl (by rw [bt_size, H2L.out])) hHeld ?_
      try simp only [Act.put, List.getElem_toArray, List.getElem_cons_succ, List.getElem_cons_zero, List.setIfInBounds_toArray, List.set_cons_zero, List.set_cons_succ]
      refine wpAnyH_ready (rs := [22]) (by kernel_rfl) (by simp) (AllReadyH.cons rfl (fun K1 hK1 => ?_) AllReadyH.nil)
      try simp only [Act.put, List.getElem_toArray, List.getElem_cons_succ, List.getElem_cons_zero, List.setIfInBounds_toArray, List.set_cons_zero, List.set_cons_succ]
      go_simp
      refine Calls.mono (HBa.out _ hHeld) ?_
      rintro e w3 ⟨rfl, hb3⟩
      refine hK1.out _ _ ((two_below' hHeld hb3)) (fun hHeld => ?_)
      clear hK1 K1
      try simp only [Act.put, List.getElem_toArray, List.getElem_cons_succ, List.getElem_cons_zero, List.setIfInBounds_toArray, List.set_cons_zero, List.set_cons_succ]
      clear hb3
      refine wpAnyH_take (i := 23) (v := .bool false) rfl (by kernel_rfl) (by kernel_rfl) (by kernel_rfl) (fun _ _ _ h => h) (Or.inl ⟨by rfl, fun w' hSw => by go_simp⟩) hHeld ?_
      try simp only [Act.put, List.getElem_toArray, List.getElem_cons_succ, List.getElem_cons_zero, List.setIfInBounds_toArray, List.set_cons_zero, List.set_cons_succ]
      refine wpAnyH_take (i := 24) (v := .bool false) rfl (by kernel_rfl) (by kernel_rfl) (by kernel_rfl) (fun _ _ _ h => h) (Or.inl ⟨by rfl, fun w' hSw => by go_simp⟩) hHeld ?_
      try simp only [Act.put, List.getElem_toArray, List.getElem_cons_succ, List.getElem_cons_zero, List.setIfInBounds_toArray, List.set_cons_zero, List.set_cons_succ]
      refine wpAnyH_done (by kernel_rfl) ?_ _
      have HBe := Lib.hid hHeld
      clear hHeld
      go_wp2_with fail
      exact ⟨⟨k + 1, hlt, by go_num, HBe.out⟩, by simp [intOf]; omega⟩
    · have hki : (n : Int) ≤ (k : Int) := by omega
      go_wp2_with fail
      go_ret
      exact ⟨rfl, HBw.out⟩
end Go.Proofs.YtinciddchpccnaaDoor
namespace Go.Proofs.YtinciddchpccnaaDoor
open Go.RowKit
set_option linter.unusedVariables false
set_option linter.unusedSimpArgs false

set_option maxRecDepth 20000 in
set_option maxHeartbeats 3200000 in
theorem boxLands_any (hRS : RefSum) (A : Option Addr) (c : Nat) (l : List Bk) (w : World) (hB : BksAt w w.heap.size A l) (hcap : l.length ≤ c) (hl : l.length ≤ 9223372036854775807) (hT : Tab w) :
    Calls Tryd.prog 5 #[.slice A l.length c] w fun e w' => e = .returned (.bool true) ∧ Below w.heap.size w w' := by
  have AW := Lib.hid (fun W (hW : Below w.heap.size w W) => awake13_any W (hT.below hW hT.pos))
  by_cases h20 : 20 < l.length
  · obtain ⟨l1, hl1⟩ : ∃ l1, l1 = l.take 20 := ⟨_, rfl⟩
    have hlen1 : 20 = l1.length := by rw [hl1, List.length_take]; omega
    have hBl : BksAt w w.heap.size A l1 := by rw [hl1]; exact ListAt.take hB 20
    have d20 : decide ((20 : Int) < (l.length : Int)) = true := by simp; omega
    have hA : ∃ b off, A = some ⟨b, off, none⟩ := by
      obtain ⟨b, off, e, _⟩ := hB (by intro e; rw [e] at h20; simp at h20)
      exact ⟨b, off, e⟩
    have HN1 := Lib.hid hlen1
    have M1 := Lib.hid (fun W (hW : Below w.heap.size w W) => landed_any A c l1 W ((hBl.below hW).mono hW.size) (by omega) (hT.below hW hT.pos))
    have M2 := Lib.hid (fun W (hW : Below w.heap.size w W) => rlanded_any hRS A c l1 W ((hBl.below hW).mono hW.size) (by omega))
    have HOk : Hid (∀ x ∈ Po.landed l1, x.2.ok = true) := Lib.hid landed_ok
    rw [← hlen1] at M1 M2
    obtain ⟨ba, oa, rfl⟩ := hA
    have hc20 : (20 : Int) ≤ (c : Int) := by omega
    have hc20n : 20 ≤ c := by omega
    have hc0 : ¬ c = 0 := by omega
    generalize l.length = m at *
    clear hB hT hlen1 hl1 hcap hBl
    go_enter Tryd.func5, Tryd.ntmps5
    go_wp2_with fail
    clear d20 h20
    refine (AW.out _ (Below.refl _ _)).mono ?_
    rintro _ w1 ⟨rfl, hb1⟩
    have HB1 := Lib.hid hb1
    clear hb1
    go_wp2_with fail
    refine (M1.out _ HB1.out).mono ?_
    rintro _ w2 ⟨⟨v1, rfl, hl1⟩, hb2⟩
    obtain ⟨Aa, ca, rfl, hca, hma, hra⟩ := hl1.read
    have HB2 := Lib.hid (two_below' HB1.out hb2)
    have HA2 := Lib.hid hra
    have HM2 := Lib.hid hma
    clear hb2 hl1 hra hma hca
    go_wp2_with fail
    refine (M2.out _ HB2.out).mono ?_
    rintro _ w3 ⟨⟨v2, rfl, hl2⟩, hb3⟩
    obtain ⟨Ab, cb, rfl, hcb, hmb, hrb⟩ := hl2.read
    have HB3 := Lib.hid (two_below' HB2.out hb3)
    have HA3 := Lib.hid ((HA2.out.below hb3).mono hb3.size)
    have HSa := Lib.hid (same13_any (Po.landed l1) HOk.out HM2.out Aa Ab ca cb w3 HA3.out hrb)
    clear hb3 hl2 hrb hmb hcb
    go_wp2_with fail
    refine HSa.out.mono ?_
    rintro _ w4 ⟨rfl, hb4⟩
    have HB4 := Lib.hid (two_below' HB3.out hb4)
    clear hb4
    go_wp2_with fail
    go_ret
    exact ⟨rfl, HB4.out⟩
  · obtain ⟨l1, hl1⟩ : ∃ l1, l1 = l := ⟨_, rfl⟩
    rw [← hl1] at hB hl h20 ⊢
    have d20 : decide ((20 : Int) < (l1.length : Int)) = false := by simp; omega
    have h20i : ¬ (20 : Int) < (l1.length : Int) := by omega
    have M1 := Lib.hid (fun W (hW : Below w.heap.size w W) => landed_any A c l1 W ((hB.below hW).mono hW.size) (by omega) (hT.below hW hT.pos))
    have M2 := Lib.hid (fun W (hW : Below w.heap.size w W) => rlanded_any hRS A c l1 W ((hB.below hW).mono hW.size) (by omega))
    have HOk : Hid (∀ x ∈ Po.landed l1, x.2.ok = true) := Lib.hid landed_ok
    generalize l1.length = m at *
    clear hB hT hl1 hcap
    go_enter Tryd.func5, Tryd.ntmps5
    go_wp2_with fail
    clear d20 h20
    refine (AW.out _ (Below.refl _ _)).mono ?_
    rintro _ w1 ⟨rfl, hb1⟩
    have HB1 := Lib.hid hb1
    clear hb1
    go_wp2_with fail
    refine (M1.out _ HB1.out).mono ?_
    rintro _ w2 ⟨⟨v1, rfl, hl1⟩, hb2⟩
    obtain ⟨Aa, ca, rfl, hca, hma, hra⟩ := hl1.read
    have HB2 := Lib.hid (two_below' HB1.out hb2)
    have HA2 := Lib.hid hra
    have HM2 := Lib.hid hma
    clear hb2 hl1 hra hma hca
    go_wp2_with fail
    refine (M2.out _ HB2.out).mono ?_
    rintro _ w3 ⟨⟨v2, rfl, hl2⟩, hb3⟩
    obtain ⟨Ab, cb, rfl, hcb, hmb, hrb⟩ := hl2.read
    have HB3 := Lib.hid (two_below' HB2.out hb3)
    have HA3 := Lib.hid ((HA2.out.below hb3).mono hb3.size)
    have HSa := Lib.hid (same13_any (Po.landed l1) HOk.out HM2.out Aa Ab ca cb w3 HA3.out hrb)
    clear hb3 hl2 hrb hmb hcb
    go_wp2_with fail
    refine HSa.out.mono ?_
    rintro _ w4 ⟨rfl, hb4⟩
    have HB4 := Lib.hid (two_below' HB3.out hb4)
    clear hb4
    go_wp2_with fail
    go_ret
    exact ⟨rfl, HB4.out⟩
theorem boxLands_bvs (hRS : RefSum) (A : Option Addr) (c : Nat) (l : List Bv) (w : World) (hB : BvIn w w.heap.size A c l) (hf : ∀ x ∈ l, x.Fits) (hl : l.length ≤ 9223372036854775807) (hT : Tab w) :
    Calls Tryd.prog 5 #[.slice A l.length c] w fun e w' => e = .returned (.bool true) ∧ Below w.heap.size w w' := by
  have e : (bks l).length = l.length := List.length_map ..
  have := boxLands_any hRS A c (bks l) w (hB.1.bks hf) (by rw [e]; exact hB.2.2) (by rw [e]; exact hl) hT
  rwa [e] at this
end Go.Proofs.YtinciddchpccnaaDoor
