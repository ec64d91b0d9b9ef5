/- Old: what has waited too long is taken out. -/
import Derived.Test.YtoicpidiejhjeaaPlTake
import Derived.Test.YtoicpidiejhjeaaPlPush
namespace Go.Proofs.Ytoicpidiejhjeaa
open Go.RowKit
set_option linter.unusedVariables false
set_option linter.unusedSimpArgs false
set_option maxRecDepth 100000

theorem Pl.filter_take (p : Wt → Bool) (l : List Wt) (k : Nat) (hk : k < l.length) : (l.take (k + 1)).filter p = (l.take k).filter p ++ (if p l[k] = true then [l[k]] else []) := by
  rw [List.take_add_one, List.getElem?_eq_getElem hk, List.filter_append]
  congr 1
  by_cases h : p l[k] = true
  · rw [if_pos h]; simp [h]
  · rw [if_neg h]; simp [h]
theorem Pl.old_take (l : List Wt) (now : Int) (k : Nat) (hk : k < l.length) : Pl.old (l.take (k + 1)) now = if l[k].till < now then Pl.old (l.take k) now ++ [l[k]] else Pl.old (l.take k) now := by
  unfold Pl.old
  rw [Pl.filter_take _ _ _ hk]
  by_cases h : l[k].till < now
  · rw [if_pos h, if_pos (by simpa using h)]
  · rw [if_neg h, if_neg (by simpa using h), List.append_nil]
theorem Pl.young_take (l : List Wt) (now : Int) (k : Nat) (hk : k < l.length) : Pl.young (l.take (k + 1)) now = if l[k].till < now then Pl.young (l.take k) now else Pl.young (l.take k) now ++ [l[k]] := by
  unfold Pl.young
  rw [Pl.filter_take _ _ _ hk]
  by_cases h : l[k].till < now
  · rw [if_pos h, if_neg (by simpa using h), List.append_nil]
  · rw [if_neg h, if_pos (by simpa using h)]
theorem Pl.old_len (l : List Wt) (now : Int) : (Pl.old l now).length ≤ l.length := List.length_filter_le _ _
theorem Pl.young_len (l : List Wt) (now : Int) : (Pl.young l now).length ≤ l.length := List.length_filter_le _ _
/-- what Old makes -/
def OldTo (T : TypeId) (w w' : World) (base B : Nat) (v : Value) (size : Nat) (l : List Wt) (now : Int) (u : Value) : Prop :=
  ∃ v', PAt T w' base B v' size (Pl.young l now) ∧ OwnL w' w.heap.size 38 76 Wt.cells u (Pl.old l now) ∧ Chg (PS B v) w w' ∧ (∀ k, PS B v' k → PS B v k ∨ w.heap.size ≤ k) ∧ ∀ k, u.ownBlock = some k → ¬ PS B v' k
theorem OldTo.of {T : TypeId} {w wr w' : World} {base B size : Nat} {v u v' : Value} {l : List Wt} {now : Int} (h : PAt T w base B v size l) (h2 : TwoW w wr u v' (Pl.old l now) (Pl.young l now)) (hb : B ≤ w.heap.size) (hr : Row w' B T ([.int .i64 size, v].set 1 v')) (hg : wr.grownBy w' (some B)) : OldTo T w w' base B v size l now u := by
  have hB := h.row.lt
  have hu : ∀ k, u.ownBlock = some k → k ≠ B := fun k hk e => by have := (h2.o.lt k hk).1; omega
  have hv : ∀ k, v'.ownBlock = some k → k ≠ B := fun k hk e => by have := (h2.y.lt k hk).1; omega
  have q : ∀ {x : Value} (hx : ∀ k, x.ownBlock = some k → k ≠ B), x.ownBlock = none ∨ x.ownBlock ≠ some B := fun {x} hx => by
    cases hxb : x.ownBlock with
    | none => exact .inl rfl
    | some k => exact .inr (fun e => hx k hxb (by injection e))
  refine ⟨v', ⟨hr, (h2.y.kept hg (q hv)).mono (Nat.le_trans h.lo hb), h.ok.young now, h.size, h.lo⟩, h2.o.kept hg (q hu), ?_, ?_, ?_⟩
  · exact (Chg.of_below h2.below).trans (Chg.of_grown (S := PS B v) hg (fun k hk => by cases hk; exact .inl (.inl rfl))) (fun i hi => .inl hi)
  · rintro k (rfl | hk)
    · exact .inl (.inl rfl)
    · exact .inr (h2.y.lt k hk).1
  · rintro k hk (rfl | hk2)
    · exact hu _ hk rfl
    · exact h2.ap k hk hk2
set_option maxHeartbeats 3200000 in
theorem PAt.old {w : World} {base B size : Nat} {v : Value} {l : List Wt} (now : Int) (h : PAt 63 w base B v size l) :
    Calls Try.prog 13 #[.pointer (some ⟨B, 0, none⟩), .int .i64 now] w fun e w' => ∃ u, e = .returned u ∧ OldTo 63 w w' base B v size l now u := by
  obtain ⟨A, c, rfl, _, _⟩ := h.own.form
  have HA := Lib.hid (h.own.lsAt (Wt.lens h.wok))
  have HW := Lib.hid h.wok
  have hn256 := h.n256
  have HO := Lib.hid (Pl.old_take l now)
  have HY := Lib.hid (Pl.young_take l now)
  have HZ76 := Lib.hid (Wt.cells_len Wt.none_ok)
  have hzv := wait_zv
  have HBs := Lib.hid h.row.lt
  have hcell1 : Hid (∀ W, Below w.heap.size w W → W.cell? ⟨B, 1, none⟩ = some (.slice A l.length c)) := Lib.hid (fun W hW => (h.below hW).c1)
  generalize Wt.none.cells = ZT at *
  obtain ⟨n, hn⟩ : ∃ n, n = l.length := ⟨_, rfl⟩
  have HRow : Hid (∀ W, Below w.heap.size w W → Row W B 63 [.int .i64 size, .slice A n c]) := Lib.hid (fun W hW => by rw [hn]; exact (h.below hW).row)
  rw [← hn] at hn256 hcell1 h ⊢
  have HH := Lib.hid h
  have HN := Lib.hid hn
  have c1 := hcell1.out w (Below.refl _ _)
  clear hn h
  go_enter Try.func13, Try.ntmps13
  go_wp2_with fail
  go_loopw [5, 6, 16] (fun s5 s6 si wr => ∃ k : Nat, k ≤ n ∧ si = .int .i64 k ∧ TwoW w wr s5 s6 (Pl.old (l.take k) now) (Pl.young (l.take k) now)) (fun _ _ i _ => n - (intOf i).toNat)
  case atStart => exact ⟨0, Nat.zero_le _, rfl, TwoW.nil w⟩
  case round =>
    obtain ⟨k, hk, rfl, h2⟩ := hrel
    have H2 := Lib.hid h2
    clear h2 c1
    have c1 := hcell1.out _ H2.out.below
    by_cases hkn : k < n
    · have hki : (k : Int) < (n : Int) := by omega
      have hk0 : (0 : Int) ≤ (k : Int) := by omega
      have hkl : k < l.length := by have := HN.out; omega
      obtain ⟨g, rfl, hg, hat⟩ := HA.out (by intro e; rw [e] at hkl; simp at hkl)
      have HX := Lib.hid (HW.out _ (List.getElem_mem hkl))
      have HC76 := Lib.hid (Wt.cells_len HX.out)
      have HC1 := Lib.hid (Wt.cells_one HX.out)
      have HR : Hid (wr.rangeAt g (k * 76) l[k].cells) := Lib.hid (fun q u hu => (H2.out.below.cell (p := ⟨g, k * 76 + q, none⟩) hg).trans (hat k hkl q u hu))
      have hks := HO.out k hkl
      have hys := HY.out k hkl
      have HL1 : Hid ((Pl.old (l.take k) now).length ≤ 100000) := Lib.hid (Nat.le_trans (Pl.old_len _ _) (by rw [List.length_take]; omega))
      have HL2 : Hid ((Pl.young (l.take k) now).length ≤ 100000) := Lib.hid (Nat.le_trans (Pl.young_len _ _) (by rw [List.length_take]; omega))
      have HBx := Lib.hid (fun W b (hr : Row W b 38 l[k].cells) => (WBox.row HX.out hr).2.2.2.2.1)
      obtain ⟨X, hX⟩ : ∃ X, l[k] = X := ⟨_, rfl⟩
      rw [hX] at HX HC76 HC1 HR HBx hks hys
      obtain ⟨C, hC⟩ : ∃ C, X.cells = C := ⟨_, rfl⟩
      rw [hC] at HC76 HC1 HR HBx
      have HCx := Lib.hid hC
      obtain ⟨tl, htl⟩ : ∃ tl, X.till = tl := ⟨_, rfl⟩
      rw [htl] at HBx hks hys
      clear hat hX hC htl
      by_cases ht : tl < now
      · have dt : decide (tl < now) = true := decide_eq_true ht
        rw [if_pos ht] at hks hys
        have HKS := Lib.hid hks
        have HYS := Lib.hid hys
        clear hks hys ht
        go_wp2_with (first
          | ((with_reducible show wpList _ _ _ (⟨_, .load 38 (.tmp 18), _, _, _, _⟩ :: _) _ _); refine wpList_load_tx rfl 38 (.tmp 18) rfl g (k * 76) (rfl) C _ (HR.out) Try.underlying38 rfl (by rw [wait_info, HC76.out]) ?_)
          | (
             with_reducible show wpList _ _ _ (⟨_, .store 38 (.tmp 8) _, _, _, _, _⟩ :: _) _ _
             refine wpList_store_at rfl 38 (.tmp 8) (.tmp 19) rfl wr.heap.size 0 C ZT _ rfl rfl (Row.new wr 38 ZT) (by have := HZ76.out; have := HC76.out; omega) (by rw [wait_info, HC76.out]) HC1.out ?_
             intro w4 hr hg
             rw [splice_all (HC76.out.trans HZ76.out.symm)] at hr
             have hbx := below_own ((Below.refl wr.heap.size wr).alloc (Nat.le_refl _) (.cells ZT.toArray 38)) hg (fun k hk => by cases hk; exact Nat.le_refl _)
             have H4 := Lib.hid (H2.out.step hbx)
             have HR4 := Lib.hid hr
             have d4 := HBx.out _ _ hr
             clear hbx
             clear hr hg)
          | ((with_reducible show wpList _ _ _ (⟨_, .load 38 (.tmp 8), _, _, _, _⟩ :: _) _ _); refine wpList_load_tx rfl 38 (.tmp 8) rfl wr.heap.size 0 (rfl) C _ (row_range HR4.out) Try.underlying38 rfl (by rw [wait_info, HC76.out]) ?_)
          | ((with_reducible show wpList _ _ _ (⟨some 26, .buildSlice 30 _ _, _, _, _, _⟩ :: _) _ _)
             refine wpList_push rfl rfl (.tmp 25) 26 (.tmp 24) rfl rfl rfl (X) (HX.out) C (HCx.out) rfl (w.heap.size) _ _ (H4.out.o) (H4.out.below.size) (HL1.out) rfl rfl ?_
             intro v9 w9 ho9 hc9 hk9
             have H5 := Lib.hid (H4.out.pushO ho9 hc9 hk9)
             clear ho9 hc9 hk9))
        exact ⟨⟨k + 1, by omega, by go_num, by rw [HKS.out, HYS.out]; exact H5.out⟩, by simp [intOf]; omega⟩
      · have dt : decide (tl < now) = false := decide_eq_false ht
        rw [if_neg ht] at hks hys
        have HKS := Lib.hid hks
        have HYS := Lib.hid hys
        clear hks hys ht
        go_wp2_with (first
          | ((with_reducible show wpList _ _ _ (⟨_, .load 38 (.tmp 18), _, _, _, _⟩ :: _) _ _); refine wpList_load_tx rfl 38 (.tmp 18) rfl g (k * 76) (rfl) C _ (HR.out) Try.underlying38 rfl (by rw [wait_info, HC76.out]) ?_)
          | (
             with_reducible show wpList _ _ _ (⟨_, .store 38 (.tmp 8) _, _, _, _, _⟩ :: _) _ _
             refine wpList_store_at rfl 38 (.tmp 8) (.tmp 19) rfl wr.heap.size 0 C ZT _ rfl rfl (Row.new wr 38 ZT) (by have := HZ76.out; have := HC76.out; omega) (by rw [wait_info, HC76.out]) HC1.out ?_
             intro w4 hr hg
             rw [splice_all (HC76.out.trans HZ76.out.symm)] at hr
             have hbx := below_own ((Below.refl wr.heap.size wr).alloc (Nat.le_refl _) (.cells ZT.toArray 38)) hg (fun k hk => by cases hk; exact Nat.le_refl _)
             have H4 := Lib.hid (H2.out.step hbx)
             have HR4 := Lib.hid hr
             have d4 := HBx.out _ _ hr
             clear hbx
             clear hr hg)
          | ((with_reducible show wpList _ _ _ (⟨_, .load 38 (.tmp 8), _, _, _, _⟩ :: _) _ _); refine wpList_load_tx rfl 38 (.tmp 8) rfl wr.heap.size 0 (rfl) C _ (row_range HR4.out) Try.underlying38 rfl (by rw [wait_info, HC76.out]) ?_)
          | ((with_reducible show wpList _ _ _ (⟨some 30, .buildSlice 30 _ _, _, _, _, _⟩ :: _) _ _)
             refine wpList_push rfl rfl (.tmp 29) 30 (.tmp 28) rfl rfl rfl (X) (HX.out) C (HCx.out) rfl (w.heap.size) _ _ (H4.out.y) (H4.out.below.size) (HL2.out) rfl rfl ?_
             intro v9 w9 ho9 hc9 hk9
             have H5 := Lib.hid (H4.out.pushY ho9 hc9 hk9)
             clear ho9 hc9 hk9))
        exact ⟨⟨k + 1, by omega, by go_num, by rw [HKS.out, HYS.out]; exact H5.out⟩, by simp [intOf]; omega⟩
    · have hki : ¬ (k : Int) < (n : Int) := by omega
      have hke : l.take k = l := List.take_of_length_le (by have := HN.out; omega)
      rw [hke] at H2
      have HRw := Lib.hid (HRow.out _ H2.out.below)
      obtain ⟨A2, c2, hs6, _, _⟩ := H2.out.y.form
      obtain ⟨n2, hn2⟩ : ∃ n2, (Pl.young l now).length = n2 := ⟨_, rfl⟩
      rw [hn2] at hs6
      subst hs6
      clear hkn hke hn2
      go_wp2_with (first
        | ((with_reducible show wpList _ _ _ (⟨_, .store 30 _ _, _, _, _, _⟩ :: _) _ _)
           refine wpList_store_sl rfl 30 (.tmp 36) (.tmp 34) rfl B 1 63 [.int .i64 size, .slice A n c] A2 n2 c2 rfl rfl (HRw.out) (by simp) rfl ?_
           intro w8 hr8 hg8
           have HF8 := Lib.hid (OldTo.of HH.out H2.out (Nat.le_of_lt HBs.out) hr8 hg8)
           clear hr8 hg8))
      go_ret
      exact ⟨_, rfl, HF8.out⟩
set_option maxHeartbeats 3200000 in
theorem PAt.rold {w : World} {base B size : Nat} {v : Value} {l : List Wt} (now : Int) (h : PAt 32 w base B v size l) :
    Calls Try.prog 14 #[.pointer (some ⟨B, 0, none⟩), .int .i64 now] w fun e w' => ∃ u, e = .returned u ∧ OldTo 32 w w' base B v size l now u := by
  obtain ⟨A, c, rfl, _, _⟩ := h.own.form
  have HA := Lib.hid (h.own.lsAt (Wt.lens h.wok))
  have HW := Lib.hid h.wok
  have hn256 := h.n256
  have HO := Lib.hid (Pl.old_take l now)
  have HY := Lib.hid (Pl.young_take l now)
  have HZ76 := Lib.hid (Wt.cells_len Wt.none_ok)
  have hzv := wait_zv
  have HBs := Lib.hid h.row.lt
  have hcell1 : Hid (∀ W, Below w.heap.size w W → W.cell? ⟨B, 1, none⟩ = some (.slice A l.length c)) := Lib.hid (fun W hW => (h.below hW).c1)
  generalize Wt.none.cells = ZT at *
  obtain ⟨n, hn⟩ : ∃ n, n = l.length := ⟨_, rfl⟩
  have HRow : Hid (∀ W, Below w.heap.size w W → Row W B 32 [.int .i64 size, .slice A n c]) := Lib.hid (fun W hW => by rw [hn]; exact (h.below hW).row)
  rw [← hn] at hn256 hcell1 h ⊢
  have HH := Lib.hid h
  have HN := Lib.hid hn
  have c1 := hcell1.out w (Below.refl _ _)
  clear hn h
  go_enter Try.func14, Try.ntmps14
  go_wp2_with fail
  go_loopw [5, 6, 7] (fun s5 s6 si wr => ∃ k : Nat, k ≤ n ∧ si = .int .i64 k ∧ TwoW w wr s5 s6 (Pl.old (l.take k) now) (Pl.young (l.take k) now)) (fun _ _ i _ => n - (intOf i).toNat)
  case atStart => exact ⟨0, Nat.zero_le _, rfl, TwoW.nil w⟩
  case round =>
    obtain ⟨k, hk, rfl, h2⟩ := hrel
    have H2 := Lib.hid h2
    clear h2 c1
    have c1 := hcell1.out _ H2.out.below
    by_cases hkn : k < n
    · have hki : (k : Int) < (n : Int) := by omega
      have hk0 : (0 : Int) ≤ (k : Int) := by omega
      have hkl : k < l.length := by have := HN.out; omega
      obtain ⟨g, rfl, hg, hat⟩ := HA.out (by intro e; rw [e] at hkl; simp at hkl)
      have HX := Lib.hid (HW.out _ (List.getElem_mem hkl))
      have HC76 := Lib.hid (Wt.cells_len HX.out)
      have HC1 := Lib.hid (Wt.cells_one HX.out)
      have HR : Hid (wr.rangeAt g (k * 76) l[k].cells) := Lib.hid (fun q u hu => (H2.out.below.cell (p := ⟨g, k * 76 + q, none⟩) hg).trans (hat k hkl q u hu))
      have hks := HO.out k hkl
      have hys := HY.out k hkl
      have HL1 : Hid ((Pl.old (l.take k) now).length ≤ 100000) := Lib.hid (Nat.le_trans (Pl.old_len _ _) (by rw [List.length_take]; omega))
      have HL2 : Hid ((Pl.young (l.take k) now).length ≤ 100000) := Lib.hid (Nat.le_trans (Pl.young_len _ _) (by rw [List.length_take]; omega))
      have d4 : wr.cell? ⟨g, k * 76 + 73, none⟩ = some (.int .i64 l[k].till) := (WBox.of HX.out HR.out).2.2.2.2.1
      obtain ⟨X, hX⟩ : ∃ X, l[k] = X := ⟨_, rfl⟩
      rw [hX] at HX HC76 HC1 HR d4 hks hys
      obtain ⟨C, hC⟩ : ∃ C, X.cells = C := ⟨_, rfl⟩
      rw [hC] at HC76 HC1 HR
      have HCx := Lib.hid hC
      obtain ⟨tl, htl⟩ : ∃ tl, X.till = tl := ⟨_, rfl⟩
      rw [htl] at d4 hks hys
      clear hat hX hC htl
      by_cases ht : tl < now
      · have dt : decide (tl < now) = true := decide_eq_true ht
        rw [if_pos ht] at hks hys
        have HKS := Lib.hid hks
        have HYS := Lib.hid hys
        clear hks hys ht
        go_wp2_with (first
          | ((with_reducible show wpList _ _ _ (⟨_, .load 38 (.tmp 33), _, _, _, _⟩ :: _) _ _); refine wpList_load_tx rfl 38 (.tmp 33) rfl g (k * 76) (by first | rfl | simp) C _ (HR.out) Try.underlying38 rfl (by rw [wait_info, HC76.out]) ?_)
          | ((with_reducible show wpList _ _ _ (⟨_, .load 38 (.tmp 43), _, _, _, _⟩ :: _) _ _); refine wpList_load_tx rfl 38 (.tmp 43) rfl g (k * 76) (by first | rfl | simp) C _ (HR.out) Try.underlying38 rfl (by rw [wait_info, HC76.out]) ?_)
          | ((with_reducible show wpList _ _ _ (⟨some 35, .buildSlice 30 _ _, _, _, _, _⟩ :: _) _ _)
             refine wpList_push rfl rfl (.tmp 34) 35 (.tmp 27) rfl rfl rfl (X) (HX.out) C (HCx.out) rfl (w.heap.size) _ _ (H2.out.o) (H2.out.below.size) (HL1.out) rfl rfl ?_
             intro v9 w9 ho9 hc9 hk9
             have H5 := Lib.hid (H2.out.pushO ho9 hc9 hk9)
             clear ho9 hc9 hk9))
        exact ⟨⟨k + 1, by omega, by go_num, by rw [HKS.out, HYS.out]; exact H5.out⟩, by simp [intOf]; omega⟩
      · have dt : decide (tl < now) = false := decide_eq_false ht
        rw [if_neg ht] at hks hys
        have HKS := Lib.hid hks
        have HYS := Lib.hid hys
        clear hks hys ht
        go_wp2_with (first
          | ((with_reducible show wpList _ _ _ (⟨_, .load 38 (.tmp 33), _, _, _, _⟩ :: _) _ _); refine wpList_load_tx rfl 38 (.tmp 33) rfl g (k * 76) (by first | rfl | simp) C _ (HR.out) Try.underlying38 rfl (by rw [wait_info, HC76.out]) ?_)
          | ((with_reducible show wpList _ _ _ (⟨_, .load 38 (.tmp 43), _, _, _, _⟩ :: _) _ _); refine wpList_load_tx rfl 38 (.tmp 43) rfl g (k * 76) (by first | rfl | simp) C _ (HR.out) Try.underlying38 rfl (by rw [wait_info, HC76.out]) ?_)
          | ((with_reducible show wpList _ _ _ (⟨some 45, .buildSlice 30 _ _, _, _, _, _⟩ :: _) _ _)
             refine wpList_push rfl rfl (.tmp 44) 45 (.tmp 37) rfl rfl rfl (X) (HX.out) C (HCx.out) rfl (w.heap.size) _ _ (H2.out.y) (H2.out.below.size) (HL2.out) rfl rfl ?_
             intro v9 w9 ho9 hc9 hk9
             have H5 := Lib.hid (H2.out.pushY ho9 hc9 hk9)
             clear ho9 hc9 hk9))
        exact ⟨⟨k + 1, by omega, by go_num, by rw [HKS.out, HYS.out]; exact H5.out⟩, by simp [intOf]; omega⟩
    · have hki : ¬ (k : Int) < (n : Int) := by omega
      have hke : l.take k = l := List.take_of_length_le (by have := HN.out; omega)
      rw [hke] at H2
      have HRw := Lib.hid (HRow.out _ H2.out.below)
      obtain ⟨A2, c2, hs6, _, _⟩ := H2.out.y.form
      obtain ⟨n2, hn2⟩ : ∃ n2, (Pl.young l now).length = n2 := ⟨_, rfl⟩
      rw [hn2] at hs6
      subst hs6
      clear hkn hke hn2
      go_wp2_with (first
        | ((with_reducible show wpList _ _ _ (⟨_, .store 30 _ _, _, _, _, _⟩ :: _) _ _)
           refine wpList_store_sl rfl 30 (.tmp 50) (.tmp 48) rfl B 1 32 [.int .i64 size, .slice A n c] A2 n2 c2 rfl rfl (HRw.out) (by simp) rfl ?_
           intro w8 hr8 hg8
           have HF8 := Lib.hid (OldTo.of HH.out H2.out (Nat.le_of_lt HBs.out) hr8 hg8)
           clear hr8 hg8))
      go_ret
      exact ⟨_, rfl, HF8.out⟩
end Go.Proofs.Ytoicpidiejhjeaa
