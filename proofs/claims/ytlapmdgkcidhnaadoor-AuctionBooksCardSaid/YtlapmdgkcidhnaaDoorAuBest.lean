/- best: the place of the first of a list than which none is better. -/
import Derived.Test.YtlapmdgkcidhnaaDoorAuEn
import Derived.WalkMore
namespace Go.Proofs.YtlapmdgkcidhnaaDoor
open Go.RowKit
set_option linter.unusedVariables false
set_option linter.unusedSimpArgs false
set_option maxRecDepth 100000

/-- a list of structs in memory -/
def LsAt {α : Type} (f : α → List Value) (m : Nat) (w : World) (B : Nat) (A : Option Addr) (l : List α) : Prop := l ≠ [] → ∃ g, A = some ⟨g, 0, none⟩ ∧ g < B ∧ ∀ i (h : i < l.length), w.rangeAt g (i * m) (f l[i])
theorem LsAt.below {α : Type} {f : α → List Value} {m : Nat} {w w' : World} {B : Nat} {A : Option Addr} {l : List α} (h : LsAt f m w B A l) (hb : Below B w w') : LsAt f m w' B A l := fun hne => by
  obtain ⟨g, e, hg, ha⟩ := h hne
  exact ⟨g, e, hg, fun i hi j v hv => (hb.cell (p := ⟨g, i * m + j, none⟩) hg).trans (ha i hi j v hv)⟩
theorem LsAt.mono {α : Type} {f : α → List Value} {m : Nat} {w : World} {B B' : Nat} {A : Option Addr} {l : List α} (h : LsAt f m w B A l) (hB : B ≤ B') : LsAt f m w B' A l := fun hne => by
  obtain ⟨g, e, hg, ha⟩ := h hne
  exact ⟨g, e, by omega, ha⟩
theorem OwnL.lsAt {α : Type} {f : α → List Value} {m : Nat} {w : World} {base : Nat} {e : TypeId} {A : Option Addr} {n c : Nat} {l : List α} (h : OwnL w base e m f (.slice A n c) l) (hm : ∀ x ∈ l, (f x).length = m) : LsAt f m w w.heap.size A l := fun hne => by
  obtain ⟨g, c', e1, hb, hg⟩ := h.ne hne
  injection e1 with e1 e2 e3
  subst e1
  exact ⟨g, rfl, hg, fun i hi => h.at hm i hi⟩
def Au.enZ : List Value := Bd.zero.cells ++ ((bRow Tx.zero).toList ++ [S []])
theorem Au.enZ_len : Au.enZ.length = 69 := by
  unfold Au.enZ
  rw [List.length_append, List.length_append, Bd.cells_len rfl, Tx.bRow_len _ rfl]
  rfl
theorem Au.enZ_one : ∀ v ∈ Au.enZ, v.oneCell' = true := by
  intro v hv
  unfold Au.enZ at hv
  rcases List.mem_append.1 hv with h1 | h1
  · exact Bd.cells_one rfl v h1
  · rcases List.mem_append.1 h1 with h2 | h2
    · exact hash_one _ rfl v h2
    · simp at h2; subst h2; rfl
theorem en_zv (W : World) : (zeroValue 97).run Tryd.prog W = .ok (.agg Au.enZ.toArray) W := by kernel_rfl
set_option maxHeartbeats 3200000 in
theorem best_any (l : List Bd) (hl : ∀ b ∈ l, b.tag.length = 32) (A : Option Addr) (c : Nat) (w : World) (hA : LsAt Au.en 69 w w.heap.size A l) (hn0 : l.length ≤ 1000000) :
    Calls Tryd.prog 47 #[.slice A l.length c, .func (.func 48) #[] #[]] w fun e w' => e = .returned (.int .i64 (Au.place (Au.best Au.hi Bd.zero l))) ∧ Below w.heap.size w w' := by
  obtain ⟨n, hn⟩ : ∃ n, n = l.length := ⟨_, rfl⟩
  have hL : ∀ k, k < n → (l.getD k Bd.zero).tag.length = 32 := fun k hk => hl _ (Au.getD_mem (by omega))
  have hA2 : ∀ k, k < n → ∃ g, A = some ⟨g, 0, none⟩ ∧ g < w.heap.size ∧ ∀ i, i < n → w.rangeAt g (i * 69) (Au.en (l.getD i Bd.zero)) := fun k hk => by
    obtain ⟨g, e, hg, ha⟩ := hA (by intro e; rw [e] at hn; simp at hn; omega)
    refine ⟨g, e, hg, fun i hi => ?_⟩
    rw [List.getD_eq_getElem?_getD, List.getElem?_eq_getElem (by omega)]
    exact ha i (by omega)
  have hb : ∀ k, Au.bestTo Au.hi Bd.zero l (k + 1) = Au.step Au.hi Bd.zero l k (Au.bestTo Au.hi Bd.zero l k) := fun k => rfl
  have hbl : ∀ k a, Au.bestTo Au.hi Bd.zero l k = some a → a < k := fun k a h => Au.bestTo_lt h
  have hb0 : Au.bestTo Au.hi Bd.zero l 0 = none := rfl
  have hbe : Au.best Au.hi Bd.zero l = Au.bestTo Au.hi Bd.zero l n := by unfold Au.best; rw [hn]
  rw [hbe, ← hn]
  rw [← hn] at hn0
  unfold Au.step at hb
  obtain ⟨T, hT⟩ : ∃ T, T = Au.bestTo Au.hi Bd.zero l := ⟨_, rfl⟩
  rw [← hT] at hb hbl hb0 ⊢
  obtain ⟨X, hX⟩ : ∃ X : Nat → Bd, X = fun k => l.getD k Bd.zero := ⟨_, rfl⟩
  have hX2 : ∀ k, l.getD k Bd.zero = X k := fun k => by rw [hX]
  simp only [hX2] at hL hA2 hb
  have HL := Lib.hid hL
  have HA := Lib.hid hA2
  have HB := Lib.hid hb
  have HBL := Lib.hid hbl
  have HB0 := Lib.hid hb0
  have HZ69 := Lib.hid Au.enZ_len
  have hzv := en_zv
  clear hL hA2 hb hbl hb0 hbe hT hX hX2 hA hl hn
  generalize Au.enZ = ZE at *
  go_enter Tryd.func47, Tryd.ntmps47
  go_wp2_with fail
  go_loopw [5, 10] (fun s5 s10 wr => ∃ k : Nat, k ≤ n ∧ s10 = .int .i64 k ∧ s5 = .int .i64 (Au.place (T k)) ∧ Below w.heap.size w wr) (fun _ i _ => n - (intOf i).toNat)
  case atStart => exact ⟨0, Nat.zero_le _, rfl, (by rw [HB0.out]; try rfl), Below.refl _ _⟩
  case round =>
    obtain ⟨k, hk, rfl, rfl, hbr⟩ := hrel
    have Hbr := Lib.hid hbr
    clear hbr
    by_cases hkn : k < n
    · have hki : (k : Int) < (n : Int) := by omega
      have hk0 : (0 : Int) ≤ (k : Int) := by omega
      obtain ⟨g, rfl, hg, hat⟩ := HA.out k hkn
      have HRg : Hid (∀ i, i < n → ∀ W, Below w.heap.size w W → W.rangeAt g (i * 69) (Au.en (X i))) := Lib.hid (fun i hi W hW j u hu => (hW.cell (p := ⟨g, i * 69 + j, none⟩) hg).trans (hat i hi j u hu))
      have HTk := Lib.hid (HL.out k hkn)
      have HK69 := Lib.hid (Au.en_len HTk.out)
      have HK1 := Lib.hid (Au.en_one HTk.out)
      have HRr := Lib.hid (HRg.out k hkn _ Hbr.out)
      have Hnew := Lib.hid (Row.new wr 97 ZE)
      have hbk := HB.out k
      obtain ⟨CK, hCK⟩ : ∃ CK, Au.en (X k) = CK := ⟨_, rfl⟩
      rw [hCK] at HK69 HK1 HRr
      have HCK := Lib.hid hCK
      clear hCK hat
      rcases hc : T k with _ | a
      · rw [hc] at hbk
        have HT1 : Hid (T (k + 1) = some k) := Lib.hid hbk
        clear hbk hc
        unfold Au.place
        simp only
        go_wp2_with (first
          | ((with_reducible show wpList _ _ _ (⟨_, .load 97 (.tmp 13), _, _, _, _⟩ :: _) _ _); refine wpList_load_tx rfl 97 (.tmp 13) rfl g (k * 69) (by first | rfl | simp) CK _ (HRr.out) Tryd.underlying97 rfl (by rw [entry_size, HK69.out]) ?_)
          | (
             with_reducible show wpList _ _ _ (⟨_, .store 97 (.tmp 7) _, _, _, _, _⟩ :: _) _ _
             refine wpList_store_at rfl 97 (.tmp 7) (.tmp 14) rfl wr.heap.size 0 CK ZE _ rfl rfl (Hnew.out) (by have := HZ69.out; have := HK69.out; omega) (by rw [entry_size, HK69.out]) HK1.out ?_
             intro w4 hr hg
             rw [splice_all (HK69.out.trans HZ69.out.symm)] at hr
             have Hr4 := Lib.hid hr
             have Hb4 := Lib.hid (below_own (two_below' Hbr.out ((Below.refl _ _).alloc (Nat.le_refl _) _)) hg (fun k hk => by cases hk; exact Hbr.out.size))
             clear hr hg))
        go_quiet (fail)
        go_wp2_with fail
        exact ⟨⟨k + 1, by omega, by go_num, by rw [HT1.out] <;> rfl, two_below' Hb4.out (below_drewN' (Below.refl _ _) _)⟩, by simp [intOf]; omega⟩
      · have ha := HBL.out k a hc
        have HTa := Lib.hid (HL.out a (by omega))
        have HA69 := Lib.hid (Au.en_len HTa.out)
        have HRa0 := Lib.hid (HRg.out a (by omega))
        have hhi := fun W => higher_any (X k) (X a) HTk.out HTa.out W
        obtain ⟨bb, hbb⟩ : ∃ bb, bb = Au.hi (X k) (X a) := ⟨_, rfl⟩
        rw [← hbb] at hhi
        rw [hc] at hbk
        simp only at hbk
        rw [← hbb] at hbk
        obtain ⟨CA, hCA⟩ : ∃ CA, Au.en (X a) = CA := ⟨_, rfl⟩
        rw [HCK.out, hCA] at hhi
        rw [hCA] at HA69 HRa0
        have HHI := Lib.hid hhi
        have ha0 : ¬ (a : Int) < 0 := by omega
        have da0 : decide ((a : Int) < 0) = false := by simp
        have hai : (a : Int) < (n : Int) := by omega
        have han : a < n := by omega
        have HBK := Lib.hid hbk
        clear hbk hc hhi hbb hCA
        unfold Au.place
        simp only
        go_wp2_with (first
          | ((with_reducible show wpList _ _ _ (⟨_, .load 97 (.tmp 13), _, _, _, _⟩ :: _) _ _); refine wpList_load_tx rfl 97 (.tmp 13) rfl g (k * 69) (by first | rfl | simp) CK _ (HRr.out) Tryd.underlying97 rfl (by rw [entry_size, HK69.out]) ?_)
          | (
             with_reducible show wpList _ _ _ (⟨_, .store 97 (.tmp 7) _, _, _, _, _⟩ :: _) _ _
             refine wpList_store_at rfl 97 (.tmp 7) (.tmp 14) rfl wr.heap.size 0 CK ZE _ rfl rfl (Hnew.out) (by have := HZ69.out; have := HK69.out; omega) (by rw [entry_size, HK69.out]) HK1.out ?_
             intro w4 hr hg
             rw [splice_all (HK69.out.trans HZ69.out.symm)] at hr
             have Hr4 := Lib.hid hr
             have Hb4 := Lib.hid (below_own (two_below' Hbr.out ((Below.refl _ _).alloc (Nat.le_refl _) _)) hg (fun k hk => by cases hk; exact Hbr.out.size))
             clear hr hg))
        have HRk : Hid (∀ W, Below w4.heap.size w4 W → W.rangeAt wr.heap.size 0 CK) := Lib.hid (fun W hW => row_range (Hr4.out.below hW))
        have HRa : Hid (∀ W, Below w4.heap.size w4 W → W.rangeAt g (a * 69) CA) := Lib.hid (fun W hW => HRa0.out _ (two_below' Hb4.out hW))
        generalize wr.heap.size = gb at *
        cases bb with
        | true =>
          have HT1 : Hid (T (k + 1) = some k) := Lib.hid HBK.out
          clear HBK
          refine wp_region_held_drew (S := fun w' => Below w4.heap.size w4 w') (by kernel_rfl) ((Below.refl _ _).drew) (fun hHeld => ?_)
          generalize w4.drew = wq at *
          refine wpAnyH_take (i := 0) (v := .int .i64 a) rfl (by kernel_rfl) (by kernel_rfl) (by kernel_rfl) (fun _ _ _ h => h) (Or.inl ⟨by rfl, fun w' hSw => by go_simp⟩) hHeld ?_
          try simp only [Act.put, List.getElem_toArray, List.getElem_cons_succ, List.getElem_cons_zero, List.setIfInBounds_toArray, List.set_cons_zero, List.set_cons_succ]
          refine wpAnyH_take (i := 1) (v := .bool false) rfl (by kernel_rfl) (by kernel_rfl) (by kernel_rfl) (fun _ _ _ h => h) (Or.inl ⟨by rfl, fun w' hSw => by go_simp⟩) hHeld ?_
          try simp only [Act.put, List.getElem_toArray, List.getElem_cons_succ, List.getElem_cons_zero, List.setIfInBounds_toArray, List.set_cons_zero, List.set_cons_succ]
          refine wpAnyH_take (i := 2) (v := .bool false) rfl (by kernel_rfl) (by kernel_rfl) (by kernel_rfl) (fun _ _ _ h => h) (Or.inl ⟨by rfl, fun w' hSw => by go_simp⟩) hHeld ?_
          try simp only [Act.put, List.getElem_toArray, List.getElem_cons_succ, List.getElem_cons_zero, List.setIfInBounds_toArray, List.set_cons_zero, List.set_cons_succ]
          refine wpAnyH_take (i := 3) (v := .func (.func 48) #[] #[]) rfl (by kernel_rfl) (by kernel_rfl) (by kernel_rfl) (fun _ _ _ h => h) (Or.inl ⟨by rfl, fun w' hSw => by go_simp⟩) hHeld ?_
          try simp only [Act.put, List.getElem_toArray, List.getElem_cons_succ, List.getElem_cons_zero, List.setIfInBounds_toArray, List.set_cons_zero, List.set_cons_succ]
          refine' wpAnyH_take (i := 4) (v := _) rfl (by kernel_rfl) (by kernel_rfl) (by kernel_rfl) (fun _ _ _ h => h) (yieldsIf_load_mid (by rfl) _ _ rfl gb 0 rfl CK _ (fun w' hSw => HRk.out _ hSw) Tryd.underlying97 rfl (by rw [entry_size, HK69.out])) hHeld ?_
          try simp only [Act.put, List.getElem_toArray, List.getElem_cons_succ, List.getElem_cons_zero, List.setIfInBounds_toArray, List.set_cons_zero, List.set_cons_succ]
          refine wpAnyH_take (i := 5) (v := .slice (some ⟨g, 0, none⟩) n c) rfl (by kernel_rfl) (by kernel_rfl) (by kernel_rfl) (fun _ _ _ h => h) (Or.inl ⟨by rfl, fun w' hSw => by go_simp⟩) hHeld ?_
          try simp only [Act.put, List.getElem_toArray, List.getElem_cons_succ, List.getElem_cons_zero, List.setIfInBounds_toArray, List.set_cons_zero, List.set_cons_succ]
          refine wpAnyH_take (i := 6) (v := .int .i64 a) rfl (by kernel_rfl) (by kernel_rfl) (by kernel_rfl) (fun _ _ _ h => h) (Or.inl ⟨by rfl, fun w' hSw => by go_simp⟩) hHeld ?_
          try simp only [Act.put, List.getElem_toArray, List.getElem_cons_succ, List.getElem_cons_zero, List.setIfInBounds_toArray, List.set_cons_zero, List.set_cons_succ]
          refine wpAnyH_take (i := 7) (v := .pointer (some ⟨g, (a * 69), none⟩)) rfl (by kernel_rfl) (by kernel_rfl) (by kernel_rfl) (fun _ _ _ h => h) (Or.inl ⟨by rfl, fun w' hSw => by go_simp⟩) hHeld ?_
          try simp only [Act.put, List.getElem_toArray, List.getElem_cons_succ, List.getElem_cons_zero, List.setIfInBounds_toArray, List.set_cons_zero, List.set_cons_succ]
          refine' wpAnyH_take (i := 8) (v := _) rfl (by kernel_rfl) (by kernel_rfl) (by kernel_rfl) (fun _ _ _ h => h) (yieldsIf_load_mid (by rfl) _ _ rfl g (a * 69) rfl CA _ (fun w' hSw => HRa.out _ hSw) Tryd.underlying97 rfl (by rw [entry_size, HA69.out])) hHeld ?_
          try simp only [Act.put, List.getElem_toArray, List.getElem_cons_succ, List.getElem_cons_zero, List.setIfInBounds_toArray, List.set_cons_zero, List.set_cons_succ]
          refine wpAnyH_ready (rs := [9]) (by kernel_rfl) (by simp) (AllReadyH.cons rfl (fun K1 hK1 => ?_) AllReadyH.nil)
          try simp only [Act.put, List.getElem_toArray, List.getElem_cons_succ, List.getElem_cons_zero, List.setIfInBounds_toArray, List.set_cons_zero, List.set_cons_succ]
          go_simp
          refine Calls.mono (HHI.out wq) ?_
          rintro e wc1 ⟨rfl, hc2⟩
          refine hK1.out _ _ (two_below' hHeld hc2) (fun hHeld => ?_)
          clear hK1 K1
          try simp only [Act.put, List.getElem_toArray, List.getElem_cons_succ, List.getElem_cons_zero, List.setIfInBounds_toArray, List.set_cons_zero, List.set_cons_succ]
          refine wpAnyH_take (i := 10) (v := .bool true) rfl (by kernel_rfl) (by kernel_rfl) (by kernel_rfl) (fun _ _ _ h => h) (Or.inl ⟨by rfl, fun w' hSw => by go_simp⟩) hHeld ?_
          try simp only [Act.put, List.getElem_toArray, List.getElem_cons_succ, List.getElem_cons_zero, List.setIfInBounds_toArray, List.set_cons_zero, List.set_cons_succ]
          refine wpAnyH_done (by kernel_rfl) ?_ _
          have HB9 := Lib.hid (two_below' Hb4.out hHeld)
          clear hHeld
          go_wp2_with fail
          exact ⟨⟨k + 1, by omega, by go_num, by rw [HT1.out] <;> rfl, HB9.out⟩, by simp [intOf]; omega⟩
        | false =>
          have HT1 : Hid (T (k + 1) = some a) := Lib.hid HBK.out
          clear HBK
          refine wp_region_held_drew (S := fun w' => Below w4.heap.size w4 w') (by kernel_rfl) ((Below.refl _ _).drew) (fun hHeld => ?_)
          generalize w4.drew = wq at *
          refine wpAnyH_take (i := 0) (v := .int .i64 a) rfl (by kernel_rfl) (by kernel_rfl) (by kernel_rfl) (fun _ _ _ h => h) (Or.inl ⟨by rfl, fun w' hSw => by go_simp⟩) hHeld ?_
          try simp only [Act.put, List.getElem_toArray, List.getElem_cons_succ, List.getElem_cons_zero, List.setIfInBounds_toArray, List.set_cons_zero, List.set_cons_succ]
          refine wpAnyH_take (i := 1) (v := .bool false) rfl (by kernel_rfl) (by kernel_rfl) (by kernel_rfl) (fun _ _ _ h => h) (Or.inl ⟨by rfl, fun w' hSw => by go_simp⟩) hHeld ?_
          try simp only [Act.put, List.getElem_toArray, List.getElem_cons_succ, List.getElem_cons_zero, List.setIfInBounds_toArray, List.set_cons_zero, List.set_cons_succ]
          refine wpAnyH_take (i := 2) (v := .bool false) rfl (by kernel_rfl) (by kernel_rfl) (by kernel_rfl) (fun _ _ _ h => h) (Or.inl ⟨by rfl, fun w' hSw => by go_simp⟩) hHeld ?_
          try simp only [Act.put, List.getElem_toArray, List.getElem_cons_succ, List.getElem_cons_zero, List.setIfInBounds_toArray, List.set_cons_zero, List.set_cons_succ]
          refine wpAnyH_take (i := 3) (v := .func (.func 48) #[] #[]) rfl (by kernel_rfl) (by kernel_rfl) (by kernel_rfl) (fun _ _ _ h => h) (Or.inl ⟨by rfl, fun w' hSw => by go_simp⟩) hHeld ?_
          try simp only [Act.put, List.getElem_toArray, List.getElem_cons_succ, List.getElem_cons_zero, List.setIfInBounds_toArray, List.set_cons_zero, List.set_cons_succ]
          refine' wpAnyH_take (i := 4) (v := _) rfl (by kernel_rfl) (by kernel_rfl) (by kernel_rfl) (fun _ _ _ h => h) (yieldsIf_load_mid (by rfl) _ _ rfl gb 0 rfl CK _ (fun w' hSw => HRk.out _ hSw) Tryd.underlying97 rfl (by rw [entry_size, HK69.out])) hHeld ?_
          try simp only [Act.put, List.getElem_toArray, List.getElem_cons_succ, List.getElem_cons_zero, List.setIfInBounds_toArray, List.set_cons_zero, List.set_cons_succ]
          refine wpAnyH_take (i := 5) (v := .slice (some ⟨g, 0, none⟩) n c) rfl (by kernel_rfl) (by kernel_rfl) (by kernel_rfl) (fun _ _ _ h => h) (Or.inl ⟨by rfl, fun w' hSw => by go_simp⟩) hHeld ?_
          try simp only [Act.put, List.getElem_toArray, List.getElem_cons_succ, List.getElem_cons_zero, List.setIfInBounds_toArray, List.set_cons_zero, List.set_cons_succ]
          refine wpAnyH_take (i := 6) (v := .int .i64 a) rfl (by kernel_rfl) (by kernel_rfl) (by kernel_rfl) (fun _ _ _ h => h) (Or.inl ⟨by rfl, fun w' hSw => by go_simp⟩) hHeld ?_
          try simp only [Act.put, List.getElem_toArray, List.getElem_cons_succ, List.getElem_cons_zero, List.setIfInBounds_toArray, List.set_cons_zero, List.set_cons_succ]
          refine wpAnyH_take (i := 7) (v := .pointer (some ⟨g, (a * 69), none⟩)) rfl (by kernel_rfl) (by kernel_rfl) (by kernel_rfl) (fun _ _ _ h => h) (Or.inl ⟨by rfl, fun w' hSw => by go_simp⟩) hHeld ?_
          try simp only [Act.put, List.getElem_toArray, List.getElem_cons_succ, List.getElem_cons_zero, List.setIfInBounds_toArray, List.set_cons_zero, List.set_cons_succ]
          refine' wpAnyH_take (i := 8) (v := _) rfl (by kernel_rfl) (by kernel_rfl) (by kernel_rfl) (fun _ _ _ h => h) (yieldsIf_load_mid (by rfl) _ _ rfl g (a * 69) rfl CA _ (fun w' hSw => HRa.out _ hSw) Tryd.underlying97 rfl (by rw [entry_size, HA69.out])) hHeld ?_
          try simp only [Act.put, List.getElem_toArray, List.getElem_cons_succ, List.getElem_cons_zero, List.setIfInBounds_toArray, List.set_cons_zero, List.set_cons_succ]
          refine wpAnyH_ready (rs := [9]) (by kernel_rfl) (by simp) (AllReadyH.cons rfl (fun K1 hK1 => ?_) AllReadyH.nil)
          try simp only [Act.put, List.getElem_toArray, List.getElem_cons_succ, List.getElem_cons_zero, List.setIfInBounds_toArray, List.set_cons_zero, List.set_cons_succ]
          go_simp
          refine Calls.mono (HHI.out wq) ?_
          rintro e wc1 ⟨rfl, hc2⟩
          refine hK1.out _ _ (two_below' hHeld hc2) (fun hHeld => ?_)
          clear hK1 K1
          try simp only [Act.put, List.getElem_toArray, List.getElem_cons_succ, List.getElem_cons_zero, List.setIfInBounds_toArray, List.set_cons_zero, List.set_cons_succ]
          refine wpAnyH_take (i := 10) (v := .bool false) rfl (by kernel_rfl) (by kernel_rfl) (by kernel_rfl) (fun _ _ _ h => h) (Or.inl ⟨by rfl, fun w' hSw => by go_simp⟩) hHeld ?_
          try simp only [Act.put, List.getElem_toArray, List.getElem_cons_succ, List.getElem_cons_zero, List.setIfInBounds_toArray, List.set_cons_zero, List.set_cons_succ]
          refine wpAnyH_done (by kernel_rfl) ?_ _
          have HB9 := Lib.hid (two_below' Hb4.out hHeld)
          clear hHeld
          go_wp2_with fail
          exact ⟨⟨k + 1, by omega, by go_num, by rw [HT1.out] <;> rfl, HB9.out⟩, by simp [intOf]; omega⟩
    · have hki : ¬ (k : Int) < (n : Int) := by omega
      have e : k = n := by omega
      subst e
      go_wp2_with fail
      go_ret
      exact ⟨rfl, Hbr.out⟩
end Go.Proofs.YtlapmdgkcidhnaaDoor
