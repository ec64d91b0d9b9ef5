/- The reference's Same: a list and itself; logs that are loaded. -/
import Derived.Test.YtgdijbcoacgadaaDoorOdMade
namespace Go.Proofs.YtgdijbcoacgadaaDoor
open Go.RowKit
set_option linter.unusedVariables false
set_option linter.unusedSimpArgs false
set_option maxRecDepth 100000

set_option maxHeartbeats 3200000 in
theorem same19_any (l : List Rp) (A A' : Option Addr) (c c2 : Nat) (w : World) (h1 : SlR w w.heap.size A c l) (h2 : SlR w w.heap.size A' c2 l) : Calls Tryd.prog 17 #[.slice A l.length c, .slice A' l.length c2] w fun e w' => e = .returned (.bool true) ∧ Below w.heap.size w w' := by
  have H1 := Lib.hid h1
  have H2 := Lib.hid h2
  have hl6 : l.length ≤ 1000000 := h1.2.2.2.1
  obtain ⟨n, hn⟩ : ∃ n, l.length = n := ⟨_, rfl⟩
  rw [hn] at hl6 ⊢
  have HN := Lib.hid hn
  clear h1 h2 hn
  go_enter Tryd.func17, Tryd.ntmps17
  go_wp2_with fail
  go_loopw [5] (fun s5 wr => ∃ k : Nat, k ≤ n ∧ s5 = .int .i64 k ∧ Below w.heap.size w wr) (fun i _ => n - (intOf i).toNat)
  case atStart => exact ⟨0, Nat.zero_le _, rfl, Below.refl _ _⟩
  case round =>
    obtain ⟨k, hk, rfl, hb⟩ := hrel
    have HB := Lib.hid hb
    clear hb
    have hk0 : (0 : Int) ≤ (k : Int) := by omega
    by_cases hkn : k < n
    · have hki : (k : Int) < (n : Int) := by omega
      have hkl : k < l.length := by have := HN.out; omega
      obtain ⟨ga, oa, rfl, hga, hata⟩ := H1.out.1 (by intro e; rw [e] at hkl; simp at hkl)
      obtain ⟨gb, ob, rfl, hgb, hatb⟩ := H2.out.1 (by intro e; rw [e] at hkl; simp at hkl)
      have hra : ∀ (W : World), Below w.heap.size w W → W.rangeAt ga (oa + k * 68) l[k].cells := fun W hW => fun r u hu => (hW.cell (p := ⟨ga, oa + k * 68 + r, none⟩) hga).trans (hata k hkl r u hu)
      have hrb : ∀ (W : World), Below w.heap.size w W → W.rangeAt gb (ob + k * 68) l[k].cells := fun W hW => fun r u hu => (hW.cell (p := ⟨gb, ob + k * 68 + r, none⟩) hgb).trans (hatb k hkl r u hu)
      have xk := H1.out.2.2.2.2 _ (List.getElem_mem hkl)
      have HTE := Lib.hid (fun W => rp_eqD W l[k] l[k] xk xk (v := true) (by simp))
      have hC68 := Rp.cells_len xk.prev xk.hash
      obtain ⟨C, hC⟩ : ∃ C, l[k].cells = C := ⟨_, rfl⟩
      rw [hC] at hra hrb HTE hC68
      have HRa := Lib.hid hra
      have HRb := Lib.hid hrb
      have HC68 := Lib.hid hC68
      clear hga hata hgb hatb hra hrb xk hC68 hC hkl
      go_wp2_with fail
      refine wp_region_noPanic ?_
      refine wp_region_held_drew (S := fun w' => Below w.heap.size w w') (by kernel_rfl) (HB.out.drew) (fun hHeld => ?_)
      generalize wr.drew = wq at *
      refine wpAnyH_take (i := 0) (v := .slice (some ⟨ga, oa, none⟩) n c) rfl (by kernel_rfl) (by kernel_rfl) (by kernel_rfl) (fun _ _ _ h => h) (Or.inl ⟨by rfl, fun w' hSw => by go_simp⟩) hHeld ?_
      try simp only [Act.put, List.getElem_toArray, List.getElem_cons_succ, List.getElem_cons_zero, List.setIfInBounds_toArray, List.set_cons_zero, List.set_cons_succ]
      refine wpAnyH_take (i := 1) (v := .int .i64 k) rfl (by kernel_rfl) (by kernel_rfl) (by kernel_rfl) (fun _ _ _ h => h) (Or.inl ⟨by rfl, fun w' hSw => by go_simp⟩) hHeld ?_
      try simp only [Act.put, List.getElem_toArray, List.getElem_cons_succ, List.getElem_cons_zero, List.setIfInBounds_toArray, List.set_cons_zero, List.set_cons_succ]
      refine wpAnyH_take (i := 2) (v := .pointer (some ⟨ga, (oa + k * 68), none⟩)) rfl (by kernel_rfl) (by kernel_rfl) (by kernel_rfl) (fun _ _ _ h => h) (Or.inl ⟨by rfl, fun w' hSw => by go_simp⟩) hHeld ?_
      try simp only [Act.put, List.getElem_toArray, List.getElem_cons_succ, List.getElem_cons_zero, List.setIfInBounds_toArray, List.set_cons_zero, List.set_cons_succ]
      refine' wpAnyH_take (i := 3) (v := _) rfl (by kernel_rfl) (by kernel_rfl) (by kernel_rfl) (fun _ _ _ h => h) (yieldsIf_load_mid (by rfl) _ _ rfl ga (oa + k * 68) rfl C _ (fun w' hSw => HRa.out _ hSw) Tryd.underlying30 rfl (by rw [rp_info, HC68.out])) hHeld ?_
      try simp only [Act.put, List.getElem_toArray, List.getElem_cons_succ, List.getElem_cons_zero, List.setIfInBounds_toArray, List.set_cons_zero, List.set_cons_succ]
      refine wpAnyH_take (i := 4) (v := .slice (some ⟨gb, ob, none⟩) n c2) rfl (by kernel_rfl) (by kernel_rfl) (by kernel_rfl) (fun _ _ _ h => h) (Or.inl ⟨by rfl, fun w' hSw => by go_simp⟩) hHeld ?_
      try simp only [Act.put, List.getElem_toArray, List.getElem_cons_succ, List.getElem_cons_zero, List.setIfInBounds_toArray, List.set_cons_zero, List.set_cons_succ]
      refine wpAnyH_take (i := 5) (v := .int .i64 k) rfl (by kernel_rfl) (by kernel_rfl) (by kernel_rfl) (fun _ _ _ h => h) (Or.inl ⟨by rfl, fun w' hSw => by go_simp⟩) hHeld ?_
      try simp only [Act.put, List.getElem_toArray, List.getElem_cons_succ, List.getElem_cons_zero, List.setIfInBounds_toArray, List.set_cons_zero, List.set_cons_succ]
      refine wpAnyH_take (i := 6) (v := .pointer (some ⟨gb, (ob + k * 68), none⟩)) rfl (by kernel_rfl) (by kernel_rfl) (by kernel_rfl) (fun _ _ _ h => h) (Or.inl ⟨by rfl, fun w' hSw => by go_simp⟩) hHeld ?_
      try simp only [Act.put, List.getElem_toArray, List.getElem_cons_succ, List.getElem_cons_zero, List.setIfInBounds_toArray, List.set_cons_zero, List.set_cons_succ]
      refine' wpAnyH_take (i := 7) (v := _) rfl (by kernel_rfl) (by kernel_rfl) (by kernel_rfl) (fun _ _ _ h => h) (yieldsIf_load_mid (by rfl) _ _ rfl gb (ob + k * 68) rfl C _ (fun w' hSw => HRb.out _ hSw) Tryd.underlying30 rfl (by rw [rp_info, HC68.out])) hHeld ?_
      try simp only [Act.put, List.getElem_toArray, List.getElem_cons_succ, List.getElem_cons_zero, List.setIfInBounds_toArray, List.set_cons_zero, List.set_cons_succ]
      refine wpAnyH_take (i := 8) (v := .bool false) rfl (by kernel_rfl) (by kernel_rfl) (by kernel_rfl) (fun _ _ _ h => h) (Or.inl ⟨by rfl, fun w' hSw => by have hq := hSw; have hq9 := HTE.out; go_simp⟩) hHeld ?_
      try simp only [Act.put, List.getElem_toArray, List.getElem_cons_succ, List.getElem_cons_zero, List.setIfInBounds_toArray, List.set_cons_zero, List.set_cons_succ]
      refine wpAnyH_done (by kernel_rfl) ?_ _
      refine NoPanic.normal ?_
      have HB9 := Lib.hid hHeld
      clear hHeld
      go_wp2_with fail
      exact ⟨⟨k + 1, by omega, by go_num, HB9.out⟩, by simp [intOf]; omega⟩
    · have hki : ¬ (k : Int) < (n : Int) := by omega
      go_wp2_with fail
      go_ret
      exact ⟨rfl, HB.out⟩
theorem SlR.chg {S : Nat → Prop} {w w' : World} {B : Nat} {A : Option Addr} {c : Nat} {l : List Rp} (h : SlR w B A c l) (hc : Chg S w w') (hB : B ≤ w.heap.size) (hS : ∀ a, A = some a → ¬ S a.block) : SlR w' B A c l :=
  ⟨fun h0 => by
    obtain ⟨g, off, e, hg, hat⟩ := h.1 h0
    refine ⟨g, off, e, hg, fun i hi q u hu => ?_⟩
    have hb := hc.block g (by omega) (hS _ e)
    have := hat i hi q u hu
    unfold World.cell? at this ⊢
    simp only at this ⊢
    rw [hb]
    exact this, h.2⟩
section
variable {w w1 : World} {base B : Nat} {v dv : Value} {a : List Rp}
theorem LTo.then (h : LTo w w1 base B v dv a) {w' : World} {a' : List Rp} (hs : ∀ v1 dv1, LogAt w1 base B v1 dv1 a → LTo w1 w' base B v1 dv1 a') : LTo w w' base B v dv a' := by
  obtain ⟨v1, dv1, h1, h2, h3⟩ := h
  obtain ⟨v2, dv2, k1, k2, k3⟩ := hs v1 dv1 h1
  refine ⟨v2, dv2, k1, h2.trans k2 h3, fun k hk => ?_⟩
  rcases k3 k hk with q | q
  · exact h3 k q
  · exact .inr (Nat.le_trans h2.size q)
theorem LTo.below19 (h : LTo w w1 base B v dv a) {w' : World} (hb : Below w1.heap.size w1 w') : LTo w w' base B v dv a := h.then fun v1 dv1 k => k.to hb
theorem LTo.chg19 (h : LTo w w1 base B v dv a) : Chg (LS B v dv) w w1 := by
  obtain ⟨v1, dv1, h1, h2, h3⟩ := h
  exact h2
theorem LTo.loadY (h : LTo w w1 base B v dv a) (r : Rp) (hr : r.Fits) (hT : Tab w1) (hl : a.length < 1000) (hf : Od.fitsIn a r) :
    Calls Tryd.prog 11 #[.pointer (some ⟨B, 0, none⟩), .agg r.cells.toArray] w1 fun e w' => e = .returned (.int .i64 0) ∧ LTo w w' base B v dv (a ++ [r]) := by
  obtain ⟨v1, dv1, h1, h2, h3⟩ := h
  refine (h1.Load_yes r hr hT hl hf).mono ?_
  rintro e w' ⟨rfl, k⟩
  obtain ⟨v2, dv2, k1, k2, k3⟩ := k
  refine ⟨rfl, v2, dv2, k1, h2.trans k2 h3, fun k hk => ?_⟩
  rcases k3 k hk with q | q
  · exact h3 k q
  · exact .inr (Nat.le_trans h2.size q)
theorem LTo.loadN (h : LTo w w1 base B v dv a) (r : Rp) (hr : r.Fits) (hT : Tab w1) (hl : a.length < 1000) (hf : ¬ Od.fitsIn a r) :
    Calls Tryd.prog 11 #[.pointer (some ⟨B, 0, none⟩), .agg r.cells.toArray] w1 fun e w' => e = .returned (.int .i64 7) ∧ LTo w w' base B v dv a := by
  have h0 := h
  obtain ⟨v1, dv1, h1, h2, h3⟩ := h
  refine (h1.Load_no r hr hT hl hf).mono ?_
  rintro e w' ⟨rfl, hb⟩
  exact ⟨rfl, h0.below19 hb⟩
theorem LTo.head (h : LTo w w1 base B v dv a) : Calls Tryd.prog 26 #[.pointer (some ⟨B, 0, none⟩)] w1 fun e w' => e = .returned (.agg (bRow (Od.head a))) ∧ Below w1.heap.size w1 w' := by
  obtain ⟨v1, dv1, h1, _, _⟩ := h
  exact h1.head
theorem LTo.lenC (h : LTo w w1 base B v dv a) : Calls Tryd.prog 16 #[.pointer (some ⟨B, 0, none⟩)] w1 fun e w' => e = .returned (.int .i64 a.length) ∧ w1 = w' := by
  obtain ⟨v1, dv1, h1, _, _⟩ := h
  exact h1.lenC
theorem LogAt.all (h : LogAt w base B v dv a) : Calls Tryd.prog 18 #[.pointer (some ⟨B, 0, none⟩), .int .i64 0] w fun e w' => (∃ u, e = .returned u ∧ OwnL w' w.heap.size 30 68 Rp.cells u a) ∧ Below w.heap.size w w' := by
  have e : a.drop (Od.lo a.length 0) = a := by
    have : Od.lo a.length 0 = 0 := by unfold Od.lo; rw [if_neg (by decide), if_pos (by omega)]; rfl
    rw [this]
    rfl
  have := h.from 0
  rwa [e] at this
theorem LTo.all (h : LTo w w1 base B v dv a) : Calls Tryd.prog 18 #[.pointer (some ⟨B, 0, none⟩), .int .i64 0] w1 fun e w' => (∃ u, e = .returned u ∧ OwnL w' w1.heap.size 30 68 Rp.cells u a) ∧ Below w1.heap.size w1 w' := by
  obtain ⟨v1, dv1, h1, _, _⟩ := h
  exact h1.all
end
theorem Od.Good.loads {rs : List Rp} (h : Od.Good rs) (k : Nat) (hk : k < rs.length) : Od.fitsIn (rs.take k) rs[k] := by
  obtain ⟨who, hw⟩ := h k hk
  exact ⟨by rw [hw], by rw [hw]⟩
theorem Od.Good.noload {rs : List Rp} (h : Od.Good rs) (k i : Nat) (hki : k < i) (hi : i < rs.length) : ¬ Od.fitsIn (rs.take k) rs[i] := by
  intro hf
  have h1 := (Od.mk_took (Od.fitsIn_took hf)).index
  have h2 := h.index i hi
  rw [List.length_take] at h1
  omega
end Go.Proofs.YtgdijbcoacgadaaDoor
