/- The reference of layer 5: ReadReceipt. -/
import Derived.Test.YtdekcicgiflnbaaDoorNoRf3
import Derived.Test.YtdekcicgiflnbaaDoorNoRf4
import Derived.Test.YtdekcicgiflnbaaDoorNoRc4
import Derived.Test.YtdekcicgiflnbaaDoorNoAwk
namespace Go.Proofs.YtdekcicgiflnbaaDoor
open Go.RowKit
set_option linter.unusedVariables false
set_option linter.unusedSimpArgs false

/-- what the reference's Link comes to, for what was read -/
theorem rlink_facts (hRS : RefSum) (a b d : Int) (t p h : List UInt8) (hp : p.length = 32) (hh : h.length = 32) :
    ∃ (D : List Value) (E : Int) (K : List UInt8), (∀ W, Calls Tryd.prog 40 #[.agg (bRow p), .int .i64 a, .int .i64 b, .int .i64 d, S t] W fun e w' => e = .returned (.tuple #[.agg D.toArray, .int .i64 E]) ∧ Below W.heap.size W w') ∧
      D.length = 68 ∧ (∀ v ∈ D, v.oneCell' = true) ∧ K.length = 32 ∧ (∀ (W : World) (g : Nat) (T : TypeId), Row W g T D → W.rangeAt g 36 (bRow K).toList) ∧
      ((E = 2 ∧ Rp.of [a, b, d] [t, p, h] = none) ∨ (E = 0 ∧ K ≠ h ∧ Rp.of [a, b, d] [t, p, h] = none) ∨ (E = 0 ∧ K = h ∧ ∃ u : Rp, D = u.cells ∧ Rp.of [a, b, d] [t, p, h] = some u)) := by
  obtain ⟨r, hr⟩ : ∃ r : Rp, r = ⟨a, b, d, ⟨t.toArray⟩, p, h⟩ := ⟨_, rfl⟩
  have l2 := fun W => rlink5_any hRS a b d ⟨t.toArray⟩ p hp W
  have hlk : Rp.linkE ⟨a, b, d, ⟨t.toArray⟩, p, Tx.zero⟩ = r.linkE := by rw [hr]; rfl
  have hof : Rp.of [a, b, d] [t, p, h] = if (p.length = 32 ∧ h.length = 32) ∧ r.ok = true ∧ h = r.link then some r else none := by rw [hr]; rfl
  rw [hlk] at l2
  have hrp : r.prev.length = 32 := by rw [hr]; exact hp
  by_cases hk : r.ok = true
  · have hpair : Rp.pairV r.linkE = .tuple #[.agg r.linked.cells.toArray, .int .i64 0] := Rp.linkE_ok hk
    rw [hpair] at l2
    refine ⟨r.linked.cells, 0, r.link, l2, Rp.cells_len (r := r.linked) hrp (Rp.link_len r), Rp.cells_one (r := r.linked) hrp (Rp.link_len r), Rp.link_len r, fun W g T hw => rp_hash (r := r.linked) hrp hw, .inr ?_⟩
    by_cases he : h = r.link
    · refine .inr ⟨rfl, he.symm, r, ?_, by rw [hof, if_pos ⟨⟨hp, hh⟩, hk, he⟩]⟩
      have : r.linked = r := Rp.linked_eq.2 (by rw [← he, hr])
      rw [this]
    · exact .inl ⟨rfl, fun e => he e.symm, by rw [hof, if_neg (fun h => he h.2.2)]⟩
  · have hpair : Rp.pairV r.linkE = .tuple #[.agg Rp.zero.cells.toArray, .int .i64 2] := by unfold Rp.linkE; rw [if_neg hk]; rfl
    rw [hpair] at l2
    exact ⟨Rp.zero.cells, 2, Tx.zero, l2, Rp.cells_len (r := Rp.zero) rfl rfl, Rp.cells_one (r := Rp.zero) rfl rfl, rfl, fun W g T hw => rp_hash (r := Rp.zero) rfl hw, .inl ⟨rfl, by rw [hof, if_neg (fun h => hk h.2.1)]⟩⟩
theorem Rp.of_few {ns : List Int} {rest : List No.T8} (h : rest.length ≠ 3) : Rp.of ns rest = none := by
  unfold Rp.of
  split
  · simp at h
  · rfl
theorem Rp.of_bad {a b d : Int} {t p q : No.T8} (h : ¬ (p.length = 32 ∧ q.length = 32)) : Rp.of [a, b, d] [t, p, q] = none := by
  show (if _ then _ else _) = _
  rw [if_neg (fun x => h x.1)]
theorem three_drop {α : Type} {l : List α} (h : l.length = 6) : ∃ x y z, l.drop 3 = [x, y, z] ∧ l[3]'(by omega) = x ∧ l[4]'(by omega) = y ∧ l[5]'(by omega) = z := by
  match l, h with
  | [a, b, c, d, e, f], _ => exact ⟨d, e, f, rfl, rfl, rfl, rfl⟩
set_option maxRecDepth 20000 in
set_option maxHeartbeats 1600000 in
theorem rreadReceipt_any (hRS : RefSum) (s : ByteArray) (w : World) (hs : s.size ≤ 140737488351232) :
    Calls Tryd.prog 48 #[.string s] w fun e w' => RpEnds (Rp.read s.data.toList) e ∧ Below w.heap.size w w' := by
  have HZL := Lib.hid (Rp.cells_len (r := Rp.zero) rfl rfl)
  have HZ1 := Lib.hid (Rp.cells_one (r := Rp.zero) rfl rfl)
  have hzv : ∀ W : World, (zeroValue 48).run Tryd.prog W = .ok (.agg Rp.zero.cells.toArray) W := fun W => by kernel_rfl
  have LS := Lib.hid (fun W => rlist4_any s W hs)
  obtain ⟨R, hR⟩ : ∃ R, R = Rp.read s.data.toList := ⟨_, rfl⟩
  rw [← hR]
  have Hr0 := Lib.hid (Row.new w 48 Rp.zero.cells)
  have Hb0 := Lib.hid ((Below.refl w.heap.size w).alloc (Nat.le_refl _) (.cells Rp.zero.cells.toArray 48))
  have HRr := Lib.hid hR
  clear hR
  go_enter Tryd.func48, Tryd.ntmps48
  go_wp2_with fail
  refine calls_named ?_
  intro w1 hw1
  have hB1 : Blocks w w1 [(w.heap.size, 48, Rp.zero.cells)] := by rw [hw1]; exact (Blocks.nil Hb0.out).cons Hr0.out
  have HB1 := Lib.hid hB1
  clear hw1 hB1 Hr0 Hb0
  refine (LS.out w1).mono ?_
  rintro _ w2 ⟨L, v, n, rfl, hT, hL, hb2⟩
  obtain ⟨A, c, rfl, hTx⟩ := hT
  have HB2 := Lib.hid (HB1.out.step hb2)
  have HTx := Lib.hid hTx
  have HL := Lib.hid hL
  clear hb2 hTx hL HB1
  have htl : (∀ x ∈ L, x.length ≤ 65536) ∧ L.length ≤ 1024 := by
    rcases HL.out with ⟨_, h⟩ | ⟨_, _, h⟩
    · exact ⟨Tx.listAll_text h, listAll_few h⟩
    · rw [h]; simp
  have NB := Lib.hid (fun W hW => numbers5_any L A c 3 W (by decide) htl.1 hW)
  have hlf := htl.2
  have HTl := Lib.hid htl.1
  obtain ⟨m, hm⟩ : ∃ m, m = L.length := ⟨_, rfl⟩
  rw [← hm] at NB hlf ⊢
  have HM := Lib.hid hm
  clear hm htl
  go_wp2_with fail
  refine (NB.out _ HTx.out).mono ?_
  rintro _ w3 ⟨hN, hb3⟩
  have HB3 := Lib.hid (HB2.out.step hb3)
  have HTx3 : Hid (Texts w3 w3.heap.size A L) := fun hne => by
    obtain ⟨b, off, h1, h2, h3⟩ := HTx.out hne
    exact ⟨b, off, h1, Nat.lt_of_lt_of_le h2 hb3.size, fun i hi => (grownBy_of_below hb3 none).cell (h3 i hi) (by simp)⟩
  clear hb3 HB2 HTx NB
  rcases HL.out with ⟨rfl, hL⟩ | ⟨hne, hL, hLn⟩
  rotate_left
  · have HRn := Lib.hid (HRr.out.trans (Rp.read_none hL))
    rw [hLn] at hN
    obtain ⟨v, rfl⟩ : ∃ v, _ = _ := hN
    have Hrz := Lib.hid HB3.out.hd
    have Hbz := Lib.hid HB3.out.1
    clear hL hLn
    go_wp2_with (first
      | (with_reducible show wpList _ _ _ (⟨_, .build 48 _, _, _, _, _⟩ :: _) _ _; refine wpList_buildL rfl 48 [] rfl (some 45) rfl _ rfl _ Rp.zero_built0 ?_)
      | (with_reducible show wpList _ _ _ (⟨_, .store 48 _ _, _, _, _, _⟩ :: _) _ _
         refine wpList_store_at rfl 48 (.tmp 2) (.tmp 45) rfl (w.heap.size) 0 Rp.zero.cells _ _ rfl rfl Hrz.out (by have := HZL.out; omega) (by rw [rp_info, HZL.out]) HZ1.out ?_
         intro wZ hrZ hgZ
         rw [splice_all rfl] at hrZ
         have HrZ := Lib.hid hrZ
         have HbZ := Lib.hid (below_own Hbz.out hgZ (fun k hk => by cases hk; exact Nat.le_refl _))
         clear hrZ hgZ))
    refine bodyPost_ret (results_rowL rfl _ _ (w.heap.size) 48 _ _ rfl HrZ.out Tryd.underlying48 rfl (by rw [rp_info, List.size_toArray, HZL.out]) _ rfl) rfl ⟨?_, HbZ.out⟩
    rw [HRn.out]
    exact rfl
  have HRe := Lib.hid (HRr.out.trans (by unfold Rp.read; rw [hL, Option.bind_some] : _ = (No.raw 3 L).bind fun ns => Rp.of ns (L.drop 3)))
  clear hL
  cases hF : No.raw 3 L with
  | none =>
    rw [hF] at hN
    obtain ⟨v, rfl⟩ := hN
    have HRn := Lib.hid (HRe.out.trans (by rw [hF, Option.bind_none]))
    have Hrz := Lib.hid HB3.out.hd
    have Hbz := Lib.hid HB3.out.1
    clear hF
    go_wp2_with (first
      | (with_reducible show wpList _ _ _ (⟨_, .build 48 _, _, _, _, _⟩ :: _) _ _; refine wpList_buildL rfl 48 [] rfl (some 45) rfl _ rfl _ Rp.zero_built0 ?_)
      | (with_reducible show wpList _ _ _ (⟨_, .store 48 _ _, _, _, _, _⟩ :: _) _ _
         refine wpList_store_at rfl 48 (.tmp 2) (.tmp 45) rfl (w.heap.size) 0 Rp.zero.cells _ _ rfl rfl Hrz.out (by have := HZL.out; omega) (by rw [rp_info, HZL.out]) HZ1.out ?_
         intro wZ hrZ hgZ
         rw [splice_all rfl] at hrZ
         have HrZ := Lib.hid hrZ
         have HbZ := Lib.hid (below_own Hbz.out hgZ (fun k hk => by cases hk; exact Nat.le_refl _))
         clear hrZ hgZ))
    refine bodyPost_ret (results_rowL rfl _ _ (w.heap.size) 48 _ _ rfl HrZ.out Tryd.underlying48 rfl (by rw [rp_info, List.size_toArray, HZL.out]) _ rfl) rfl ⟨?_, HbZ.out⟩
    rw [HRn.out]
    exact rfl
  | some ns =>
    rw [hF] at hN
    obtain ⟨v, rfl, hown⟩ := hN
    obtain ⟨hn3, hml, hfit⟩ := No.raw_len _ _ _ hF
    obtain ⟨g, cp, rfl⟩ := ownsRow_succ hown
    have hcell := fun j v (h : (Is ns)[j]? = some v) => hown.cells rfl j v h
    have hglt := (hown.lt g rfl).2
    have HRs := Lib.hid (HRe.out.trans (by rw [hF]; rfl : _ = Rp.of ns (L.drop 3)))
    clear hF hown HRe
    obtain ⟨a, b, d, rfl⟩ := three_of hn3
    clear hn3 hml hfit
    by_cases h6 : m = 6
    · obtain ⟨t, p, q, ht, e3, e4, e5⟩ := three_drop (HM.out.symm.trans h6)
      obtain ⟨tb, toff, rfl, htb, htc⟩ := HTx3.out (by intro e; rw [e] at ht; simp at ht)
      have hL6 : L.length = 6 := HM.out.symm.trans h6
      have hc3 := htc 3 (by omega)
      have hc4 := htc 4 (by omega)
      have hc5 := htc 5 (by omega)
      rw [e3] at hc3
      rw [e4] at hc4
      rw [e5] at hc5
      have hi0 := hcell 0 _ rfl
      have hi1 := hcell 1 _ rfl
      have hi2 := hcell 2 _ rfl
      have hadd : ∀ j, (⟨g, 0, none⟩ : Addr).add j = ⟨g, 0 + j, none⟩ := fun j => by unfold Addr.add; split <;> simp_all
      rw [hadd, Nat.zero_add] at hi0 hi1 hi2
      have IB : Hid (∀ W, Below w3.heap.size w3 W → W.cell? ⟨g, 0, none⟩ = some (.int .i64 a) ∧ W.cell? ⟨g, 1, none⟩ = some (.int .i64 b) ∧ W.cell? ⟨g, 2, none⟩ = some (.int .i64 d) ∧ W.cell? ⟨tb, toff + 3, none⟩ = some (S t) ∧ W.cell? ⟨tb, toff + 4, none⟩ = some (S p) ∧ W.cell? ⟨tb, toff + 5, none⟩ = some (S q)) := fun W hW =>
        ⟨(hW.cell (p := ⟨g, 0, none⟩) hglt).trans hi0, (hW.cell (p := ⟨g, 1, none⟩) hglt).trans hi1, (hW.cell (p := ⟨g, 2, none⟩) hglt).trans hi2, (hW.cell (p := ⟨tb, toff + 3, none⟩) htb).trans hc3, (hW.cell (p := ⟨tb, toff + 4, none⟩) htb).trans hc4, (hW.cell (p := ⟨tb, toff + 5, none⟩) htb).trans hc5⟩
      subst h6
      clear e3 e4 e5 hL6 hi0 hi1 hi2 hadd htc hcell hc3
      by_cases hp : p.length = 32
      · have hpi : ((p.length : Int) != 32) = false := by simp; omega
        by_cases hq : q.length = 32
        · have hqi : ((q.length : Int) != 32) = false := by simp; omega
          obtain ⟨D, E, K, LK, hDL, hD1, hKl, hBK, hcase⟩ := rlink_facts hRS a b d t p q hp hq
          have HLK := Lib.hid LK
          have HUL := Lib.hid hDL
          have HU1 := Lib.hid hD1
          have HBK := Lib.hid hBK
          have HKL := Lib.hid (Tx.bRow_len K hKl)
          have BY := Lib.hid (fun W => bytes_any K W hKl)
          have Hcase : Hid ((E = 2 ∧ R = none) ∨ (E = 0 ∧ K ≠ q ∧ R = none) ∨ (E = 0 ∧ K = q ∧ ∃ u : Rp, D = u.cells ∧ R = some u)) := Lib.hid (by rw [HRs.out, ht]; exact hcase)
          have HH : Hid (∀ W, Calls Tryd.prog 92 #[S p] W fun e w' => e = .returned (.agg (bRow p)) ∧ Below W.heap.size W w') := fun W => hash4_any ⟨p.toArray⟩ W hp
          have HS0 : Hid (BlocksS w w3 w3.drew [(w.heap.size, 48, Rp.zero.cells)]) := Lib.hid ⟨HB3.out.drew, (Below.refl _ _).drew⟩
          have hu23 := Tryd.underlying23
          have hik : (Tryd.prog.info? 23).map (·.size) = some (bRow K).toList.length := by rw [hash_info, HKL.out]
          clear ht LK hDL hD1 hKl hBK hcase
          go_wp2_with fail
          clear hpi hqi hp hq hc4 hc5
          refine wp_region_noPanic ?_
          refine wp_region_held_drew (S := fun w' => BlocksS w w3 w' [(w.heap.size, 48, Rp.zero.cells)]) (by kernel_rfl) (HS0.out) (fun hHeld => ?_)
          generalize w3.drew = wq at *
          refine wpAnyH_take (i := 0) (v := .slice (some ⟨tb, toff, none⟩) 6 c) rfl (by kernel_rfl) (by kernel_rfl) (by kernel_rfl) (fun _ _ _ h => h) (Or.inl ⟨by rfl, fun w' hSw => by go_simp⟩) hHeld ?_
          try simp only [Act.put, List.getElem_toArray, List.getElem_cons_succ, List.getElem_cons_zero, List.setIfInBounds_toArray, List.set_cons_zero, List.set_cons_succ]
          refine wpAnyH_take (i := 1) (v := .pointer (some ⟨tb, toff + 4, none⟩)) rfl (by kernel_rfl) (by kernel_rfl) (by kernel_rfl) (fun _ _ _ h => h) (Or.inl ⟨by rfl, fun w' hSw => by go_simp⟩) hHeld ?_
          try simp only [Act.put, List.getElem_toArray, List.getElem_cons_succ, List.getElem_cons_zero, List.setIfInBounds_toArray, List.set_cons_zero, List.set_cons_succ]
          refine wpAnyH_take (i := 2) (v := S p) rfl (by kernel_rfl) (by kernel_rfl) (by kernel_rfl) (fun _ _ _ h => h) (Or.inl ⟨by rfl, fun w' hSw => by have hq := hSw; have hc := (IB.out _ hq.2).2.2.2.2.1; go_simp⟩) hHeld ?_
          try simp only [Act.put, List.getElem_toArray, List.getElem_cons_succ, List.getElem_cons_zero, List.setIfInBounds_toArray, List.set_cons_zero, List.set_cons_succ]
          refine wpAnyH_take (i := 4) (v := .slice (some ⟨g, 0, none⟩) 3 cp) rfl (by kernel_rfl) (by kernel_rfl) (by kernel_rfl) (fun _ _ _ h => h) (Or.inl ⟨by rfl, fun w' hSw => by go_simp⟩) hHeld ?_
          try simp only [Act.put, List.getElem_toArray, List.getElem_cons_succ, List.getElem_cons_zero, List.setIfInBounds_toArray, List.set_cons_zero, List.set_cons_succ]
          refine wpAnyH_take (i := 5) (v := .pointer (some ⟨g, 0, none⟩)) rfl (by kernel_rfl) (by kernel_rfl) (by kernel_rfl) (fun _ _ _ h => h) (Or.inl ⟨by rfl, fun w' hSw => by go_simp⟩) hHeld ?_
          try simp only [Act.put, List.getElem_toArray, List.getElem_cons_succ, List.getElem_cons_zero, List.setIfInBounds_toArray, List.set_cons_zero, List.set_cons_succ]
          refine wpAnyH_take (i := 6) (v := .int .i64 a) rfl (by kernel_rfl) (by kernel_rfl) (by kernel_rfl) (fun _ _ _ h => h) (Or.inl ⟨by rfl, fun w' hSw => by have hq := hSw; have hc := (IB.out _ hq.2).1; go_simp⟩) hHeld ?_
          try simp only [Act.put, List.getElem_toArray, List.getElem_cons_succ, List.getElem_cons_zero, List.setIfInBounds_toArray, List.set_cons_zero, List.set_cons_succ]
          refine wpAnyH_take (i := 7) (v := .slice (some ⟨g, 0, none⟩) 3 cp) rfl (by kernel_rfl) (by kernel_rfl) (by kernel_rfl) (fun _ _ _ h => h) (Or.inl ⟨by rfl, fun w' hSw => by go_simp⟩) hHeld ?_
          try simp only [Act.put, List.getElem_toArray, List.getElem_cons_succ, List.getElem_cons_zero, List.setIfInBounds_toArray, List.set_cons_zero, List.set_cons_succ]
          refine wpAnyH_take (i := 8) (v := .pointer (some ⟨g, 1, none⟩)) rfl (by kernel_rfl) (by kernel_rfl) (by kernel_rfl) (fun _ _ _ h => h) (Or.inl ⟨by rfl, fun w' hSw => by go_simp⟩) hHeld ?_
          try simp only [Act.put, List.getElem_toArray, List.getElem_cons_succ, List.getElem_cons_zero, List.setIfInBounds_toArray, List.set_cons_zero, List.set_cons_succ]
          refine wpAnyH_take (i := 9) (v := .int .i64 b) rfl (by kernel_rfl) (by kernel_rfl) (by kernel_rfl) (fun _ _ _ h => h) (Or.inl ⟨by rfl, fun w' hSw => by have hq := hSw; have hc := (IB.out _ hq.2).2.1; go_simp⟩) hHeld ?_
          try simp only [Act.put, List.getElem_toArray, List.getElem_cons_succ, List.getElem_cons_zero, List.setIfInBounds_toArray, List.set_cons_zero, List.set_cons_succ]
          refine wpAnyH_take (i := 10) (v := .slice (some ⟨g, 0, none⟩) 3 cp) rfl (by kernel_rfl) (by kernel_rfl) (by kernel_rfl) (fun _ _ _ h => h) (Or.inl ⟨by rfl, fun w' hSw => by go_simp⟩) hHeld ?_
          try simp only [Act.put, List.getElem_toArray, List.getElem_cons_succ, List.getElem_cons_zero, List.setIfInBounds_toArray, List.set_cons_zero, List.set_cons_succ]
          refine wpAnyH_take (i := 11) (v := .pointer (some ⟨g, 2, none⟩)) rfl (by kernel_rfl) (by kernel_rfl) (by kernel_rfl) (fun _ _ _ h => h) (Or.inl ⟨by rfl, fun w' hSw => by go_simp⟩) hHeld ?_
          try simp only [Act.put, List.getElem_toArray, List.getElem_cons_succ, List.getElem_cons_zero, List.setIfInBounds_toArray, List.set_cons_zero, List.set_cons_succ]
          refine wpAnyH_take (i := 12) (v := .int .i64 d) rfl (by kernel_rfl) (by kernel_rfl) (by kernel_rfl) (fun _ _ _ h => h) (Or.inl ⟨by rfl, fun w' hSw => by have hq := hSw; have hc := (IB.out _ hq.2).2.2.1; go_simp⟩) hHeld ?_
          try simp only [Act.put, List.getElem_toArray, List.getElem_cons_succ, List.getElem_cons_zero, List.setIfInBounds_toArray, List.set_cons_zero, List.set_cons_succ]
          refine wpAnyH_take (i := 13) (v := .slice (some ⟨tb, toff, none⟩) 6 c) rfl (by kernel_rfl) (by kernel_rfl) (by kernel_rfl) (fun _ _ _ h => h) (Or.inl ⟨by rfl, fun w' hSw => by go_simp⟩) hHeld ?_
          try simp only [Act.put, List.getElem_toArray, List.getElem_cons_succ, List.getElem_cons_zero, List.setIfInBounds_toArray, List.set_cons_zero, List.set_cons_succ]
          refine wpAnyH_take (i := 14) (v := .pointer (some ⟨tb, toff + 3, none⟩)) rfl (by kernel_rfl) (by kernel_rfl) (by kernel_rfl) (fun _ _ _ h => h) (Or.inl ⟨by rfl, fun w' hSw => by go_simp⟩) hHeld ?_
          try simp only [Act.put, List.getElem_toArray, List.getElem_cons_succ, List.getElem_cons_zero, List.setIfInBounds_toArray, List.set_cons_zero, List.set_cons_succ]
          refine wpAnyH_take (i := 15) (v := S t) rfl (by kernel_rfl) (by kernel_rfl) (by kernel_rfl) (fun _ _ _ h => h) (Or.inl ⟨by rfl, fun w' hSw => by have hq := hSw; have hc := (IB.out _ hq.2).2.2.2.1; go_simp⟩) hHeld ?_
          try simp only [Act.put, List.getElem_toArray, List.getElem_cons_succ, List.getElem_cons_zero, List.setIfInBounds_toArray, List.set_cons_zero, List.set_cons_succ]
          refine wpAnyH_ready (rs := [3, 20]) (by kernel_rfl) (by simp) (AllReadyH.cons rfl (fun K1 hK1 => ?_) (AllReadyH.cons rfl (fun K1 hK1 => ?_) AllReadyH.nil))
          · skip
            try simp only [Act.put, List.getElem_toArray, List.getElem_cons_succ, List.getElem_cons_zero, List.setIfInBounds_toArray, List.set_cons_zero, List.set_cons_succ]
            go_simp
            refine Calls.mono (HH.out _) ?_
            rintro e wc1 ⟨rfl, hc2⟩
            refine hK1.out _ _ (hHeld.step hc2) (fun hHeld => ?_)
            clear hK1 K1
            try simp only [Act.put, List.getElem_toArray, List.getElem_cons_succ, List.getElem_cons_zero, List.setIfInBounds_toArray, List.set_cons_zero, List.set_cons_succ]
            refine wpAnyH_ready (rs := [16, 20]) (by kernel_rfl) (by simp) (AllReadyH.cons rfl (fun K1 hK1 => ?_) (AllReadyH.cons rfl (fun K1 hK1 => ?_) AllReadyH.nil))
            · skip
              try simp only [Act.put, List.getElem_toArray, List.getElem_cons_succ, List.getElem_cons_zero, List.setIfInBounds_toArray, List.set_cons_zero, List.set_cons_succ]
              go_simp
              refine Calls.mono (HLK.out _) ?_
              rintro e wc3 ⟨rfl, hc4⟩
              refine hK1.out _ _ (hHeld.step hc4) (fun hHeld => ?_)
              clear hK1 K1
              try simp only [Act.put, List.getElem_toArray, List.getElem_cons_succ, List.getElem_cons_zero, List.setIfInBounds_toArray, List.set_cons_zero, List.set_cons_succ]
              refine wpAnyH_take (i := 17) (v := .tuple #[.agg D.toArray, .int .i64 E]) rfl (by kernel_rfl) (by kernel_rfl) (by kernel_rfl) (fun _ _ _ h => h) (Or.inl ⟨by rfl, fun w' hSw => by go_simp⟩) hHeld ?_
              try simp only [Act.put, List.getElem_toArray, List.getElem_cons_succ, List.getElem_cons_zero, List.setIfInBounds_toArray, List.set_cons_zero, List.set_cons_succ]
              refine wpAnyH_take (i := 18) (v := .agg D.toArray) rfl (by kernel_rfl) (by kernel_rfl) (by kernel_rfl) (fun _ _ _ h => h) (Or.inl ⟨by rfl, fun w' hSw => by go_simp⟩) hHeld ?_
              try simp only [Act.put, List.getElem_toArray, List.getElem_cons_succ, List.getElem_cons_zero, List.setIfInBounds_toArray, List.set_cons_zero, List.set_cons_succ]
              refine wpAnyH_take (i := 19) (v := .int .i64 E) rfl (by kernel_rfl) (by kernel_rfl) (by kernel_rfl) (fun _ _ _ h => h) (Or.inl ⟨by rfl, fun w' hSw => by go_simp⟩) hHeld ?_
              try simp only [Act.put, List.getElem_toArray, List.getElem_cons_succ, List.getElem_cons_zero, List.setIfInBounds_toArray, List.set_cons_zero, List.set_cons_succ]
              refine wpAnyH_ready (rs := [20]) (by kernel_rfl) (by simp) (AllReadyH.cons rfl (fun K1 hK1 => ?_) AllReadyH.nil)
              try simp only [Act.put, List.getElem_toArray, List.getElem_cons_succ, List.getElem_cons_zero, List.setIfInBounds_toArray, List.set_cons_zero, List.set_cons_succ]
              go_simp
              have hd6 := (Below.refl wc3.heap.size wc3).alloc (Nat.le_refl _) (.cells Rp.zero.cells.toArray 48)
              have r8 : Row (wc3.alloc (.cells Rp.zero.cells.toArray 48)) wc3.heap.size 48 Rp.zero.cells := Row.new wc3 48 Rp.zero.cells
              have r8n := hHeld.fresh
              have r8s := hHeld.size
              have hHeld2 := hHeld.step hd6
              generalize wc3.alloc (.cells Rp.zero.cells.toArray 48) = wa5 at *
              obtain ⟨ga7, ga7e⟩ : ∃ ga7, ga7 = wc3.heap.size := ⟨_, rfl⟩
              rw [← ga7e] at r8 r8n r8s ⊢
              refine hK1.out _ _ (hHeld2) (fun hHeld => ?_)
              clear hK1 K1
              try simp only [Act.put, List.getElem_toArray, List.getElem_cons_succ, List.getElem_cons_zero, List.setIfInBounds_toArray, List.set_cons_zero, List.set_cons_succ]
              clear hHeld2 ga7e
              refine wpAnyH_ready (rs := [21]) (by kernel_rfl) (by simp) (AllReadyH.cons rfl (fun K1 hK1 => ?_) AllReadyH.nil)
              try simp only [Act.put, List.getElem_toArray, List.getElem_cons_succ, List.getElem_cons_zero, List.setIfInBounds_toArray, List.set_cons_zero, List.set_cons_succ]
              rw [if_pos (by rfl)]
              refine wp_store_at 48 (.tmp 8) (.tmp 64) rfl ga7 0 D _ _ rfl rfl r8 (by have := HZL.out; have := HUL.out; omega) (by rw [rp_info, HUL.out]) HU1.out ?_
              intro ws8 hrS hgS
              rw [splice_all (HUL.out.trans HZL.out.symm)] at hrS
              have HrU := Lib.hid hrS
              have hHeld2 := hHeld.put hgS r8s r8n
              clear hrS hgS
              refine hK1.out _ _ (hHeld2) (fun hHeld => ?_)
              clear hK1 K1
              try simp only [Act.put, List.getElem_toArray, List.getElem_cons_succ, List.getElem_cons_zero, List.setIfInBounds_toArray, List.set_cons_zero, List.set_cons_succ]
              clear hHeld2
              refine wpAnyH_take (i := 22) (v := .int .i64 E) rfl (by kernel_rfl) (by kernel_rfl) (by kernel_rfl) (fun _ _ _ h => h) (Or.inl ⟨by rfl, fun w' hSw => by go_simp⟩) hHeld ?_
              try simp only [Act.put, List.getElem_toArray, List.getElem_cons_succ, List.getElem_cons_zero, List.setIfInBounds_toArray, List.set_cons_zero, List.set_cons_succ]
              refine wpAnyH_done (by kernel_rfl) ?_ _
              refine NoPanic.normal ?_
              have HS6 : Hid (BlocksS w w3 ws8.drew [(ga7, 48, D), (w.heap.size, 48, Rp.zero.cells)]) := Lib.hid (BlocksS.drew ⟨hHeld.1.cons HrU.out, hHeld.2⟩)
              clear hHeld HrU hzv
              rcases Hcase.out with ⟨rfl, hRn⟩ | ⟨rfl, hne, hRn⟩ | ⟨rfl, rfl, u, rfl, hRs⟩
              · have HRn := Lib.hid hRn
                clear hRn
                go_wp2_with fail
                refine wp_region_noPanic ?_
                refine wp_region_held_drew (S := fun w' => BlocksS w w3 w' [(ga7, 48, D), (w.heap.size, 48, Rp.zero.cells)]) (by kernel_rfl) (HS6.out) (fun hHeld => ?_)
                generalize ws8.drew = wr at *
                refine wpAnyH_take (i := 0) (v := .int .i64 2) rfl (by kernel_rfl) (by kernel_rfl) (by kernel_rfl) (fun _ _ _ h => h) (Or.inl ⟨by rfl, fun w' hSw => by go_simp⟩) hHeld ?_
                try simp only [Act.put, List.getElem_toArray, List.getElem_cons_succ, List.getElem_cons_zero, List.setIfInBounds_toArray, List.set_cons_zero, List.set_cons_succ]
                refine wpAnyH_take (i := 1) (v := .bool true) rfl (by kernel_rfl) (by kernel_rfl) (by kernel_rfl) (fun _ _ _ h => h) (Or.inl ⟨by rfl, fun w' hSw => by go_simp⟩) hHeld ?_
                try simp only [Act.put, List.getElem_toArray, List.getElem_cons_succ, List.getElem_cons_zero, List.setIfInBounds_toArray, List.set_cons_zero, List.set_cons_succ]
                refine wpAnyH_take (i := 2) (v := .bool true) rfl (by kernel_rfl) (by kernel_rfl) (by kernel_rfl) (fun _ _ _ h => h) (Or.inl ⟨by rfl, fun w' hSw => by go_simp⟩) hHeld ?_
                try simp only [Act.put, List.getElem_toArray, List.getElem_cons_succ, List.getElem_cons_zero, List.setIfInBounds_toArray, List.set_cons_zero, List.set_cons_succ]
                refine wpAnyH_take (i := 3) (v := undef) rfl (by kernel_rfl) (by kernel_rfl) (by kernel_rfl) (fun _ _ _ h => h) (Or.inr ⟨by rfl, rfl⟩) hHeld ?_
                try simp only [Act.put, List.getElem_toArray, List.getElem_cons_succ, List.getElem_cons_zero, List.setIfInBounds_toArray, List.set_cons_zero, List.set_cons_succ]
                refine wpAnyH_take (i := 4) (v := undef) rfl (by kernel_rfl) (by kernel_rfl) (by kernel_rfl) (fun _ _ _ h => h) (Or.inr ⟨by rfl, rfl⟩) hHeld ?_
                try simp only [Act.put, List.getElem_toArray, List.getElem_cons_succ, List.getElem_cons_zero, List.setIfInBounds_toArray, List.set_cons_zero, List.set_cons_succ]
                refine wpAnyH_take (i := 5) (v := undef) rfl (by kernel_rfl) (by kernel_rfl) (by kernel_rfl) (fun _ _ _ h => h) (Or.inr ⟨by rfl, rfl⟩) hHeld ?_
                try simp only [Act.put, List.getElem_toArray, List.getElem_cons_succ, List.getElem_cons_zero, List.setIfInBounds_toArray, List.set_cons_zero, List.set_cons_succ]
                refine wpAnyH_take (i := 6) (v := undef) rfl (by kernel_rfl) (by kernel_rfl) (by kernel_rfl) (fun _ _ _ h => h) (Or.inr ⟨by rfl, rfl⟩) hHeld ?_
                try simp only [Act.put, List.getElem_toArray, List.getElem_cons_succ, List.getElem_cons_zero, List.setIfInBounds_toArray, List.set_cons_zero, List.set_cons_succ]
                refine wpAnyH_take (i := 7) (v := undef) rfl (by kernel_rfl) (by kernel_rfl) (by kernel_rfl) (fun _ _ _ h => h) (Or.inr ⟨by rfl, rfl⟩) hHeld ?_
                try simp only [Act.put, List.getElem_toArray, List.getElem_cons_succ, List.getElem_cons_zero, List.setIfInBounds_toArray, List.set_cons_zero, List.set_cons_succ]
                refine wpAnyH_take (i := 8) (v := undef) rfl (by kernel_rfl) (by kernel_rfl) (by kernel_rfl) (fun _ _ _ h => h) (Or.inr ⟨by rfl, rfl⟩) hHeld ?_
                try simp only [Act.put, List.getElem_toArray, List.getElem_cons_succ, List.getElem_cons_zero, List.setIfInBounds_toArray, List.set_cons_zero, List.set_cons_succ]
                refine wpAnyH_take (i := 9) (v := undef) rfl (by kernel_rfl) (by kernel_rfl) (by kernel_rfl) (fun _ _ _ h => h) (Or.inr ⟨by rfl, rfl⟩) hHeld ?_
                try simp only [Act.put, List.getElem_toArray, List.getElem_cons_succ, List.getElem_cons_zero, List.setIfInBounds_toArray, List.set_cons_zero, List.set_cons_succ]
                refine wpAnyH_take (i := 10) (v := .bool true) rfl (by kernel_rfl) (by kernel_rfl) (by kernel_rfl) (fun _ _ _ h => h) (Or.inl ⟨by rfl, fun w' hSw => by go_simp⟩) hHeld ?_
                try simp only [Act.put, List.getElem_toArray, List.getElem_cons_succ, List.getElem_cons_zero, List.setIfInBounds_toArray, List.set_cons_zero, List.set_cons_succ]
                refine wpAnyH_done (by kernel_rfl) ?_ _
                refine NoPanic.normal ?_
                have Hr6 := Lib.hid hHeld.1.hd
                have Hrz6 := Lib.hid hHeld.1.tl.hd
                have Hb6 := Lib.hid hHeld.1.1
                clear hHeld
                go_wp2_with (first
                  | (with_reducible show wpList _ _ _ (⟨_, .build 48 _, _, _, _, _⟩ :: _) _ _; refine wpList_buildL rfl 48 [] rfl (some 77) rfl _ rfl _ Rp.zero_built0 ?_)
                  | (with_reducible show wpList _ _ _ (⟨_, .store 48 _ _, _, _, _, _⟩ :: _) _ _
                     refine wpList_store_at rfl 48 (.tmp 2) (.tmp 77) rfl (w.heap.size) 0 Rp.zero.cells _ _ rfl rfl Hrz6.out (by have := HZL.out; omega) (by rw [rp_info, HZL.out]) HZ1.out ?_
                     intro wZ hrZ hgZ
                     rw [splice_all rfl] at hrZ
                     have HrZ := Lib.hid hrZ
                     have HbZ := Lib.hid (below_own Hb6.out hgZ (fun k hk => by cases hk; exact Nat.le_refl _))
                     clear hrZ hgZ))
                refine bodyPost_ret (results_rowL rfl _ _ (w.heap.size) 48 _ _ rfl HrZ.out Tryd.underlying48 rfl (by rw [rp_info, List.size_toArray, HZL.out]) _ rfl) rfl ⟨?_, HbZ.out⟩
                rw [HRn.out]
                exact rfl
              · have HRn := Lib.hid hRn
                have hb1 : (K == q) = false := by simpa using hne
                have hb2 : (K != q) = true := by simpa using hne
                clear hRn
                go_wp2_with fail
                refine wp_region_noPanic ?_
                refine wp_region_held_drew (S := fun w' => BlocksS w w3 w' [(ga7, 48, D), (w.heap.size, 48, Rp.zero.cells)]) (by kernel_rfl) (HS6.out) (fun hHeld => ?_)
                generalize ws8.drew = wr at *
                refine wpAnyH_take (i := 0) (v := .int .i64 0) rfl (by kernel_rfl) (by kernel_rfl) (by kernel_rfl) (fun _ _ _ h => h) (Or.inl ⟨by rfl, fun w' hSw => by go_simp⟩) hHeld ?_
                try simp only [Act.put, List.getElem_toArray, List.getElem_cons_succ, List.getElem_cons_zero, List.setIfInBounds_toArray, List.set_cons_zero, List.set_cons_succ]
                refine wpAnyH_take (i := 1) (v := .bool false) rfl (by kernel_rfl) (by kernel_rfl) (by kernel_rfl) (fun _ _ _ h => h) (Or.inl ⟨by rfl, fun w' hSw => by go_simp⟩) hHeld ?_
                try simp only [Act.put, List.getElem_toArray, List.getElem_cons_succ, List.getElem_cons_zero, List.setIfInBounds_toArray, List.set_cons_zero, List.set_cons_succ]
                refine wpAnyH_take (i := 2) (v := .bool false) rfl (by kernel_rfl) (by kernel_rfl) (by kernel_rfl) (fun _ _ _ h => h) (Or.inl ⟨by rfl, fun w' hSw => by go_simp⟩) hHeld ?_
                try simp only [Act.put, List.getElem_toArray, List.getElem_cons_succ, List.getElem_cons_zero, List.setIfInBounds_toArray, List.set_cons_zero, List.set_cons_succ]
                refine wpAnyH_take (i := 3) (v := .pointer (some ⟨ga7, 36, none⟩)) rfl (by kernel_rfl) (by kernel_rfl) (by kernel_rfl) (fun _ _ _ h => h) (Or.inl ⟨by rfl, fun w' hSw => by go_simp⟩) hHeld ?_
                try simp only [Act.put, List.getElem_toArray, List.getElem_cons_succ, List.getElem_cons_zero, List.setIfInBounds_toArray, List.set_cons_zero, List.set_cons_succ]
                refine' wpAnyH_take (i := 4) (v := _) rfl (by kernel_rfl) (by kernel_rfl) (by kernel_rfl) (fun _ _ _ h => h) (yieldsIf_load_mid (by rfl) _ _ rfl ga7 36 rfl (bRow K).toList _ (fun w' hSw => (HBK.out _ _ _ hSw.1.hd)) hu23 rfl hik) hHeld ?_
                try simp only [Act.put, List.getElem_toArray, List.getElem_cons_succ, List.getElem_cons_zero, List.setIfInBounds_toArray, List.set_cons_zero, List.set_cons_succ]
                refine wpAnyH_take (i := 6) (v := .slice (some ⟨tb, toff, none⟩) 6 c) rfl (by kernel_rfl) (by kernel_rfl) (by kernel_rfl) (fun _ _ _ h => h) (Or.inl ⟨by rfl, fun w' hSw => by go_simp⟩) hHeld ?_
                try simp only [Act.put, List.getElem_toArray, List.getElem_cons_succ, List.getElem_cons_zero, List.setIfInBounds_toArray, List.set_cons_zero, List.set_cons_succ]
                refine wpAnyH_take (i := 7) (v := .pointer (some ⟨tb, toff + 5, none⟩)) rfl (by kernel_rfl) (by kernel_rfl) (by kernel_rfl) (fun _ _ _ h => h) (Or.inl ⟨by rfl, fun w' hSw => by go_simp⟩) hHeld ?_
                try simp only [Act.put, List.getElem_toArray, List.getElem_cons_succ, List.getElem_cons_zero, List.setIfInBounds_toArray, List.set_cons_zero, List.set_cons_succ]
                refine wpAnyH_take (i := 8) (v := S q) rfl (by kernel_rfl) (by kernel_rfl) (by kernel_rfl) (fun _ _ _ h => h) (Or.inl ⟨by rfl, fun w' hSw => by have hq := hSw; have hc := (IB.out _ hq.2).2.2.2.2.2; go_simp⟩) hHeld ?_
                try simp only [Act.put, List.getElem_toArray, List.getElem_cons_succ, List.getElem_cons_zero, List.setIfInBounds_toArray, List.set_cons_zero, List.set_cons_succ]
                refine wpAnyH_ready (rs := [5]) (by kernel_rfl) (by simp) (AllReadyH.cons rfl (fun K1 hK1 => ?_) AllReadyH.nil)
                try simp only [Act.put, List.getElem_toArray, List.getElem_cons_succ, List.getElem_cons_zero, List.setIfInBounds_toArray, List.set_cons_zero, List.set_cons_succ]
                go_simp
                refine Calls.mono (BY.out _) ?_
                rintro e wc301 ⟨rfl, hc302⟩
                refine hK1.out _ _ (hHeld.step hc302) (fun hHeld => ?_)
                clear hK1 K1
                try simp only [Act.put, List.getElem_toArray, List.getElem_cons_succ, List.getElem_cons_zero, List.setIfInBounds_toArray, List.set_cons_zero, List.set_cons_succ]
                refine wpAnyH_take (i := 9) (v := .bool true) rfl (by kernel_rfl) (by kernel_rfl) (by kernel_rfl) (fun _ _ _ h => h) (Or.inl ⟨by rfl, fun w' hSw => by go_simp⟩) hHeld ?_
                try simp only [Act.put, List.getElem_toArray, List.getElem_cons_succ, List.getElem_cons_zero, List.setIfInBounds_toArray, List.set_cons_zero, List.set_cons_succ]
                refine wpAnyH_take (i := 10) (v := .bool true) rfl (by kernel_rfl) (by kernel_rfl) (by kernel_rfl) (fun _ _ _ h => h) (Or.inl ⟨by rfl, fun w' hSw => by go_simp⟩) hHeld ?_
                try simp only [Act.put, List.getElem_toArray, List.getElem_cons_succ, List.getElem_cons_zero, List.setIfInBounds_toArray, List.set_cons_zero, List.set_cons_succ]
                refine wpAnyH_done (by kernel_rfl) ?_ _
                refine NoPanic.normal ?_
                have Hr6 := Lib.hid hHeld.1.hd
                have Hrz6 := Lib.hid hHeld.1.tl.hd
                have Hb6 := Lib.hid hHeld.1.1
                clear hHeld
                go_wp2_with (first
                  | (with_reducible show wpList _ _ _ (⟨_, .build 48 _, _, _, _, _⟩ :: _) _ _; refine wpList_buildL rfl 48 [] rfl (some 77) rfl _ rfl _ Rp.zero_built0 ?_)
                  | (with_reducible show wpList _ _ _ (⟨_, .store 48 _ _, _, _, _, _⟩ :: _) _ _
                     refine wpList_store_at rfl 48 (.tmp 2) (.tmp 77) rfl (w.heap.size) 0 Rp.zero.cells _ _ rfl rfl Hrz6.out (by have := HZL.out; omega) (by rw [rp_info, HZL.out]) HZ1.out ?_
                     intro wZ hrZ hgZ
                     rw [splice_all rfl] at hrZ
                     have HrZ := Lib.hid hrZ
                     have HbZ := Lib.hid (below_own Hb6.out hgZ (fun k hk => by cases hk; exact Nat.le_refl _))
                     clear hrZ hgZ))
                refine bodyPost_ret (results_rowL rfl _ _ (w.heap.size) 48 _ _ rfl HrZ.out Tryd.underlying48 rfl (by rw [rp_info, List.size_toArray, HZL.out]) _ rfl) rfl ⟨?_, HbZ.out⟩
                rw [HRn.out]
                exact rfl
              · have HRs2 := Lib.hid hRs
                clear hRs
                go_wp2_with fail
                refine wp_region_noPanic ?_
                refine wp_region_held_drew (S := fun w' => BlocksS w w3 w' [(ga7, 48, u.cells), (w.heap.size, 48, Rp.zero.cells)]) (by kernel_rfl) (HS6.out) (fun hHeld => ?_)
                generalize ws8.drew = wr at *
                refine wpAnyH_take (i := 0) (v := .int .i64 0) rfl (by kernel_rfl) (by kernel_rfl) (by kernel_rfl) (fun _ _ _ h => h) (Or.inl ⟨by rfl, fun w' hSw => by go_simp⟩) hHeld ?_
                try simp only [Act.put, List.getElem_toArray, List.getElem_cons_succ, List.getElem_cons_zero, List.setIfInBounds_toArray, List.set_cons_zero, List.set_cons_succ]
                refine wpAnyH_take (i := 1) (v := .bool false) rfl (by kernel_rfl) (by kernel_rfl) (by kernel_rfl) (fun _ _ _ h => h) (Or.inl ⟨by rfl, fun w' hSw => by go_simp⟩) hHeld ?_
                try simp only [Act.put, List.getElem_toArray, List.getElem_cons_succ, List.getElem_cons_zero, List.setIfInBounds_toArray, List.set_cons_zero, List.set_cons_succ]
                refine wpAnyH_take (i := 2) (v := .bool false) rfl (by kernel_rfl) (by kernel_rfl) (by kernel_rfl) (fun _ _ _ h => h) (Or.inl ⟨by rfl, fun w' hSw => by go_simp⟩) hHeld ?_
                try simp only [Act.put, List.getElem_toArray, List.getElem_cons_succ, List.getElem_cons_zero, List.setIfInBounds_toArray, List.set_cons_zero, List.set_cons_succ]
                refine wpAnyH_take (i := 3) (v := .pointer (some ⟨ga7, 36, none⟩)) rfl (by kernel_rfl) (by kernel_rfl) (by kernel_rfl) (fun _ _ _ h => h) (Or.inl ⟨by rfl, fun w' hSw => by go_simp⟩) hHeld ?_
                try simp only [Act.put, List.getElem_toArray, List.getElem_cons_succ, List.getElem_cons_zero, List.setIfInBounds_toArray, List.set_cons_zero, List.set_cons_succ]
                refine' wpAnyH_take (i := 4) (v := _) rfl (by kernel_rfl) (by kernel_rfl) (by kernel_rfl) (fun _ _ _ h => h) (yieldsIf_load_mid (by rfl) _ _ rfl ga7 36 rfl (bRow K).toList _ (fun w' hSw => (HBK.out _ _ _ hSw.1.hd)) hu23 rfl hik) hHeld ?_
                try simp only [Act.put, List.getElem_toArray, List.getElem_cons_succ, List.getElem_cons_zero, List.setIfInBounds_toArray, List.set_cons_zero, List.set_cons_succ]
                refine wpAnyH_take (i := 6) (v := .slice (some ⟨tb, toff, none⟩) 6 c) rfl (by kernel_rfl) (by kernel_rfl) (by kernel_rfl) (fun _ _ _ h => h) (Or.inl ⟨by rfl, fun w' hSw => by go_simp⟩) hHeld ?_
                try simp only [Act.put, List.getElem_toArray, List.getElem_cons_succ, List.getElem_cons_zero, List.setIfInBounds_toArray, List.set_cons_zero, List.set_cons_succ]
                refine wpAnyH_take (i := 7) (v := .pointer (some ⟨tb, toff + 5, none⟩)) rfl (by kernel_rfl) (by kernel_rfl) (by kernel_rfl) (fun _ _ _ h => h) (Or.inl ⟨by rfl, fun w' hSw => by go_simp⟩) hHeld ?_
                try simp only [Act.put, List.getElem_toArray, List.getElem_cons_succ, List.getElem_cons_zero, List.setIfInBounds_toArray, List.set_cons_zero, List.set_cons_succ]
                refine wpAnyH_take (i := 8) (v := S K) rfl (by kernel_rfl) (by kernel_rfl) (by kernel_rfl) (fun _ _ _ h => h) (Or.inl ⟨by rfl, fun w' hSw => by have hq := hSw; have hc := (IB.out _ hq.2).2.2.2.2.2; go_simp⟩) hHeld ?_
                try simp only [Act.put, List.getElem_toArray, List.getElem_cons_succ, List.getElem_cons_zero, List.setIfInBounds_toArray, List.set_cons_zero, List.set_cons_succ]
                refine wpAnyH_ready (rs := [5]) (by kernel_rfl) (by simp) (AllReadyH.cons rfl (fun K1 hK1 => ?_) AllReadyH.nil)
                try simp only [Act.put, List.getElem_toArray, List.getElem_cons_succ, List.getElem_cons_zero, List.setIfInBounds_toArray, List.set_cons_zero, List.set_cons_succ]
                go_simp
                refine Calls.mono (BY.out _) ?_
                rintro e wc401 ⟨rfl, hc402⟩
                refine hK1.out _ _ (hHeld.step hc402) (fun hHeld => ?_)
                clear hK1 K1
                try simp only [Act.put, List.getElem_toArray, List.getElem_cons_succ, List.getElem_cons_zero, List.setIfInBounds_toArray, List.set_cons_zero, List.set_cons_succ]
                refine wpAnyH_take (i := 9) (v := .bool false) rfl (by kernel_rfl) (by kernel_rfl) (by kernel_rfl) (fun _ _ _ h => h) (Or.inl ⟨by rfl, fun w' hSw => by go_simp⟩) hHeld ?_
                try simp only [Act.put, List.getElem_toArray, List.getElem_cons_succ, List.getElem_cons_zero, List.setIfInBounds_toArray, List.set_cons_zero, List.set_cons_succ]
                refine wpAnyH_take (i := 10) (v := .bool false) rfl (by kernel_rfl) (by kernel_rfl) (by kernel_rfl) (fun _ _ _ h => h) (Or.inl ⟨by rfl, fun w' hSw => by go_simp⟩) hHeld ?_
                try simp only [Act.put, List.getElem_toArray, List.getElem_cons_succ, List.getElem_cons_zero, List.setIfInBounds_toArray, List.set_cons_zero, List.set_cons_succ]
                refine wpAnyH_done (by kernel_rfl) ?_ _
                refine NoPanic.normal ?_
                have Hr6 := Lib.hid hHeld.1.hd
                have Hrz6 := Lib.hid hHeld.1.tl.hd
                have Hb6 := Lib.hid hHeld.1.1
                clear hHeld
                go_wp2_with (first
                  | (with_reducible show wpList _ _ _ (⟨_, .load 48 _, _, _, _, _⟩ :: _) _ _; refine wpList_load_tx rfl 48 (.tmp 8) rfl ga7 0 rfl u.cells _ (row_range Hr6.out) Tryd.underlying48 rfl (by rw [rp_info, HUL.out]) ?_)
                  | (with_reducible show wpList _ _ _ (⟨_, .store 48 _ _, _, _, _, _⟩ :: _) _ _
                     refine wpList_store_at rfl 48 (.tmp 2) (.tmp 78) rfl (w.heap.size) 0 u.cells _ _ rfl rfl Hrz6.out (by have := HZL.out; have := HUL.out; omega) (by rw [rp_info, HUL.out]) HU1.out ?_
                     intro wZ hrZ hgZ
                     rw [splice_all (HUL.out.trans HZL.out.symm)] at hrZ
                     have HrZ := Lib.hid hrZ
                     have HbZ := Lib.hid (below_own Hb6.out hgZ (fun k hk => by cases hk; exact Nat.le_refl _))
                     clear hrZ hgZ))
                refine bodyPost_ret (results_rowL rfl _ _ (w.heap.size) 48 _ _ rfl HrZ.out Tryd.underlying48 rfl (by rw [rp_info, List.size_toArray, HUL.out]) _ rfl) rfl ⟨?_, HbZ.out⟩
                rw [HRs2.out]
                exact rfl
            · skip
              try simp only [Act.put, List.getElem_toArray, List.getElem_cons_succ, List.getElem_cons_zero, List.setIfInBounds_toArray, List.set_cons_zero, List.set_cons_succ]
              go_simp
              have hd10 := (Below.refl wc1.heap.size wc1).alloc (Nat.le_refl _) (.cells Rp.zero.cells.toArray 48)
              have r8 : Row (wc1.alloc (.cells Rp.zero.cells.toArray 48)) wc1.heap.size 48 Rp.zero.cells := Row.new wc1 48 Rp.zero.cells
              have r8n := hHeld.fresh
              have r8s := hHeld.size
              have hHeld2 := hHeld.step hd10
              generalize wc1.alloc (.cells Rp.zero.cells.toArray 48) = wa9 at *
              obtain ⟨ga11, ga11e⟩ : ∃ ga11, ga11 = wc1.heap.size := ⟨_, rfl⟩
              rw [← ga11e] at r8 r8n r8s ⊢
              refine hK1.out _ _ (hHeld2) (fun hHeld => ?_)
              clear hK1 K1
              try simp only [Act.put, List.getElem_toArray, List.getElem_cons_succ, List.getElem_cons_zero, List.setIfInBounds_toArray, List.set_cons_zero, List.set_cons_succ]
              clear hHeld2 ga11e
              refine wpAnyH_ready (rs := [16]) (by kernel_rfl) (by simp) (AllReadyH.cons rfl (fun K1 hK1 => ?_) AllReadyH.nil)
              try simp only [Act.put, List.getElem_toArray, List.getElem_cons_succ, List.getElem_cons_zero, List.setIfInBounds_toArray, List.set_cons_zero, List.set_cons_succ]
              go_simp
              refine Calls.mono (HLK.out _) ?_
              rintro e wc12 ⟨rfl, hc13⟩
              have r8 := r8.kept (grownBy_of_below hc13 none) (by simp)
              refine hK1.out _ _ (hHeld.step hc13) (fun hHeld => ?_)
              clear hK1 K1
              try simp only [Act.put, List.getElem_toArray, List.getElem_cons_succ, List.getElem_cons_zero, List.setIfInBounds_toArray, List.set_cons_zero, List.set_cons_succ]
              refine wpAnyH_take (i := 17) (v := .tuple #[.agg D.toArray, .int .i64 E]) rfl (by kernel_rfl) (by kernel_rfl) (by kernel_rfl) (fun _ _ _ h => h) (Or.inl ⟨by rfl, fun w' hSw => by go_simp⟩) hHeld ?_
              try simp only [Act.put, List.getElem_toArray, List.getElem_cons_succ, List.getElem_cons_zero, List.setIfInBounds_toArray, List.set_cons_zero, List.set_cons_succ]
              refine wpAnyH_take (i := 18) (v := .agg D.toArray) rfl (by kernel_rfl) (by kernel_rfl) (by kernel_rfl) (fun _ _ _ h => h) (Or.inl ⟨by rfl, fun w' hSw => by go_simp⟩) hHeld ?_
              try simp only [Act.put, List.getElem_toArray, List.getElem_cons_succ, List.getElem_cons_zero, List.setIfInBounds_toArray, List.set_cons_zero, List.set_cons_succ]
              refine wpAnyH_take (i := 19) (v := .int .i64 E) rfl (by kernel_rfl) (by kernel_rfl) (by kernel_rfl) (fun _ _ _ h => h) (Or.inl ⟨by rfl, fun w' hSw => by go_simp⟩) hHeld ?_
              try simp only [Act.put, List.getElem_toArray, List.getElem_cons_succ, List.getElem_cons_zero, List.setIfInBounds_toArray, List.set_cons_zero, List.set_cons_succ]
              refine wpAnyH_ready (rs := [21]) (by kernel_rfl) (by simp) (AllReadyH.cons rfl (fun K1 hK1 => ?_) AllReadyH.nil)
              try simp only [Act.put, List.getElem_toArray, List.getElem_cons_succ, List.getElem_cons_zero, List.setIfInBounds_toArray, List.set_cons_zero, List.set_cons_succ]
              rw [if_pos (by rfl)]
              refine wp_store_at 48 (.tmp 8) (.tmp 64) rfl ga11 0 D _ _ rfl rfl r8 (by have := HZL.out; have := HUL.out; omega) (by rw [rp_info, HUL.out]) HU1.out ?_
              intro ws14 hrS hgS
              rw [splice_all (HUL.out.trans HZL.out.symm)] at hrS
              have HrU := Lib.hid hrS
              have hHeld2 := hHeld.put hgS r8s r8n
              clear hrS hgS
              refine hK1.out _ _ (hHeld2) (fun hHeld => ?_)
              clear hK1 K1
              try simp only [Act.put, List.getElem_toArray, List.getElem_cons_succ, List.getElem_cons_zero, List.setIfInBounds_toArray, List.set_cons_zero, List.set_cons_succ]
              clear hHeld2
              refine wpAnyH_take (i := 22) (v := .int .i64 E) rfl (by kernel_rfl) (by kernel_rfl) (by kernel_rfl) (fun _ _ _ h => h) (Or.inl ⟨by rfl, fun w' hSw => by go_simp⟩) hHeld ?_
              try simp only [Act.put, List.getElem_toArray, List.getElem_cons_succ, List.getElem_cons_zero, List.setIfInBounds_toArray, List.set_cons_zero, List.set_cons_succ]
              refine wpAnyH_done (by kernel_rfl) ?_ _
              refine NoPanic.normal ?_
              have HS6 : Hid (BlocksS w w3 ws14.drew [(ga11, 48, D), (w.heap.size, 48, Rp.zero.cells)]) := Lib.hid (BlocksS.drew ⟨hHeld.1.cons HrU.out, hHeld.2⟩)
              clear hHeld HrU hzv
              rcases Hcase.out with ⟨rfl, hRn⟩ | ⟨rfl, hne, hRn⟩ | ⟨rfl, rfl, u, rfl, hRs⟩
              · have HRn := Lib.hid hRn
                clear hRn
                go_wp2_with fail
                refine wp_region_noPanic ?_
                refine wp_region_held_drew (S := fun w' => BlocksS w w3 w' [(ga11, 48, D), (w.heap.size, 48, Rp.zero.cells)]) (by kernel_rfl) (HS6.out) (fun hHeld => ?_)
                generalize ws14.drew = wr at *
                refine wpAnyH_take (i := 0) (v := .int .i64 2) rfl (by kernel_rfl) (by kernel_rfl) (by kernel_rfl) (fun _ _ _ h => h) (Or.inl ⟨by rfl, fun w' hSw => by go_simp⟩) hHeld ?_
                try simp only [Act.put, List.getElem_toArray, List.getElem_cons_succ, List.getElem_cons_zero, List.setIfInBounds_toArray, List.set_cons_zero, List.set_cons_succ]
                refine wpAnyH_take (i := 1) (v := .bool true) rfl (by kernel_rfl) (by kernel_rfl) (by kernel_rfl) (fun _ _ _ h => h) (Or.inl ⟨by rfl, fun w' hSw => by go_simp⟩) hHeld ?_
                try simp only [Act.put, List.getElem_toArray, List.getElem_cons_succ, List.getElem_cons_zero, List.setIfInBounds_toArray, List.set_cons_zero, List.set_cons_succ]
                refine wpAnyH_take (i := 2) (v := .bool true) rfl (by kernel_rfl) (by kernel_rfl) (by kernel_rfl) (fun _ _ _ h => h) (Or.inl ⟨by rfl, fun w' hSw => by go_simp⟩) hHeld ?_
                try simp only [Act.put, List.getElem_toArray, List.getElem_cons_succ, List.getElem_cons_zero, List.setIfInBounds_toArray, List.set_cons_zero, List.set_cons_succ]
                refine wpAnyH_take (i := 3) (v := undef) rfl (by kernel_rfl) (by kernel_rfl) (by kernel_rfl) (fun _ _ _ h => h) (Or.inr ⟨by rfl, rfl⟩) hHeld ?_
                try simp only [Act.put, List.getElem_toArray, List.getElem_cons_succ, List.getElem_cons_zero, List.setIfInBounds_toArray, List.set_cons_zero, List.set_cons_succ]
                refine wpAnyH_take (i := 4) (v := undef) rfl (by kernel_rfl) (by kernel_rfl) (by kernel_rfl) (fun _ _ _ h => h) (Or.inr ⟨by rfl, rfl⟩) hHeld ?_
                try simp only [Act.put, List.getElem_toArray, List.getElem_cons_succ, List.getElem_cons_zero, List.setIfInBounds_toArray, List.set_cons_zero, List.set_cons_succ]
                refine wpAnyH_take (i := 5) (v := undef) rfl (by kernel_rfl) (by kernel_rfl) (by kernel_rfl) (fun _ _ _ h => h) (Or.inr ⟨by rfl, rfl⟩) hHeld ?_
                try simp only [Act.put, List.getElem_toArray, List.getElem_cons_succ, List.getElem_cons_zero, List.setIfInBounds_toArray, List.set_cons_zero, List.set_cons_succ]
                refine wpAnyH_take (i := 6) (v := undef) rfl (by kernel_rfl) (by kernel_rfl) (by kernel_rfl) (fun _ _ _ h => h) (Or.inr ⟨by rfl, rfl⟩) hHeld ?_
                try simp only [Act.put, List.getElem_toArray, List.getElem_cons_succ, List.getElem_cons_zero, List.setIfInBounds_toArray, List.set_cons_zero, List.set_cons_succ]
                refine wpAnyH_take (i := 7) (v := undef) rfl (by kernel_rfl) (by kernel_rfl) (by kernel_rfl) (fun _ _ _ h => h) (Or.inr ⟨by rfl, rfl⟩) hHeld ?_
                try simp only [Act.put, List.getElem_toArray, List.getElem_cons_succ, List.getElem_cons_zero, List.setIfInBounds_toArray, List.set_cons_zero, List.set_cons_succ]
                refine wpAnyH_take (i := 8) (v := undef) rfl (by kernel_rfl) (by kernel_rfl) (by kernel_rfl) (fun _ _ _ h => h) (Or.inr ⟨by rfl, rfl⟩) hHeld ?_
                try simp only [Act.put, List.getElem_toArray, List.getElem_cons_succ, List.getElem_cons_zero, List.setIfInBounds_toArray, List.set_cons_zero, List.set_cons_succ]
                refine wpAnyH_take (i := 9) (v := undef) rfl (by kernel_rfl) (by kernel_rfl) (by kernel_rfl) (fun _ _ _ h => h) (Or.inr ⟨by rfl, rfl⟩) hHeld ?_
                try simp only [Act.put, List.getElem_toArray, List.getElem_cons_succ, List.getElem_cons_zero, List.setIfInBounds_toArray, List.set_cons_zero, List.set_cons_succ]
                refine wpAnyH_take (i := 10) (v := .bool true) rfl (by kernel_rfl) (by kernel_rfl) (by kernel_rfl) (fun _ _ _ h => h) (Or.inl ⟨by rfl, fun w' hSw => by go_simp⟩) hHeld ?_
                try simp only [Act.put, List.getElem_toArray, List.getElem_cons_succ, List.getElem_cons_zero, List.setIfInBounds_toArray, List.set_cons_zero, List.set_cons_succ]
                refine wpAnyH_done (by kernel_rfl) ?_ _
                refine NoPanic.normal ?_
                have Hr6 := Lib.hid hHeld.1.hd
                have Hrz6 := Lib.hid hHeld.1.tl.hd
                have Hb6 := Lib.hid hHeld.1.1
                clear hHeld
                go_wp2_with (first
                  | (with_reducible show wpList _ _ _ (⟨_, .build 48 _, _, _, _, _⟩ :: _) _ _; refine wpList_buildL rfl 48 [] rfl (some 77) rfl _ rfl _ Rp.zero_built0 ?_)
                  | (with_reducible show wpList _ _ _ (⟨_, .store 48 _ _, _, _, _, _⟩ :: _) _ _
                     refine wpList_store_at rfl 48 (.tmp 2) (.tmp 77) rfl (w.heap.size) 0 Rp.zero.cells _ _ rfl rfl Hrz6.out (by have := HZL.out; omega) (by rw [rp_info, HZL.out]) HZ1.out ?_
                     intro wZ hrZ hgZ
                     rw [splice_all rfl] at hrZ
                     have HrZ := Lib.hid hrZ
                     have HbZ := Lib.hid (below_own Hb6.out hgZ (fun k hk => by cases hk; exact Nat.le_refl _))
                     clear hrZ hgZ))
                refine bodyPost_ret (results_rowL rfl _ _ (w.heap.size) 48 _ _ rfl HrZ.out Tryd.underlying48 rfl (by rw [rp_info, List.size_toArray, HZL.out]) _ rfl) rfl ⟨?_, HbZ.out⟩
                rw [HRn.out]
                exact rfl
              · have HRn := Lib.hid hRn
                have hb1 : (K == q) = false := by simpa using hne
                have hb2 : (K != q) = true := by simpa using hne
                clear hRn
                go_wp2_with fail
                refine wp_region_noPanic ?_
                refine wp_region_held_drew (S := fun w' => BlocksS w w3 w' [(ga11, 48, D), (w.heap.size, 48, Rp.zero.cells)]) (by kernel_rfl) (HS6.out) (fun hHeld => ?_)
                generalize ws14.drew = wr at *
                refine wpAnyH_take (i := 0) (v := .int .i64 0) rfl (by kernel_rfl) (by kernel_rfl) (by kernel_rfl) (fun _ _ _ h => h) (Or.inl ⟨by rfl, fun w' hSw => by go_simp⟩) hHeld ?_
                try simp only [Act.put, List.getElem_toArray, List.getElem_cons_succ, List.getElem_cons_zero, List.setIfInBounds_toArray, List.set_cons_zero, List.set_cons_succ]
                refine wpAnyH_take (i := 1) (v := .bool false) rfl (by kernel_rfl) (by kernel_rfl) (by kernel_rfl) (fun _ _ _ h => h) (Or.inl ⟨by rfl, fun w' hSw => by go_simp⟩) hHeld ?_
                try simp only [Act.put, List.getElem_toArray, List.getElem_cons_succ, List.getElem_cons_zero, List.setIfInBounds_toArray, List.set_cons_zero, List.set_cons_succ]
                refine wpAnyH_take (i := 2) (v := .bool false) rfl (by kernel_rfl) (by kernel_rfl) (by kernel_rfl) (fun _ _ _ h => h) (Or.inl ⟨by rfl, fun w' hSw => by go_simp⟩) hHeld ?_
                try simp only [Act.put, List.getElem_toArray, List.getElem_cons_succ, List.getElem_cons_zero, List.setIfInBounds_toArray, List.set_cons_zero, List.set_cons_succ]
                refine wpAnyH_take (i := 3) (v := .pointer (some ⟨ga11, 36, none⟩)) rfl (by kernel_rfl) (by kernel_rfl) (by kernel_rfl) (fun _ _ _ h => h) (Or.inl ⟨by rfl, fun w' hSw => by go_simp⟩) hHeld ?_
                try simp only [Act.put, List.getElem_toArray, List.getElem_cons_succ, List.getElem_cons_zero, List.setIfInBounds_toArray, List.set_cons_zero, List.set_cons_succ]
                refine' wpAnyH_take (i := 4) (v := _) rfl (by kernel_rfl) (by kernel_rfl) (by kernel_rfl) (fun _ _ _ h => h) (yieldsIf_load_mid (by rfl) _ _ rfl ga11 36 rfl (bRow K).toList _ (fun w' hSw => (HBK.out _ _ _ hSw.1.hd)) hu23 rfl hik) hHeld ?_
                try simp only [Act.put, List.getElem_toArray, List.getElem_cons_succ, List.getElem_cons_zero, List.setIfInBounds_toArray, List.set_cons_zero, List.set_cons_succ]
                refine wpAnyH_take (i := 6) (v := .slice (some ⟨tb, toff, none⟩) 6 c) rfl (by kernel_rfl) (by kernel_rfl) (by kernel_rfl) (fun _ _ _ h => h) (Or.inl ⟨by rfl, fun w' hSw => by go_simp⟩) hHeld ?_
                try simp only [Act.put, List.getElem_toArray, List.getElem_cons_succ, List.getElem_cons_zero, List.setIfInBounds_toArray, List.set_cons_zero, List.set_cons_succ]
                refine wpAnyH_take (i := 7) (v := .pointer (some ⟨tb, toff + 5, none⟩)) rfl (by kernel_rfl) (by kernel_rfl) (by kernel_rfl) (fun _ _ _ h => h) (Or.inl ⟨by rfl, fun w' hSw => by go_simp⟩) hHeld ?_
                try simp only [Act.put, List.getElem_toArray, List.getElem_cons_succ, List.getElem_cons_zero, List.setIfInBounds_toArray, List.set_cons_zero, List.set_cons_succ]
                refine wpAnyH_take (i := 8) (v := S q) rfl (by kernel_rfl) (by kernel_rfl) (by kernel_rfl) (fun _ _ _ h => h) (Or.inl ⟨by rfl, fun w' hSw => by have hq := hSw; have hc := (IB.out _ hq.2).2.2.2.2.2; go_simp⟩) hHeld ?_
                try simp only [Act.put, List.getElem_toArray, List.getElem_cons_succ, List.getElem_cons_zero, List.setIfInBounds_toArray, List.set_cons_zero, List.set_cons_succ]
                refine wpAnyH_ready (rs := [5]) (by kernel_rfl) (by simp) (AllReadyH.cons rfl (fun K1 hK1 => ?_) AllReadyH.nil)
                try simp only [Act.put, List.getElem_toArray, List.getElem_cons_succ, List.getElem_cons_zero, List.setIfInBounds_toArray, List.set_cons_zero, List.set_cons_succ]
                go_simp
                refine Calls.mono (BY.out _) ?_
                rintro e wc601 ⟨rfl, hc602⟩
                refine hK1.out _ _ (hHeld.step hc602) (fun hHeld => ?_)
                clear hK1 K1
                try simp only [Act.put, List.getElem_toArray, List.getElem_cons_succ, List.getElem_cons_zero, List.setIfInBounds_toArray, List.set_cons_zero, List.set_cons_succ]
                refine wpAnyH_take (i := 9) (v := .bool true) rfl (by kernel_rfl) (by kernel_rfl) (by kernel_rfl) (fun _ _ _ h => h) (Or.inl ⟨by rfl, fun w' hSw => by go_simp⟩) hHeld ?_
                try simp only [Act.put, List.getElem_toArray, List.getElem_cons_succ, List.getElem_cons_zero, List.setIfInBounds_toArray, List.set_cons_zero, List.set_cons_succ]
                refine wpAnyH_take (i := 10) (v := .bool true) rfl (by kernel_rfl) (by kernel_rfl) (by kernel_rfl) (fun _ _ _ h => h) (Or.inl ⟨by rfl, fun w' hSw => by go_simp⟩) hHeld ?_
                try simp only [Act.put, List.getElem_toArray, List.getElem_cons_succ, List.getElem_cons_zero, List.setIfInBounds_toArray, List.set_cons_zero, List.set_cons_succ]
                refine wpAnyH_done (by kernel_rfl) ?_ _
                refine NoPanic.normal ?_
                have Hr6 := Lib.hid hHeld.1.hd
                have Hrz6 := Lib.hid hHeld.1.tl.hd
                have Hb6 := Lib.hid hHeld.1.1
                clear hHeld
                go_wp2_with (first
                  | (with_reducible show wpList _ _ _ (⟨_, .build 48 _, _, _, _, _⟩ :: _) _ _; refine wpList_buildL rfl 48 [] rfl (some 77) rfl _ rfl _ Rp.zero_built0 ?_)
                  | (with_reducible show wpList _ _ _ (⟨_, .store 48 _ _, _, _, _, _⟩ :: _) _ _
                     refine wpList_store_at rfl 48 (.tmp 2) (.tmp 77) rfl (w.heap.size) 0 Rp.zero.cells _ _ rfl rfl Hrz6.out (by have := HZL.out; omega) (by rw [rp_info, HZL.out]) HZ1.out ?_
                     intro wZ hrZ hgZ
                     rw [splice_all rfl] at hrZ
                     have HrZ := Lib.hid hrZ
                     have HbZ := Lib.hid (below_own Hb6.out hgZ (fun k hk => by cases hk; exact Nat.le_refl _))
                     clear hrZ hgZ))
                refine bodyPost_ret (results_rowL rfl _ _ (w.heap.size) 48 _ _ rfl HrZ.out Tryd.underlying48 rfl (by rw [rp_info, List.size_toArray, HZL.out]) _ rfl) rfl ⟨?_, HbZ.out⟩
                rw [HRn.out]
                exact rfl
              · have HRs2 := Lib.hid hRs
                clear hRs
                go_wp2_with fail
                refine wp_region_noPanic ?_
                refine wp_region_held_drew (S := fun w' => BlocksS w w3 w' [(ga11, 48, u.cells), (w.heap.size, 48, Rp.zero.cells)]) (by kernel_rfl) (HS6.out) (fun hHeld => ?_)
                generalize ws14.drew = wr at *
                refine wpAnyH_take (i := 0) (v := .int .i64 0) rfl (by kernel_rfl) (by kernel_rfl) (by kernel_rfl) (fun _ _ _ h => h) (Or.inl ⟨by rfl, fun w' hSw => by go_simp⟩) hHeld ?_
                try simp only [Act.put, List.getElem_toArray, List.getElem_cons_succ, List.getElem_cons_zero, List.setIfInBounds_toArray, List.set_cons_zero, List.set_cons_succ]
                refine wpAnyH_take (i := 1) (v := .bool false) rfl (by kernel_rfl) (by kernel_rfl) (by kernel_rfl) (fun _ _ _ h => h) (Or.inl ⟨by rfl, fun w' hSw => by go_simp⟩) hHeld ?_
                try simp only [Act.put, List.getElem_toArray, List.getElem_cons_succ, List.getElem_cons_zero, List.setIfInBounds_toArray, List.set_cons_zero, List.set_cons_succ]
                refine wpAnyH_take (i := 2) (v := .bool false) rfl (by kernel_rfl) (by kernel_rfl) (by kernel_rfl) (fun _ _ _ h => h) (Or.inl ⟨by rfl, fun w' hSw => by go_simp⟩) hHeld ?_
                try simp only [Act.put, List.getElem_toArray, List.getElem_cons_succ, List.getElem_cons_zero, List.setIfInBounds_toArray, List.set_cons_zero, List.set_cons_succ]
                refine wpAnyH_take (i := 3) (v := .pointer (some ⟨ga11, 36, none⟩)) rfl (by kernel_rfl) (by kernel_rfl) (by kernel_rfl) (fun _ _ _ h => h) (Or.inl ⟨by rfl, fun w' hSw => by go_simp⟩) hHeld ?_
                try simp only [Act.put, List.getElem_toArray, List.getElem_cons_succ, List.getElem_cons_zero, List.setIfInBounds_toArray, List.set_cons_zero, List.set_cons_succ]
                refine' wpAnyH_take (i := 4) (v := _) rfl (by kernel_rfl) (by kernel_rfl) (by kernel_rfl) (fun _ _ _ h => h) (yieldsIf_load_mid (by rfl) _ _ rfl ga11 36 rfl (bRow K).toList _ (fun w' hSw => (HBK.out _ _ _ hSw.1.hd)) hu23 rfl hik) hHeld ?_
                try simp only [Act.put, List.getElem_toArray, List.getElem_cons_succ, List.getElem_cons_zero, List.setIfInBounds_toArray, List.set_cons_zero, List.set_cons_succ]
                refine wpAnyH_take (i := 6) (v := .slice (some ⟨tb, toff, none⟩) 6 c) rfl (by kernel_rfl) (by kernel_rfl) (by kernel_rfl) (fun _ _ _ h => h) (Or.inl ⟨by rfl, fun w' hSw => by go_simp⟩) hHeld ?_
                try simp only [Act.put, List.getElem_toArray, List.getElem_cons_succ, List.getElem_cons_zero, List.setIfInBounds_toArray, List.set_cons_zero, List.set_cons_succ]
                refine wpAnyH_take (i := 7) (v := .pointer (some ⟨tb, toff + 5, none⟩)) rfl (by kernel_rfl) (by kernel_rfl) (by kernel_rfl) (fun _ _ _ h => h) (Or.inl ⟨by rfl, fun w' hSw => by go_simp⟩) hHeld ?_
                try simp only [Act.put, List.getElem_toArray, List.getElem_cons_succ, List.getElem_cons_zero, List.setIfInBounds_toArray, List.set_cons_zero, List.set_cons_succ]
                refine wpAnyH_take (i := 8) (v := S K) rfl (by kernel_rfl) (by kernel_rfl) (by kernel_rfl) (fun _ _ _ h => h) (Or.inl ⟨by rfl, fun w' hSw => by have hq := hSw; have hc := (IB.out _ hq.2).2.2.2.2.2; go_simp⟩) hHeld ?_
                try simp only [Act.put, List.getElem_toArray, List.getElem_cons_succ, List.getElem_cons_zero, List.setIfInBounds_toArray, List.set_cons_zero, List.set_cons_succ]
                refine wpAnyH_ready (rs := [5]) (by kernel_rfl) (by simp) (AllReadyH.cons rfl (fun K1 hK1 => ?_) AllReadyH.nil)
                try simp only [Act.put, List.getElem_toArray, List.getElem_cons_succ, List.getElem_cons_zero, List.setIfInBounds_toArray, List.set_cons_zero, List.set_cons_succ]
                go_simp
                refine Calls.mono (BY.out _) ?_
                rintro e wc701 ⟨rfl, hc702⟩
                refine hK1.out _ _ (hHeld.step hc702) (fun hHeld => ?_)
                clear hK1 K1
                try simp only [Act.put, List.getElem_toArray, List.getElem_cons_succ, List.getElem_cons_zero, List.setIfInBounds_toArray, List.set_cons_zero, List.set_cons_succ]
                refine wpAnyH_take (i := 9) (v := .bool false) rfl (by kernel_rfl) (by kernel_rfl) (by kernel_rfl) (fun _ _ _ h => h) (Or.inl ⟨by rfl, fun w' hSw => by go_simp⟩) hHeld ?_
                try simp only [Act.put, List.getElem_toArray, List.getElem_cons_succ, List.getElem_cons_zero, List.setIfInBounds_toArray, List.set_cons_zero, List.set_cons_succ]
                refine wpAnyH_take (i := 10) (v := .bool false) rfl (by kernel_rfl) (by kernel_rfl) (by kernel_rfl) (fun _ _ _ h => h) (Or.inl ⟨by rfl, fun w' hSw => by go_simp⟩) hHeld ?_
                try simp only [Act.put, List.getElem_toArray, List.getElem_cons_succ, List.getElem_cons_zero, List.setIfInBounds_toArray, List.set_cons_zero, List.set_cons_succ]
                refine wpAnyH_done (by kernel_rfl) ?_ _
                refine NoPanic.normal ?_
                have Hr6 := Lib.hid hHeld.1.hd
                have Hrz6 := Lib.hid hHeld.1.tl.hd
                have Hb6 := Lib.hid hHeld.1.1
                clear hHeld
                go_wp2_with (first
                  | (with_reducible show wpList _ _ _ (⟨_, .load 48 _, _, _, _, _⟩ :: _) _ _; refine wpList_load_tx rfl 48 (.tmp 8) rfl ga11 0 rfl u.cells _ (row_range Hr6.out) Tryd.underlying48 rfl (by rw [rp_info, HUL.out]) ?_)
                  | (with_reducible show wpList _ _ _ (⟨_, .store 48 _ _, _, _, _, _⟩ :: _) _ _
                     refine wpList_store_at rfl 48 (.tmp 2) (.tmp 78) rfl (w.heap.size) 0 u.cells _ _ rfl rfl Hrz6.out (by have := HZL.out; have := HUL.out; omega) (by rw [rp_info, HUL.out]) HU1.out ?_
                     intro wZ hrZ hgZ
                     rw [splice_all (HUL.out.trans HZL.out.symm)] at hrZ
                     have HrZ := Lib.hid hrZ
                     have HbZ := Lib.hid (below_own Hb6.out hgZ (fun k hk => by cases hk; exact Nat.le_refl _))
                     clear hrZ hgZ))
                refine bodyPost_ret (results_rowL rfl _ _ (w.heap.size) 48 _ _ rfl HrZ.out Tryd.underlying48 rfl (by rw [rp_info, List.size_toArray, HUL.out]) _ rfl) rfl ⟨?_, HbZ.out⟩
                rw [HRs2.out]
                exact rfl
          · skip
            try simp only [Act.put, List.getElem_toArray, List.getElem_cons_succ, List.getElem_cons_zero, List.setIfInBounds_toArray, List.set_cons_zero, List.set_cons_succ]
            go_simp
            have hd16 := (Below.refl wq.heap.size wq).alloc (Nat.le_refl _) (.cells Rp.zero.cells.toArray 48)
            have r8 : Row (wq.alloc (.cells Rp.zero.cells.toArray 48)) wq.heap.size 48 Rp.zero.cells := Row.new wq 48 Rp.zero.cells
            have r8n := hHeld.fresh
            have r8s := hHeld.size
            have hHeld2 := hHeld.step hd16
            generalize wq.alloc (.cells Rp.zero.cells.toArray 48) = wa15 at *
            obtain ⟨ga17, ga17e⟩ : ∃ ga17, ga17 = wq.heap.size := ⟨_, rfl⟩
            rw [← ga17e] at r8 r8n r8s ⊢
            refine hK1.out _ _ (hHeld2) (fun hHeld => ?_)
            clear hK1 K1
            try simp only [Act.put, List.getElem_toArray, List.getElem_cons_succ, List.getElem_cons_zero, List.setIfInBounds_toArray, List.set_cons_zero, List.set_cons_succ]
            clear hHeld2 ga17e
            refine wpAnyH_ready (rs := [3]) (by kernel_rfl) (by simp) (AllReadyH.cons rfl (fun K1 hK1 => ?_) AllReadyH.nil)
            try simp only [Act.put, List.getElem_toArray, List.getElem_cons_succ, List.getElem_cons_zero, List.setIfInBounds_toArray, List.set_cons_zero, List.set_cons_succ]
            go_simp
            refine Calls.mono (HH.out _) ?_
            rintro e wc18 ⟨rfl, hc19⟩
            have r8 := r8.kept (grownBy_of_below hc19 none) (by simp)
            refine hK1.out _ _ (hHeld.step hc19) (fun hHeld => ?_)
            clear hK1 K1
            try simp only [Act.put, List.getElem_toArray, List.getElem_cons_succ, List.getElem_cons_zero, List.setIfInBounds_toArray, List.set_cons_zero, List.set_cons_succ]
            refine wpAnyH_ready (rs := [16]) (by kernel_rfl) (by simp) (AllReadyH.cons rfl (fun K1 hK1 => ?_) AllReadyH.nil)
            try simp only [Act.put, List.getElem_toArray, List.getElem_cons_succ, List.getElem_cons_zero, List.setIfInBounds_toArray, List.set_cons_zero, List.set_cons_succ]
            go_simp
            refine Calls.mono (HLK.out _) ?_
            rintro e wc20 ⟨rfl, hc21⟩
            have r8 := r8.kept (grownBy_of_below hc21 none) (by simp)
            refine hK1.out _ _ (hHeld.step hc21) (fun hHeld => ?_)
            clear hK1 K1
            try simp only [Act.put, List.getElem_toArray, List.getElem_cons_succ, List.getElem_cons_zero, List.setIfInBounds_toArray, List.set_cons_zero, List.set_cons_succ]
            refine wpAnyH_take (i := 17) (v := .tuple #[.agg D.toArray, .int .i64 E]) rfl (by kernel_rfl) (by kernel_rfl) (by kernel_rfl) (fun _ _ _ h => h) (Or.inl ⟨by rfl, fun w' hSw => by go_simp⟩) hHeld ?_
            try simp only [Act.put, List.getElem_toArray, List.getElem_cons_succ, List.getElem_cons_zero, List.setIfInBounds_toArray, List.set_cons_zero, List.set_cons_succ]
            refine wpAnyH_take (i := 18) (v := .agg D.toArray) rfl (by kernel_rfl) (by kernel_rfl) (by kernel_rfl) (fun _ _ _ h => h) (Or.inl ⟨by rfl, fun w' hSw => by go_simp⟩) hHeld ?_
            try simp only [Act.put, List.getElem_toArray, List.getElem_cons_succ, List.getElem_cons_zero, List.setIfInBounds_toArray, List.set_cons_zero, List.set_cons_succ]
            refine wpAnyH_take (i := 19) (v := .int .i64 E) rfl (by kernel_rfl) (by kernel_rfl) (by kernel_rfl) (fun _ _ _ h => h) (Or.inl ⟨by rfl, fun w' hSw => by go_simp⟩) hHeld ?_
            try simp only [Act.put, List.getElem_toArray, List.getElem_cons_succ, List.getElem_cons_zero, List.setIfInBounds_toArray, List.set_cons_zero, List.set_cons_succ]
            refine wpAnyH_ready (rs := [21]) (by kernel_rfl) (by simp) (AllReadyH.cons rfl (fun K1 hK1 => ?_) AllReadyH.nil)
            try simp only [Act.put, List.getElem_toArray, List.getElem_cons_succ, List.getElem_cons_zero, List.setIfInBounds_toArray, List.set_cons_zero, List.set_cons_succ]
            rw [if_pos (by rfl)]
            refine wp_store_at 48 (.tmp 8) (.tmp 64) rfl ga17 0 D _ _ rfl rfl r8 (by have := HZL.out; have := HUL.out; omega) (by rw [rp_info, HUL.out]) HU1.out ?_
            intro ws22 hrS hgS
            rw [splice_all (HUL.out.trans HZL.out.symm)] at hrS
            have HrU := Lib.hid hrS
            have hHeld2 := hHeld.put hgS r8s r8n
            clear hrS hgS
            refine hK1.out _ _ (hHeld2) (fun hHeld => ?_)
            clear hK1 K1
            try simp only [Act.put, List.getElem_toArray, List.getElem_cons_succ, List.getElem_cons_zero, List.setIfInBounds_toArray, List.set_cons_zero, List.set_cons_succ]
            clear hHeld2
            refine wpAnyH_take (i := 22) (v := .int .i64 E) rfl (by kernel_rfl) (by kernel_rfl) (by kernel_rfl) (fun _ _ _ h => h) (Or.inl ⟨by rfl, fun w' hSw => by go_simp⟩) hHeld ?_
            try simp only [Act.put, List.getElem_toArray, List.getElem_cons_succ, List.getElem_cons_zero, List.setIfInBounds_toArray, List.set_cons_zero, List.set_cons_succ]
            refine wpAnyH_done (by kernel_rfl) ?_ _
            refine NoPanic.normal ?_
            have HS6 : Hid (BlocksS w w3 ws22.drew [(ga17, 48, D), (w.heap.size, 48, Rp.zero.cells)]) := Lib.hid (BlocksS.drew ⟨hHeld.1.cons HrU.out, hHeld.2⟩)
            clear hHeld HrU hzv
            rcases Hcase.out with ⟨rfl, hRn⟩ | ⟨rfl, hne, hRn⟩ | ⟨rfl, rfl, u, rfl, hRs⟩
            · have HRn := Lib.hid hRn
              clear hRn
              go_wp2_with fail
              refine wp_region_noPanic ?_
              refine wp_region_held_drew (S := fun w' => BlocksS w w3 w' [(ga17, 48, D), (w.heap.size, 48, Rp.zero.cells)]) (by kernel_rfl) (HS6.out) (fun hHeld => ?_)
              generalize ws22.drew = wr at *
              refine wpAnyH_take (i := 0) (v := .int .i64 2) rfl (by kernel_rfl) (by kernel_rfl) (by kernel_rfl) (fun _ _ _ h => h) (Or.inl ⟨by rfl, fun w' hSw => by go_simp⟩) hHeld ?_
              try simp only [Act.put, List.getElem_toArray, List.getElem_cons_succ, List.getElem_cons_zero, List.setIfInBounds_toArray, List.set_cons_zero, List.set_cons_succ]
              refine wpAnyH_take (i := 1) (v := .bool true) rfl (by kernel_rfl) (by kernel_rfl) (by kernel_rfl) (fun _ _ _ h => h) (Or.inl ⟨by rfl, fun w' hSw => by go_simp⟩) hHeld ?_
              try simp only [Act.put, List.getElem_toArray, List.getElem_cons_succ, List.getElem_cons_zero, List.setIfInBounds_toArray, List.set_cons_zero, List.set_cons_succ]
              refine wpAnyH_take (i := 2) (v := .bool true) rfl (by kernel_rfl) (by kernel_rfl) (by kernel_rfl) (fun _ _ _ h => h) (Or.inl ⟨by rfl, fun w' hSw => by go_simp⟩) hHeld ?_
              try simp only [Act.put, List.getElem_toArray, List.getElem_cons_succ, List.getElem_cons_zero, List.setIfInBounds_toArray, List.set_cons_zero, List.set_cons_succ]
              refine wpAnyH_take (i := 3) (v := undef) rfl (by kernel_rfl) (by kernel_rfl) (by kernel_rfl) (fun _ _ _ h => h) (Or.inr ⟨by rfl, rfl⟩) hHeld ?_
              try simp only [Act.put, List.getElem_toArray, List.getElem_cons_succ, List.getElem_cons_zero, List.setIfInBounds_toArray, List.set_cons_zero, List.set_cons_succ]
              refine wpAnyH_take (i := 4) (v := undef) rfl (by kernel_rfl) (by kernel_rfl) (by kernel_rfl) (fun _ _ _ h => h) (Or.inr ⟨by rfl, rfl⟩) hHeld ?_
              try simp only [Act.put, List.getElem_toArray, List.getElem_cons_succ, List.getElem_cons_zero, List.setIfInBounds_toArray, List.set_cons_zero, List.set_cons_succ]
              refine wpAnyH_take (i := 5) (v := undef) rfl (by kernel_rfl) (by kernel_rfl) (by kernel_rfl) (fun _ _ _ h => h) (Or.inr ⟨by rfl, rfl⟩) hHeld ?_
              try simp only [Act.put, List.getElem_toArray, List.getElem_cons_succ, List.getElem_cons_zero, List.setIfInBounds_toArray, List.set_cons_zero, List.set_cons_succ]
              refine wpAnyH_take (i := 6) (v := undef) rfl (by kernel_rfl) (by kernel_rfl) (by kernel_rfl) (fun _ _ _ h => h) (Or.inr ⟨by rfl, rfl⟩) hHeld ?_
              try simp only [Act.put, List.getElem_toArray, List.getElem_cons_succ, List.getElem_cons_zero, List.setIfInBounds_toArray, List.set_cons_zero, List.set_cons_succ]
              refine wpAnyH_take (i := 7) (v := undef) rfl (by kernel_rfl) (by kernel_rfl) (by kernel_rfl) (fun _ _ _ h => h) (Or.inr ⟨by rfl, rfl⟩) hHeld ?_
              try simp only [Act.put, List.getElem_toArray, List.getElem_cons_succ, List.getElem_cons_zero, List.setIfInBounds_toArray, List.set_cons_zero, List.set_cons_succ]
              refine wpAnyH_take (i := 8) (v := undef) rfl (by kernel_rfl) (by kernel_rfl) (by kernel_rfl) (fun _ _ _ h => h) (Or.inr ⟨by rfl, rfl⟩) hHeld ?_
              try simp only [Act.put, List.getElem_toArray, List.getElem_cons_succ, List.getElem_cons_zero, List.setIfInBounds_toArray, List.set_cons_zero, List.set_cons_succ]
              refine wpAnyH_take (i := 9) (v := undef) rfl (by kernel_rfl) (by kernel_rfl) (by kernel_rfl) (fun _ _ _ h => h) (Or.inr ⟨by rfl, rfl⟩) hHeld ?_
              try simp only [Act.put, List.getElem_toArray, List.getElem_cons_succ, List.getElem_cons_zero, List.setIfInBounds_toArray, List.set_cons_zero, List.set_cons_succ]
              refine wpAnyH_take (i := 10) (v := .bool true) rfl (by kernel_rfl) (by kernel_rfl) (by kernel_rfl) (fun _ _ _ h => h) (Or.inl ⟨by rfl, fun w' hSw => by go_simp⟩) hHeld ?_
              try simp only [Act.put, List.getElem_toArray, List.getElem_cons_succ, List.getElem_cons_zero, List.setIfInBounds_toArray, List.set_cons_zero, List.set_cons_succ]
              refine wpAnyH_done (by kernel_rfl) ?_ _
              refine NoPanic.normal ?_
              have Hr6 := Lib.hid hHeld.1.hd
              have Hrz6 := Lib.hid hHeld.1.tl.hd
              have Hb6 := Lib.hid hHeld.1.1
              clear hHeld
              go_wp2_with (first
                | (with_reducible show wpList _ _ _ (⟨_, .build 48 _, _, _, _, _⟩ :: _) _ _; refine wpList_buildL rfl 48 [] rfl (some 77) rfl _ rfl _ Rp.zero_built0 ?_)
                | (with_reducible show wpList _ _ _ (⟨_, .store 48 _ _, _, _, _, _⟩ :: _) _ _
                   refine wpList_store_at rfl 48 (.tmp 2) (.tmp 77) rfl (w.heap.size) 0 Rp.zero.cells _ _ rfl rfl Hrz6.out (by have := HZL.out; omega) (by rw [rp_info, HZL.out]) HZ1.out ?_
                   intro wZ hrZ hgZ
                   rw [splice_all rfl] at hrZ
                   have HrZ := Lib.hid hrZ
                   have HbZ := Lib.hid (below_own Hb6.out hgZ (fun k hk => by cases hk; exact Nat.le_refl _))
                   clear hrZ hgZ))
              refine bodyPost_ret (results_rowL rfl _ _ (w.heap.size) 48 _ _ rfl HrZ.out Tryd.underlying48 rfl (by rw [rp_info, List.size_toArray, HZL.out]) _ rfl) rfl ⟨?_, HbZ.out⟩
              rw [HRn.out]
              exact rfl
            · have HRn := Lib.hid hRn
              have hb1 : (K == q) = false := by simpa using hne
              have hb2 : (K != q) = true := by simpa using hne
              clear hRn
              go_wp2_with fail
              refine wp_region_noPanic ?_
              refine wp_region_held_drew (S := fun w' => BlocksS w w3 w' [(ga17, 48, D), (w.heap.size, 48, Rp.zero.cells)]) (by kernel_rfl) (HS6.out) (fun hHeld => ?_)
              generalize ws22.drew = wr at *
              refine wpAnyH_take (i := 0) (v := .int .i64 0) rfl (by kernel_rfl) (by kernel_rfl) (by kernel_rfl) (fun _ _ _ h => h) (Or.inl ⟨by rfl, fun w' hSw => by go_simp⟩) hHeld ?_
              try simp only [Act.put, List.getElem_toArray, List.getElem_cons_succ, List.getElem_cons_zero, List.setIfInBounds_toArray, List.set_cons_zero, List.set_cons_succ]
              refine wpAnyH_take (i := 1) (v := .bool false) rfl (by kernel_rfl) (by kernel_rfl) (by kernel_rfl) (fun _ _ _ h => h) (Or.inl ⟨by rfl, fun w' hSw => by go_simp⟩) hHeld ?_
              try simp only [Act.put, List.getElem_toArray, List.getElem_cons_succ, List.getElem_cons_zero, List.setIfInBounds_toArray, List.set_cons_zero, List.set_cons_succ]
              refine wpAnyH_take (i := 2) (v := .bool false) rfl (by kernel_rfl) (by kernel_rfl) (by kernel_rfl) (fun _ _ _ h => h) (Or.inl ⟨by rfl, fun w' hSw => by go_simp⟩) hHeld ?_
              try simp only [Act.put, List.getElem_toArray, List.getElem_cons_succ, List.getElem_cons_zero, List.setIfInBounds_toArray, List.set_cons_zero, List.set_cons_succ]
              refine wpAnyH_take (i := 3) (v := .pointer (some ⟨ga17, 36, none⟩)) rfl (by kernel_rfl) (by kernel_rfl) (by kernel_rfl) (fun _ _ _ h => h) (Or.inl ⟨by rfl, fun w' hSw => by go_simp⟩) hHeld ?_
              try simp only [Act.put, List.getElem_toArray, List.getElem_cons_succ, List.getElem_cons_zero, List.setIfInBounds_toArray, List.set_cons_zero, List.set_cons_succ]
              refine' wpAnyH_take (i := 4) (v := _) rfl (by kernel_rfl) (by kernel_rfl) (by kernel_rfl) (fun _ _ _ h => h) (yieldsIf_load_mid (by rfl) _ _ rfl ga17 36 rfl (bRow K).toList _ (fun w' hSw => (HBK.out _ _ _ hSw.1.hd)) hu23 rfl hik) hHeld ?_
              try simp only [Act.put, List.getElem_toArray, List.getElem_cons_succ, List.getElem_cons_zero, List.setIfInBounds_toArray, List.set_cons_zero, List.set_cons_succ]
              refine wpAnyH_take (i := 6) (v := .slice (some ⟨tb, toff, none⟩) 6 c) rfl (by kernel_rfl) (by kernel_rfl) (by kernel_rfl) (fun _ _ _ h => h) (Or.inl ⟨by rfl, fun w' hSw => by go_simp⟩) hHeld ?_
              try simp only [Act.put, List.getElem_toArray, List.getElem_cons_succ, List.getElem_cons_zero, List.setIfInBounds_toArray, List.set_cons_zero, List.set_cons_succ]
              refine wpAnyH_take (i := 7) (v := .pointer (some ⟨tb, toff + 5, none⟩)) rfl (by kernel_rfl) (by kernel_rfl) (by kernel_rfl) (fun _ _ _ h => h) (Or.inl ⟨by rfl, fun w' hSw => by go_simp⟩) hHeld ?_
              try simp only [Act.put, List.getElem_toArray, List.getElem_cons_succ, List.getElem_cons_zero, List.setIfInBounds_toArray, List.set_cons_zero, List.set_cons_succ]
              refine wpAnyH_take (i := 8) (v := S q) rfl (by kernel_rfl) (by kernel_rfl) (by kernel_rfl) (fun _ _ _ h => h) (Or.inl ⟨by rfl, fun w' hSw => by have hq := hSw; have hc := (IB.out _ hq.2).2.2.2.2.2; go_simp⟩) hHeld ?_
              try simp only [Act.put, List.getElem_toArray, List.getElem_cons_succ, List.getElem_cons_zero, List.setIfInBounds_toArray, List.set_cons_zero, List.set_cons_succ]
              refine wpAnyH_ready (rs := [5]) (by kernel_rfl) (by simp) (AllReadyH.cons rfl (fun K1 hK1 => ?_) AllReadyH.nil)
              try simp only [Act.put, List.getElem_toArray, List.getElem_cons_succ, List.getElem_cons_zero, List.setIfInBounds_toArray, List.set_cons_zero, List.set_cons_succ]
              go_simp
              refine Calls.mono (BY.out _) ?_
              rintro e wc901 ⟨rfl, hc902⟩
              refine hK1.out _ _ (hHeld.step hc902) (fun hHeld => ?_)
              clear hK1 K1
              try simp only [Act.put, List.getElem_toArray, List.getElem_cons_succ, List.getElem_cons_zero, List.setIfInBounds_toArray, List.set_cons_zero, List.set_cons_succ]
              refine wpAnyH_take (i := 9) (v := .bool true) rfl (by kernel_rfl) (by kernel_rfl) (by kernel_rfl) (fun _ _ _ h => h) (Or.inl ⟨by rfl, fun w' hSw => by go_simp⟩) hHeld ?_
              try simp only [Act.put, List.getElem_toArray, List.getElem_cons_succ, List.getElem_cons_zero, List.setIfInBounds_toArray, List.set_cons_zero, List.set_cons_succ]
              refine wpAnyH_take (i := 10) (v := .bool true) rfl (by kernel_rfl) (by kernel_rfl) (by kernel_rfl) (fun _ _ _ h => h) (Or.inl ⟨by rfl, fun w' hSw => by go_simp⟩) hHeld ?_
              try simp only [Act.put, List.getElem_toArray, List.getElem_cons_succ, List.getElem_cons_zero, List.setIfInBounds_toArray, List.set_cons_zero, List.set_cons_succ]
              refine wpAnyH_done (by kernel_rfl) ?_ _
              refine NoPanic.normal ?_
              have Hr6 := Lib.hid hHeld.1.hd
              have Hrz6 := Lib.hid hHeld.1.tl.hd
              have Hb6 := Lib.hid hHeld.1.1
              clear hHeld
              go_wp2_with (first
                | (with_reducible show wpList _ _ _ (⟨_, .build 48 _, _, _, _, _⟩ :: _) _ _; refine wpList_buildL rfl 48 [] rfl (some 77) rfl _ rfl _ Rp.zero_built0 ?_)
                | (with_reducible show wpList _ _ _ (⟨_, .store 48 _ _, _, _, _, _⟩ :: _) _ _
                   refine wpList_store_at rfl 48 (.tmp 2) (.tmp 77) rfl (w.heap.size) 0 Rp.zero.cells _ _ rfl rfl Hrz6.out (by have := HZL.out; omega) (by rw [rp_info, HZL.out]) HZ1.out ?_
                   intro wZ hrZ hgZ
                   rw [splice_all rfl] at hrZ
                   have HrZ := Lib.hid hrZ
                   have HbZ := Lib.hid (below_own Hb6.out hgZ (fun k hk => by cases hk; exact Nat.le_refl _))
                   clear hrZ hgZ))
              refine bodyPost_ret (results_rowL rfl _ _ (w.heap.size) 48 _ _ rfl HrZ.out Tryd.underlying48 rfl (by rw [rp_info, List.size_toArray, HZL.out]) _ rfl) rfl ⟨?_, HbZ.out⟩
              rw [HRn.out]
              exact rfl
            · have HRs2 := Lib.hid hRs
              clear hRs
              go_wp2_with fail
              refine wp_region_noPanic ?_
              refine wp_region_held_drew (S := fun w' => BlocksS w w3 w' [(ga17, 48, u.cells), (w.heap.size, 48, Rp.zero.cells)]) (by kernel_rfl) (HS6.out) (fun hHeld => ?_)
              generalize ws22.drew = wr at *
              refine wpAnyH_take (i := 0) (v := .int .i64 0) rfl (by kernel_rfl) (by kernel_rfl) (by kernel_rfl) (fun _ _ _ h => h) (Or.inl ⟨by rfl, fun w' hSw => by go_simp⟩) hHeld ?_
              try simp only [Act.put, List.getElem_toArray, List.getElem_cons_succ, List.getElem_cons_zero, List.setIfInBounds_toArray, List.set_cons_zero, List.set_cons_succ]
              refine wpAnyH_take (i := 1) (v := .bool false) rfl (by kernel_rfl) (by kernel_rfl) (by kernel_rfl) (fun _ _ _ h => h) (Or.inl ⟨by rfl, fun w' hSw => by go_simp⟩) hHeld ?_
              try simp only [Act.put, List.getElem_toArray, List.getElem_cons_succ, List.getElem_cons_zero, List.setIfInBounds_toArray, List.set_cons_zero, List.set_cons_succ]
              refine wpAnyH_take (i := 2) (v := .bool false) rfl (by kernel_rfl) (by kernel_rfl) (by kernel_rfl) (fun _ _ _ h => h) (Or.inl ⟨by rfl, fun w' hSw => by go_simp⟩) hHeld ?_
              try simp only [Act.put, List.getElem_toArray, List.getElem_cons_succ, List.getElem_cons_zero, List.setIfInBounds_toArray, List.set_cons_zero, List.set_cons_succ]
              refine wpAnyH_take (i := 3) (v := .pointer (some ⟨ga17, 36, none⟩)) rfl (by kernel_rfl) (by kernel_rfl) (by kernel_rfl) (fun _ _ _ h => h) (Or.inl ⟨by rfl, fun w' hSw => by go_simp⟩) hHeld ?_
              try simp only [Act.put, List.getElem_toArray, List.getElem_cons_succ, List.getElem_cons_zero, List.setIfInBounds_toArray, List.set_cons_zero, List.set_cons_succ]
              refine' wpAnyH_take (i := 4) (v := _) rfl (by kernel_rfl) (by kernel_rfl) (by kernel_rfl) (fun _ _ _ h => h) (yieldsIf_load_mid (by rfl) _ _ rfl ga17 36 rfl (bRow K).toList _ (fun w' hSw => (HBK.out _ _ _ hSw.1.hd)) hu23 rfl hik) hHeld ?_
              try simp only [Act.put, List.getElem_toArray, List.getElem_cons_succ, List.getElem_cons_zero, List.setIfInBounds_toArray, List.set_cons_zero, List.set_cons_succ]
              refine wpAnyH_take (i := 6) (v := .slice (some ⟨tb, toff, none⟩) 6 c) rfl (by kernel_rfl) (by kernel_rfl) (by kernel_rfl) (fun _ _ _ h => h) (Or.inl ⟨by rfl, fun w' hSw => by go_simp⟩) hHeld ?_
              try simp only [Act.put, List.getElem_toArray, List.getElem_cons_succ, List.getElem_cons_zero, List.setIfInBounds_toArray, List.set_cons_zero, List.set_cons_succ]
              refine wpAnyH_take (i := 7) (v := .pointer (some ⟨tb, toff + 5, none⟩)) rfl (by kernel_rfl) (by kernel_rfl) (by kernel_rfl) (fun _ _ _ h => h) (Or.inl ⟨by rfl, fun w' hSw => by go_simp⟩) hHeld ?_
              try simp only [Act.put, List.getElem_toArray, List.getElem_cons_succ, List.getElem_cons_zero, List.setIfInBounds_toArray, List.set_cons_zero, List.set_cons_succ]
              refine wpAnyH_take (i := 8) (v := S K) rfl (by kernel_rfl) (by kernel_rfl) (by kernel_rfl) (fun _ _ _ h => h) (Or.inl ⟨by rfl, fun w' hSw => by have hq := hSw; have hc := (IB.out _ hq.2).2.2.2.2.2; go_simp⟩) hHeld ?_
              try simp only [Act.put, List.getElem_toArray, List.getElem_cons_succ, List.getElem_cons_zero, List.setIfInBounds_toArray, List.set_cons_zero, List.set_cons_succ]
              refine wpAnyH_ready (rs := [5]) (by kernel_rfl) (by simp) (AllReadyH.cons rfl (fun K1 hK1 => ?_) AllReadyH.nil)
              try simp only [Act.put, List.getElem_toArray, List.getElem_cons_succ, List.getElem_cons_zero, List.setIfInBounds_toArray, List.set_cons_zero, List.set_cons_succ]
              go_simp
              refine Calls.mono (BY.out _) ?_
              rintro e wc1001 ⟨rfl, hc1002⟩
              refine hK1.out _ _ (hHeld.step hc1002) (fun hHeld => ?_)
              clear hK1 K1
              try simp only [Act.put, List.getElem_toArray, List.getElem_cons_succ, List.getElem_cons_zero, List.setIfInBounds_toArray, List.set_cons_zero, List.set_cons_succ]
              refine wpAnyH_take (i := 9) (v := .bool false) rfl (by kernel_rfl) (by kernel_rfl) (by kernel_rfl) (fun _ _ _ h => h) (Or.inl ⟨by rfl, fun w' hSw => by go_simp⟩) hHeld ?_
              try simp only [Act.put, List.getElem_toArray, List.getElem_cons_succ, List.getElem_cons_zero, List.setIfInBounds_toArray, List.set_cons_zero, List.set_cons_succ]
              refine wpAnyH_take (i := 10) (v := .bool false) rfl (by kernel_rfl) (by kernel_rfl) (by kernel_rfl) (fun _ _ _ h => h) (Or.inl ⟨by rfl, fun w' hSw => by go_simp⟩) hHeld ?_
              try simp only [Act.put, List.getElem_toArray, List.getElem_cons_succ, List.getElem_cons_zero, List.setIfInBounds_toArray, List.set_cons_zero, List.set_cons_succ]
              refine wpAnyH_done (by kernel_rfl) ?_ _
              refine NoPanic.normal ?_
              have Hr6 := Lib.hid hHeld.1.hd
              have Hrz6 := Lib.hid hHeld.1.tl.hd
              have Hb6 := Lib.hid hHeld.1.1
              clear hHeld
              go_wp2_with (first
                | (with_reducible show wpList _ _ _ (⟨_, .load 48 _, _, _, _, _⟩ :: _) _ _; refine wpList_load_tx rfl 48 (.tmp 8) rfl ga17 0 rfl u.cells _ (row_range Hr6.out) Tryd.underlying48 rfl (by rw [rp_info, HUL.out]) ?_)
                | (with_reducible show wpList _ _ _ (⟨_, .store 48 _ _, _, _, _, _⟩ :: _) _ _
                   refine wpList_store_at rfl 48 (.tmp 2) (.tmp 78) rfl (w.heap.size) 0 u.cells _ _ rfl rfl Hrz6.out (by have := HZL.out; have := HUL.out; omega) (by rw [rp_info, HUL.out]) HU1.out ?_
                   intro wZ hrZ hgZ
                   rw [splice_all (HUL.out.trans HZL.out.symm)] at hrZ
                   have HrZ := Lib.hid hrZ
                   have HbZ := Lib.hid (below_own Hb6.out hgZ (fun k hk => by cases hk; exact Nat.le_refl _))
                   clear hrZ hgZ))
              refine bodyPost_ret (results_rowL rfl _ _ (w.heap.size) 48 _ _ rfl HrZ.out Tryd.underlying48 rfl (by rw [rp_info, List.size_toArray, HUL.out]) _ rfl) rfl ⟨?_, HbZ.out⟩
              rw [HRs2.out]
              exact rfl
        · have hqi : ((q.length : Int) != 32) = true := by simp; omega
          have hqi2 : ¬ (q.length : Int) = 32 := by omega
          have hRn : R = none := by rw [HRs.out, ht]; exact Rp.of_bad (fun h => hq h.2)
          have HRn := Lib.hid hRn
          have Hrz := Lib.hid HB3.out.hd
          have Hbz := Lib.hid HB3.out.1
          clear hRn ht
          go_wp2_with (first
            | (with_reducible show wpList _ _ _ (⟨_, .build 48 _, _, _, _, _⟩ :: _) _ _; refine wpList_buildL rfl 48 [] rfl (some 45) rfl _ rfl _ Rp.zero_built0 ?_)
            | (with_reducible show wpList _ _ _ (⟨_, .store 48 _ _, _, _, _, _⟩ :: _) _ _
               refine wpList_store_at rfl 48 (.tmp 2) (.tmp 45) rfl (w.heap.size) 0 Rp.zero.cells _ _ rfl rfl Hrz.out (by have := HZL.out; omega) (by rw [rp_info, HZL.out]) HZ1.out ?_
               intro wZ hrZ hgZ
               rw [splice_all rfl] at hrZ
               have HrZ := Lib.hid hrZ
               have HbZ := Lib.hid (below_own Hbz.out hgZ (fun k hk => by cases hk; exact Nat.le_refl _))
               clear hrZ hgZ))
          refine bodyPost_ret (results_rowL rfl _ _ (w.heap.size) 48 _ _ rfl HrZ.out Tryd.underlying48 rfl (by rw [rp_info, List.size_toArray, HZL.out]) _ rfl) rfl ⟨?_, HbZ.out⟩
          rw [HRn.out]
          exact rfl
      · have hpi : ((p.length : Int) != 32) = true := by simp; omega
        have hpi2 : ¬ (p.length : Int) = 32 := by omega
        have hRn : R = none := by rw [HRs.out, ht]; exact Rp.of_bad (fun h => hp h.1)
        have HRn := Lib.hid hRn
        have Hrz := Lib.hid HB3.out.hd
        have Hbz := Lib.hid HB3.out.1
        clear hRn ht
        go_wp2_with (first
          | (with_reducible show wpList _ _ _ (⟨_, .build 48 _, _, _, _, _⟩ :: _) _ _; refine wpList_buildL rfl 48 [] rfl (some 45) rfl _ rfl _ Rp.zero_built0 ?_)
          | (with_reducible show wpList _ _ _ (⟨_, .store 48 _ _, _, _, _, _⟩ :: _) _ _
             refine wpList_store_at rfl 48 (.tmp 2) (.tmp 45) rfl (w.heap.size) 0 Rp.zero.cells _ _ rfl rfl Hrz.out (by have := HZL.out; omega) (by rw [rp_info, HZL.out]) HZ1.out ?_
             intro wZ hrZ hgZ
             rw [splice_all rfl] at hrZ
             have HrZ := Lib.hid hrZ
             have HbZ := Lib.hid (below_own Hbz.out hgZ (fun k hk => by cases hk; exact Nat.le_refl _))
             clear hrZ hgZ))
        refine bodyPost_ret (results_rowL rfl _ _ (w.heap.size) 48 _ _ rfl HrZ.out Tryd.underlying48 rfl (by rw [rp_info, List.size_toArray, HZL.out]) _ rfl) rfl ⟨?_, HbZ.out⟩
        rw [HRn.out]
        exact rfl
    · have hm6 : ((m : Int) != 6) = true := by simp; omega
      have hm6' : ¬ (m : Int) = 6 := by omega
      have hRn : R = none := by rw [HRs.out]; exact Rp.of_few (by rw [List.length_drop, ← HM.out]; omega)
      have HRn := Lib.hid hRn
      have Hrz := Lib.hid HB3.out.hd
      have Hbz := Lib.hid HB3.out.1
      clear hRn h6 hcell
      go_wp2_with (first
        | (with_reducible show wpList _ _ _ (⟨_, .build 48 _, _, _, _, _⟩ :: _) _ _; refine wpList_buildL rfl 48 [] rfl (some 45) rfl _ rfl _ Rp.zero_built0 ?_)
        | (with_reducible show wpList _ _ _ (⟨_, .store 48 _ _, _, _, _, _⟩ :: _) _ _
           refine wpList_store_at rfl 48 (.tmp 2) (.tmp 45) rfl (w.heap.size) 0 Rp.zero.cells _ _ rfl rfl Hrz.out (by have := HZL.out; omega) (by rw [rp_info, HZL.out]) HZ1.out ?_
           intro wZ hrZ hgZ
           rw [splice_all rfl] at hrZ
           have HrZ := Lib.hid hrZ
           have HbZ := Lib.hid (below_own Hbz.out hgZ (fun k hk => by cases hk; exact Nat.le_refl _))
           clear hrZ hgZ))
      refine bodyPost_ret (results_rowL rfl _ _ (w.heap.size) 48 _ _ rfl HrZ.out Tryd.underlying48 rfl (by rw [rp_info, List.size_toArray, HZL.out]) _ rfl) rfl ⟨?_, HbZ.out⟩
      rw [HRn.out]
      exact rfl
end Go.Proofs.YtdekcicgiflnbaaDoor
