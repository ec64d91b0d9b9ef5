/- The law NotesChains: what its function returns. -/
import Derived.Test.YtdekcicgiflnbaaDoorNoAwk
import Derived.Test.YtdekcicgiflnbaaDoorNoBlocks
import Derived.Test.YtdekcicgiflnbaaDoorNoRc4
import Derived.WalkMore
namespace Go.Proofs.YtdekcicgiflnbaaDoor
open Go.RowKit
set_option linter.unusedVariables false
set_option linter.unusedSimpArgs false

theorem Rp.text_ok {r : Rp} (hk : r.ok = true) (hp : r.prev.length = 32) : ∃ s, r.linked.textE = (s, 0) := by
  have hb := ((Rp.ok_iff r).1 hk).2.2.2
  unfold Rp.textE
  rw [if_pos (by rw [Rp.ok_linked]; exact hk), if_pos (show r.linked.hash = r.linked.link from rfl)]
  refine listE_small _ (by simp [Rp.fields, Rp.texts, Rp.numsL]) ?_
  have h0 := Oct.num_length_le r.index.toNat
  have h1 := Oct.num_length_le r.kind.toNat
  have h2 := Oct.num_length_le r.time.toNat
  have h3 : r.body.data.toList.length = r.body.size := rfl
  have h4 := Rp.link_len r
  simp only [Rp.fields, Rp.texts, Rp.numsL, Rp.linked, List.map_cons, List.map_nil, List.cons_append, List.nil_append, total_cons]
  have : Oct.total [] = 0 := rfl
  omega
theorem Rp.text_len (r : Rp) : r.textE.1.length ≤ 100000 := by
  unfold Rp.textE
  split
  · split
    · exact listE_len _
    · simp
  · simp
/-- what a step of a chain comes to -/
theorem chain_facts (hRS : RefSum) (k : Nat) (n : Int) (b : List UInt8) (p : List UInt8) (hp : p.length = 32) :
    ∃ (D : List Value) (E : Int), (∀ W, Tab W → Calls Tryd.prog 39 #[.agg (bRow p), .int .i64 k, .int .i64 1, .int .i64 n, S b] W fun e w' => e = .returned (.tuple #[.agg D.toArray, .int .i64 E]) ∧ Below W.heap.size W w') ∧
      (∀ W, Calls Tryd.prog 40 #[.agg (bRow p), .int .i64 k, .int .i64 1, .int .i64 n, S b] W fun e w' => e = .returned (.tuple #[.agg D.toArray, .int .i64 E]) ∧ Below W.heap.size W w') ∧
      D.length = 68 ∧ (∀ v ∈ D, v.oneCell' = true) ∧ (∀ W, (Op.equalIn 10000 48 (.agg D.toArray) (.agg D.toArray)).run Tryd.prog W = .ok true W) ∧
      ((E = 2 ∧ D = Rp.zero.cells) ∨ (E = 0 ∧ ∃ (s : List UInt8) (K : List UInt8), K.length = 32 ∧
        (∀ W, Tab W → Calls Tryd.prog 37 #[.agg D.toArray] W fun e w' => e = .returned (.tuple #[S s, .int .i64 0]) ∧ Below W.heap.size W w') ∧
        (∀ W, Tab W → Calls Tryd.prog 47 #[S s] W fun e w' => e = .returned (.tuple #[.agg D.toArray, .int .i64 0]) ∧ Below W.heap.size W w') ∧
        (∀ (W : World) (g : Nat) (T : TypeId), Row W g T D → W.rangeAt g 4 (bRow p).toList ∧ W.rangeAt g 36 (bRow K).toList))) := by
  obtain ⟨r, hr⟩ : ∃ r : Rp, r = ⟨k, 1, n, ⟨b.toArray⟩, p, Tx.zero⟩ := ⟨_, rfl⟩
  have hrp : r.prev.length = 32 := by rw [hr]; exact hp
  have hrh : r.hash.length = 32 := by rw [hr]; rfl
  have l1 := fun W hT => link5_any k 1 n ⟨b.toArray⟩ p hp W hT
  have l2 := fun W => rlink5_any hRS k 1 n ⟨b.toArray⟩ p hp W
  rw [← hr] at l1 l2
  by_cases hk : r.ok = true
  · have hpair : Rp.pairV r.linkE = .tuple #[.agg r.linked.cells.toArray, .int .i64 0] := Rp.linkE_ok hk
    rw [hpair] at l1 l2
    have hi := (Rp.ok_iff r).1 hk
    have hF : r.Fits := ⟨hrp, hrh, by omega, ⟨by omega, by omega⟩, ⟨by omega, by omega⟩, ⟨by omega, by omega⟩⟩
    have hF2 := Rp.linked_fits hF
    obtain ⟨s, hs⟩ := Rp.text_ok hk hrp
    have hsl : s.length ≤ 100000 := by have := r.linked.text_len; rw [hs] at this; exact this
    refine ⟨r.linked.cells, 0, l1, l2, Rp.cells_len hF2.prev hF2.hash, Rp.cells_one hF2.prev hF2.hash, fun W => rp_eqD W _ _ hF2 hF2 (by simp), .inr ⟨rfl, s, r.link, Rp.link_len r, fun W hW => ?_, fun W hW => ?_, fun W g T h => ?_⟩⟩
    · have := writeReceipt_any r.linked hF2.prev hF2.hash W hW
      rw [hs] at this
      exact this
    · have := readReceipt_any ⟨s.toArray⟩ W (by show s.length ≤ _; omega) hW
      rw [show (⟨s.toArray⟩ : ByteArray).data.toList = s from rfl, Rp.read_text hF2.prev hs] at this
      exact this
    · have e : r.linked.prev = p := by rw [hr]; rfl
      refine ⟨?_, rp_hash hF2.prev h⟩
      rw [← e]
      exact rp_prev hF2.prev h
  · have hpair : Rp.pairV r.linkE = .tuple #[.agg Rp.zero.cells.toArray, .int .i64 2] := by unfold Rp.linkE; rw [if_neg hk]; rfl
    rw [hpair] at l1 l2
    have hZ : Rp.zero.Fits := ⟨rfl, rfl, by decide, fits0, fits0, fits0⟩
    exact ⟨Rp.zero.cells, 2, l1, l2, Rp.cells_len rfl rfl, Rp.cells_one rfl rfl, fun W => rp_eqD W _ _ hZ hZ (by simp), .inl ⟨rfl, rfl⟩⟩
set_option maxRecDepth 20000 in
set_option maxHeartbeats 6400000 in
theorem notesChains_any (hRS : RefSum) (L : List (List UInt8)) (v : Value) (time : Int) (w : World) (hV : TextsV w v L) (hT : Tab w) :
    Calls Tryd.prog 13 #[v, .int .i64 time] w fun e w' => e = .returned (.bool true) ∧ Below w.heap.size w w' := by
  obtain ⟨A, c, rfl, hTx⟩ := hV
  have HTab := Lib.hid hT
  have Hp := Lib.hid hT.pos
  have HTx := Lib.hid hTx
  have hz48 : ∀ W : World, (zeroValue 48).run Tryd.prog W = .ok (.agg Rp.zero.cells.toArray) W := fun W => by kernel_rfl
  have HRZ := Lib.hid (Rp.cells_len (r := Rp.zero) rfl rfl)
  have HHZ := Lib.hid (Tx.bRow_len Tx.zero rfl)
  have HH1 : Hid (∀ v ∈ (bRow Tx.zero).toList, v.oneCell' = true) := Lib.hid (hash_one _ rfl)
  have HZB := Lib.hid Rp.zero_built0
  have CF := Lib.hid (fun (k : Nat) b p hp => chain_facts hRS k time b p hp)
  obtain ⟨RZ, hRZ⟩ : ∃ RZ, RZ = Rp.zero.cells := ⟨_, rfl⟩
  rw [← hRZ] at hz48 HRZ HZB
  simp only [← hRZ] at CF
  clear hRZ hT hTx
  obtain ⟨n, hn⟩ : ∃ n, n = L.length := ⟨_, rfl⟩
  rw [← hn]
  have HN := Lib.hid hn
  clear hn
  have hzh := hash_zv
  go_enter Tryd.func13, Tryd.ntmps13
  go_wp2_with fail
  refine (awake5_any _ HTab.out).mono ?_
  rintro _ w1 ⟨rfl, hb1⟩
  obtain ⟨rB, hb2, rA⟩ := row_two w1 (bRow Tx.zero) (bRow Tx.zero) 23 23
  have HrA := Lib.hid rA
  have HrB := Lib.hid rB
  have Hb2 := Lib.hid (two_below' hb1 hb2)
  have Hs1 := Lib.hid hb1.size
  clear hb1 hb2 rA rB
  go_wp2_with (first
  | ((with_reducible show wpList _ _ _ (⟨_, .build 23 _, _, _, _, _⟩ :: _) _ _); refine wpList_buildL rfl 23 [] rfl (some 18) rfl [] rfl (bRow Tx.zero) hash_built ?_)
  | ((with_reducible show wpList _ _ _ (⟨_, .build 23 _, _, _, _, _⟩ :: _) _ _); refine wpList_buildL rfl 23 [] rfl (some 19) rfl [] rfl (bRow Tx.zero) hash_built ?_)
  | (with_reducible show wpList _ _ _ (⟨_, .store 23 (.tmp 5) _, _, _, _, _⟩ :: _) _ _
     refine wpList_store_at rfl 23 (.tmp 5) (.tmp 18) rfl w1.heap.size 0 (bRow Tx.zero).toList _ _ rfl rfl HrA.out (by have := HHZ.out; omega) (by rw [hash_info, HHZ.out]) HH1.out ?_
     intro w2 hr2 hg2
     rw [splice_all rfl] at hr2
     have HrA2 := Lib.hid hr2
     have HrB2 := Lib.hid (HrB.out.kept hg2 (by simp))
     have HbA2 := Lib.hid (below_own Hb2.out hg2 (fun k hk => by cases hk; exact Hs1.out))
     clear hr2 hg2)
  | (with_reducible show wpList _ _ _ (⟨_, .store 23 (.tmp 6) _, _, _, _, _⟩ :: _) _ _
     refine wpList_store_at rfl 23 (.tmp 6) (.tmp 19) rfl (w1.heap.size + 1) 0 (bRow Tx.zero).toList _ _ rfl rfl HrB2.out (by have := HHZ.out; omega) (by rw [hash_info, HHZ.out]) HH1.out ?_
     intro w3 hr3 hg3
     rw [splice_all rfl] at hr3
     have HB0 := Lib.hid (((Blocks.nil (below_own HbA2.out hg3 (fun k hk => by cases hk; have := Hs1.out; omega))).cons hr3).cons (HrA2.out.kept hg3 (by simp)))
     clear hr3 hg3))
  clear hzh
  go_loopw [7] (fun i wr => ∃ (k : Nat) (p : List UInt8), i = .int .i64 k ∧ k ≤ n ∧ k ≤ 40 ∧ p.length = 32 ∧ Blocks w wr [(w1.heap.size, 23, (bRow p).toList), ((w1.heap.size + 1), 23, (bRow p).toList)]) (fun i _ => 40 - (intOf i).toNat)
  case atStart => exact ⟨0, Tx.zero, rfl, Nat.zero_le _, Nat.zero_le _, rfl, HB0.out⟩
  case round =>
    obtain ⟨k, p, rfl, hkn, hk40, hp, hB⟩ := hrel
    clear HB0
    have HB := Lib.hid hB
    have HPp := Lib.hid hp
    clear hB hp
    by_cases hlt : k < n
    · have hki : (k : Int) < (n : Int) := by omega
      by_cases h40 : k < 40
      · have hk4 : (k : Int) < 40 := by omega
        have hkl : k < L.length := by rw [← HN.out]; exact hlt
        obtain ⟨tb, toff, rfl, htb, htc⟩ := HTx.out (by intro e; rw [e] at hkl; simp at hkl)
        obtain ⟨b, hb⟩ : ∃ b, b = L[k] := ⟨_, rfl⟩
        have TX : Hid (∀ W, Below w.heap.size w W → W.cell? ⟨tb, toff + k, none⟩ = some (S b)) := fun W hW => by rw [hb]; exact (hW.cell (p := ⟨tb, toff + k, none⟩) htb).trans (htc k hkl)
        obtain ⟨D, E, LK, RK, hDL, hD1, heq, hcase⟩ := CF.out k b p HPp.out
        have HDL := Lib.hid hDL
        have HD1 := Lib.hid hD1
        have Hcase := Lib.hid hcase
        have HLK := Lib.hid LK
        have HRK := Lib.hid RK
        have HPL := Lib.hid (Tx.bRow_len p HPp.out)
        have hpp := fun W => (hash_eq W p p HPp.out HPp.out).trans (by rw [decide_eq_true rfl])
        have hu23 := Tryd.underlying23
        have hip : (Tryd.prog.info? 23).map (·.size) = some (bRow p).toList.length := by rw [hash_info, HPL.out]
        clear hb htb htc hDL hD1 hcase LK RK CF
        go_wp2_with fail
        refine wp_region_noPanic ?_
        refine wp_region_held_drew (S := fun w' => Blocks w w' [(w1.heap.size, 23, (bRow p).toList), ((w1.heap.size + 1), 23, (bRow p).toList)]) (by kernel_rfl) (HB.out.drew) (fun hHeld => ?_)
        generalize wr.drew = wq7 at *
        refine' wpAnyH_take (i := 0) (v := _) rfl (by kernel_rfl) (by kernel_rfl) (by kernel_rfl) (fun _ _ _ h => h) (yieldsIf_load_mid (by rfl) _ _ rfl w1.heap.size 0 rfl (bRow p).toList _ (fun w' hSw => (row_range hSw.hd)) hu23 rfl hip) hHeld ?_
        try simp only [Act.put, List.getElem_toArray, List.getElem_cons_succ, List.getElem_cons_zero, List.setIfInBounds_toArray, List.set_cons_zero, List.set_cons_succ]
        refine wpAnyH_take (i := 1) (v := .int .i64 k) rfl (by kernel_rfl) (by kernel_rfl) (by kernel_rfl) (fun _ _ _ h => h) (Or.inl ⟨by rfl, fun w' hSw => by go_simp⟩) hHeld ?_
        try simp only [Act.put, List.getElem_toArray, List.getElem_cons_succ, List.getElem_cons_zero, List.setIfInBounds_toArray, List.set_cons_zero, List.set_cons_succ]
        refine wpAnyH_take (i := 2) (v := .int .i64 time) rfl (by kernel_rfl) (by kernel_rfl) (by kernel_rfl) (fun _ _ _ h => h) (Or.inl ⟨by rfl, fun w' hSw => by go_simp⟩) hHeld ?_
        try simp only [Act.put, List.getElem_toArray, List.getElem_cons_succ, List.getElem_cons_zero, List.setIfInBounds_toArray, List.set_cons_zero, List.set_cons_succ]
        refine wpAnyH_take (i := 3) (v := .slice (some ⟨tb, toff, none⟩) n c) rfl (by kernel_rfl) (by kernel_rfl) (by kernel_rfl) (fun _ _ _ h => h) (Or.inl ⟨by rfl, fun w' hSw => by go_simp⟩) hHeld ?_
        try simp only [Act.put, List.getElem_toArray, List.getElem_cons_succ, List.getElem_cons_zero, List.setIfInBounds_toArray, List.set_cons_zero, List.set_cons_succ]
        refine wpAnyH_take (i := 4) (v := .int .i64 k) rfl (by kernel_rfl) (by kernel_rfl) (by kernel_rfl) (fun _ _ _ h => h) (Or.inl ⟨by rfl, fun w' hSw => by go_simp⟩) hHeld ?_
        try simp only [Act.put, List.getElem_toArray, List.getElem_cons_succ, List.getElem_cons_zero, List.setIfInBounds_toArray, List.set_cons_zero, List.set_cons_succ]
        refine wpAnyH_take (i := 5) (v := .pointer (some ⟨tb, (toff + k), none⟩)) rfl (by kernel_rfl) (by kernel_rfl) (by kernel_rfl) (fun _ _ _ h => h) (Or.inl ⟨by rfl, fun w' hSw => by go_simp⟩) hHeld ?_
        try simp only [Act.put, List.getElem_toArray, List.getElem_cons_succ, List.getElem_cons_zero, List.setIfInBounds_toArray, List.set_cons_zero, List.set_cons_succ]
        refine wpAnyH_take (i := 6) (v := S b) rfl (by kernel_rfl) (by kernel_rfl) (by kernel_rfl) (fun _ _ _ h => h) (Or.inl ⟨by rfl, fun w' hSw => by have hq := hSw; have hc := TX.out _ hq.1; go_simp⟩) hHeld ?_
        try simp only [Act.put, List.getElem_toArray, List.getElem_cons_succ, List.getElem_cons_zero, List.setIfInBounds_toArray, List.set_cons_zero, List.set_cons_succ]
        refine wpAnyH_ready (rs := [7, 11]) (by kernel_rfl) (by simp) (AllReadyH.cons rfl (fun K1 hK1 => ?_) (AllReadyH.cons rfl (fun K1 hK1 => ?_) AllReadyH.nil))
        · skip
          try simp only [Act.put, List.getElem_toArray, List.getElem_cons_succ, List.getElem_cons_zero, List.setIfInBounds_toArray, List.set_cons_zero, List.set_cons_succ]
          go_simp
          refine Calls.mono (HLK.out _ (HTab.out.below hHeld.1 Hp.out)) ?_
          rintro e wc701 ⟨rfl, hc702⟩
          refine hK1.out _ _ (hHeld.step hc702) (fun hHeld => ?_)
          clear hK1 K1
          try simp only [Act.put, List.getElem_toArray, List.getElem_cons_succ, List.getElem_cons_zero, List.setIfInBounds_toArray, List.set_cons_zero, List.set_cons_succ]
          refine wpAnyH_take (i := 8) (v := .tuple #[.agg D.toArray, .int .i64 E]) rfl (by kernel_rfl) (by kernel_rfl) (by kernel_rfl) (fun _ _ _ h => h) (Or.inl ⟨by rfl, fun w' hSw => by go_simp⟩) hHeld ?_
          try simp only [Act.put, List.getElem_toArray, List.getElem_cons_succ, List.getElem_cons_zero, List.setIfInBounds_toArray, List.set_cons_zero, List.set_cons_succ]
          refine wpAnyH_take (i := 9) (v := .agg D.toArray) rfl (by kernel_rfl) (by kernel_rfl) (by kernel_rfl) (fun _ _ _ h => h) (Or.inl ⟨by rfl, fun w' hSw => by go_simp⟩) hHeld ?_
          try simp only [Act.put, List.getElem_toArray, List.getElem_cons_succ, List.getElem_cons_zero, List.setIfInBounds_toArray, List.set_cons_zero, List.set_cons_succ]
          refine wpAnyH_take (i := 10) (v := .int .i64 E) rfl (by kernel_rfl) (by kernel_rfl) (by kernel_rfl) (fun _ _ _ h => h) (Or.inl ⟨by rfl, fun w' hSw => by go_simp⟩) hHeld ?_
          try simp only [Act.put, List.getElem_toArray, List.getElem_cons_succ, List.getElem_cons_zero, List.setIfInBounds_toArray, List.set_cons_zero, List.set_cons_succ]
          refine wpAnyH_ready (rs := [11]) (by kernel_rfl) (by simp) (AllReadyH.cons rfl (fun K1 hK1 => ?_) AllReadyH.nil)
          try simp only [Act.put, List.getElem_toArray, List.getElem_cons_succ, List.getElem_cons_zero, List.setIfInBounds_toArray, List.set_cons_zero, List.set_cons_succ]
          go_simp
          have hd704 := (Below.refl wc701.heap.size wc701).alloc (Nat.le_refl _) (.cells RZ.toArray 48)
          have r8 : Row (wc701.alloc (.cells RZ.toArray 48)) wc701.heap.size 48 RZ := Row.new wc701 48 RZ
          have r8n := hHeld.fresh
          have r8s := hHeld.size
          have hHeld2 := hHeld.step hd704
          generalize wc701.alloc (.cells RZ.toArray 48) = wa703 at *
          obtain ⟨ga705, ga705e⟩ : ∃ ga705, ga705 = wc701.heap.size := ⟨_, rfl⟩
          rw [← ga705e] at r8 r8n r8s ⊢
          refine hK1.out _ _ (hHeld2) (fun hHeld => ?_)
          clear hK1 K1
          try simp only [Act.put, List.getElem_toArray, List.getElem_cons_succ, List.getElem_cons_zero, List.setIfInBounds_toArray, List.set_cons_zero, List.set_cons_succ]
          clear hHeld2 ga705e
          refine wpAnyH_ready (rs := [12]) (by kernel_rfl) (by simp) (AllReadyH.cons rfl (fun K1 hK1 => ?_) AllReadyH.nil)
          try simp only [Act.put, List.getElem_toArray, List.getElem_cons_succ, List.getElem_cons_zero, List.setIfInBounds_toArray, List.set_cons_zero, List.set_cons_succ]
          rw [if_pos (by rfl)]
          refine wp_store_at 48 (.tmp 8) (.tmp 39) rfl ga705 0 D _ _ rfl rfl r8 (by have := HRZ.out; have := HDL.out; omega) (by rw [rp_info, HDL.out]) HD1.out ?_
          intro ws706 hrS hgS
          rw [splice_all (HDL.out.trans HRZ.out.symm)] at hrS
          have HrQ := Lib.hid hrS
          have hHeld2 := hHeld.put hgS r8s r8n
          clear hrS hgS
          refine hK1.out _ _ (hHeld2) (fun hHeld => ?_)
          clear hK1 K1
          try simp only [Act.put, List.getElem_toArray, List.getElem_cons_succ, List.getElem_cons_zero, List.setIfInBounds_toArray, List.set_cons_zero, List.set_cons_succ]
          clear hHeld2
          refine wpAnyH_take (i := 13) (v := .int .i64 E) rfl (by kernel_rfl) (by kernel_rfl) (by kernel_rfl) (fun _ _ _ h => h) (Or.inl ⟨by rfl, fun w' hSw => by go_simp⟩) hHeld ?_
          try simp only [Act.put, List.getElem_toArray, List.getElem_cons_succ, List.getElem_cons_zero, List.setIfInBounds_toArray, List.set_cons_zero, List.set_cons_succ]
          refine wpAnyH_done (by kernel_rfl) ?_ _
          refine NoPanic.normal ?_
          have HB8 : Hid (Blocks w ws706 [(ga705, 48, D), (w1.heap.size, 23, (bRow p).toList), ((w1.heap.size + 1), 23, (bRow p).toList)]) := Lib.hid (hHeld.cons HrQ.out)
          clear hHeld HrQ
          go_wp2_with fail
          refine wp_region_noPanic ?_
          refine wp_region_held_drew (S := fun w' => Blocks w w' [(ga705, 48, D), (w1.heap.size, 23, (bRow p).toList), ((w1.heap.size + 1), 23, (bRow p).toList)]) (by kernel_rfl) (HB8.out.drew) (fun hHeld => ?_)
          generalize ws706.drew = wq8 at *
          refine' wpAnyH_take (i := 0) (v := _) rfl (by kernel_rfl) (by kernel_rfl) (by kernel_rfl) (fun _ _ _ h => h) (yieldsIf_load_mid (by rfl) _ _ rfl (w1.heap.size + 1) 0 rfl (bRow p).toList _ (fun w' hSw => (row_range hSw.tl.tl.hd)) hu23 rfl hip) hHeld ?_
          try simp only [Act.put, List.getElem_toArray, List.getElem_cons_succ, List.getElem_cons_zero, List.setIfInBounds_toArray, List.set_cons_zero, List.set_cons_succ]
          refine wpAnyH_take (i := 1) (v := .int .i64 k) rfl (by kernel_rfl) (by kernel_rfl) (by kernel_rfl) (fun _ _ _ h => h) (Or.inl ⟨by rfl, fun w' hSw => by go_simp⟩) hHeld ?_
          try simp only [Act.put, List.getElem_toArray, List.getElem_cons_succ, List.getElem_cons_zero, List.setIfInBounds_toArray, List.set_cons_zero, List.set_cons_succ]
          refine wpAnyH_take (i := 2) (v := .int .i64 time) rfl (by kernel_rfl) (by kernel_rfl) (by kernel_rfl) (fun _ _ _ h => h) (Or.inl ⟨by rfl, fun w' hSw => by go_simp⟩) hHeld ?_
          try simp only [Act.put, List.getElem_toArray, List.getElem_cons_succ, List.getElem_cons_zero, List.setIfInBounds_toArray, List.set_cons_zero, List.set_cons_succ]
          refine wpAnyH_take (i := 3) (v := .slice (some ⟨tb, toff, none⟩) n c) rfl (by kernel_rfl) (by kernel_rfl) (by kernel_rfl) (fun _ _ _ h => h) (Or.inl ⟨by rfl, fun w' hSw => by go_simp⟩) hHeld ?_
          try simp only [Act.put, List.getElem_toArray, List.getElem_cons_succ, List.getElem_cons_zero, List.setIfInBounds_toArray, List.set_cons_zero, List.set_cons_succ]
          refine wpAnyH_take (i := 4) (v := .int .i64 k) rfl (by kernel_rfl) (by kernel_rfl) (by kernel_rfl) (fun _ _ _ h => h) (Or.inl ⟨by rfl, fun w' hSw => by go_simp⟩) hHeld ?_
          try simp only [Act.put, List.getElem_toArray, List.getElem_cons_succ, List.getElem_cons_zero, List.setIfInBounds_toArray, List.set_cons_zero, List.set_cons_succ]
          refine wpAnyH_take (i := 5) (v := .pointer (some ⟨tb, (toff + k), none⟩)) rfl (by kernel_rfl) (by kernel_rfl) (by kernel_rfl) (fun _ _ _ h => h) (Or.inl ⟨by rfl, fun w' hSw => by go_simp⟩) hHeld ?_
          try simp only [Act.put, List.getElem_toArray, List.getElem_cons_succ, List.getElem_cons_zero, List.setIfInBounds_toArray, List.set_cons_zero, List.set_cons_succ]
          refine wpAnyH_take (i := 6) (v := S b) rfl (by kernel_rfl) (by kernel_rfl) (by kernel_rfl) (fun _ _ _ h => h) (Or.inl ⟨by rfl, fun w' hSw => by have hq := hSw; have hc := TX.out _ hq.1; go_simp⟩) hHeld ?_
          try simp only [Act.put, List.getElem_toArray, List.getElem_cons_succ, List.getElem_cons_zero, List.setIfInBounds_toArray, List.set_cons_zero, List.set_cons_succ]
          refine wpAnyH_ready (rs := [7, 11]) (by kernel_rfl) (by simp) (AllReadyH.cons rfl (fun K1 hK1 => ?_) (AllReadyH.cons rfl (fun K1 hK1 => ?_) AllReadyH.nil))
          · skip
            try simp only [Act.put, List.getElem_toArray, List.getElem_cons_succ, List.getElem_cons_zero, List.setIfInBounds_toArray, List.set_cons_zero, List.set_cons_succ]
            go_simp
            refine Calls.mono (HRK.out _) ?_
            rintro e wc801 ⟨rfl, hc802⟩
            refine hK1.out _ _ (hHeld.step hc802) (fun hHeld => ?_)
            clear hK1 K1
            try simp only [Act.put, List.getElem_toArray, List.getElem_cons_succ, List.getElem_cons_zero, List.setIfInBounds_toArray, List.set_cons_zero, List.set_cons_succ]
            refine wpAnyH_take (i := 8) (v := .tuple #[.agg D.toArray, .int .i64 E]) rfl (by kernel_rfl) (by kernel_rfl) (by kernel_rfl) (fun _ _ _ h => h) (Or.inl ⟨by rfl, fun w' hSw => by go_simp⟩) hHeld ?_
            try simp only [Act.put, List.getElem_toArray, List.getElem_cons_succ, List.getElem_cons_zero, List.setIfInBounds_toArray, List.set_cons_zero, List.set_cons_succ]
            refine wpAnyH_take (i := 9) (v := .agg D.toArray) rfl (by kernel_rfl) (by kernel_rfl) (by kernel_rfl) (fun _ _ _ h => h) (Or.inl ⟨by rfl, fun w' hSw => by go_simp⟩) hHeld ?_
            try simp only [Act.put, List.getElem_toArray, List.getElem_cons_succ, List.getElem_cons_zero, List.setIfInBounds_toArray, List.set_cons_zero, List.set_cons_succ]
            refine wpAnyH_take (i := 10) (v := .int .i64 E) rfl (by kernel_rfl) (by kernel_rfl) (by kernel_rfl) (fun _ _ _ h => h) (Or.inl ⟨by rfl, fun w' hSw => by go_simp⟩) hHeld ?_
            try simp only [Act.put, List.getElem_toArray, List.getElem_cons_succ, List.getElem_cons_zero, List.setIfInBounds_toArray, List.set_cons_zero, List.set_cons_succ]
            refine wpAnyH_ready (rs := [11]) (by kernel_rfl) (by simp) (AllReadyH.cons rfl (fun K1 hK1 => ?_) AllReadyH.nil)
            try simp only [Act.put, List.getElem_toArray, List.getElem_cons_succ, List.getElem_cons_zero, List.setIfInBounds_toArray, List.set_cons_zero, List.set_cons_succ]
            go_simp
            have hd804 := (Below.refl wc801.heap.size wc801).alloc (Nat.le_refl _) (.cells RZ.toArray 48)
            have r10 : Row (wc801.alloc (.cells RZ.toArray 48)) wc801.heap.size 48 RZ := Row.new wc801 48 RZ
            have r10n := hHeld.fresh
            have r10s := hHeld.size
            have hHeld2 := hHeld.step hd804
            generalize wc801.alloc (.cells RZ.toArray 48) = wa803 at *
            obtain ⟨ga805, ga805e⟩ : ∃ ga805, ga805 = wc801.heap.size := ⟨_, rfl⟩
            rw [← ga805e] at r10 r10n r10s ⊢
            refine hK1.out _ _ (hHeld2) (fun hHeld => ?_)
            clear hK1 K1
            try simp only [Act.put, List.getElem_toArray, List.getElem_cons_succ, List.getElem_cons_zero, List.setIfInBounds_toArray, List.set_cons_zero, List.set_cons_succ]
            clear hHeld2 ga805e
            refine wpAnyH_ready (rs := [12]) (by kernel_rfl) (by simp) (AllReadyH.cons rfl (fun K1 hK1 => ?_) AllReadyH.nil)
            try simp only [Act.put, List.getElem_toArray, List.getElem_cons_succ, List.getElem_cons_zero, List.setIfInBounds_toArray, List.set_cons_zero, List.set_cons_succ]
            rw [if_pos (by rfl)]
            refine wp_store_at 48 (.tmp 10) (.tmp 50) rfl ga805 0 D _ _ rfl rfl r10 (by have := HRZ.out; have := HDL.out; omega) (by rw [rp_info, HDL.out]) HD1.out ?_
            intro ws806 hrS hgS
            rw [splice_all (HDL.out.trans HRZ.out.symm)] at hrS
            have HrR := Lib.hid hrS
            have hHeld2 := hHeld.put hgS r10s r10n
            clear hrS hgS
            refine hK1.out _ _ (hHeld2) (fun hHeld => ?_)
            clear hK1 K1
            try simp only [Act.put, List.getElem_toArray, List.getElem_cons_succ, List.getElem_cons_zero, List.setIfInBounds_toArray, List.set_cons_zero, List.set_cons_succ]
            clear hHeld2
            refine wpAnyH_take (i := 13) (v := .int .i64 E) rfl (by kernel_rfl) (by kernel_rfl) (by kernel_rfl) (fun _ _ _ h => h) (Or.inl ⟨by rfl, fun w' hSw => by go_simp⟩) hHeld ?_
            try simp only [Act.put, List.getElem_toArray, List.getElem_cons_succ, List.getElem_cons_zero, List.setIfInBounds_toArray, List.set_cons_zero, List.set_cons_succ]
            refine wpAnyH_done (by kernel_rfl) ?_ _
            refine NoPanic.normal ?_
            have HBx : Hid (Blocks w ws806 [(ga805, 48, D), (ga705, 48, D), (w1.heap.size, 23, (bRow p).toList), ((w1.heap.size + 1), 23, (bRow p).toList)]) := Lib.hid (hHeld.cons HrR.out)
            clear hHeld HrR
            rcases Hcase.out with ⟨rfl, rfl⟩ | ⟨rfl, s, K, hKl, hWR, hRR, hBP⟩
            · go_wp2_with (first
                | (with_reducible show wpList _ _ _ (⟨_, .load 48 (.tmp 8), _, _, _, _⟩ :: _) _ _; refine wpList_load_tx rfl 48 (.tmp 8) rfl (ga705) 0 rfl D _ (row_range HBx.out.tl.hd) Tryd.underlying48 rfl (by rw [rp_info, HDL.out]) ?_)
                | (with_reducible show wpList _ _ _ (⟨_, .load 48 (.tmp 10), _, _, _, _⟩ :: _) _ _; refine wpList_load_tx rfl 48 (.tmp 10) rfl (ga805) 0 rfl D _ (row_range HBx.out.hd) Tryd.underlying48 rfl (by rw [rp_info, HDL.out]) ?_)
                | ((with_reducible show wpList _ _ _ (⟨_, .build 48 _, _, _, _, _⟩ :: _) _ _); refine wpList_buildL rfl 48 [] rfl (some 63) rfl [] rfl D.toArray HZB.out ?_))
              go_ret
              exact ⟨rfl, HBx.out.1⟩
            · have HKl := Lib.hid hKl
              have HWR := Lib.hid hWR
              have HRR := Lib.hid hRR
              have HBP := Lib.hid hBP
              have HKL := Lib.hid (Tx.bRow_len K hKl)
              have HK1 : Hid (∀ v ∈ (bRow K).toList, v.oneCell' = true) := Lib.hid (hash_one _ HKl.out)
              clear hKl hWR hRR hBP
              go_wp2_with (first
                | (with_reducible show wpList _ _ _ (⟨_, .load 48 (.tmp 8), _, _, _, _⟩ :: _) _ _; refine wpList_load_tx rfl 48 (.tmp 8) rfl (ga705) 0 rfl D _ (row_range HBx.out.tl.hd) Tryd.underlying48 rfl (by rw [rp_info, HDL.out]) ?_)
                | (with_reducible show wpList _ _ _ (⟨_, .load 48 (.tmp 10), _, _, _, _⟩ :: _) _ _; refine wpList_load_tx rfl 48 (.tmp 10) rfl (ga805) 0 rfl D _ (row_range HBx.out.hd) Tryd.underlying48 rfl (by rw [rp_info, HDL.out]) ?_))
              refine (HWR.out _ (HTab.out.below HBx.out.1 Hp.out)).mono ?_
              rintro _ w5 ⟨rfl, hb5⟩
              have HB5 := Lib.hid (HBx.out.step hb5)
              clear hb5
              go_wp2_with fail
              refine (HRR.out _ (HTab.out.below HB5.out.1 Hp.out)).mono ?_
              rintro _ w6 ⟨rfl, hb6⟩
              have HB6 := Lib.hid (HB5.out.step hb6)
              have Hz6 := Lib.hid (Row.new w6 48 RZ)
              clear hb6 HB5
              go_wp2_with (first
                | (with_reducible show wpList _ _ _ (⟨_, .store 48 (.tmp 14) _, _, _, _, _⟩ :: _) _ _
                   refine wpList_store_at rfl 48 (.tmp 14) (.tmp 73) rfl w6.heap.size 0 D _ _ rfl rfl Hz6.out (by have := HRZ.out; have := HDL.out; omega) (by rw [rp_info, HDL.out]) HD1.out ?_
                   intro w7 hr7 hg7
                   rw [splice_all (HDL.out.trans HRZ.out.symm)] at hr7
                   have HB7 := Lib.hid (((HB6.out.alloc _).put hg7 HB6.out.size HB6.out.fresh).cons hr7)
                   clear hr7 hg7)
                | (with_reducible show wpList _ _ _ (⟨_, .load 48 (.tmp 14), _, _, _, _⟩ :: _) _ _; refine wpList_load_tx rfl 48 (.tmp 14) rfl (w6.heap.size) 0 rfl D _ (row_range HB7.out.hd) Tryd.underlying48 rfl (by rw [rp_info, HDL.out]) ?_)
                | (with_reducible show wpList _ _ _ (⟨_, .load 48 (.tmp 8), _, _, _, _⟩ :: _) _ _; refine wpList_load_tx rfl 48 (.tmp 8) rfl (ga705) 0 rfl D _ (row_range HB7.out.tl.tl.hd) Tryd.underlying48 rfl (by rw [rp_info, HDL.out]) ?_)
                | (with_reducible show wpList _ _ _ (⟨_, .load 23 (.tmp 87), _, _, _, _⟩ :: _) _ _; refine wpList_load_tx rfl 23 (.tmp 87) rfl (ga705) 4 rfl (bRow p).toList _ (HBP.out _ _ _ HB7.out.tl.tl.hd).1 Tryd.underlying23 rfl (by rw [hash_info, HPL.out]) ?_)
                | (with_reducible show wpList _ _ _ (⟨_, .load 23 (.tmp 5), _, _, _, _⟩ :: _) _ _; refine wpList_load_tx rfl 23 (.tmp 5) rfl (w1.heap.size) 0 rfl (bRow p).toList _ (row_range HB7.out.tl.tl.tl.hd) Tryd.underlying23 rfl (by rw [hash_info, HPL.out]) ?_))
              have HB8 := Lib.hid HB7.out.tl
              have HrA0 := Lib.hid HB8.out.tl.tl.hd
              have HrB0 := Lib.hid HB8.out.tl.tl.tl.hd
              have HsA := Hs1
              have hik : (Tryd.prog.info? 23).map (·.size) = some (bRow K).toList.length := by rw [hash_info, HKL.out]
              refine wp_region_held_drew (S := fun w' => Blocks w w' [(ga805, 48, D), (ga705, 48, D)]) (by kernel_rfl) ((Blocks.drew ⟨HB8.out.1, fun x hx => HB8.out.2 x (by simp at hx ⊢; rcases hx with h | h <;> simp [h])⟩)) (fun hHeld => ?_)
              have HrA0 := Lib.hid (HrA0.out.kept (grownBy_drew w7 none) (by simp))
              have HrB0 := Lib.hid (HrB0.out.kept (grownBy_drew w7 none) (by simp))
              generalize w7.drew = wq17 at *
              refine wpAnyH_take (i := 0) (v := .pointer (some ⟨ga705, 36, none⟩)) rfl (by kernel_rfl) (by kernel_rfl) (by kernel_rfl) (fun _ _ _ h => h) (Or.inl ⟨by rfl, fun w' hSw => by go_simp⟩) hHeld ?_
              try simp only [Act.put, List.getElem_toArray, List.getElem_cons_succ, List.getElem_cons_zero, List.setIfInBounds_toArray, List.set_cons_zero, List.set_cons_succ]
              refine' wpAnyH_take (i := 1) (v := _) rfl (by kernel_rfl) (by kernel_rfl) (by kernel_rfl) (fun _ _ _ h => h) (yieldsIf_load_mid (by rfl) _ _ rfl ga705 36 rfl (bRow K).toList _ (fun w' hSw => (HBP.out _ _ _ hSw.tl.hd).2) hu23 rfl hik) hHeld ?_
              try simp only [Act.put, List.getElem_toArray, List.getElem_cons_succ, List.getElem_cons_zero, List.setIfInBounds_toArray, List.set_cons_zero, List.set_cons_succ]
              refine wpAnyH_take (i := 2) (v := .pointer (some ⟨ga805, 36, none⟩)) rfl (by kernel_rfl) (by kernel_rfl) (by kernel_rfl) (fun _ _ _ h => h) (Or.inl ⟨by rfl, fun w' hSw => by go_simp⟩) hHeld ?_
              try simp only [Act.put, List.getElem_toArray, List.getElem_cons_succ, List.getElem_cons_zero, List.setIfInBounds_toArray, List.set_cons_zero, List.set_cons_succ]
              refine' wpAnyH_take (i := 3) (v := _) rfl (by kernel_rfl) (by kernel_rfl) (by kernel_rfl) (fun _ _ _ h => h) (yieldsIf_load_mid (by rfl) _ _ rfl ga805 36 rfl (bRow K).toList _ (fun w' hSw => (HBP.out _ _ _ hSw.hd).2) hu23 rfl hik) hHeld ?_
              try simp only [Act.put, List.getElem_toArray, List.getElem_cons_succ, List.getElem_cons_zero, List.setIfInBounds_toArray, List.set_cons_zero, List.set_cons_succ]
              refine wpAnyH_ready (rs := [4]) (by kernel_rfl) (by simp) (AllReadyH.cons rfl (fun K1 hK1 => ?_) AllReadyH.nil)
              try simp only [Act.put, List.getElem_toArray, List.getElem_cons_succ, List.getElem_cons_zero, List.setIfInBounds_toArray, List.set_cons_zero, List.set_cons_succ]
              rw [if_pos (by rfl)]
              refine wp_store_at 23 (.tmp 5) (.tmp 93) rfl w1.heap.size 0 (bRow K).toList _ _ rfl rfl HrA0.out (by have := HPL.out; have := HKL.out; omega) (by rw [hash_info, HKL.out]) HK1.out ?_
              intro ws1 hrS hgS
              rw [splice_all (HKL.out.trans HPL.out.symm)] at hrS
              have HrB2 := Lib.hid (HrB0.out.kept hgS (by simp))
              have HrA2 := Lib.hid hrS
              have hHeld2 := hHeld.put hgS HsA.out (hHeld.other HrA0.out (by simp))
              clear hrS hgS
              refine hK1.out _ _ (hHeld2) (fun hHeld => ?_)
              clear hK1 K1
              try simp only [Act.put, List.getElem_toArray, List.getElem_cons_succ, List.getElem_cons_zero, List.setIfInBounds_toArray, List.set_cons_zero, List.set_cons_succ]
              clear hHeld2
              refine wpAnyH_ready (rs := [5]) (by kernel_rfl) (by simp) (AllReadyH.cons rfl (fun K1 hK1 => ?_) AllReadyH.nil)
              try simp only [Act.put, List.getElem_toArray, List.getElem_cons_succ, List.getElem_cons_zero, List.setIfInBounds_toArray, List.set_cons_zero, List.set_cons_succ]
              rw [if_pos (by rfl)]
              refine wp_store_at 23 (.tmp 6) (.tmp 95) rfl (w1.heap.size + 1) 0 (bRow K).toList _ _ rfl rfl HrB2.out (by have := HPL.out; have := HKL.out; omega) (by rw [hash_info, HKL.out]) HK1.out ?_
              intro ws2 hrS hgS
              rw [splice_all (HKL.out.trans HPL.out.symm)] at hrS
              have HrA3 := Lib.hid (HrA2.out.kept hgS (by simp))
              have HrB3 := Lib.hid hrS
              have hHeld2 := hHeld.put hgS (by have := HsA.out; omega) (hHeld.other HrB2.out (by simp))
              clear hrS hgS
              refine hK1.out _ _ (hHeld2) (fun hHeld => ?_)
              clear hK1 K1
              try simp only [Act.put, List.getElem_toArray, List.getElem_cons_succ, List.getElem_cons_zero, List.setIfInBounds_toArray, List.set_cons_zero, List.set_cons_succ]
              clear hHeld2
              refine wpAnyH_done (by kernel_rfl) ?_ _
              have HBn : Blocks w ws2 [(w1.heap.size, 23, (bRow K).toList), ((w1.heap.size + 1), 23, (bRow K).toList)] := ((Blocks.nil hHeld.1).cons HrB3.out).cons HrA3.out
              go_wp2_with fail
              exact ⟨⟨k + 1, K, by go_num, by omega, by omega, HKl.out, HBn⟩, by simp [intOf]; omega⟩
          · skip
            try simp only [Act.put, List.getElem_toArray, List.getElem_cons_succ, List.getElem_cons_zero, List.setIfInBounds_toArray, List.set_cons_zero, List.set_cons_succ]
            go_simp
            have hd808 := (Below.refl wq8.heap.size wq8).alloc (Nat.le_refl _) (.cells RZ.toArray 48)
            have r10 : Row (wq8.alloc (.cells RZ.toArray 48)) wq8.heap.size 48 RZ := Row.new wq8 48 RZ
            have r10n := hHeld.fresh
            have r10s := hHeld.size
            have hHeld2 := hHeld.step hd808
            generalize wq8.alloc (.cells RZ.toArray 48) = wa807 at *
            obtain ⟨ga809, ga809e⟩ : ∃ ga809, ga809 = wq8.heap.size := ⟨_, rfl⟩
            rw [← ga809e] at r10 r10n r10s ⊢
            refine hK1.out _ _ (hHeld2) (fun hHeld => ?_)
            clear hK1 K1
            try simp only [Act.put, List.getElem_toArray, List.getElem_cons_succ, List.getElem_cons_zero, List.setIfInBounds_toArray, List.set_cons_zero, List.set_cons_succ]
            clear hHeld2 ga809e
            refine wpAnyH_ready (rs := [7]) (by kernel_rfl) (by simp) (AllReadyH.cons rfl (fun K1 hK1 => ?_) AllReadyH.nil)
            try simp only [Act.put, List.getElem_toArray, List.getElem_cons_succ, List.getElem_cons_zero, List.setIfInBounds_toArray, List.set_cons_zero, List.set_cons_succ]
            go_simp
            refine Calls.mono (HRK.out _) ?_
            rintro e wc810 ⟨rfl, hc811⟩
            have r10 := r10.kept (grownBy_of_below hc811 none) (by simp)
            refine hK1.out _ _ (hHeld.step hc811) (fun hHeld => ?_)
            clear hK1 K1
            try simp only [Act.put, List.getElem_toArray, List.getElem_cons_succ, List.getElem_cons_zero, List.setIfInBounds_toArray, List.set_cons_zero, List.set_cons_succ]
            refine wpAnyH_take (i := 8) (v := .tuple #[.agg D.toArray, .int .i64 E]) rfl (by kernel_rfl) (by kernel_rfl) (by kernel_rfl) (fun _ _ _ h => h) (Or.inl ⟨by rfl, fun w' hSw => by go_simp⟩) hHeld ?_
            try simp only [Act.put, List.getElem_toArray, List.getElem_cons_succ, List.getElem_cons_zero, List.setIfInBounds_toArray, List.set_cons_zero, List.set_cons_succ]
            refine wpAnyH_take (i := 9) (v := .agg D.toArray) rfl (by kernel_rfl) (by kernel_rfl) (by kernel_rfl) (fun _ _ _ h => h) (Or.inl ⟨by rfl, fun w' hSw => by go_simp⟩) hHeld ?_
            try simp only [Act.put, List.getElem_toArray, List.getElem_cons_succ, List.getElem_cons_zero, List.setIfInBounds_toArray, List.set_cons_zero, List.set_cons_succ]
            refine wpAnyH_take (i := 10) (v := .int .i64 E) rfl (by kernel_rfl) (by kernel_rfl) (by kernel_rfl) (fun _ _ _ h => h) (Or.inl ⟨by rfl, fun w' hSw => by go_simp⟩) hHeld ?_
            try simp only [Act.put, List.getElem_toArray, List.getElem_cons_succ, List.getElem_cons_zero, List.setIfInBounds_toArray, List.set_cons_zero, List.set_cons_succ]
            refine wpAnyH_ready (rs := [12]) (by kernel_rfl) (by simp) (AllReadyH.cons rfl (fun K1 hK1 => ?_) AllReadyH.nil)
            try simp only [Act.put, List.getElem_toArray, List.getElem_cons_succ, List.getElem_cons_zero, List.setIfInBounds_toArray, List.set_cons_zero, List.set_cons_succ]
            rw [if_pos (by rfl)]
            refine wp_store_at 48 (.tmp 10) (.tmp 50) rfl ga809 0 D _ _ rfl rfl r10 (by have := HRZ.out; have := HDL.out; omega) (by rw [rp_info, HDL.out]) HD1.out ?_
            intro ws812 hrS hgS
            rw [splice_all (HDL.out.trans HRZ.out.symm)] at hrS
            have HrR := Lib.hid hrS
            have hHeld2 := hHeld.put hgS r10s r10n
            clear hrS hgS
            refine hK1.out _ _ (hHeld2) (fun hHeld => ?_)
            clear hK1 K1
            try simp only [Act.put, List.getElem_toArray, List.getElem_cons_succ, List.getElem_cons_zero, List.setIfInBounds_toArray, List.set_cons_zero, List.set_cons_succ]
            clear hHeld2
            refine wpAnyH_take (i := 13) (v := .int .i64 E) rfl (by kernel_rfl) (by kernel_rfl) (by kernel_rfl) (fun _ _ _ h => h) (Or.inl ⟨by rfl, fun w' hSw => by go_simp⟩) hHeld ?_
            try simp only [Act.put, List.getElem_toArray, List.getElem_cons_succ, List.getElem_cons_zero, List.setIfInBounds_toArray, List.set_cons_zero, List.set_cons_succ]
            refine wpAnyH_done (by kernel_rfl) ?_ _
            refine NoPanic.normal ?_
            have HBx : Hid (Blocks w ws812 [(ga809, 48, D), (ga705, 48, D), (w1.heap.size, 23, (bRow p).toList), ((w1.heap.size + 1), 23, (bRow p).toList)]) := Lib.hid (hHeld.cons HrR.out)
            clear hHeld HrR
            rcases Hcase.out with ⟨rfl, rfl⟩ | ⟨rfl, s, K, hKl, hWR, hRR, hBP⟩
            · go_wp2_with (first
                | (with_reducible show wpList _ _ _ (⟨_, .load 48 (.tmp 8), _, _, _, _⟩ :: _) _ _; refine wpList_load_tx rfl 48 (.tmp 8) rfl (ga705) 0 rfl D _ (row_range HBx.out.tl.hd) Tryd.underlying48 rfl (by rw [rp_info, HDL.out]) ?_)
                | (with_reducible show wpList _ _ _ (⟨_, .load 48 (.tmp 10), _, _, _, _⟩ :: _) _ _; refine wpList_load_tx rfl 48 (.tmp 10) rfl (ga809) 0 rfl D _ (row_range HBx.out.hd) Tryd.underlying48 rfl (by rw [rp_info, HDL.out]) ?_)
                | ((with_reducible show wpList _ _ _ (⟨_, .build 48 _, _, _, _, _⟩ :: _) _ _); refine wpList_buildL rfl 48 [] rfl (some 63) rfl [] rfl D.toArray HZB.out ?_))
              go_ret
              exact ⟨rfl, HBx.out.1⟩
            · have HKl := Lib.hid hKl
              have HWR := Lib.hid hWR
              have HRR := Lib.hid hRR
              have HBP := Lib.hid hBP
              have HKL := Lib.hid (Tx.bRow_len K hKl)
              have HK1 : Hid (∀ v ∈ (bRow K).toList, v.oneCell' = true) := Lib.hid (hash_one _ HKl.out)
              clear hKl hWR hRR hBP
              go_wp2_with (first
                | (with_reducible show wpList _ _ _ (⟨_, .load 48 (.tmp 8), _, _, _, _⟩ :: _) _ _; refine wpList_load_tx rfl 48 (.tmp 8) rfl (ga705) 0 rfl D _ (row_range HBx.out.tl.hd) Tryd.underlying48 rfl (by rw [rp_info, HDL.out]) ?_)
                | (with_reducible show wpList _ _ _ (⟨_, .load 48 (.tmp 10), _, _, _, _⟩ :: _) _ _; refine wpList_load_tx rfl 48 (.tmp 10) rfl (ga809) 0 rfl D _ (row_range HBx.out.hd) Tryd.underlying48 rfl (by rw [rp_info, HDL.out]) ?_))
              refine (HWR.out _ (HTab.out.below HBx.out.1 Hp.out)).mono ?_
              rintro _ w5 ⟨rfl, hb5⟩
              have HB5 := Lib.hid (HBx.out.step hb5)
              clear hb5
              go_wp2_with fail
              refine (HRR.out _ (HTab.out.below HB5.out.1 Hp.out)).mono ?_
              rintro _ w6 ⟨rfl, hb6⟩
              have HB6 := Lib.hid (HB5.out.step hb6)
              have Hz6 := Lib.hid (Row.new w6 48 RZ)
              clear hb6 HB5
              go_wp2_with (first
                | (with_reducible show wpList _ _ _ (⟨_, .store 48 (.tmp 14) _, _, _, _, _⟩ :: _) _ _
                   refine wpList_store_at rfl 48 (.tmp 14) (.tmp 73) rfl w6.heap.size 0 D _ _ rfl rfl Hz6.out (by have := HRZ.out; have := HDL.out; omega) (by rw [rp_info, HDL.out]) HD1.out ?_
                   intro w7 hr7 hg7
                   rw [splice_all (HDL.out.trans HRZ.out.symm)] at hr7
                   have HB7 := Lib.hid (((HB6.out.alloc _).put hg7 HB6.out.size HB6.out.fresh).cons hr7)
                   clear hr7 hg7)
                | (with_reducible show wpList _ _ _ (⟨_, .load 48 (.tmp 14), _, _, _, _⟩ :: _) _ _; refine wpList_load_tx rfl 48 (.tmp 14) rfl (w6.heap.size) 0 rfl D _ (row_range HB7.out.hd) Tryd.underlying48 rfl (by rw [rp_info, HDL.out]) ?_)
                | (with_reducible show wpList _ _ _ (⟨_, .load 48 (.tmp 8), _, _, _, _⟩ :: _) _ _; refine wpList_load_tx rfl 48 (.tmp 8) rfl (ga705) 0 rfl D _ (row_range HB7.out.tl.tl.hd) Tryd.underlying48 rfl (by rw [rp_info, HDL.out]) ?_)
                | (with_reducible show wpList _ _ _ (⟨_, .load 23 (.tmp 87), _, _, _, _⟩ :: _) _ _; refine wpList_load_tx rfl 23 (.tmp 87) rfl (ga705) 4 rfl (bRow p).toList _ (HBP.out _ _ _ HB7.out.tl.tl.hd).1 Tryd.underlying23 rfl (by rw [hash_info, HPL.out]) ?_)
                | (with_reducible show wpList _ _ _ (⟨_, .load 23 (.tmp 5), _, _, _, _⟩ :: _) _ _; refine wpList_load_tx rfl 23 (.tmp 5) rfl (w1.heap.size) 0 rfl (bRow p).toList _ (row_range HB7.out.tl.tl.tl.hd) Tryd.underlying23 rfl (by rw [hash_info, HPL.out]) ?_))
              have HB8 := Lib.hid HB7.out.tl
              have HrA0 := Lib.hid HB8.out.tl.tl.hd
              have HrB0 := Lib.hid HB8.out.tl.tl.tl.hd
              have HsA := Hs1
              have hik : (Tryd.prog.info? 23).map (·.size) = some (bRow K).toList.length := by rw [hash_info, HKL.out]
              refine wp_region_held_drew (S := fun w' => Blocks w w' [(ga809, 48, D), (ga705, 48, D)]) (by kernel_rfl) ((Blocks.drew ⟨HB8.out.1, fun x hx => HB8.out.2 x (by simp at hx ⊢; rcases hx with h | h <;> simp [h])⟩)) (fun hHeld => ?_)
              have HrA0 := Lib.hid (HrA0.out.kept (grownBy_drew w7 none) (by simp))
              have HrB0 := Lib.hid (HrB0.out.kept (grownBy_drew w7 none) (by simp))
              generalize w7.drew = wq17 at *
              refine wpAnyH_take (i := 0) (v := .pointer (some ⟨ga705, 36, none⟩)) rfl (by kernel_rfl) (by kernel_rfl) (by kernel_rfl) (fun _ _ _ h => h) (Or.inl ⟨by rfl, fun w' hSw => by go_simp⟩) hHeld ?_
              try simp only [Act.put, List.getElem_toArray, List.getElem_cons_succ, List.getElem_cons_zero, List.setIfInBounds_toArray, List.set_cons_zero, List.set_cons_succ]
              refine' wpAnyH_take (i := 1) (v := _) rfl (by kernel_rfl) (by kernel_rfl) (by kernel_rfl) (fun _ _ _ h => h) (yieldsIf_load_mid (by rfl) _ _ rfl ga705 36 rfl (bRow K).toList _ (fun w' hSw => (HBP.out _ _ _ hSw.tl.hd).2) hu23 rfl hik) hHeld ?_
              try simp only [Act.put, List.getElem_toArray, List.getElem_cons_succ, List.getElem_cons_zero, List.setIfInBounds_toArray, List.set_cons_zero, List.set_cons_succ]
              refine wpAnyH_take (i := 2) (v := .pointer (some ⟨ga809, 36, none⟩)) rfl (by kernel_rfl) (by kernel_rfl) (by kernel_rfl) (fun _ _ _ h => h) (Or.inl ⟨by rfl, fun w' hSw => by go_simp⟩) hHeld ?_
              try simp only [Act.put, List.getElem_toArray, List.getElem_cons_succ, List.getElem_cons_zero, List.setIfInBounds_toArray, List.set_cons_zero, List.set_cons_succ]
              refine' wpAnyH_take (i := 3) (v := _) rfl (by kernel_rfl) (by kernel_rfl) (by kernel_rfl) (fun _ _ _ h => h) (yieldsIf_load_mid (by rfl) _ _ rfl ga809 36 rfl (bRow K).toList _ (fun w' hSw => (HBP.out _ _ _ hSw.hd).2) hu23 rfl hik) hHeld ?_
              try simp only [Act.put, List.getElem_toArray, List.getElem_cons_succ, List.getElem_cons_zero, List.setIfInBounds_toArray, List.set_cons_zero, List.set_cons_succ]
              refine wpAnyH_ready (rs := [4]) (by kernel_rfl) (by simp) (AllReadyH.cons rfl (fun K1 hK1 => ?_) AllReadyH.nil)
              try simp only [Act.put, List.getElem_toArray, List.getElem_cons_succ, List.getElem_cons_zero, List.setIfInBounds_toArray, List.set_cons_zero, List.set_cons_succ]
              rw [if_pos (by rfl)]
              refine wp_store_at 23 (.tmp 5) (.tmp 93) rfl w1.heap.size 0 (bRow K).toList _ _ rfl rfl HrA0.out (by have := HPL.out; have := HKL.out; omega) (by rw [hash_info, HKL.out]) HK1.out ?_
              intro ws1 hrS hgS
              rw [splice_all (HKL.out.trans HPL.out.symm)] at hrS
              have HrB2 := Lib.hid (HrB0.out.kept hgS (by simp))
              have HrA2 := Lib.hid hrS
              have hHeld2 := hHeld.put hgS HsA.out (hHeld.other HrA0.out (by simp))
              clear hrS hgS
              refine hK1.out _ _ (hHeld2) (fun hHeld => ?_)
              clear hK1 K1
              try simp only [Act.put, List.getElem_toArray, List.getElem_cons_succ, List.getElem_cons_zero, List.setIfInBounds_toArray, List.set_cons_zero, List.set_cons_succ]
              clear hHeld2
              refine wpAnyH_ready (rs := [5]) (by kernel_rfl) (by simp) (AllReadyH.cons rfl (fun K1 hK1 => ?_) AllReadyH.nil)
              try simp only [Act.put, List.getElem_toArray, List.getElem_cons_succ, List.getElem_cons_zero, List.setIfInBounds_toArray, List.set_cons_zero, List.set_cons_succ]
              rw [if_pos (by rfl)]
              refine wp_store_at 23 (.tmp 6) (.tmp 95) rfl (w1.heap.size + 1) 0 (bRow K).toList _ _ rfl rfl HrB2.out (by have := HPL.out; have := HKL.out; omega) (by rw [hash_info, HKL.out]) HK1.out ?_
              intro ws2 hrS hgS
              rw [splice_all (HKL.out.trans HPL.out.symm)] at hrS
              have HrA3 := Lib.hid (HrA2.out.kept hgS (by simp))
              have HrB3 := Lib.hid hrS
              have hHeld2 := hHeld.put hgS (by have := HsA.out; omega) (hHeld.other HrB2.out (by simp))
              clear hrS hgS
              refine hK1.out _ _ (hHeld2) (fun hHeld => ?_)
              clear hK1 K1
              try simp only [Act.put, List.getElem_toArray, List.getElem_cons_succ, List.getElem_cons_zero, List.setIfInBounds_toArray, List.set_cons_zero, List.set_cons_succ]
              clear hHeld2
              refine wpAnyH_done (by kernel_rfl) ?_ _
              have HBn : Blocks w ws2 [(w1.heap.size, 23, (bRow K).toList), ((w1.heap.size + 1), 23, (bRow K).toList)] := ((Blocks.nil hHeld.1).cons HrB3.out).cons HrA3.out
              go_wp2_with fail
              exact ⟨⟨k + 1, K, by go_num, by omega, by omega, HKl.out, HBn⟩, by simp [intOf]; omega⟩
        · skip
          try simp only [Act.put, List.getElem_toArray, List.getElem_cons_succ, List.getElem_cons_zero, List.setIfInBounds_toArray, List.set_cons_zero, List.set_cons_succ]
          go_simp
          have hd708 := (Below.refl wq7.heap.size wq7).alloc (Nat.le_refl _) (.cells RZ.toArray 48)
          have r8 : Row (wq7.alloc (.cells RZ.toArray 48)) wq7.heap.size 48 RZ := Row.new wq7 48 RZ
          have r8n := hHeld.fresh
          have r8s := hHeld.size
          have hHeld2 := hHeld.step hd708
          generalize wq7.alloc (.cells RZ.toArray 48) = wa707 at *
          obtain ⟨ga709, ga709e⟩ : ∃ ga709, ga709 = wq7.heap.size := ⟨_, rfl⟩
          rw [← ga709e] at r8 r8n r8s ⊢
          refine hK1.out _ _ (hHeld2) (fun hHeld => ?_)
          clear hK1 K1
          try simp only [Act.put, List.getElem_toArray, List.getElem_cons_succ, List.getElem_cons_zero, List.setIfInBounds_toArray, List.set_cons_zero, List.set_cons_succ]
          clear hHeld2 ga709e
          refine wpAnyH_ready (rs := [7]) (by kernel_rfl) (by simp) (AllReadyH.cons rfl (fun K1 hK1 => ?_) AllReadyH.nil)
          try simp only [Act.put, List.getElem_toArray, List.getElem_cons_succ, List.getElem_cons_zero, List.setIfInBounds_toArray, List.set_cons_zero, List.set_cons_succ]
          go_simp
          refine Calls.mono (HLK.out _ (HTab.out.below hHeld.1 Hp.out)) ?_
          rintro e wc710 ⟨rfl, hc711⟩
          have r8 := r8.kept (grownBy_of_below hc711 none) (by simp)
          refine hK1.out _ _ (hHeld.step hc711) (fun hHeld => ?_)
          clear hK1 K1
          try simp only [Act.put, List.getElem_toArray, List.getElem_cons_succ, List.getElem_cons_zero, List.setIfInBounds_toArray, List.set_cons_zero, List.set_cons_succ]
          refine wpAnyH_take (i := 8) (v := .tuple #[.agg D.toArray, .int .i64 E]) rfl (by kernel_rfl) (by kernel_rfl) (by kernel_rfl) (fun _ _ _ h => h) (Or.inl ⟨by rfl, fun w' hSw => by go_simp⟩) hHeld ?_
          try simp only [Act.put, List.getElem_toArray, List.getElem_cons_succ, List.getElem_cons_zero, List.setIfInBounds_toArray, List.set_cons_zero, List.set_cons_succ]
          refine wpAnyH_take (i := 9) (v := .agg D.toArray) rfl (by kernel_rfl) (by kernel_rfl) (by kernel_rfl) (fun _ _ _ h => h) (Or.inl ⟨by rfl, fun w' hSw => by go_simp⟩) hHeld ?_
          try simp only [Act.put, List.getElem_toArray, List.getElem_cons_succ, List.getElem_cons_zero, List.setIfInBounds_toArray, List.set_cons_zero, List.set_cons_succ]
          refine wpAnyH_take (i := 10) (v := .int .i64 E) rfl (by kernel_rfl) (by kernel_rfl) (by kernel_rfl) (fun _ _ _ h => h) (Or.inl ⟨by rfl, fun w' hSw => by go_simp⟩) hHeld ?_
          try simp only [Act.put, List.getElem_toArray, List.getElem_cons_succ, List.getElem_cons_zero, List.setIfInBounds_toArray, List.set_cons_zero, List.set_cons_succ]
          refine wpAnyH_ready (rs := [12]) (by kernel_rfl) (by simp) (AllReadyH.cons rfl (fun K1 hK1 => ?_) AllReadyH.nil)
          try simp only [Act.put, List.getElem_toArray, List.getElem_cons_succ, List.getElem_cons_zero, List.setIfInBounds_toArray, List.set_cons_zero, List.set_cons_succ]
          rw [if_pos (by rfl)]
          refine wp_store_at 48 (.tmp 8) (.tmp 39) rfl ga709 0 D _ _ rfl rfl r8 (by have := HRZ.out; have := HDL.out; omega) (by rw [rp_info, HDL.out]) HD1.out ?_
          intro ws712 hrS hgS
          rw [splice_all (HDL.out.trans HRZ.out.symm)] at hrS
          have HrQ := Lib.hid hrS
          have hHeld2 := hHeld.put hgS r8s r8n
          clear hrS hgS
          refine hK1.out _ _ (hHeld2) (fun hHeld => ?_)
          clear hK1 K1
          try simp only [Act.put, List.getElem_toArray, List.getElem_cons_succ, List.getElem_cons_zero, List.setIfInBounds_toArray, List.set_cons_zero, List.set_cons_succ]
          clear hHeld2
          refine wpAnyH_take (i := 13) (v := .int .i64 E) rfl (by kernel_rfl) (by kernel_rfl) (by kernel_rfl) (fun _ _ _ h => h) (Or.inl ⟨by rfl, fun w' hSw => by go_simp⟩) hHeld ?_
          try simp only [Act.put, List.getElem_toArray, List.getElem_cons_succ, List.getElem_cons_zero, List.setIfInBounds_toArray, List.set_cons_zero, List.set_cons_succ]
          refine wpAnyH_done (by kernel_rfl) ?_ _
          refine NoPanic.normal ?_
          have HB8 : Hid (Blocks w ws712 [(ga709, 48, D), (w1.heap.size, 23, (bRow p).toList), ((w1.heap.size + 1), 23, (bRow p).toList)]) := Lib.hid (hHeld.cons HrQ.out)
          clear hHeld HrQ
          go_wp2_with fail
          refine wp_region_noPanic ?_
          refine wp_region_held_drew (S := fun w' => Blocks w w' [(ga709, 48, D), (w1.heap.size, 23, (bRow p).toList), ((w1.heap.size + 1), 23, (bRow p).toList)]) (by kernel_rfl) (HB8.out.drew) (fun hHeld => ?_)
          generalize ws712.drew = wq8 at *
          refine' wpAnyH_take (i := 0) (v := _) rfl (by kernel_rfl) (by kernel_rfl) (by kernel_rfl) (fun _ _ _ h => h) (yieldsIf_load_mid (by rfl) _ _ rfl (w1.heap.size + 1) 0 rfl (bRow p).toList _ (fun w' hSw => (row_range hSw.tl.tl.hd)) hu23 rfl hip) hHeld ?_
          try simp only [Act.put, List.getElem_toArray, List.getElem_cons_succ, List.getElem_cons_zero, List.setIfInBounds_toArray, List.set_cons_zero, List.set_cons_succ]
          refine wpAnyH_take (i := 1) (v := .int .i64 k) rfl (by kernel_rfl) (by kernel_rfl) (by kernel_rfl) (fun _ _ _ h => h) (Or.inl ⟨by rfl, fun w' hSw => by go_simp⟩) hHeld ?_
          try simp only [Act.put, List.getElem_toArray, List.getElem_cons_succ, List.getElem_cons_zero, List.setIfInBounds_toArray, List.set_cons_zero, List.set_cons_succ]
          refine wpAnyH_take (i := 2) (v := .int .i64 time) rfl (by kernel_rfl) (by kernel_rfl) (by kernel_rfl) (fun _ _ _ h => h) (Or.inl ⟨by rfl, fun w' hSw => by go_simp⟩) hHeld ?_
          try simp only [Act.put, List.getElem_toArray, List.getElem_cons_succ, List.getElem_cons_zero, List.setIfInBounds_toArray, List.set_cons_zero, List.set_cons_succ]
          refine wpAnyH_take (i := 3) (v := .slice (some ⟨tb, toff, none⟩) n c) rfl (by kernel_rfl) (by kernel_rfl) (by kernel_rfl) (fun _ _ _ h => h) (Or.inl ⟨by rfl, fun w' hSw => by go_simp⟩) hHeld ?_
          try simp only [Act.put, List.getElem_toArray, List.getElem_cons_succ, List.getElem_cons_zero, List.setIfInBounds_toArray, List.set_cons_zero, List.set_cons_succ]
          refine wpAnyH_take (i := 4) (v := .int .i64 k) rfl (by kernel_rfl) (by kernel_rfl) (by kernel_rfl) (fun _ _ _ h => h) (Or.inl ⟨by rfl, fun w' hSw => by go_simp⟩) hHeld ?_
          try simp only [Act.put, List.getElem_toArray, List.getElem_cons_succ, List.getElem_cons_zero, List.setIfInBounds_toArray, List.set_cons_zero, List.set_cons_succ]
          refine wpAnyH_take (i := 5) (v := .pointer (some ⟨tb, (toff + k), none⟩)) rfl (by kernel_rfl) (by kernel_rfl) (by kernel_rfl) (fun _ _ _ h => h) (Or.inl ⟨by rfl, fun w' hSw => by go_simp⟩) hHeld ?_
          try simp only [Act.put, List.getElem_toArray, List.getElem_cons_succ, List.getElem_cons_zero, List.setIfInBounds_toArray, List.set_cons_zero, List.set_cons_succ]
          refine wpAnyH_take (i := 6) (v := S b) rfl (by kernel_rfl) (by kernel_rfl) (by kernel_rfl) (fun _ _ _ h => h) (Or.inl ⟨by rfl, fun w' hSw => by have hq := hSw; have hc := TX.out _ hq.1; go_simp⟩) hHeld ?_
          try simp only [Act.put, List.getElem_toArray, List.getElem_cons_succ, List.getElem_cons_zero, List.setIfInBounds_toArray, List.set_cons_zero, List.set_cons_succ]
          refine wpAnyH_ready (rs := [7, 11]) (by kernel_rfl) (by simp) (AllReadyH.cons rfl (fun K1 hK1 => ?_) (AllReadyH.cons rfl (fun K1 hK1 => ?_) AllReadyH.nil))
          · skip
            try simp only [Act.put, List.getElem_toArray, List.getElem_cons_succ, List.getElem_cons_zero, List.setIfInBounds_toArray, List.set_cons_zero, List.set_cons_succ]
            go_simp
            refine Calls.mono (HRK.out _) ?_
            rintro e wc801 ⟨rfl, hc802⟩
            refine hK1.out _ _ (hHeld.step hc802) (fun hHeld => ?_)
            clear hK1 K1
            try simp only [Act.put, List.getElem_toArray, List.getElem_cons_succ, List.getElem_cons_zero, List.setIfInBounds_toArray, List.set_cons_zero, List.set_cons_succ]
            refine wpAnyH_take (i := 8) (v := .tuple #[.agg D.toArray, .int .i64 E]) rfl (by kernel_rfl) (by kernel_rfl) (by kernel_rfl) (fun _ _ _ h => h) (Or.inl ⟨by rfl, fun w' hSw => by go_simp⟩) hHeld ?_
            try simp only [Act.put, List.getElem_toArray, List.getElem_cons_succ, List.getElem_cons_zero, List.setIfInBounds_toArray, List.set_cons_zero, List.set_cons_succ]
            refine wpAnyH_take (i := 9) (v := .agg D.toArray) rfl (by kernel_rfl) (by kernel_rfl) (by kernel_rfl) (fun _ _ _ h => h) (Or.inl ⟨by rfl, fun w' hSw => by go_simp⟩) hHeld ?_
            try simp only [Act.put, List.getElem_toArray, List.getElem_cons_succ, List.getElem_cons_zero, List.setIfInBounds_toArray, List.set_cons_zero, List.set_cons_succ]
            refine wpAnyH_take (i := 10) (v := .int .i64 E) rfl (by kernel_rfl) (by kernel_rfl) (by kernel_rfl) (fun _ _ _ h => h) (Or.inl ⟨by rfl, fun w' hSw => by go_simp⟩) hHeld ?_
            try simp only [Act.put, List.getElem_toArray, List.getElem_cons_succ, List.getElem_cons_zero, List.setIfInBounds_toArray, List.set_cons_zero, List.set_cons_succ]
            refine wpAnyH_ready (rs := [11]) (by kernel_rfl) (by simp) (AllReadyH.cons rfl (fun K1 hK1 => ?_) AllReadyH.nil)
            try simp only [Act.put, List.getElem_toArray, List.getElem_cons_succ, List.getElem_cons_zero, List.setIfInBounds_toArray, List.set_cons_zero, List.set_cons_succ]
            go_simp
            have hd804 := (Below.refl wc801.heap.size wc801).alloc (Nat.le_refl _) (.cells RZ.toArray 48)
            have r10 : Row (wc801.alloc (.cells RZ.toArray 48)) wc801.heap.size 48 RZ := Row.new wc801 48 RZ
            have r10n := hHeld.fresh
            have r10s := hHeld.size
            have hHeld2 := hHeld.step hd804
            generalize wc801.alloc (.cells RZ.toArray 48) = wa803 at *
            obtain ⟨ga805, ga805e⟩ : ∃ ga805, ga805 = wc801.heap.size := ⟨_, rfl⟩
            rw [← ga805e] at r10 r10n r10s ⊢
            refine hK1.out _ _ (hHeld2) (fun hHeld => ?_)
            clear hK1 K1
            try simp only [Act.put, List.getElem_toArray, List.getElem_cons_succ, List.getElem_cons_zero, List.setIfInBounds_toArray, List.set_cons_zero, List.set_cons_succ]
            clear hHeld2 ga805e
            refine wpAnyH_ready (rs := [12]) (by kernel_rfl) (by simp) (AllReadyH.cons rfl (fun K1 hK1 => ?_) AllReadyH.nil)
            try simp only [Act.put, List.getElem_toArray, List.getElem_cons_succ, List.getElem_cons_zero, List.setIfInBounds_toArray, List.set_cons_zero, List.set_cons_succ]
            rw [if_pos (by rfl)]
            refine wp_store_at 48 (.tmp 10) (.tmp 50) rfl ga805 0 D _ _ rfl rfl r10 (by have := HRZ.out; have := HDL.out; omega) (by rw [rp_info, HDL.out]) HD1.out ?_
            intro ws806 hrS hgS
            rw [splice_all (HDL.out.trans HRZ.out.symm)] at hrS
            have HrR := Lib.hid hrS
            have hHeld2 := hHeld.put hgS r10s r10n
            clear hrS hgS
            refine hK1.out _ _ (hHeld2) (fun hHeld => ?_)
            clear hK1 K1
            try simp only [Act.put, List.getElem_toArray, List.getElem_cons_succ, List.getElem_cons_zero, List.setIfInBounds_toArray, List.set_cons_zero, List.set_cons_succ]
            clear hHeld2
            refine wpAnyH_take (i := 13) (v := .int .i64 E) rfl (by kernel_rfl) (by kernel_rfl) (by kernel_rfl) (fun _ _ _ h => h) (Or.inl ⟨by rfl, fun w' hSw => by go_simp⟩) hHeld ?_
            try simp only [Act.put, List.getElem_toArray, List.getElem_cons_succ, List.getElem_cons_zero, List.setIfInBounds_toArray, List.set_cons_zero, List.set_cons_succ]
            refine wpAnyH_done (by kernel_rfl) ?_ _
            refine NoPanic.normal ?_
            have HBx : Hid (Blocks w ws806 [(ga805, 48, D), (ga709, 48, D), (w1.heap.size, 23, (bRow p).toList), ((w1.heap.size + 1), 23, (bRow p).toList)]) := Lib.hid (hHeld.cons HrR.out)
            clear hHeld HrR
            rcases Hcase.out with ⟨rfl, rfl⟩ | ⟨rfl, s, K, hKl, hWR, hRR, hBP⟩
            · go_wp2_with (first
                | (with_reducible show wpList _ _ _ (⟨_, .load 48 (.tmp 8), _, _, _, _⟩ :: _) _ _; refine wpList_load_tx rfl 48 (.tmp 8) rfl (ga709) 0 rfl D _ (row_range HBx.out.tl.hd) Tryd.underlying48 rfl (by rw [rp_info, HDL.out]) ?_)
                | (with_reducible show wpList _ _ _ (⟨_, .load 48 (.tmp 10), _, _, _, _⟩ :: _) _ _; refine wpList_load_tx rfl 48 (.tmp 10) rfl (ga805) 0 rfl D _ (row_range HBx.out.hd) Tryd.underlying48 rfl (by rw [rp_info, HDL.out]) ?_)
                | ((with_reducible show wpList _ _ _ (⟨_, .build 48 _, _, _, _, _⟩ :: _) _ _); refine wpList_buildL rfl 48 [] rfl (some 63) rfl [] rfl D.toArray HZB.out ?_))
              go_ret
              exact ⟨rfl, HBx.out.1⟩
            · have HKl := Lib.hid hKl
              have HWR := Lib.hid hWR
              have HRR := Lib.hid hRR
              have HBP := Lib.hid hBP
              have HKL := Lib.hid (Tx.bRow_len K hKl)
              have HK1 : Hid (∀ v ∈ (bRow K).toList, v.oneCell' = true) := Lib.hid (hash_one _ HKl.out)
              clear hKl hWR hRR hBP
              go_wp2_with (first
                | (with_reducible show wpList _ _ _ (⟨_, .load 48 (.tmp 8), _, _, _, _⟩ :: _) _ _; refine wpList_load_tx rfl 48 (.tmp 8) rfl (ga709) 0 rfl D _ (row_range HBx.out.tl.hd) Tryd.underlying48 rfl (by rw [rp_info, HDL.out]) ?_)
                | (with_reducible show wpList _ _ _ (⟨_, .load 48 (.tmp 10), _, _, _, _⟩ :: _) _ _; refine wpList_load_tx rfl 48 (.tmp 10) rfl (ga805) 0 rfl D _ (row_range HBx.out.hd) Tryd.underlying48 rfl (by rw [rp_info, HDL.out]) ?_))
              refine (HWR.out _ (HTab.out.below HBx.out.1 Hp.out)).mono ?_
              rintro _ w5 ⟨rfl, hb5⟩
              have HB5 := Lib.hid (HBx.out.step hb5)
              clear hb5
              go_wp2_with fail
              refine (HRR.out _ (HTab.out.below HB5.out.1 Hp.out)).mono ?_
              rintro _ w6 ⟨rfl, hb6⟩
              have HB6 := Lib.hid (HB5.out.step hb6)
              have Hz6 := Lib.hid (Row.new w6 48 RZ)
              clear hb6 HB5
              go_wp2_with (first
                | (with_reducible show wpList _ _ _ (⟨_, .store 48 (.tmp 14) _, _, _, _, _⟩ :: _) _ _
                   refine wpList_store_at rfl 48 (.tmp 14) (.tmp 73) rfl w6.heap.size 0 D _ _ rfl rfl Hz6.out (by have := HRZ.out; have := HDL.out; omega) (by rw [rp_info, HDL.out]) HD1.out ?_
                   intro w7 hr7 hg7
                   rw [splice_all (HDL.out.trans HRZ.out.symm)] at hr7
                   have HB7 := Lib.hid (((HB6.out.alloc _).put hg7 HB6.out.size HB6.out.fresh).cons hr7)
                   clear hr7 hg7)
                | (with_reducible show wpList _ _ _ (⟨_, .load 48 (.tmp 14), _, _, _, _⟩ :: _) _ _; refine wpList_load_tx rfl 48 (.tmp 14) rfl (w6.heap.size) 0 rfl D _ (row_range HB7.out.hd) Tryd.underlying48 rfl (by rw [rp_info, HDL.out]) ?_)
                | (with_reducible show wpList _ _ _ (⟨_, .load 48 (.tmp 8), _, _, _, _⟩ :: _) _ _; refine wpList_load_tx rfl 48 (.tmp 8) rfl (ga709) 0 rfl D _ (row_range HB7.out.tl.tl.hd) Tryd.underlying48 rfl (by rw [rp_info, HDL.out]) ?_)
                | (with_reducible show wpList _ _ _ (⟨_, .load 23 (.tmp 87), _, _, _, _⟩ :: _) _ _; refine wpList_load_tx rfl 23 (.tmp 87) rfl (ga709) 4 rfl (bRow p).toList _ (HBP.out _ _ _ HB7.out.tl.tl.hd).1 Tryd.underlying23 rfl (by rw [hash_info, HPL.out]) ?_)
                | (with_reducible show wpList _ _ _ (⟨_, .load 23 (.tmp 5), _, _, _, _⟩ :: _) _ _; refine wpList_load_tx rfl 23 (.tmp 5) rfl (w1.heap.size) 0 rfl (bRow p).toList _ (row_range HB7.out.tl.tl.tl.hd) Tryd.underlying23 rfl (by rw [hash_info, HPL.out]) ?_))
              have HB8 := Lib.hid HB7.out.tl
              have HrA0 := Lib.hid HB8.out.tl.tl.hd
              have HrB0 := Lib.hid HB8.out.tl.tl.tl.hd
              have HsA := Hs1
              have hik : (Tryd.prog.info? 23).map (·.size) = some (bRow K).toList.length := by rw [hash_info, HKL.out]
              refine wp_region_held_drew (S := fun w' => Blocks w w' [(ga805, 48, D), (ga709, 48, D)]) (by kernel_rfl) ((Blocks.drew ⟨HB8.out.1, fun x hx => HB8.out.2 x (by simp at hx ⊢; rcases hx with h | h <;> simp [h])⟩)) (fun hHeld => ?_)
              have HrA0 := Lib.hid (HrA0.out.kept (grownBy_drew w7 none) (by simp))
              have HrB0 := Lib.hid (HrB0.out.kept (grownBy_drew w7 none) (by simp))
              generalize w7.drew = wq17 at *
              refine wpAnyH_take (i := 0) (v := .pointer (some ⟨ga709, 36, none⟩)) rfl (by kernel_rfl) (by kernel_rfl) (by kernel_rfl) (fun _ _ _ h => h) (Or.inl ⟨by rfl, fun w' hSw => by go_simp⟩) hHeld ?_
              try simp only [Act.put, List.getElem_toArray, List.getElem_cons_succ, List.getElem_cons_zero, List.setIfInBounds_toArray, List.set_cons_zero, List.set_cons_succ]
              refine' wpAnyH_take (i := 1) (v := _) rfl (by kernel_rfl) (by kernel_rfl) (by kernel_rfl) (fun _ _ _ h => h) (yieldsIf_load_mid (by rfl) _ _ rfl ga709 36 rfl (bRow K).toList _ (fun w' hSw => (HBP.out _ _ _ hSw.tl.hd).2) hu23 rfl hik) hHeld ?_
              try simp only [Act.put, List.getElem_toArray, List.getElem_cons_succ, List.getElem_cons_zero, List.setIfInBounds_toArray, List.set_cons_zero, List.set_cons_succ]
              refine wpAnyH_take (i := 2) (v := .pointer (some ⟨ga805, 36, none⟩)) rfl (by kernel_rfl) (by kernel_rfl) (by kernel_rfl) (fun _ _ _ h => h) (Or.inl ⟨by rfl, fun w' hSw => by go_simp⟩) hHeld ?_
              try simp only [Act.put, List.getElem_toArray, List.getElem_cons_succ, List.getElem_cons_zero, List.setIfInBounds_toArray, List.set_cons_zero, List.set_cons_succ]
              refine' wpAnyH_take (i := 3) (v := _) rfl (by kernel_rfl) (by kernel_rfl) (by kernel_rfl) (fun _ _ _ h => h) (yieldsIf_load_mid (by rfl) _ _ rfl ga805 36 rfl (bRow K).toList _ (fun w' hSw => (HBP.out _ _ _ hSw.hd).2) hu23 rfl hik) hHeld ?_
              try simp only [Act.put, List.getElem_toArray, List.getElem_cons_succ, List.getElem_cons_zero, List.setIfInBounds_toArray, List.set_cons_zero, List.set_cons_succ]
              refine wpAnyH_ready (rs := [4]) (by kernel_rfl) (by simp) (AllReadyH.cons rfl (fun K1 hK1 => ?_) AllReadyH.nil)
              try simp only [Act.put, List.getElem_toArray, List.getElem_cons_succ, List.getElem_cons_zero, List.setIfInBounds_toArray, List.set_cons_zero, List.set_cons_succ]
              rw [if_pos (by rfl)]
              refine wp_store_at 23 (.tmp 5) (.tmp 93) rfl w1.heap.size 0 (bRow K).toList _ _ rfl rfl HrA0.out (by have := HPL.out; have := HKL.out; omega) (by rw [hash_info, HKL.out]) HK1.out ?_
              intro ws1 hrS hgS
              rw [splice_all (HKL.out.trans HPL.out.symm)] at hrS
              have HrB2 := Lib.hid (HrB0.out.kept hgS (by simp))
              have HrA2 := Lib.hid hrS
              have hHeld2 := hHeld.put hgS HsA.out (hHeld.other HrA0.out (by simp))
              clear hrS hgS
              refine hK1.out _ _ (hHeld2) (fun hHeld => ?_)
              clear hK1 K1
              try simp only [Act.put, List.getElem_toArray, List.getElem_cons_succ, List.getElem_cons_zero, List.setIfInBounds_toArray, List.set_cons_zero, List.set_cons_succ]
              clear hHeld2
              refine wpAnyH_ready (rs := [5]) (by kernel_rfl) (by simp) (AllReadyH.cons rfl (fun K1 hK1 => ?_) AllReadyH.nil)
              try simp only [Act.put, List.getElem_toArray, List.getElem_cons_succ, List.getElem_cons_zero, List.setIfInBounds_toArray, List.set_cons_zero, List.set_cons_succ]
              rw [if_pos (by rfl)]
              refine wp_store_at 23 (.tmp 6) (.tmp 95) rfl (w1.heap.size + 1) 0 (bRow K).toList _ _ rfl rfl HrB2.out (by have := HPL.out; have := HKL.out; omega) (by rw [hash_info, HKL.out]) HK1.out ?_
              intro ws2 hrS hgS
              rw [splice_all (HKL.out.trans HPL.out.symm)] at hrS
              have HrA3 := Lib.hid (HrA2.out.kept hgS (by simp))
              have HrB3 := Lib.hid hrS
              have hHeld2 := hHeld.put hgS (by have := HsA.out; omega) (hHeld.other HrB2.out (by simp))
              clear hrS hgS
              refine hK1.out _ _ (hHeld2) (fun hHeld => ?_)
              clear hK1 K1
              try simp only [Act.put, List.getElem_toArray, List.getElem_cons_succ, List.getElem_cons_zero, List.setIfInBounds_toArray, List.set_cons_zero, List.set_cons_succ]
              clear hHeld2
              refine wpAnyH_done (by kernel_rfl) ?_ _
              have HBn : Blocks w ws2 [(w1.heap.size, 23, (bRow K).toList), ((w1.heap.size + 1), 23, (bRow K).toList)] := ((Blocks.nil hHeld.1).cons HrB3.out).cons HrA3.out
              go_wp2_with fail
              exact ⟨⟨k + 1, K, by go_num, by omega, by omega, HKl.out, HBn⟩, by simp [intOf]; omega⟩
          · skip
            try simp only [Act.put, List.getElem_toArray, List.getElem_cons_succ, List.getElem_cons_zero, List.setIfInBounds_toArray, List.set_cons_zero, List.set_cons_succ]
            go_simp
            have hd808 := (Below.refl wq8.heap.size wq8).alloc (Nat.le_refl _) (.cells RZ.toArray 48)
            have r10 : Row (wq8.alloc (.cells RZ.toArray 48)) wq8.heap.size 48 RZ := Row.new wq8 48 RZ
            have r10n := hHeld.fresh
            have r10s := hHeld.size
            have hHeld2 := hHeld.step hd808
            generalize wq8.alloc (.cells RZ.toArray 48) = wa807 at *
            obtain ⟨ga809, ga809e⟩ : ∃ ga809, ga809 = wq8.heap.size := ⟨_, rfl⟩
            rw [← ga809e] at r10 r10n r10s ⊢
            refine hK1.out _ _ (hHeld2) (fun hHeld => ?_)
            clear hK1 K1
            try simp only [Act.put, List.getElem_toArray, List.getElem_cons_succ, List.getElem_cons_zero, List.setIfInBounds_toArray, List.set_cons_zero, List.set_cons_succ]
            clear hHeld2 ga809e
            refine wpAnyH_ready (rs := [7]) (by kernel_rfl) (by simp) (AllReadyH.cons rfl (fun K1 hK1 => ?_) AllReadyH.nil)
            try simp only [Act.put, List.getElem_toArray, List.getElem_cons_succ, List.getElem_cons_zero, List.setIfInBounds_toArray, List.set_cons_zero, List.set_cons_succ]
            go_simp
            refine Calls.mono (HRK.out _) ?_
            rintro e wc810 ⟨rfl, hc811⟩
            have r10 := r10.kept (grownBy_of_below hc811 none) (by simp)
            refine hK1.out _ _ (hHeld.step hc811) (fun hHeld => ?_)
            clear hK1 K1
            try simp only [Act.put, List.getElem_toArray, List.getElem_cons_succ, List.getElem_cons_zero, List.setIfInBounds_toArray, List.set_cons_zero, List.set_cons_succ]
            refine wpAnyH_take (i := 8) (v := .tuple #[.agg D.toArray, .int .i64 E]) rfl (by kernel_rfl) (by kernel_rfl) (by kernel_rfl) (fun _ _ _ h => h) (Or.inl ⟨by rfl, fun w' hSw => by go_simp⟩) hHeld ?_
            try simp only [Act.put, List.getElem_toArray, List.getElem_cons_succ, List.getElem_cons_zero, List.setIfInBounds_toArray, List.set_cons_zero, List.set_cons_succ]
            refine wpAnyH_take (i := 9) (v := .agg D.toArray) rfl (by kernel_rfl) (by kernel_rfl) (by kernel_rfl) (fun _ _ _ h => h) (Or.inl ⟨by rfl, fun w' hSw => by go_simp⟩) hHeld ?_
            try simp only [Act.put, List.getElem_toArray, List.getElem_cons_succ, List.getElem_cons_zero, List.setIfInBounds_toArray, List.set_cons_zero, List.set_cons_succ]
            refine wpAnyH_take (i := 10) (v := .int .i64 E) rfl (by kernel_rfl) (by kernel_rfl) (by kernel_rfl) (fun _ _ _ h => h) (Or.inl ⟨by rfl, fun w' hSw => by go_simp⟩) hHeld ?_
            try simp only [Act.put, List.getElem_toArray, List.getElem_cons_succ, List.getElem_cons_zero, List.setIfInBounds_toArray, List.set_cons_zero, List.set_cons_succ]
            refine wpAnyH_ready (rs := [12]) (by kernel_rfl) (by simp) (AllReadyH.cons rfl (fun K1 hK1 => ?_) AllReadyH.nil)
            try simp only [Act.put, List.getElem_toArray, List.getElem_cons_succ, List.getElem_cons_zero, List.setIfInBounds_toArray, List.set_cons_zero, List.set_cons_succ]
            rw [if_pos (by rfl)]
            refine wp_store_at 48 (.tmp 10) (.tmp 50) rfl ga809 0 D _ _ rfl rfl r10 (by have := HRZ.out; have := HDL.out; omega) (by rw [rp_info, HDL.out]) HD1.out ?_
            intro ws812 hrS hgS
            rw [splice_all (HDL.out.trans HRZ.out.symm)] at hrS
            have HrR := Lib.hid hrS
            have hHeld2 := hHeld.put hgS r10s r10n
            clear hrS hgS
            refine hK1.out _ _ (hHeld2) (fun hHeld => ?_)
            clear hK1 K1
            try simp only [Act.put, List.getElem_toArray, List.getElem_cons_succ, List.getElem_cons_zero, List.setIfInBounds_toArray, List.set_cons_zero, List.set_cons_succ]
            clear hHeld2
            refine wpAnyH_take (i := 13) (v := .int .i64 E) rfl (by kernel_rfl) (by kernel_rfl) (by kernel_rfl) (fun _ _ _ h => h) (Or.inl ⟨by rfl, fun w' hSw => by go_simp⟩) hHeld ?_
            try simp only [Act.put, List.getElem_toArray, List.getElem_cons_succ, List.getElem_cons_zero, List.setIfInBounds_toArray, List.set_cons_zero, List.set_cons_succ]
            refine wpAnyH_done (by kernel_rfl) ?_ _
            refine NoPanic.normal ?_
            have HBx : Hid (Blocks w ws812 [(ga809, 48, D), (ga709, 48, D), (w1.heap.size, 23, (bRow p).toList), ((w1.heap.size + 1), 23, (bRow p).toList)]) := Lib.hid (hHeld.cons HrR.out)
            clear hHeld HrR
            rcases Hcase.out with ⟨rfl, rfl⟩ | ⟨rfl, s, K, hKl, hWR, hRR, hBP⟩
            · go_wp2_with (first
                | (with_reducible show wpList _ _ _ (⟨_, .load 48 (.tmp 8), _, _, _, _⟩ :: _) _ _; refine wpList_load_tx rfl 48 (.tmp 8) rfl (ga709) 0 rfl D _ (row_range HBx.out.tl.hd) Tryd.underlying48 rfl (by rw [rp_info, HDL.out]) ?_)
                | (with_reducible show wpList _ _ _ (⟨_, .load 48 (.tmp 10), _, _, _, _⟩ :: _) _ _; refine wpList_load_tx rfl 48 (.tmp 10) rfl (ga809) 0 rfl D _ (row_range HBx.out.hd) Tryd.underlying48 rfl (by rw [rp_info, HDL.out]) ?_)
                | ((with_reducible show wpList _ _ _ (⟨_, .build 48 _, _, _, _, _⟩ :: _) _ _); refine wpList_buildL rfl 48 [] rfl (some 63) rfl [] rfl D.toArray HZB.out ?_))
              go_ret
              exact ⟨rfl, HBx.out.1⟩
            · have HKl := Lib.hid hKl
              have HWR := Lib.hid hWR
              have HRR := Lib.hid hRR
              have HBP := Lib.hid hBP
              have HKL := Lib.hid (Tx.bRow_len K hKl)
              have HK1 : Hid (∀ v ∈ (bRow K).toList, v.oneCell' = true) := Lib.hid (hash_one _ HKl.out)
              clear hKl hWR hRR hBP
              go_wp2_with (first
                | (with_reducible show wpList _ _ _ (⟨_, .load 48 (.tmp 8), _, _, _, _⟩ :: _) _ _; refine wpList_load_tx rfl 48 (.tmp 8) rfl (ga709) 0 rfl D _ (row_range HBx.out.tl.hd) Tryd.underlying48 rfl (by rw [rp_info, HDL.out]) ?_)
                | (with_reducible show wpList _ _ _ (⟨_, .load 48 (.tmp 10), _, _, _, _⟩ :: _) _ _; refine wpList_load_tx rfl 48 (.tmp 10) rfl (ga809) 0 rfl D _ (row_range HBx.out.hd) Tryd.underlying48 rfl (by rw [rp_info, HDL.out]) ?_))
              refine (HWR.out _ (HTab.out.below HBx.out.1 Hp.out)).mono ?_
              rintro _ w5 ⟨rfl, hb5⟩
              have HB5 := Lib.hid (HBx.out.step hb5)
              clear hb5
              go_wp2_with fail
              refine (HRR.out _ (HTab.out.below HB5.out.1 Hp.out)).mono ?_
              rintro _ w6 ⟨rfl, hb6⟩
              have HB6 := Lib.hid (HB5.out.step hb6)
              have Hz6 := Lib.hid (Row.new w6 48 RZ)
              clear hb6 HB5
              go_wp2_with (first
                | (with_reducible show wpList _ _ _ (⟨_, .store 48 (.tmp 14) _, _, _, _, _⟩ :: _) _ _
                   refine wpList_store_at rfl 48 (.tmp 14) (.tmp 73) rfl w6.heap.size 0 D _ _ rfl rfl Hz6.out (by have := HRZ.out; have := HDL.out; omega) (by rw [rp_info, HDL.out]) HD1.out ?_
                   intro w7 hr7 hg7
                   rw [splice_all (HDL.out.trans HRZ.out.symm)] at hr7
                   have HB7 := Lib.hid (((HB6.out.alloc _).put hg7 HB6.out.size HB6.out.fresh).cons hr7)
                   clear hr7 hg7)
                | (with_reducible show wpList _ _ _ (⟨_, .load 48 (.tmp 14), _, _, _, _⟩ :: _) _ _; refine wpList_load_tx rfl 48 (.tmp 14) rfl (w6.heap.size) 0 rfl D _ (row_range HB7.out.hd) Tryd.underlying48 rfl (by rw [rp_info, HDL.out]) ?_)
                | (with_reducible show wpList _ _ _ (⟨_, .load 48 (.tmp 8), _, _, _, _⟩ :: _) _ _; refine wpList_load_tx rfl 48 (.tmp 8) rfl (ga709) 0 rfl D _ (row_range HB7.out.tl.tl.hd) Tryd.underlying48 rfl (by rw [rp_info, HDL.out]) ?_)
                | (with_reducible show wpList _ _ _ (⟨_, .load 23 (.tmp 87), _, _, _, _⟩ :: _) _ _; refine wpList_load_tx rfl 23 (.tmp 87) rfl (ga709) 4 rfl (bRow p).toList _ (HBP.out _ _ _ HB7.out.tl.tl.hd).1 Tryd.underlying23 rfl (by rw [hash_info, HPL.out]) ?_)
                | (with_reducible show wpList _ _ _ (⟨_, .load 23 (.tmp 5), _, _, _, _⟩ :: _) _ _; refine wpList_load_tx rfl 23 (.tmp 5) rfl (w1.heap.size) 0 rfl (bRow p).toList _ (row_range HB7.out.tl.tl.tl.hd) Tryd.underlying23 rfl (by rw [hash_info, HPL.out]) ?_))
              have HB8 := Lib.hid HB7.out.tl
              have HrA0 := Lib.hid HB8.out.tl.tl.hd
              have HrB0 := Lib.hid HB8.out.tl.tl.tl.hd
              have HsA := Hs1
              have hik : (Tryd.prog.info? 23).map (·.size) = some (bRow K).toList.length := by rw [hash_info, HKL.out]
              refine wp_region_held_drew (S := fun w' => Blocks w w' [(ga809, 48, D), (ga709, 48, D)]) (by kernel_rfl) ((Blocks.drew ⟨HB8.out.1, fun x hx => HB8.out.2 x (by simp at hx ⊢; rcases hx with h | h <;> simp [h])⟩)) (fun hHeld => ?_)
              have HrA0 := Lib.hid (HrA0.out.kept (grownBy_drew w7 none) (by simp))
              have HrB0 := Lib.hid (HrB0.out.kept (grownBy_drew w7 none) (by simp))
              generalize w7.drew = wq17 at *
              refine wpAnyH_take (i := 0) (v := .pointer (some ⟨ga709, 36, none⟩)) rfl (by kernel_rfl) (by kernel_rfl) (by kernel_rfl) (fun _ _ _ h => h) (Or.inl ⟨by rfl, fun w' hSw => by go_simp⟩) hHeld ?_
              try simp only [Act.put, List.getElem_toArray, List.getElem_cons_succ, List.getElem_cons_zero, List.setIfInBounds_toArray, List.set_cons_zero, List.set_cons_succ]
              refine' wpAnyH_take (i := 1) (v := _) rfl (by kernel_rfl) (by kernel_rfl) (by kernel_rfl) (fun _ _ _ h => h) (yieldsIf_load_mid (by rfl) _ _ rfl ga709 36 rfl (bRow K).toList _ (fun w' hSw => (HBP.out _ _ _ hSw.tl.hd).2) hu23 rfl hik) hHeld ?_
              try simp only [Act.put, List.getElem_toArray, List.getElem_cons_succ, List.getElem_cons_zero, List.setIfInBounds_toArray, List.set_cons_zero, List.set_cons_succ]
              refine wpAnyH_take (i := 2) (v := .pointer (some ⟨ga809, 36, none⟩)) rfl (by kernel_rfl) (by kernel_rfl) (by kernel_rfl) (fun _ _ _ h => h) (Or.inl ⟨by rfl, fun w' hSw => by go_simp⟩) hHeld ?_
              try simp only [Act.put, List.getElem_toArray, List.getElem_cons_succ, List.getElem_cons_zero, List.setIfInBounds_toArray, List.set_cons_zero, List.set_cons_succ]
              refine' wpAnyH_take (i := 3) (v := _) rfl (by kernel_rfl) (by kernel_rfl) (by kernel_rfl) (fun _ _ _ h => h) (yieldsIf_load_mid (by rfl) _ _ rfl ga809 36 rfl (bRow K).toList _ (fun w' hSw => (HBP.out _ _ _ hSw.hd).2) hu23 rfl hik) hHeld ?_
              try simp only [Act.put, List.getElem_toArray, List.getElem_cons_succ, List.getElem_cons_zero, List.setIfInBounds_toArray, List.set_cons_zero, List.set_cons_succ]
              refine wpAnyH_ready (rs := [4]) (by kernel_rfl) (by simp) (AllReadyH.cons rfl (fun K1 hK1 => ?_) AllReadyH.nil)
              try simp only [Act.put, List.getElem_toArray, List.getElem_cons_succ, List.getElem_cons_zero, List.setIfInBounds_toArray, List.set_cons_zero, List.set_cons_succ]
              rw [if_pos (by rfl)]
              refine wp_store_at 23 (.tmp 5) (.tmp 93) rfl w1.heap.size 0 (bRow K).toList _ _ rfl rfl HrA0.out (by have := HPL.out; have := HKL.out; omega) (by rw [hash_info, HKL.out]) HK1.out ?_
              intro ws1 hrS hgS
              rw [splice_all (HKL.out.trans HPL.out.symm)] at hrS
              have HrB2 := Lib.hid (HrB0.out.kept hgS (by simp))
              have HrA2 := Lib.hid hrS
              have hHeld2 := hHeld.put hgS HsA.out (hHeld.other HrA0.out (by simp))
              clear hrS hgS
              refine hK1.out _ _ (hHeld2) (fun hHeld => ?_)
              clear hK1 K1
              try simp only [Act.put, List.getElem_toArray, List.getElem_cons_succ, List.getElem_cons_zero, List.setIfInBounds_toArray, List.set_cons_zero, List.set_cons_succ]
              clear hHeld2
              refine wpAnyH_ready (rs := [5]) (by kernel_rfl) (by simp) (AllReadyH.cons rfl (fun K1 hK1 => ?_) AllReadyH.nil)
              try simp only [Act.put, List.getElem_toArray, List.getElem_cons_succ, List.getElem_cons_zero, List.setIfInBounds_toArray, List.set_cons_zero, List.set_cons_succ]
              rw [if_pos (by rfl)]
              refine wp_store_at 23 (.tmp 6) (.tmp 95) rfl (w1.heap.size + 1) 0 (bRow K).toList _ _ rfl rfl HrB2.out (by have := HPL.out; have := HKL.out; omega) (by rw [hash_info, HKL.out]) HK1.out ?_
              intro ws2 hrS hgS
              rw [splice_all (HKL.out.trans HPL.out.symm)] at hrS
              have HrA3 := Lib.hid (HrA2.out.kept hgS (by simp))
              have HrB3 := Lib.hid hrS
              have hHeld2 := hHeld.put hgS (by have := HsA.out; omega) (hHeld.other HrB2.out (by simp))
              clear hrS hgS
              refine hK1.out _ _ (hHeld2) (fun hHeld => ?_)
              clear hK1 K1
              try simp only [Act.put, List.getElem_toArray, List.getElem_cons_succ, List.getElem_cons_zero, List.setIfInBounds_toArray, List.set_cons_zero, List.set_cons_succ]
              clear hHeld2
              refine wpAnyH_done (by kernel_rfl) ?_ _
              have HBn : Blocks w ws2 [(w1.heap.size, 23, (bRow K).toList), ((w1.heap.size + 1), 23, (bRow K).toList)] := ((Blocks.nil hHeld.1).cons HrB3.out).cons HrA3.out
              go_wp2_with fail
              exact ⟨⟨k + 1, K, by go_num, by omega, by omega, HKl.out, HBn⟩, by simp [intOf]; omega⟩
      · have hk4 : (40 : Int) ≤ (k : Int) := by omega
        go_wp2_with fail
        go_ret
        exact ⟨rfl, HB.out.1⟩
    · have hki : (n : Int) ≤ (k : Int) := by omega
      go_wp2_with fail
      go_ret
      exact ⟨rfl, HB.out.1⟩
end Go.Proofs.YtdekcicgiflnbaaDoor
