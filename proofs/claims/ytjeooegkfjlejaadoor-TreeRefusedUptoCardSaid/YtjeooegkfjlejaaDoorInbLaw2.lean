/- The laws InboxMessages and InboxChained: what their functions return. -/
import Derived.Test.YtjeooegkfjlejaaDoorInbSame
import Derived.Test.YtjeooegkfjlejaaDoorInbRm
import Derived.Test.YtjeooegkfjlejaaDoorInbFo
namespace Go.Proofs.YtjeooegkfjlejaaDoor
open Go.RowKit
set_option linter.unusedVariables false
set_option linter.unusedSimpArgs false

def Bk.Num (b : Bk) : Prop := -9223372036854775808 ≤ b.number ∧ b.number ≤ 9223372036854775807
namespace Inb
theorem item_who {i : It} (h : item i = true) : 0 ≤ i.who ∧ i.who ≤ 64 ∧ i.text.size ≤ 640 := by
  unfold item at h
  simp only [Bool.and_eq_true, decide_eq_true_eq] at h
  obtain ⟨h1, h2, h3⟩ := h
  have h4 := (It.ok_iff i).1 h3
  omega
/-- what all entries are -/
def Fine (s : List UInt8 × List En) : Prop := s.1.length = 32 ∧ (∀ e ∈ s.2, e.Fits ∧ 0 ≤ e.who ∧ e.who ≤ 64 ∧ e.text.size ≤ 640) ∧ Chained Tx.zero s.2 ∧ lastAcc Tx.zero s.2 = s.1
theorem good_step {blk : Int} (hb : -9223372036854775808 ≤ blk ∧ blk ≤ 9223372036854775807) {s : List UInt8 × List En} {i : It} (h : Fine s) : Fine (step blk s i) := by
  unfold step
  split
  · next hi =>
    obtain ⟨h1, h2, h3, h4⟩ := h
    obtain ⟨w0, w1, w2⟩ := item_who hi
    have hc := chained_snoc (e := entry blk s.1 i) h3 (by rw [h4]; rfl)
    refine ⟨link_len _ _ _, fun e he => ?_, hc.1, hc.2⟩
    rcases List.mem_append.1 he with he | he
    · exact h2 e he
    · rw [List.mem_singleton.1 he]
      exact ⟨⟨link_len _ _ _, ⟨by show -9223372036854775808 ≤ i.who; omega, by show i.who ≤ _; omega⟩, hb, by show i.text.size ≤ _; omega⟩, w0, w1, w2⟩
  · exact h
theorem good_fold {blk : Int} (hb : -9223372036854775808 ≤ blk ∧ blk ≤ 9223372036854775807) : ∀ (its : List It) (s : List UInt8 × List En), Fine s → Fine (its.foldl (step blk) s)
  | [], _, h => h
  | i :: its, s, h => good_fold hb its _ (good_step hb h)
theorem good_from : ∀ (l : List Bk) (s : List UInt8 × List En), (∀ b ∈ l, b.Num) → Fine s → Fine (l.foldl block s)
  | [], _, _, h => h
  | b :: l, s, hl, h => good_from l _ (fun x hx => hl x (by simp [hx])) (good_fold (hl b (by simp)) b.items s h)
theorem good_run {l : List Bk} (hl : ∀ b ∈ l, b.Num) : Fine (run l) := good_from l start hl ⟨rfl, by simp [start], trivial, rfl⟩
theorem tot_mem {l : List Bk} {b : Bk} (h : b ∈ l) : b.items.length ≤ tot l := by
  obtain ⟨k, hk, rfl⟩ := List.getElem_of_mem h
  have h1 := tot_take l k hk
  have h2 := tot_le l (k + 1)
  omega
end Inb
theorem own_form12 {W : World} {base n size : Nat} {e : TypeId} {v : Value} {xs : List Value} (h : W.ownsRow base e size v n xs) : ∃ A c, v = .slice A n c := by
  rcases h.2 with ⟨rfl, rfl⟩ | ⟨g, cap, cur, rfl, _⟩
  · exact ⟨none, 0, rfl⟩
  · exact ⟨_, cap, rfl⟩
def pairIn (w W : World) : Prop := Below w.heap.size w W
set_option maxRecDepth 20000 in
set_option maxHeartbeats 3200000 in
theorem inboxMessages_any (hRS : RefSum) (A : Option Addr) (c : Nat) (l : List Bk) (w : World) (hB : BksAt w w.heap.size A l) (hN : ∀ b ∈ l, b.Num) (hcap : l.length ≤ c) (hl : l.length ≤ 9223372036854775807) (htot : Inb.tot l ≤ 3000000) (hT : Tab w) :
    Calls Tryd.prog 9 #[.slice A l.length c] w fun e w' => e = .returned (.bool true) ∧ Below w.heap.size w w' := by
  have hc1 : l.length ≤ c := hcap
  have AW := Lib.hid (fun W (hW : Below w.heap.size w W) => awake12_any W (hT.below hW hT.pos))
  by_cases h40 : 40 < l.length
  · obtain ⟨l1, hl1⟩ : ∃ l1, l1 = l.take 40 := ⟨_, rfl⟩
    have hlen1 : 40 = l1.length := by rw [hl1, List.length_take]; omega
    have hBl : BksAt w w.heap.size A l1 := by rw [hl1]; exact ListAt.take hB 40
    have hNum : ∀ b ∈ l1, b.Num := fun b hb => hN b (List.mem_of_mem_take (by rw [← hl1]; exact hb))
    have htot1 : Inb.tot l1 ≤ 3000000 := by rw [hl1]; have := Inb.tot_le l 40; omega
    have d40 : decide ((40 : Int) < (l.length : Int)) = true := by simp; omega
    have hA : ∃ b off, A = some ⟨b, off, none⟩ := by
      obtain ⟨b, off, e, _⟩ := hB (by intro e; rw [e] at h40; simp at h40)
      exact ⟨b, off, e⟩
    have HN1 := Lib.hid hlen1
    have Htot := Lib.hid htot1
    have hg := Inb.good_run hNum
    have M1 := Lib.hid (fun W (hW : Below w.heap.size w W) => messages_any A c l1 W ((hBl.below hW).mono hW.size) (by omega) htot1 (hT.below hW hT.pos))
    have M2 := Lib.hid (fun W (hW : Below w.heap.size w W) => rmessages_any hRS A c l1 W ((hBl.below hW).mono hW.size) (by omega) htot1)
    have HAcc : Hid (∀ e ∈ Inb.msgs l1, e.acc.length = 32) := Lib.hid (fun e he => (hg.2.1 e he).1.1)
    have HFit : Hid (∀ e ∈ Inb.msgs l1, e.Fits) := Lib.hid (fun e he => (hg.2.1 e he).1)
    rw [← hlen1] at M1 M2
    clear hg
    obtain ⟨ba, oa, rfl⟩ := hA
    have hc40 : (40 : Int) ≤ (c : Int) := by omega
    have hc40n : 40 ≤ c := by omega
    have hc0 : ¬ c = 0 := by omega
    generalize l.length = m at *
    clear hB hN hT htot1 htot hlen1 hl1 hc1 hcap
    go_enter Tryd.func9, Tryd.ntmps9
    go_wp2_with fail
    clear d40 h40
    have HBl := Lib.hid hBl
    have HNum := Lib.hid hNum
    clear hBl hNum
    go_loopw [3] (fun i wr => ∃ k : Nat, k ≤ 40 ∧ i = .int .i64 k ∧ Below w.heap.size w wr) (fun i _ => 40 - (intOf i).toNat)
    case atStart => exact ⟨0, Nat.zero_le _, rfl, Below.refl _ _⟩
    case round =>
      obtain ⟨k, hk, rfl, hR⟩ := hrel
      have HR := Lib.hid hR
      clear hR
      by_cases hlt : k < 40
      · have hki : (k : Int) < (40 : Int) := by omega
        have hkl : k < l1.length := by rw [← HN1.out]; exact hlt
        obtain ⟨bb, off, e0, hbb, hat⟩ := HBl.out (by intro e; rw [e] at hkl; simp at hkl)
        first | subst e0 | (injection e0 with e0; injection e0 with e1 e2; have e1 := e1.symm; have e2 := e2.symm; subst e1 e2)
        obtain ⟨A', cp, hrng, hits, hcap, hpl⟩ := hat k hkl
        have hlen := Inb.tot_mem (List.getElem_mem hkl)
        have HC := Lib.hid (fun W (hW : Below w.heap.size w W) => range_below hrng hW hbb)
        have HCL := Lib.hid (Bk.cells_len (b := l1[k]) (A := A') (cap := cp) hpl)
        have HF1 := Lib.hid (fun W (hW : Below w.heap.size w W) => forces_any l1[k] A' cp hpl W ((hits.below hW).mono hW.size) (by have := Htot.out; omega))
        have HF2 := Lib.hid (fun W (hW : Below w.heap.size w W) => rforces_any l1[k] A' cp hpl W ((hits.below hW).mono hW.size) (by have := Htot.out; omega))
        have hfl : (Inb.forces l1[k].items).length ≤ 9223372036854775807 := by have h1 := Inb.forces_len l1[k].items; have := Htot.out; omega
        generalize l1[k].cells A' cp = C at *
        generalize Inb.forces l1[k].items = L at *
        have hu45 := Tryd.underlying45
        have hi45 : (Tryd.prog.info? 45).map (·.size) = some C.length := by rw [block_size, HCL.out]
        have HL := Lib.hid hfl
        clear hat hrng hits hcap hpl hlen hfl
        go_wp2_with fail
        refine wp_region_noPanic ?_
        refine wp_region_held_drew (S := fun w' => Below w.heap.size w w') (by kernel_rfl) (HR.out.drew) (fun hHeld => ?_)
        generalize wr.drew = wq at *
        refine wpAnyH_take (i := 0) (v := .slice (some ⟨bb, off, none⟩) 40 c) rfl (by kernel_rfl) (by kernel_rfl) (by kernel_rfl) (fun _ _ _ h => h) (Or.inl ⟨by rfl, fun w' hSw => by go_simp⟩) hHeld ?_
        try simp only [Act.put, List.getElem_toArray, List.getElem_cons_succ, List.getElem_cons_zero, List.setIfInBounds_toArray, List.set_cons_zero, List.set_cons_succ]
        refine wpAnyH_take (i := 1) (v := .int .i64 k) rfl (by kernel_rfl) (by kernel_rfl) (by kernel_rfl) (fun _ _ _ h => h) (Or.inl ⟨by rfl, fun w' hSw => by go_simp⟩) hHeld ?_
        try simp only [Act.put, List.getElem_toArray, List.getElem_cons_succ, List.getElem_cons_zero, List.setIfInBounds_toArray, List.set_cons_zero, List.set_cons_succ]
        refine wpAnyH_take (i := 2) (v := .pointer (some ⟨bb, off + k * 35, none⟩)) rfl (by kernel_rfl) (by kernel_rfl) (by kernel_rfl) (fun _ _ _ h => h) (Or.inl ⟨by rfl, fun w' hSw => by go_simp⟩) hHeld ?_
        try simp only [Act.put, List.getElem_toArray, List.getElem_cons_succ, List.getElem_cons_zero, List.setIfInBounds_toArray, List.set_cons_zero, List.set_cons_succ]
        refine' wpAnyH_take (i := 3) (v := _) rfl (by kernel_rfl) (by kernel_rfl) (by kernel_rfl) (fun _ _ _ h => h) (yieldsIf_load_mid (by rfl) _ _ rfl bb (off + k * 35) rfl C _ (fun w' hSw => HC.out _ hSw) hu45 rfl hi45) hHeld ?_
        try simp only [Act.put, List.getElem_toArray, List.getElem_cons_succ, List.getElem_cons_zero, List.setIfInBounds_toArray, List.set_cons_zero, List.set_cons_succ]
        refine wpAnyH_take (i := 5) (v := .slice (some ⟨bb, off, none⟩) 40 c) rfl (by kernel_rfl) (by kernel_rfl) (by kernel_rfl) (fun _ _ _ h => h) (Or.inl ⟨by rfl, fun w' hSw => by go_simp⟩) hHeld ?_
        try simp only [Act.put, List.getElem_toArray, List.getElem_cons_succ, List.getElem_cons_zero, List.setIfInBounds_toArray, List.set_cons_zero, List.set_cons_succ]
        refine wpAnyH_take (i := 6) (v := .int .i64 k) rfl (by kernel_rfl) (by kernel_rfl) (by kernel_rfl) (fun _ _ _ h => h) (Or.inl ⟨by rfl, fun w' hSw => by go_simp⟩) hHeld ?_
        try simp only [Act.put, List.getElem_toArray, List.getElem_cons_succ, List.getElem_cons_zero, List.setIfInBounds_toArray, List.set_cons_zero, List.set_cons_succ]
        refine wpAnyH_take (i := 7) (v := .pointer (some ⟨bb, off + k * 35, none⟩)) rfl (by kernel_rfl) (by kernel_rfl) (by kernel_rfl) (fun _ _ _ h => h) (Or.inl ⟨by rfl, fun w' hSw => by go_simp⟩) hHeld ?_
        try simp only [Act.put, List.getElem_toArray, List.getElem_cons_succ, List.getElem_cons_zero, List.setIfInBounds_toArray, List.set_cons_zero, List.set_cons_succ]
        refine' wpAnyH_take (i := 8) (v := _) rfl (by kernel_rfl) (by kernel_rfl) (by kernel_rfl) (fun _ _ _ h => h) (yieldsIf_load_mid (by rfl) _ _ rfl bb (off + k * 35) rfl C _ (fun w' hSw => HC.out _ hSw) hu45 rfl hi45) hHeld ?_
        try simp only [Act.put, List.getElem_toArray, List.getElem_cons_succ, List.getElem_cons_zero, List.setIfInBounds_toArray, List.set_cons_zero, List.set_cons_succ]
        refine wpAnyH_ready (rs := [4]) (by kernel_rfl) (by simp) (AllReadyH.cons rfl (fun K1 hK1 => ?_) AllReadyH.nil)
        try simp only [Act.put, List.getElem_toArray, List.getElem_cons_succ, List.getElem_cons_zero, List.setIfInBounds_toArray, List.set_cons_zero, List.set_cons_succ]
        go_simp
        refine Calls.mono (HF1.out _ hHeld) ?_
        rintro e w2 ⟨⟨v1, rfl, ho1⟩, hb1⟩
        refine hK1.out _ _ (two_below' hHeld hb1) (fun hHeld => ?_)
        clear hK1 K1
        try simp only [Act.put, List.getElem_toArray, List.getElem_cons_succ, List.getElem_cons_zero, List.setIfInBounds_toArray, List.set_cons_zero, List.set_cons_succ]
        refine wpAnyH_ready (rs := [9]) (by kernel_rfl) (by simp) (AllReadyH.cons rfl (fun K1 hK1 => ?_) AllReadyH.nil)
        try simp only [Act.put, List.getElem_toArray, List.getElem_cons_succ, List.getElem_cons_zero, List.setIfInBounds_toArray, List.set_cons_zero, List.set_cons_succ]
        go_simp
        refine Calls.mono (HF2.out _ hHeld) ?_
        rintro e w3 ⟨⟨v2, rfl, ho2⟩, hb2⟩
        have hn1 := own_nums12 (own_below ho1 hb2)
        have hn2 := own_nums12 ho2
        have hb3 := two_below' hHeld hb2
        clear ho1 ho2 hb1 hb2
        refine hK1.out _ _ (hb3) (fun hHeld => ?_)
        clear hK1 K1
        try simp only [Act.put, List.getElem_toArray, List.getElem_cons_succ, List.getElem_cons_zero, List.setIfInBounds_toArray, List.set_cons_zero, List.set_cons_succ]
        clear hb3
        refine wpAnyH_ready (rs := [10]) (by kernel_rfl) (by simp) (AllReadyH.cons rfl (fun K1 hK1 => ?_) AllReadyH.nil)
        try simp only [Act.put, List.getElem_toArray, List.getElem_cons_succ, List.getElem_cons_zero, List.setIfInBounds_toArray, List.set_cons_zero, List.set_cons_succ]
        go_simp
        refine Calls.mono (numbers12_any v1 v2 L L w3 hn1 hn2 HL.out HL.out) ?_
        rintro e w4 ⟨rfl, nd, rfl⟩
        rw [show decide (L = L) = true by simp]
        refine hK1.out _ _ (below_drewN' hHeld nd) (fun hHeld => ?_)
        clear hK1 K1
        try simp only [Act.put, List.getElem_toArray, List.getElem_cons_succ, List.getElem_cons_zero, List.setIfInBounds_toArray, List.set_cons_zero, List.set_cons_succ]
        refine wpAnyH_take (i := 11) (v := .bool false) rfl (by kernel_rfl) (by kernel_rfl) (by kernel_rfl) (fun _ _ _ h => h) (Or.inl ⟨by rfl, fun w' hSw => by go_simp⟩) hHeld ?_
        try simp only [Act.put, List.getElem_toArray, List.getElem_cons_succ, List.getElem_cons_zero, List.setIfInBounds_toArray, List.set_cons_zero, List.set_cons_succ]
        refine wpAnyH_done (by kernel_rfl) ?_ _
        refine NoPanic.normal ?_
        have HRe := Lib.hid hHeld
        clear hHeld
        go_wp2_with fail
        exact ⟨⟨k + 1, hlt, by go_num, HRe.out⟩, by simp [intOf]; omega⟩
      · have hki : (40 : Int) ≤ (k : Int) := by omega
        clear hk hlt
        go_wp2_with fail
        refine (AW.out _ HR.out).mono ?_
        rintro _ w2 ⟨rfl, hb2⟩
        have Hb2 := Lib.hid (two_below' HR.out hb2)
        clear hb2
        go_wp2_with fail
        refine (M1.out _ Hb2.out).mono ?_
        rintro _ w3 ⟨⟨v1, rfl, ho1⟩, hb3⟩
        obtain ⟨A1, c1, rfl⟩ := own_form12 ho1
        have Ho1 := Lib.hid ho1
        have Hb3 := Lib.hid (two_below' Hb2.out hb3)
        clear ho1 hb3
        go_wp2_with fail
        refine (M2.out _ Hb3.out).mono ?_
        rintro _ w4 ⟨⟨v2, rfl, ho2⟩, hb4⟩
        obtain ⟨A2, c2, rfl⟩ := own_form12 ho2
        have Hb4 := Lib.hid (two_below' Hb3.out hb4)
        have hE1 := ens_own (own_below Ho1.out hb4) HAcc.out rfl
        have hE2 := ens_own ho2 HAcc.out rfl
        have SM := Lib.hid (same_any (Inb.msgs l1) HFit.out (ens_len ho2).2 A1 A2 c1 c2 w4 hE1 hE2)
        clear ho2 hb4 hE1 hE2
        generalize (Inb.msgs l1).length = q at *
        go_wp2_with fail
        refine SM.out.mono ?_
        rintro _ w5 ⟨rfl, hb5⟩
        have Hb5 := Lib.hid (two_below' Hb4.out hb5)
        clear hb5
        go_wp2_with fail
        go_ret
        exact ⟨rfl, Hb5.out⟩
  · obtain ⟨l1, hl1⟩ : ∃ l1, l1 = l := ⟨_, rfl⟩
    have hBl : BksAt w w.heap.size A l1 := by rw [hl1]; exact hB
    have hNum : ∀ b ∈ l1, b.Num := by rw [hl1]; exact hN
    have htot1 : Inb.tot l1 ≤ 3000000 := by rw [hl1]; exact htot
    have d40 : decide ((40 : Int) < (l.length : Int)) = false := by simp; omega
    obtain ⟨n, hn⟩ : ∃ n, n = l.length := ⟨_, rfl⟩
    have hlen1 : n = l1.length := by rw [hl1]; exact hn
    have HN1 := Lib.hid hlen1
    have Htot := Lib.hid htot1
    have hg := Inb.good_run hNum
    have M1 := Lib.hid (fun W (hW : Below w.heap.size w W) => messages_any A c l1 W ((hBl.below hW).mono hW.size) (by omega) htot1 (hT.below hW hT.pos))
    have M2 := Lib.hid (fun W (hW : Below w.heap.size w W) => rmessages_any hRS A c l1 W ((hBl.below hW).mono hW.size) (by omega) htot1)
    have HAcc : Hid (∀ e ∈ Inb.msgs l1, e.acc.length = 32) := Lib.hid (fun e he => (hg.2.1 e he).1.1)
    have HFit : Hid (∀ e ∈ Inb.msgs l1, e.Fits) := Lib.hid (fun e he => (hg.2.1 e he).1)
    rw [← hlen1] at M1 M2
    clear hg
    rw [← hn] at d40 h40 ⊢
    clear hB hN hT htot1 htot hlen1 hl1 hc1 hcap hn
    go_enter Tryd.func9, Tryd.ntmps9
    go_wp2_with fail
    clear d40
    have HBl := Lib.hid hBl
    have HNum := Lib.hid hNum
    clear hBl hNum
    go_loopw [3] (fun i wr => ∃ k : Nat, k ≤ n ∧ i = .int .i64 k ∧ Below w.heap.size w wr) (fun i _ => n - (intOf i).toNat)
    case atStart => exact ⟨0, Nat.zero_le _, rfl, Below.refl _ _⟩
    case round =>
      obtain ⟨k, hk, rfl, hR⟩ := hrel
      have HR := Lib.hid hR
      clear hR
      by_cases hlt : k < n
      · have hki : (k : Int) < (n : Int) := by omega
        have hkl : k < l1.length := by rw [← HN1.out]; exact hlt
        obtain ⟨bb, off, e0, hbb, hat⟩ := HBl.out (by intro e; rw [e] at hkl; simp at hkl)
        first | subst e0 | (injection e0 with e0; injection e0 with e1 e2; have e1 := e1.symm; have e2 := e2.symm; subst e1 e2)
        obtain ⟨A', cp, hrng, hits, hcap, hpl⟩ := hat k hkl
        have hlen := Inb.tot_mem (List.getElem_mem hkl)
        have HC := Lib.hid (fun W (hW : Below w.heap.size w W) => range_below hrng hW hbb)
        have HCL := Lib.hid (Bk.cells_len (b := l1[k]) (A := A') (cap := cp) hpl)
        have HF1 := Lib.hid (fun W (hW : Below w.heap.size w W) => forces_any l1[k] A' cp hpl W ((hits.below hW).mono hW.size) (by have := Htot.out; omega))
        have HF2 := Lib.hid (fun W (hW : Below w.heap.size w W) => rforces_any l1[k] A' cp hpl W ((hits.below hW).mono hW.size) (by have := Htot.out; omega))
        have hfl : (Inb.forces l1[k].items).length ≤ 9223372036854775807 := by have h1 := Inb.forces_len l1[k].items; have := Htot.out; omega
        generalize l1[k].cells A' cp = C at *
        generalize Inb.forces l1[k].items = L at *
        have hu45 := Tryd.underlying45
        have hi45 : (Tryd.prog.info? 45).map (·.size) = some C.length := by rw [block_size, HCL.out]
        have HL := Lib.hid hfl
        clear hat hrng hits hcap hpl hlen hfl
        go_wp2_with fail
        refine wp_region_noPanic ?_
        refine wp_region_held_drew (S := fun w' => Below w.heap.size w w') (by kernel_rfl) (HR.out.drew) (fun hHeld => ?_)
        generalize wr.drew = wq at *
        refine wpAnyH_take (i := 0) (v := .slice (some ⟨bb, off, none⟩) n c) rfl (by kernel_rfl) (by kernel_rfl) (by kernel_rfl) (fun _ _ _ h => h) (Or.inl ⟨by rfl, fun w' hSw => by go_simp⟩) hHeld ?_
        try simp only [Act.put, List.getElem_toArray, List.getElem_cons_succ, List.getElem_cons_zero, List.setIfInBounds_toArray, List.set_cons_zero, List.set_cons_succ]
        refine wpAnyH_take (i := 1) (v := .int .i64 k) rfl (by kernel_rfl) (by kernel_rfl) (by kernel_rfl) (fun _ _ _ h => h) (Or.inl ⟨by rfl, fun w' hSw => by go_simp⟩) hHeld ?_
        try simp only [Act.put, List.getElem_toArray, List.getElem_cons_succ, List.getElem_cons_zero, List.setIfInBounds_toArray, List.set_cons_zero, List.set_cons_succ]
        refine wpAnyH_take (i := 2) (v := .pointer (some ⟨bb, off + k * 35, none⟩)) rfl (by kernel_rfl) (by kernel_rfl) (by kernel_rfl) (fun _ _ _ h => h) (Or.inl ⟨by rfl, fun w' hSw => by go_simp⟩) hHeld ?_
        try simp only [Act.put, List.getElem_toArray, List.getElem_cons_succ, List.getElem_cons_zero, List.setIfInBounds_toArray, List.set_cons_zero, List.set_cons_succ]
        refine' wpAnyH_take (i := 3) (v := _) rfl (by kernel_rfl) (by kernel_rfl) (by kernel_rfl) (fun _ _ _ h => h) (yieldsIf_load_mid (by rfl) _ _ rfl bb (off + k * 35) rfl C _ (fun w' hSw => HC.out _ hSw) hu45 rfl hi45) hHeld ?_
        try simp only [Act.put, List.getElem_toArray, List.getElem_cons_succ, List.getElem_cons_zero, List.setIfInBounds_toArray, List.set_cons_zero, List.set_cons_succ]
        refine wpAnyH_take (i := 5) (v := .slice (some ⟨bb, off, none⟩) n c) rfl (by kernel_rfl) (by kernel_rfl) (by kernel_rfl) (fun _ _ _ h => h) (Or.inl ⟨by rfl, fun w' hSw => by go_simp⟩) hHeld ?_
        try simp only [Act.put, List.getElem_toArray, List.getElem_cons_succ, List.getElem_cons_zero, List.setIfInBounds_toArray, List.set_cons_zero, List.set_cons_succ]
        refine wpAnyH_take (i := 6) (v := .int .i64 k) rfl (by kernel_rfl) (by kernel_rfl) (by kernel_rfl) (fun _ _ _ h => h) (Or.inl ⟨by rfl, fun w' hSw => by go_simp⟩) hHeld ?_
        try simp only [Act.put, List.getElem_toArray, List.getElem_cons_succ, List.getElem_cons_zero, List.setIfInBounds_toArray, List.set_cons_zero, List.set_cons_succ]
        refine wpAnyH_take (i := 7) (v := .pointer (some ⟨bb, off + k * 35, none⟩)) rfl (by kernel_rfl) (by kernel_rfl) (by kernel_rfl) (fun _ _ _ h => h) (Or.inl ⟨by rfl, fun w' hSw => by go_simp⟩) hHeld ?_
        try simp only [Act.put, List.getElem_toArray, List.getElem_cons_succ, List.getElem_cons_zero, List.setIfInBounds_toArray, List.set_cons_zero, List.set_cons_succ]
        refine' wpAnyH_take (i := 8) (v := _) rfl (by kernel_rfl) (by kernel_rfl) (by kernel_rfl) (fun _ _ _ h => h) (yieldsIf_load_mid (by rfl) _ _ rfl bb (off + k * 35) rfl C _ (fun w' hSw => HC.out _ hSw) hu45 rfl hi45) hHeld ?_
        try simp only [Act.put, List.getElem_toArray, List.getElem_cons_succ, List.getElem_cons_zero, List.setIfInBounds_toArray, List.set_cons_zero, List.set_cons_succ]
        refine wpAnyH_ready (rs := [4]) (by kernel_rfl) (by simp) (AllReadyH.cons rfl (fun K1 hK1 => ?_) AllReadyH.nil)
        try simp only [Act.put, List.getElem_toArray, List.getElem_cons_succ, List.getElem_cons_zero, List.setIfInBounds_toArray, List.set_cons_zero, List.set_cons_succ]
        go_simp
        refine Calls.mono (HF1.out _ hHeld) ?_
        rintro e w2 ⟨⟨v1, rfl, ho1⟩, hb1⟩
        refine hK1.out _ _ (two_below' hHeld hb1) (fun hHeld => ?_)
        clear hK1 K1
        try simp only [Act.put, List.getElem_toArray, List.getElem_cons_succ, List.getElem_cons_zero, List.setIfInBounds_toArray, List.set_cons_zero, List.set_cons_succ]
        refine wpAnyH_ready (rs := [9]) (by kernel_rfl) (by simp) (AllReadyH.cons rfl (fun K1 hK1 => ?_) AllReadyH.nil)
        try simp only [Act.put, List.getElem_toArray, List.getElem_cons_succ, List.getElem_cons_zero, List.setIfInBounds_toArray, List.set_cons_zero, List.set_cons_succ]
        go_simp
        refine Calls.mono (HF2.out _ hHeld) ?_
        rintro e w3 ⟨⟨v2, rfl, ho2⟩, hb2⟩
        have hn1 := own_nums12 (own_below ho1 hb2)
        have hn2 := own_nums12 ho2
        have hb3 := two_below' hHeld hb2
        clear ho1 ho2 hb1 hb2
        refine hK1.out _ _ (hb3) (fun hHeld => ?_)
        clear hK1 K1
        try simp only [Act.put, List.getElem_toArray, List.getElem_cons_succ, List.getElem_cons_zero, List.setIfInBounds_toArray, List.set_cons_zero, List.set_cons_succ]
        clear hb3
        refine wpAnyH_ready (rs := [10]) (by kernel_rfl) (by simp) (AllReadyH.cons rfl (fun K1 hK1 => ?_) AllReadyH.nil)
        try simp only [Act.put, List.getElem_toArray, List.getElem_cons_succ, List.getElem_cons_zero, List.setIfInBounds_toArray, List.set_cons_zero, List.set_cons_succ]
        go_simp
        refine Calls.mono (numbers12_any v1 v2 L L w3 hn1 hn2 HL.out HL.out) ?_
        rintro e w4 ⟨rfl, nd, rfl⟩
        rw [show decide (L = L) = true by simp]
        refine hK1.out _ _ (below_drewN' hHeld nd) (fun hHeld => ?_)
        clear hK1 K1
        try simp only [Act.put, List.getElem_toArray, List.getElem_cons_succ, List.getElem_cons_zero, List.setIfInBounds_toArray, List.set_cons_zero, List.set_cons_succ]
        refine wpAnyH_take (i := 11) (v := .bool false) rfl (by kernel_rfl) (by kernel_rfl) (by kernel_rfl) (fun _ _ _ h => h) (Or.inl ⟨by rfl, fun w' hSw => by go_simp⟩) hHeld ?_
        try simp only [Act.put, List.getElem_toArray, List.getElem_cons_succ, List.getElem_cons_zero, List.setIfInBounds_toArray, List.set_cons_zero, List.set_cons_succ]
        refine wpAnyH_done (by kernel_rfl) ?_ _
        refine NoPanic.normal ?_
        have HRe := Lib.hid hHeld
        clear hHeld
        go_wp2_with fail
        exact ⟨⟨k + 1, hlt, by go_num, HRe.out⟩, by simp [intOf]; omega⟩
      · have hki : (n : Int) ≤ (k : Int) := by omega
        clear hk hlt
        go_wp2_with fail
        refine (AW.out _ HR.out).mono ?_
        rintro _ w2 ⟨rfl, hb2⟩
        have Hb2 := Lib.hid (two_below' HR.out hb2)
        clear hb2
        go_wp2_with fail
        refine (M1.out _ Hb2.out).mono ?_
        rintro _ w3 ⟨⟨v1, rfl, ho1⟩, hb3⟩
        obtain ⟨A1, c1, rfl⟩ := own_form12 ho1
        have Ho1 := Lib.hid ho1
        have Hb3 := Lib.hid (two_below' Hb2.out hb3)
        clear ho1 hb3
        go_wp2_with fail
        refine (M2.out _ Hb3.out).mono ?_
        rintro _ w4 ⟨⟨v2, rfl, ho2⟩, hb4⟩
        obtain ⟨A2, c2, rfl⟩ := own_form12 ho2
        have Hb4 := Lib.hid (two_below' Hb3.out hb4)
        have hE1 := ens_own (own_below Ho1.out hb4) HAcc.out rfl
        have hE2 := ens_own ho2 HAcc.out rfl
        have SM := Lib.hid (same_any (Inb.msgs l1) HFit.out (ens_len ho2).2 A1 A2 c1 c2 w4 hE1 hE2)
        clear ho2 hb4 hE1 hE2
        generalize (Inb.msgs l1).length = q at *
        go_wp2_with fail
        refine SM.out.mono ?_
        rintro _ w5 ⟨rfl, hb5⟩
        have Hb5 := Lib.hid (two_below' Hb4.out hb5)
        clear hb5
        go_wp2_with fail
        go_ret
        exact ⟨rfl, Hb5.out⟩
end Go.Proofs.YtjeooegkfjlejaaDoor
