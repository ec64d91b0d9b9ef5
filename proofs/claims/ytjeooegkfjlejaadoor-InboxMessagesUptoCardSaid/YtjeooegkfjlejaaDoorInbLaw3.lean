/- The law InboxChained: what its function returns. -/
import Derived.Test.YtjeooegkfjlejaaDoorInbLaw2
namespace Go.Proofs.YtjeooegkfjlejaaDoor
open Go.RowKit
set_option linter.unusedVariables false
set_option linter.unusedSimpArgs false

/-- where InboxChained stands -/
def ChIn (w W : World) (g : Nat) (K : List UInt8) : Prop := Row W g 42 (bRow K).toList ∧ Below w.heap.size w W
theorem ChIn.step {w W W' : World} {g : Nat} {K : List UInt8} (h : ChIn w W g K) (hb : Below W.heap.size W W') : ChIn w W' g K := ⟨h.1.kept (grownBy_of_below hb none) (by simp), two_below' h.2 hb⟩
theorem chained_at {acc : List UInt8} {l : List En} {k : Nat} (hk : k < l.length) (h : Inb.Chained acc (l.drop k)) : l[k].acc = Inb.link acc l[k].who l[k].text ∧ Inb.Chained l[k].acc (l.drop (k + 1)) := by
  rw [List.drop_eq_getElem_cons hk] at h
  exact h
set_option maxRecDepth 20000 in
set_option maxHeartbeats 3200000 in
theorem inboxChained_any (hRS : RefSum) (A : Option Addr) (c : Nat) (l : List Bk) (w : World) (hB : BksAt w w.heap.size A l) (hN : ∀ b ∈ l, b.Num) (hcap : l.length ≤ c) (hl : l.length ≤ 9223372036854775807) (htot : Inb.tot l ≤ 3000000) (hT : Tab w) :
    Calls Tryd.prog 12 #[.slice A l.length c] w fun e w' => e = .returned (.bool true) ∧ Below w.heap.size w w' := by
  have HZ32 := Lib.hid (Tx.bRow_len Tx.zero rfl)
  have HZ1 : Hid (∀ v ∈ (bRow Tx.zero).toList, v.oneCell' = true) := Lib.hid (hash_one _ rfl)
  have hc1 : l.length ≤ c := hcap
  have AW := Lib.hid (fun W (hW : Below w.heap.size w W) => awake12_any W (hT.below hW hT.pos))
  by_cases h40 : 40 < l.length
  · obtain ⟨l1, hl1⟩ : ∃ l1, l1 = l.take 40 := ⟨_, rfl⟩
    have hlen1 : 40 = l1.length := by rw [hl1, List.length_take]; omega
    have hBl : BksAt w w.heap.size A l1 := by rw [hl1]; exact ListAt.take hB 40
    have hNum : ∀ b ∈ l1, b.Num := fun b hb => hN b (List.mem_of_mem_take (by rw [← hl1]; exact hb))
    have htot1 : Inb.tot l1 ≤ 3000000 := by rw [hl1]; have := Inb.tot_le l 40; omega
    have d40 : decide ((40 : Int) < (l.length : Int)) = true := by simp; omega
    have hA : ∃ b off, A = some ⟨b, off, none⟩ := by
      obtain ⟨b, off, e, _⟩ := hB (by intro e; rw [e] at h40; simp at h40)
      exact ⟨b, off, e⟩
    have HN1 := Lib.hid hlen1
    have Htot := Lib.hid htot1
    have hg := Inb.good_run hNum
    have M1 := Lib.hid (fun W (hW : Below w.heap.size w W) => messages_any A c l1 W ((hBl.below hW).mono hW.size) (by omega) htot1 (hT.below hW hT.pos))
    have HCh : Hid (Inb.Chained Tx.zero (Inb.msgs l1)) := Lib.hid hg.2.2.1
    have HWho : Hid (∀ e ∈ Inb.msgs l1, 0 ≤ e.who ∧ e.who ≤ 64 ∧ e.text.size ≤ 640) := Lib.hid (fun e he => (hg.2.1 e he).2)
    have HAcc : Hid (∀ e ∈ Inb.msgs l1, e.acc.length = 32) := Lib.hid (fun e he => (hg.2.1 e he).1.1)
    have HFit : Hid (∀ e ∈ Inb.msgs l1, e.Fits) := Lib.hid (fun e he => (hg.2.1 e he).1)
    rw [← hlen1] at M1
    clear hg
    obtain ⟨ba, oa, rfl⟩ := hA
    have hc40 : (40 : Int) ≤ (c : Int) := by omega
    have hc40n : 40 ≤ c := by omega
    have hc0 : ¬ c = 0 := by omega
    generalize l.length = m at *
    clear hBl hNum hB hN hT htot1 htot hlen1 hl1 hc1 hcap
    go_enter Tryd.func12, Tryd.ntmps12
    go_wp2_with fail
    clear d40 h40
    refine (M1.out _ (Below.refl _ _)).mono ?_
    rintro _ w3 ⟨⟨v1, rfl, ho1⟩, hb3⟩
    obtain ⟨A1, c1, rfl⟩ := own_form12 ho1
    have hE1 := ens_own ho1 HAcc.out rfl
    have hq := (ens_len ho1).2
    have HE1 := Lib.hid hE1
    have Hb3 := Lib.hid hb3
    clear ho1 hb3 hE1
    have HWho := HWho
    have HAcc := HAcc
    generalize Inb.msgs l1 = L at *
    obtain ⟨q, hq2⟩ : ∃ q, q = L.length := ⟨_, rfl⟩
    rw [← hq2] at hq ⊢
    have HQ := Lib.hid hq2
    clear hq2
    have Hr3 := Lib.hid (Row.new w3 42 (bRow Tx.zero).toList)
    have hzh := hash_zv
    go_wp2_with (first
    | ((with_reducible show wpList _ _ _ (⟨_, .build 42 _, _, _, _, _⟩ :: _) _ _); refine wpList_buildL rfl 42 [] rfl (some 17) rfl [] rfl (bRow Tx.zero) hash_built ?_)
    | (with_reducible show wpList _ _ _ (⟨_, .store 42 _ _, _, _, _, _⟩ :: _) _ _
       refine wpList_store_at rfl 42 (.tmp 4) (.tmp 17) rfl w3.heap.size 0 (bRow Tx.zero).toList _ _ rfl rfl Hr3.out (by have := HZ32.out; omega) (by rw [hash_info, HZ32.out]) HZ1.out ?_
       intro w4 hr4 hg4
       rw [splice_all rfl] at hr4
       have H4 : Hid (ChIn w3 w4 w3.heap.size Tx.zero) := Lib.hid ⟨hr4, below_own ((Below.refl w3.heap.size w3).alloc (Nat.le_refl _) _) hg4 (fun k hk => by cases hk; exact Nat.le_refl _)⟩
       clear hr4 hg4))
    clear hzh
    go_loopw [5] (fun i wr => ∃ (k : Nat) (acc : List UInt8), k ≤ q ∧ i = .int .i64 k ∧ acc.length = 32 ∧ Inb.Chained acc (L.drop k) ∧ ChIn w3 wr w3.heap.size acc) (fun i _ => q - (intOf i).toNat)
    case atStart => exact ⟨0, Tx.zero, Nat.zero_le _, rfl, rfl, HCh.out, H4.out⟩
    case round =>
      obtain ⟨k, acc, hk, rfl, hal, hch, hR⟩ := hrel
      have HR := Lib.hid hR
      have HAl := Lib.hid hal
      have HChk := Lib.hid hch
      clear hR hal hch H4 Hr3
      by_cases hlt : k < q
      · have hki : (k : Int) < (q : Int) := by omega
        have hkl : k < L.length := by rw [← HQ.out]; exact hlt
        obtain ⟨bb, off, rfl, hbb, hat⟩ := HE1.out (by intro e; rw [e] at hkl; simp at hkl)
        have hrk := hat k hkl
        have hmem := List.getElem_mem hkl
        obtain ⟨w0, w1, w2⟩ := HWho.out _ hmem
        obtain ⟨e1, e2⟩ := chained_at hkl HChk.out
        have hKl := HAcc.out _ hmem
        have HE2 := Lib.hid e2
        generalize L[k] = en at *
        obtain ⟨who, tx, blk, K⟩ := en
        obtain ⟨t, rfl⟩ : ∃ t : List UInt8, tx = ⟨t.toArray⟩ := ⟨tx.data.toList, (bytes_back tx).symm⟩
        simp only at w0 w1 w2 e1 hKl HE2
        have htl : t.length ≤ 640 := w2
        have X0 : Hid (∀ W, Below w3.heap.size w3 W → W.cell? ⟨bb, off + k * 35, none⟩ = some (.int .i64 who)) := Lib.hid (fun W hW => range_below hrk hW hbb 0 _ rfl)
        have X1 : Hid (∀ W, Below w3.heap.size w3 W → W.cell? ⟨bb, off + k * 35 + 1, none⟩ = some (S t)) := Lib.hid (fun W hW => range_below hrk hW hbb 1 _ rfl)
        have X3 : Hid (∀ W, Below w3.heap.size w3 W → W.rangeAt bb (off + k * 35 + 3) (bRow K).toList) := Lib.hid (fun W hW j v hv => by
          have := range_below hrk hW hbb (3 + j) v (by
            show ([Value.int .i64 who, .string ⟨t.toArray⟩, .int .i64 blk] ++ (bRow K).toList)[3 + j]? = some v
            rw [List.getElem?_append_right (by simp)]
            simpa using hv)
          rw [Nat.add_assoc]
          exact this)
        obtain ⟨nb, hnb⟩ : ∃ nb, nb = Oct.num who.toNat := ⟨_, rfl⟩
        have NB : Hid (∀ W, Calls Tryd.prog 44 #[.int .i64 who] W fun e w' => e = .returned (.tuple #[S nb, .int .i64 0]) ∧ Below W.heap.size W w') := Lib.hid (fun W => by
          have := refNumber_any who W (by omega)
          have e : Oct.numE who = (nb, 0) := by unfold Oct.numE; rw [if_neg (by omega), hnb]
          rw [e] at this
          exact this)
        have hnl : nb.length ≤ 9 := by rw [hnb]; exact Oct.num_length_le _
        obtain ⟨ms, hms⟩ : ∃ ms, Oct.listE [nb, t] = (ms, 0) := listE_small _ (by simp) (by simp only [total_cons]; have : Oct.total [] = 0 := rfl; omega)
        have LB : Hid (∀ W : World, Calls Tryd.prog 45 #[.slice (some ⟨W.heap.size, 0, none⟩) 2 2] (W.alloc (.cells #[S nb, S t] 9)) fun e w' => e = .returned (.tuple #[S ms, .int .i64 0]) ∧ Below (W.alloc (.cells #[S nb, S t] 9)).heap.size (W.alloc (.cells #[S nb, S t] 9)) w') := Lib.hid (fun W => by
          have := rlist_2 nb t W
          rw [hms] at this
          exact this)
        have hml2 : ms.length ≤ 100000 := by have := listE_len [nb, t]; rw [hms] at this; exact this
        have hKs : K = Sha.sum (acc ++ ms) := by rw [e1]; unfold Inb.link Inb.msg; rw [← hnb]; show Sha.sum (acc ++ (Oct.listE [nb, t]).1) = _; rw [hms]
        have CB : Hid (∀ W : World, Calls Tryd.prog 46 #[.agg (bRow acc).toList.toArray, S ms] W fun e w' => e = .returned (.agg (bRow K)) ∧ Below W.heap.size W w') := Lib.hid (fun W => by
          have := refChain_any hRS acc ⟨ms.toArray⟩ W HAl.out (by show ms.length ≤ _; omega)
          rw [show (⟨ms.toArray⟩ : ByteArray).data.toList = ms from rfl, ← hKs] at this
          simpa using this)
        have HA32 := Lib.hid (Tx.bRow_len acc HAl.out)
        have HK32 := Lib.hid (Tx.bRow_len K hKl)
        have HK1 := Lib.hid (hash_one K hKl)
        have HKL := Lib.hid hKl
        have heq : ∀ W : World, (Op.equalIn 10000 42 (.agg (bRow K)) (.agg (bRow K))).run Tryd.prog W = .ok true W := fun W => (hash_eq W K K hKl hKl).trans (by simp)
        have hu42 := Tryd.underlying42
        have hi42 : (Tryd.prog.info? 42).map (·.size) = some (bRow K).toList.length := by rw [hash_info, HK32.out]
        have c0 := X0.out _ HR.out.2
        clear hat hrk hmem hKs hms hnb e1 e2 hKl
        go_wp2_with fail
        refine (NB.out _).mono ?_
        rintro _ w9 ⟨rfl, hb9⟩
        have HR9 := Lib.hid (HR.out.step hb9)
        have c1 := X1.out _ HR9.out.2
        clear hb9 c0
        go_wp2_with fail
        refine (LB.out _).mono ?_
        rintro _ w10 ⟨rfl, hb10⟩
        have HR10 := Lib.hid ((HR9.out.step ((Below.refl w9.heap.size w9).alloc (Nat.le_refl _) _)).step hb10)
        clear hb10 c1
        go_wp2_with ((with_reducible show wpList _ _ _ (⟨_, .load 42 _, _, _, _, _⟩ :: _) _ _); refine wpList_load_tx rfl 42 (.tmp 4) rfl w3.heap.size 0 rfl (bRow acc).toList _ (row_range HR10.out.1) Tryd.underlying42 rfl (by rw [hash_info, HA32.out]) ?_)
        refine (CB.out _).mono ?_
        rintro _ w11 ⟨rfl, hb11⟩
        have HR11 := Lib.hid (HR10.out.step hb11)
        clear hb11
        go_wp2_with (with_reducible show wpList _ _ _ (⟨_, .store 42 _ _, _, _, _, _⟩ :: _) _ _
                     refine wpList_store_at rfl 42 (.tmp 4) (.tmp 46) rfl w3.heap.size 0 (bRow K).toList _ _ rfl rfl HR11.out.1 (by have := HA32.out; have := HK32.out; omega) (by rw [hash_info, HK32.out]) HK1.out ?_
                     intro w12 hr12 hg12
                     rw [splice_all (HK32.out.trans HA32.out.symm)] at hr12
                     have H12 : Hid (ChIn w3 w12 w3.heap.size K) := Lib.hid ⟨hr12, below_own HR11.out.2 hg12 (fun k hk => by cases hk; exact Nat.le_refl _)⟩
                     clear hr12 hg12)
        refine wp_region_noPanic ?_
        refine wp_region_held_drew (S := fun w' => ChIn w3 w' w3.heap.size K) (by kernel_rfl) (⟨H12.out.1.kept (grownBy_drew _ none) (by simp), H12.out.2.drew⟩) (fun hHeld => ?_)
        generalize w12.drew = wq at *
        refine wpAnyH_take (i := 0) (v := .slice (some ⟨bb, off, none⟩) q c1) rfl (by kernel_rfl) (by kernel_rfl) (by kernel_rfl) (fun _ _ _ h => h) (Or.inl ⟨by rfl, fun w' hSw => by go_simp⟩) hHeld ?_
        try simp only [Act.put, List.getElem_toArray, List.getElem_cons_succ, List.getElem_cons_zero, List.setIfInBounds_toArray, List.set_cons_zero, List.set_cons_succ]
        refine wpAnyH_take (i := 1) (v := .int .i64 k) rfl (by kernel_rfl) (by kernel_rfl) (by kernel_rfl) (fun _ _ _ h => h) (Or.inl ⟨by rfl, fun w' hSw => by go_simp⟩) hHeld ?_
        try simp only [Act.put, List.getElem_toArray, List.getElem_cons_succ, List.getElem_cons_zero, List.setIfInBounds_toArray, List.set_cons_zero, List.set_cons_succ]
        refine wpAnyH_take (i := 2) (v := .pointer (some ⟨bb, off + k * 35, none⟩)) rfl (by kernel_rfl) (by kernel_rfl) (by kernel_rfl) (fun _ _ _ h => h) (Or.inl ⟨by rfl, fun w' hSw => by go_simp⟩) hHeld ?_
        try simp only [Act.put, List.getElem_toArray, List.getElem_cons_succ, List.getElem_cons_zero, List.setIfInBounds_toArray, List.set_cons_zero, List.set_cons_succ]
        refine wpAnyH_take (i := 3) (v := .pointer (some ⟨bb, (off + k * 35 + 3), none⟩)) rfl (by kernel_rfl) (by kernel_rfl) (by kernel_rfl) (fun _ _ _ h => h) (Or.inl ⟨by rfl, fun w' hSw => by go_simp⟩) hHeld ?_
        try simp only [Act.put, List.getElem_toArray, List.getElem_cons_succ, List.getElem_cons_zero, List.setIfInBounds_toArray, List.set_cons_zero, List.set_cons_succ]
        refine' wpAnyH_take (i := 4) (v := _) rfl (by kernel_rfl) (by kernel_rfl) (by kernel_rfl) (fun _ _ _ h => h) (yieldsIf_load_mid (by rfl) _ _ rfl bb (off + k * 35 + 3) rfl (bRow K).toList _ (fun w' hSw => X3.out _ hSw.2) hu42 rfl hi42) hHeld ?_
        try simp only [Act.put, List.getElem_toArray, List.getElem_cons_succ, List.getElem_cons_zero, List.setIfInBounds_toArray, List.set_cons_zero, List.set_cons_succ]
        refine' wpAnyH_take (i := 5) (v := _) rfl (by kernel_rfl) (by kernel_rfl) (by kernel_rfl) (fun _ _ _ h => h) (yieldsIf_load_mid (by rfl) _ _ rfl w3.heap.size 0 rfl (bRow K).toList _ (fun w' hSw => row_range hSw.1) hu42 rfl hi42) hHeld ?_
        try simp only [Act.put, List.getElem_toArray, List.getElem_cons_succ, List.getElem_cons_zero, List.setIfInBounds_toArray, List.set_cons_zero, List.set_cons_succ]
        refine wpAnyH_take (i := 6) (v := .bool false) rfl (by kernel_rfl) (by kernel_rfl) (by kernel_rfl) (fun _ _ _ h => h) (Or.inl ⟨by rfl, fun w' hSw => by go_simp⟩) hHeld ?_
        try simp only [Act.put, List.getElem_toArray, List.getElem_cons_succ, List.getElem_cons_zero, List.setIfInBounds_toArray, List.set_cons_zero, List.set_cons_succ]
        refine wpAnyH_done (by kernel_rfl) ?_ _
        refine NoPanic.normal ?_
        have HRe := Lib.hid hHeld
        clear hHeld heq
        go_wp2_with fail
        exact ⟨⟨k + 1, K, hlt, by go_num, HKL.out, HE2.out, HRe.out⟩, by simp [intOf]; omega⟩
      · have hki : (q : Int) ≤ (k : Int) := by omega
        clear hk hlt
        have HbE := Lib.hid (two_below' Hb3.out HR.out.2)
        go_wp2_with fail
        refine (AW.out _ HbE.out).mono ?_
        rintro _ w5 ⟨rfl, hb5⟩
        have Hb5 := Lib.hid (two_below' HbE.out hb5)
        clear hb5
        go_wp2_with fail
        go_ret
        exact ⟨rfl, Hb5.out⟩
  · obtain ⟨l1, hl1⟩ : ∃ l1, l1 = l := ⟨_, rfl⟩
    have hBl : BksAt w w.heap.size A l1 := by rw [hl1]; exact hB
    have hNum : ∀ b ∈ l1, b.Num := by rw [hl1]; exact hN
    have htot1 : Inb.tot l1 ≤ 3000000 := by rw [hl1]; exact htot
    have d40 : decide ((40 : Int) < (l.length : Int)) = false := by simp; omega
    obtain ⟨n, hn⟩ : ∃ n, n = l.length := ⟨_, rfl⟩
    have hlen1 : n = l1.length := by rw [hl1]; exact hn
    have HN1 := Lib.hid hlen1
    have Htot := Lib.hid htot1
    have hg := Inb.good_run hNum
    have M1 := Lib.hid (fun W (hW : Below w.heap.size w W) => messages_any A c l1 W ((hBl.below hW).mono hW.size) (by omega) htot1 (hT.below hW hT.pos))
    have HCh : Hid (Inb.Chained Tx.zero (Inb.msgs l1)) := Lib.hid hg.2.2.1
    have HWho : Hid (∀ e ∈ Inb.msgs l1, 0 ≤ e.who ∧ e.who ≤ 64 ∧ e.text.size ≤ 640) := Lib.hid (fun e he => (hg.2.1 e he).2)
    have HAcc : Hid (∀ e ∈ Inb.msgs l1, e.acc.length = 32) := Lib.hid (fun e he => (hg.2.1 e he).1.1)
    have HFit : Hid (∀ e ∈ Inb.msgs l1, e.Fits) := Lib.hid (fun e he => (hg.2.1 e he).1)
    rw [← hlen1] at M1
    clear hg
    rw [← hn] at d40 h40 ⊢
    clear hBl hNum hB hN hT htot1 htot hlen1 hl1 hc1 hcap hn
    go_enter Tryd.func12, Tryd.ntmps12
    go_wp2_with fail
    clear d40
    refine (M1.out _ (Below.refl _ _)).mono ?_
    rintro _ w3 ⟨⟨v1, rfl, ho1⟩, hb3⟩
    obtain ⟨A1, c1, rfl⟩ := own_form12 ho1
    have hE1 := ens_own ho1 HAcc.out rfl
    have hq := (ens_len ho1).2
    have HE1 := Lib.hid hE1
    have Hb3 := Lib.hid hb3
    clear ho1 hb3 hE1
    have HWho := HWho
    have HAcc := HAcc
    generalize Inb.msgs l1 = L at *
    obtain ⟨q, hq2⟩ : ∃ q, q = L.length := ⟨_, rfl⟩
    rw [← hq2] at hq ⊢
    have HQ := Lib.hid hq2
    clear hq2
    have Hr3 := Lib.hid (Row.new w3 42 (bRow Tx.zero).toList)
    have hzh := hash_zv
    go_wp2_with (first
    | ((with_reducible show wpList _ _ _ (⟨_, .build 42 _, _, _, _, _⟩ :: _) _ _); refine wpList_buildL rfl 42 [] rfl (some 17) rfl [] rfl (bRow Tx.zero) hash_built ?_)
    | (with_reducible show wpList _ _ _ (⟨_, .store 42 _ _, _, _, _, _⟩ :: _) _ _
       refine wpList_store_at rfl 42 (.tmp 4) (.tmp 17) rfl w3.heap.size 0 (bRow Tx.zero).toList _ _ rfl rfl Hr3.out (by have := HZ32.out; omega) (by rw [hash_info, HZ32.out]) HZ1.out ?_
       intro w4 hr4 hg4
       rw [splice_all rfl] at hr4
       have H4 : Hid (ChIn w3 w4 w3.heap.size Tx.zero) := Lib.hid ⟨hr4, below_own ((Below.refl w3.heap.size w3).alloc (Nat.le_refl _) _) hg4 (fun k hk => by cases hk; exact Nat.le_refl _)⟩
       clear hr4 hg4))
    clear hzh
    go_loopw [5] (fun i wr => ∃ (k : Nat) (acc : List UInt8), k ≤ q ∧ i = .int .i64 k ∧ acc.length = 32 ∧ Inb.Chained acc (L.drop k) ∧ ChIn w3 wr w3.heap.size acc) (fun i _ => q - (intOf i).toNat)
    case atStart => exact ⟨0, Tx.zero, Nat.zero_le _, rfl, rfl, HCh.out, H4.out⟩
    case round =>
      obtain ⟨k, acc, hk, rfl, hal, hch, hR⟩ := hrel
      have HR := Lib.hid hR
      have HAl := Lib.hid hal
      have HChk := Lib.hid hch
      clear hR hal hch H4 Hr3
      by_cases hlt : k < q
      · have hki : (k : Int) < (q : Int) := by omega
        have hkl : k < L.length := by rw [← HQ.out]; exact hlt
        obtain ⟨bb, off, rfl, hbb, hat⟩ := HE1.out (by intro e; rw [e] at hkl; simp at hkl)
        have hrk := hat k hkl
        have hmem := List.getElem_mem hkl
        obtain ⟨w0, w1, w2⟩ := HWho.out _ hmem
        obtain ⟨e1, e2⟩ := chained_at hkl HChk.out
        have hKl := HAcc.out _ hmem
        have HE2 := Lib.hid e2
        generalize L[k] = en at *
        obtain ⟨who, tx, blk, K⟩ := en
        obtain ⟨t, rfl⟩ : ∃ t : List UInt8, tx = ⟨t.toArray⟩ := ⟨tx.data.toList, (bytes_back tx).symm⟩
        simp only at w0 w1 w2 e1 hKl HE2
        have htl : t.length ≤ 640 := w2
        have X0 : Hid (∀ W, Below w3.heap.size w3 W → W.cell? ⟨bb, off + k * 35, none⟩ = some (.int .i64 who)) := Lib.hid (fun W hW => range_below hrk hW hbb 0 _ rfl)
        have X1 : Hid (∀ W, Below w3.heap.size w3 W → W.cell? ⟨bb, off + k * 35 + 1, none⟩ = some (S t)) := Lib.hid (fun W hW => range_below hrk hW hbb 1 _ rfl)
        have X3 : Hid (∀ W, Below w3.heap.size w3 W → W.rangeAt bb (off + k * 35 + 3) (bRow K).toList) := Lib.hid (fun W hW j v hv => by
          have := range_below hrk hW hbb (3 + j) v (by
            show ([Value.int .i64 who, .string ⟨t.toArray⟩, .int .i64 blk] ++ (bRow K).toList)[3 + j]? = some v
            rw [List.getElem?_append_right (by simp)]
            simpa using hv)
          rw [Nat.add_assoc]
          exact this)
        obtain ⟨nb, hnb⟩ : ∃ nb, nb = Oct.num who.toNat := ⟨_, rfl⟩
        have NB : Hid (∀ W, Calls Tryd.prog 44 #[.int .i64 who] W fun e w' => e = .returned (.tuple #[S nb, .int .i64 0]) ∧ Below W.heap.size W w') := Lib.hid (fun W => by
          have := refNumber_any who W (by omega)
          have e : Oct.numE who = (nb, 0) := by unfold Oct.numE; rw [if_neg (by omega), hnb]
          rw [e] at this
          exact this)
        have hnl : nb.length ≤ 9 := by rw [hnb]; exact Oct.num_length_le _
        obtain ⟨ms, hms⟩ : ∃ ms, Oct.listE [nb, t] = (ms, 0) := listE_small _ (by simp) (by simp only [total_cons]; have : Oct.total [] = 0 := rfl; omega)
        have LB : Hid (∀ W : World, Calls Tryd.prog 45 #[.slice (some ⟨W.heap.size, 0, none⟩) 2 2] (W.alloc (.cells #[S nb, S t] 9)) fun e w' => e = .returned (.tuple #[S ms, .int .i64 0]) ∧ Below (W.alloc (.cells #[S nb, S t] 9)).heap.size (W.alloc (.cells #[S nb, S t] 9)) w') := Lib.hid (fun W => by
          have := rlist_2 nb t W
          rw [hms] at this
          exact this)
        have hml2 : ms.length ≤ 100000 := by have := listE_len [nb, t]; rw [hms] at this; exact this
        have hKs : K = Sha.sum (acc ++ ms) := by rw [e1]; unfold Inb.link Inb.msg; rw [← hnb]; show Sha.sum (acc ++ (Oct.listE [nb, t]).1) = _; rw [hms]
        have CB : Hid (∀ W : World, Calls Tryd.prog 46 #[.agg (bRow acc).toList.toArray, S ms] W fun e w' => e = .returned (.agg (bRow K)) ∧ Below W.heap.size W w') := Lib.hid (fun W => by
          have := refChain_any hRS acc ⟨ms.toArray⟩ W HAl.out (by show ms.length ≤ _; omega)
          rw [show (⟨ms.toArray⟩ : ByteArray).data.toList = ms from rfl, ← hKs] at this
          simpa using this)
        have HA32 := Lib.hid (Tx.bRow_len acc HAl.out)
        have HK32 := Lib.hid (Tx.bRow_len K hKl)
        have HK1 := Lib.hid (hash_one K hKl)
        have HKL := Lib.hid hKl
        have heq : ∀ W : World, (Op.equalIn 10000 42 (.agg (bRow K)) (.agg (bRow K))).run Tryd.prog W = .ok true W := fun W => (hash_eq W K K hKl hKl).trans (by simp)
        have hu42 := Tryd.underlying42
        have hi42 : (Tryd.prog.info? 42).map (·.size) = some (bRow K).toList.length := by rw [hash_info, HK32.out]
        have c0 := X0.out _ HR.out.2
        clear hat hrk hmem hKs hms hnb e1 e2 hKl
        go_wp2_with fail
        refine (NB.out _).mono ?_
        rintro _ w9 ⟨rfl, hb9⟩
        have HR9 := Lib.hid (HR.out.step hb9)
        have c1 := X1.out _ HR9.out.2
        clear hb9 c0
        go_wp2_with fail
        refine (LB.out _).mono ?_
        rintro _ w10 ⟨rfl, hb10⟩
        have HR10 := Lib.hid ((HR9.out.step ((Below.refl w9.heap.size w9).alloc (Nat.le_refl _) _)).step hb10)
        clear hb10 c1
        go_wp2_with ((with_reducible show wpList _ _ _ (⟨_, .load 42 _, _, _, _, _⟩ :: _) _ _); refine wpList_load_tx rfl 42 (.tmp 4) rfl w3.heap.size 0 rfl (bRow acc).toList _ (row_range HR10.out.1) Tryd.underlying42 rfl (by rw [hash_info, HA32.out]) ?_)
        refine (CB.out _).mono ?_
        rintro _ w11 ⟨rfl, hb11⟩
        have HR11 := Lib.hid (HR10.out.step hb11)
        clear hb11
        go_wp2_with (with_reducible show wpList _ _ _ (⟨_, .store 42 _ _, _, _, _, _⟩ :: _) _ _
                     refine wpList_store_at rfl 42 (.tmp 4) (.tmp 46) rfl w3.heap.size 0 (bRow K).toList _ _ rfl rfl HR11.out.1 (by have := HA32.out; have := HK32.out; omega) (by rw [hash_info, HK32.out]) HK1.out ?_
                     intro w12 hr12 hg12
                     rw [splice_all (HK32.out.trans HA32.out.symm)] at hr12
                     have H12 : Hid (ChIn w3 w12 w3.heap.size K) := Lib.hid ⟨hr12, below_own HR11.out.2 hg12 (fun k hk => by cases hk; exact Nat.le_refl _)⟩
                     clear hr12 hg12)
        refine wp_region_noPanic ?_
        refine wp_region_held_drew (S := fun w' => ChIn w3 w' w3.heap.size K) (by kernel_rfl) (⟨H12.out.1.kept (grownBy_drew _ none) (by simp), H12.out.2.drew⟩) (fun hHeld => ?_)
        generalize w12.drew = wq at *
        refine wpAnyH_take (i := 0) (v := .slice (some ⟨bb, off, none⟩) q c1) rfl (by kernel_rfl) (by kernel_rfl) (by kernel_rfl) (fun _ _ _ h => h) (Or.inl ⟨by rfl, fun w' hSw => by go_simp⟩) hHeld ?_
        try simp only [Act.put, List.getElem_toArray, List.getElem_cons_succ, List.getElem_cons_zero, List.setIfInBounds_toArray, List.set_cons_zero, List.set_cons_succ]
        refine wpAnyH_take (i := 1) (v := .int .i64 k) rfl (by kernel_rfl) (by kernel_rfl) (by kernel_rfl) (fun _ _ _ h => h) (Or.inl ⟨by rfl, fun w' hSw => by go_simp⟩) hHeld ?_
        try simp only [Act.put, List.getElem_toArray, List.getElem_cons_succ, List.getElem_cons_zero, List.setIfInBounds_toArray, List.set_cons_zero, List.set_cons_succ]
        refine wpAnyH_take (i := 2) (v := .pointer (some ⟨bb, off + k * 35, none⟩)) rfl (by kernel_rfl) (by kernel_rfl) (by kernel_rfl) (fun _ _ _ h => h) (Or.inl ⟨by rfl, fun w' hSw => by go_simp⟩) hHeld ?_
        try simp only [Act.put, List.getElem_toArray, List.getElem_cons_succ, List.getElem_cons_zero, List.setIfInBounds_toArray, List.set_cons_zero, List.set_cons_succ]
        refine wpAnyH_take (i := 3) (v := .pointer (some ⟨bb, (off + k * 35 + 3), none⟩)) rfl (by kernel_rfl) (by kernel_rfl) (by kernel_rfl) (fun _ _ _ h => h) (Or.inl ⟨by rfl, fun w' hSw => by go_simp⟩) hHeld ?_
        try simp only [Act.put, List.getElem_toArray, List.getElem_cons_succ, List.getElem_cons_zero, List.setIfInBounds_toArray, List.set_cons_zero, List.set_cons_succ]
        refine' wpAnyH_take (i := 4) (v := _) rfl (by kernel_rfl) (by kernel_rfl) (by kernel_rfl) (fun _ _ _ h => h) (yieldsIf_load_mid (by rfl) _ _ rfl bb (off + k * 35 + 3) rfl (bRow K).toList _ (fun w' hSw => X3.out _ hSw.2) hu42 rfl hi42) hHeld ?_
        try simp only [Act.put, List.getElem_toArray, List.getElem_cons_succ, List.getElem_cons_zero, List.setIfInBounds_toArray, List.set_cons_zero, List.set_cons_succ]
        refine' wpAnyH_take (i := 5) (v := _) rfl (by kernel_rfl) (by kernel_rfl) (by kernel_rfl) (fun _ _ _ h => h) (yieldsIf_load_mid (by rfl) _ _ rfl w3.heap.size 0 rfl (bRow K).toList _ (fun w' hSw => row_range hSw.1) hu42 rfl hi42) hHeld ?_
        try simp only [Act.put, List.getElem_toArray, List.getElem_cons_succ, List.getElem_cons_zero, List.setIfInBounds_toArray, List.set_cons_zero, List.set_cons_succ]
        refine wpAnyH_take (i := 6) (v := .bool false) rfl (by kernel_rfl) (by kernel_rfl) (by kernel_rfl) (fun _ _ _ h => h) (Or.inl ⟨by rfl, fun w' hSw => by go_simp⟩) hHeld ?_
        try simp only [Act.put, List.getElem_toArray, List.getElem_cons_succ, List.getElem_cons_zero, List.setIfInBounds_toArray, List.set_cons_zero, List.set_cons_succ]
        refine wpAnyH_done (by kernel_rfl) ?_ _
        refine NoPanic.normal ?_
        have HRe := Lib.hid hHeld
        clear hHeld heq
        go_wp2_with fail
        exact ⟨⟨k + 1, K, hlt, by go_num, HKL.out, HE2.out, HRe.out⟩, by simp [intOf]; omega⟩
      · have hki : (q : Int) ≤ (k : Int) := by omega
        clear hk hlt
        have HbE := Lib.hid (two_below' Hb3.out HR.out.2)
        go_wp2_with fail
        refine (AW.out _ HbE.out).mono ?_
        rintro _ w5 ⟨rfl, hb5⟩
        have Hb5 := Lib.hid (two_below' HbE.out hb5)
        clear hb5
        go_wp2_with fail
        go_ret
        exact ⟨rfl, Hb5.out⟩
end Go.Proofs.YtjeooegkfjlejaaDoor
