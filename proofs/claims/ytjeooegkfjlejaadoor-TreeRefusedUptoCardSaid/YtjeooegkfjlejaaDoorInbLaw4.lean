/- The law InboxGrows: what its function returns. -/
import Derived.Test.YtjeooegkfjlejaaDoorInbBv
namespace Go.Proofs.YtjeooegkfjlejaaDoor
open Go.RowKit
set_option linter.unusedVariables false
set_option linter.unusedSimpArgs false

/-- rows of the call's own with unlike elements lie apart -/
theorem own_ne_own {w : World} {base base2 n m s t : Nat} {e f : TypeId} {u v : Value} {xs ys : List Value} (h : w.ownsRow base e s u n xs) (k : w.ownsRow base2 f t v m ys) (hne : e ≠ f) : u.ownBlock = none ∨ u.ownBlock ≠ v.ownBlock := by
  rcases h.2 with ⟨rfl, _⟩ | ⟨g, cap, cur, rfl, _, hh, _⟩
  · exact .inl rfl
  · refine .inr fun q => ?_
    rcases k.2 with ⟨rfl, _⟩ | ⟨g', cap', cur', rfl, _, hh', _⟩
    · simp [Value.ownBlock] at q
    · simp only [Value.ownBlock, Option.some.injEq] at q
      subst q
      rw [hh] at hh'
      simp at hh'
      exact hne hh'.2
theorem bks_append (l m : List Bv) : bks (l ++ m) = bks l ++ bks m := List.map_append
theorem tot_append (l m : List Bk) : Inb.tot (l ++ m) = Inb.tot l + Inb.tot m := by unfold Inb.tot; rw [List.map_append, List.sum_append]
set_option maxRecDepth 20000 in
set_option maxHeartbeats 6400000 in
theorem inboxGrows_any (A1 A2 : Option Addr) (c1 c2 : Nat) (l1 l2 : List Bv) (w : World) (h1 : BvIn w w.heap.size A1 c1 l1) (h2 : BvIn w w.heap.size A2 c2 l2) (f1 : ∀ x ∈ l1, x.Fits) (f2 : ∀ x ∈ l2, x.Fits)
    (hl1 : l1.length ≤ 9223372036854775807) (hl2 : l2.length ≤ 9223372036854775807) (htot : Inb.tot (bks l1) + Inb.tot (bks l2) ≤ 3000000) (hT : Tab w) :
    Calls Tryd.prog 11 #[.slice A1 l1.length c1, .slice A2 l2.length c2] w fun e w' => e = .returned (.bool true) ∧ Below w.heap.size w w' := by
  have AW := Lib.hid (fun W (hW : Below w.heap.size w W) => awake12_any W (hT.below hW hT.pos))
  have HT := Lib.hid hT
  by_cases j1 : 30 < l1.length
  · by_cases j2 : 30 < l2.length
    · skip
      obtain ⟨k1, hk1⟩ : ∃ k1, k1 = l1.take 30 := ⟨_, rfl⟩
      have hL1 : 30 = k1.length := by rw [hk1, List.length_take]; omega
      have hI1 : BvIn w w.heap.size A1 c1 k1 := by rw [hk1]; exact h1.take f1 30
      have hF1 : ∀ x ∈ k1, x.Fits := fun x hx => f1 x (List.mem_of_mem_take (by rw [← hk1]; exact hx))
      have ht1 : Inb.tot (bks k1) ≤ Inb.tot (bks l1) := by
        rw [hk1]; unfold bks; rw [List.map_take]; exact Inb.tot_le _ 30
      have d1 : decide ((30 : Int) < (l1.length : Int)) = true := by simp; omega
      have hc1 : (30 : Int) ≤ (c1 : Int) := by have := h1.2.2; omega
      have hcn1 : 30 ≤ c1 := by omega
      have hcz1 : ¬ c1 = 0 := by omega
      have hA1 : ∃ g off, A1 = some ⟨g, off, none⟩ := by
        obtain ⟨b, off, e, _⟩ := h1.1 (by intro e; rw [e] at j1; simp at j1)
        exact ⟨b, off, e⟩
      obtain ⟨g1, o1, rfl⟩ := hA1
      obtain ⟨k2, hk2⟩ : ∃ k2, k2 = l2.take 30 := ⟨_, rfl⟩
      have hL2 : 30 = k2.length := by rw [hk2, List.length_take]; omega
      have hI2 : BvIn w w.heap.size A2 c2 k2 := by rw [hk2]; exact h2.take f2 30
      have hF2 : ∀ x ∈ k2, x.Fits := fun x hx => f2 x (List.mem_of_mem_take (by rw [← hk2]; exact hx))
      have ht2 : Inb.tot (bks k2) ≤ Inb.tot (bks l2) := by
        rw [hk2]; unfold bks; rw [List.map_take]; exact Inb.tot_le _ 30
      have d2 : decide ((30 : Int) < (l2.length : Int)) = true := by simp; omega
      have hc2 : (30 : Int) ≤ (c2 : Int) := by have := h2.2.2; omega
      have hcn2 : 30 ≤ c2 := by omega
      have hcz2 : ¬ c2 = 0 := by omega
      have hA2 : ∃ g off, A2 = some ⟨g, off, none⟩ := by
        obtain ⟨b, off, e, _⟩ := h2.1 (by intro e; rw [e] at j2; simp at j2)
        exact ⟨b, off, e⟩
      obtain ⟨g2, o2, rfl⟩ := hA2
      have HL1 := Lib.hid hL1
      have HL2 := Lib.hid hL2
      have H1 := Lib.hid hI1
      have H2 := Lib.hid hI2
      have HF1 := Lib.hid hF1
      have HF2 := Lib.hid hF2
      have Htot : Hid (Inb.tot (bks k1) + Inb.tot (bks k2) ≤ 3000000) := Lib.hid (by omega)
      have hg := Inb.good_run (bks_num hF1)
      have HAcc : Hid (∀ e ∈ Inb.msgs (bks k1), e.acc.length = 32) := Lib.hid (fun e he => (hg.2.1 e he).1.1)
      have HFit1 : Hid (∀ e ∈ Inb.msgs (bks k1), e.Fits) := Lib.hid (fun e he => (hg.2.1 e he).1)
      have M1 := Lib.hid (fun W (hW : Below w.heap.size w W) => messages_any (some ⟨g1, o1, none⟩) c1 (bks k1) W (((BvsAt.bks hI1.1 hF1).below hW).mono hW.size) (by rw [bks_len]; omega) (by omega) (hT.below hW hT.pos))
      rw [bks_len, ← hL1] at M1
      generalize l1.length = m1 at *
      generalize l2.length = m2 at *
      clear hI1 hI2 hF1 hF2 ht1 ht2 h1 h2 f1 f2 htot hT hg hL1 hL2 hk1 hk2
      go_enter Tryd.func11, Tryd.ntmps11
      go_wp2_with fail
      clear d1 d2
      refine (M1.out _ (Below.refl _ _)).mono ?_
      rintro _ w5 ⟨⟨v5, rfl, ho5⟩, hb5⟩
      obtain ⟨A5, c5, rfl⟩ := own_form12 ho5
      have Ho5 := Lib.hid ho5
      have Hb5 := Lib.hid hb5
      have hown0 : (w5.alloc (.cells #[] 45)).ownsRow w.heap.size 45 35 (.slice (some ⟨w5.heap.size, 0, none⟩) 0 0) 0 [] := ⟨rfl, .inr ⟨w5.heap.size, 0, #[], rfl, hb5.size, heap_alloc_new _ _, Nat.le_refl _, Nat.zero_le _, rfl, rfl⟩⟩
      have hb5a := hb5.alloc hb5.size (.cells #[] 45)
      have Hown0 := Lib.hid hown0
      have Hb5a := Lib.hid hb5a
      have hz5 : w.heap.size ≤ (w5.alloc (.cells #[] 45)).heap.size := hb5a.size
      have hq5 := (ens_len ho5).2
      obtain ⟨q5, hq5e⟩ : ∃ q5, q5 = (Inb.msgs (bks k1)).length := ⟨_, rfl⟩
      rw [← hq5e] at hq5 ⊢
      have HQ5 := Lib.hid hq5e
      clear ho5 hb5 hown0 hb5a hq5e
      go_wp2_with (first
      | (at_builtin
         refine wpList_append_blocks rfl (.tmp 19) (.tmp 20) rfl w.heap.size (.slice (some ⟨w5.heap.size, 0, none⟩) 0 0) 0 [] rfl Hown0.out w.heap.size (some ⟨g1, o1, none⟩) c1 k1 30 HL1.out rfl (H1.out.below Hb5a.out) HF1.out (by omega) hz5 ?_
         intro v6 w6 ho6 hg6
         have Ho6 := Lib.hid ho6
         have Hb6 := Lib.hid (below_row Hb5a.out hz5 Hown0.out hg6)
         have Hk6 := Lib.hid ((Ho5.out.alloc (.cells #[] 45)).kept hg6 (own_ne_own (Ho5.out.alloc (.cells #[] 45)) Hown0.out (by decide)))
         have hz6 : w.heap.size ≤ w6.heap.size := Hb6.out.size
         clear ho6 hg6)
      | (at_builtin
         refine wpList_append_blocks rfl (.tmp 21) (.tmp 22) rfl w.heap.size v6 (0 + 30) ([] ++ Bv.flat k1) rfl Ho6.out w.heap.size (some ⟨g2, o2, none⟩) c2 k2 30 HL2.out rfl (H2.out.below Hb6.out) HF2.out (by omega) hz6 ?_
         intro v7 w7 ho7 hg7
         have Ho7 := Lib.hid ho7
         have Hb7 := Lib.hid (below_row Hb6.out hz6 Ho6.out hg7)
         have Hk7 := Lib.hid (Hk6.out.kept hg7 (own_ne_own Hk6.out Ho6.out (by decide)))
         clear ho7 hg7))
      obtain ⟨A7, c7, rfl⟩ := own_form12 Ho7.out
      have hlen7 : 0 + 30 + 30 = (k1 ++ k2).length := by rw [List.length_append]; have := HL1.out; have := HL2.out; omega
      have hB7 : BvsAt w7 w7.heap.size A7 (k1 ++ k2) := bvs_own (n := 0 + 30 + 30) (c := c7) (by rw [Bv.flat_append]; exact Ho7.out) (fun x hx => by
        rcases List.mem_append.1 hx with hx | hx
        · exact HF1.out x hx
        · exact HF2.out x hx) hlen7 rfl (fun x hx => by
        rcases List.mem_append.1 hx with hx | hx
        · have := items_of H1.out.1 x hx
          exact ⟨(this.1.below Hb7.out).mono Hb7.out.size, this.2⟩
        · have := items_of H2.out.1 x hx
          exact ⟨(this.1.below Hb7.out).mono Hb7.out.size, this.2⟩)
      have hFit : ∀ x ∈ k1 ++ k2, x.Fits := fun x hx => by
        rcases List.mem_append.1 hx with hx | hx
        · exact HF1.out x hx
        · exact HF2.out x hx
      have M7 := messages_any A7 c7 (bks (k1 ++ k2)) w7 (hB7.bks hFit) (by rw [bks_len, ← hlen7]; omega) (by rw [bks_append, tot_append]; exact Htot.out) (HT.out.below Hb7.out HT.out.pos)
      rw [bks_len, ← hlen7] at M7
      have M7 := Lib.hid M7
      have hg8 := Inb.good_run (bks_num hFit)
      have hpre : Inb.msgs (bks k1) <+: Inb.msgs (bks (k1 ++ k2)) := by rw [bks_append]; exact Inb.msgs_grow _ _
      have HPre := Lib.hid hpre
      have HAcc8 : Hid (∀ e ∈ Inb.msgs (bks (k1 ++ k2)), e.acc.length = 32) := Lib.hid (fun e he => (hg8.2.1 e he).1.1)
      clear hB7 hFit hlen7 hg8 hpre
      refine M7.out.mono ?_
      rintro _ w8 ⟨⟨v8, rfl, ho8⟩, hb8⟩
      obtain ⟨A8, c8, rfl⟩ := own_form12 ho8
      have hle := HPre.out.length_le
      have hc8 := (ens_len ho8).1
      have hE8 := ens_own ho8 HAcc8.out rfl
      have hE8b : ListAt 35 EnR w8 w8.heap.size A8 (Inb.msgs (bks k1)) := by
        rw [List.prefix_iff_eq_take.1 HPre.out]
        exact ListAt.take hE8 _
      have hE5 := ens_own (own_below Hk7.out hb8) HAcc.out rfl
      have HE8 := Lib.hid hE8b
      have HE5 := Lib.hid hE5
      have Hb8 := Lib.hid (two_below' Hb7.out hb8)
      have hsl := fun W => sliceHead A8 (Inb.msgs (bks (k1 ++ k2))).length q5 c8 (by have := HQ5.out; omega) W
      obtain ⟨q8, hq8⟩ : ∃ q8, q8 = (Inb.msgs (bks (k1 ++ k2))).length := ⟨_, rfl⟩
      rw [← HQ5.out] at hle
      rw [← hq8] at hsl hle ⊢
      have hle2 : (q5 : Int) ≤ (q8 : Int) := by omega
      clear hq8 ho8 hb8 hE8 hE8b hE5 hc8
      go_wp2_with fail
      refine (AW.out _ Hb8.out).mono ?_
      rintro _ w9 ⟨rfl, hb9⟩
      have Hb9 := Lib.hid (two_below' Hb8.out hb9)
      have SM := same_any (Inb.msgs (bks k1)) HFit1.out (by rw [← HQ5.out]; exact hq5) A5 A8 c5 c8 w9 (EnsAt.mono (EnsAt.below HE5.out hb9) hb9.size) (EnsAt.mono (EnsAt.below HE8.out hb9) hb9.size)
      rw [← HQ5.out] at SM
      have HSM := Lib.hid SM
      clear SM hb9
      go_wp2_with fail
      refine HSM.out.mono ?_
      rintro _ w10 ⟨rfl, hb10⟩
      have Hb10 := Lib.hid (two_below' Hb9.out hb10)
      clear hb10
      go_wp2_with fail
      go_ret
      exact ⟨rfl, Hb10.out⟩
    · skip
      obtain ⟨k1, hk1⟩ : ∃ k1, k1 = l1.take 30 := ⟨_, rfl⟩
      have hL1 : 30 = k1.length := by rw [hk1, List.length_take]; omega
      have hI1 : BvIn w w.heap.size A1 c1 k1 := by rw [hk1]; exact h1.take f1 30
      have hF1 : ∀ x ∈ k1, x.Fits := fun x hx => f1 x (List.mem_of_mem_take (by rw [← hk1]; exact hx))
      have ht1 : Inb.tot (bks k1) ≤ Inb.tot (bks l1) := by
        rw [hk1]; unfold bks; rw [List.map_take]; exact Inb.tot_le _ 30
      have d1 : decide ((30 : Int) < (l1.length : Int)) = true := by simp; omega
      have hc1 : (30 : Int) ≤ (c1 : Int) := by have := h1.2.2; omega
      have hcn1 : 30 ≤ c1 := by omega
      have hcz1 : ¬ c1 = 0 := by omega
      have hA1 : ∃ g off, A1 = some ⟨g, off, none⟩ := by
        obtain ⟨b, off, e, _⟩ := h1.1 (by intro e; rw [e] at j1; simp at j1)
        exact ⟨b, off, e⟩
      obtain ⟨g1, o1, rfl⟩ := hA1
      obtain ⟨k2, hk2⟩ : ∃ k2, k2 = l2 := ⟨_, rfl⟩
      obtain ⟨n2, hn2⟩ : ∃ n2, n2 = l2.length := ⟨_, rfl⟩
      have hL2 : n2 = k2.length := by rw [hk2]; exact hn2
      have hI2 : BvIn w w.heap.size A2 c2 k2 := by rw [hk2]; exact h2
      have hF2 : ∀ x ∈ k2, x.Fits := by rw [hk2]; exact f2
      have ht2 : Inb.tot (bks k2) ≤ Inb.tot (bks l2) := by rw [hk2]; exact Nat.le_refl _
      have d2 : decide ((30 : Int) < (l2.length : Int)) = false := by simp; omega
      have hn302 : n2 ≤ 30 := by omega
      have HL1 := Lib.hid hL1
      have HL2 := Lib.hid hL2
      have H1 := Lib.hid hI1
      have H2 := Lib.hid hI2
      have HF1 := Lib.hid hF1
      have HF2 := Lib.hid hF2
      have Htot : Hid (Inb.tot (bks k1) + Inb.tot (bks k2) ≤ 3000000) := Lib.hid (by omega)
      have hg := Inb.good_run (bks_num hF1)
      have HAcc : Hid (∀ e ∈ Inb.msgs (bks k1), e.acc.length = 32) := Lib.hid (fun e he => (hg.2.1 e he).1.1)
      have HFit1 : Hid (∀ e ∈ Inb.msgs (bks k1), e.Fits) := Lib.hid (fun e he => (hg.2.1 e he).1)
      have M1 := Lib.hid (fun W (hW : Below w.heap.size w W) => messages_any (some ⟨g1, o1, none⟩) c1 (bks k1) W (((BvsAt.bks hI1.1 hF1).below hW).mono hW.size) (by rw [bks_len]; omega) (by omega) (hT.below hW hT.pos))
      rw [bks_len, ← hL1] at M1
      generalize l1.length = m1 at *
      rw [← hn2] at d2 ⊢
      clear hI1 hI2 hF1 hF2 ht1 ht2 h1 h2 f1 f2 htot hT hg hL1 hL2 hk1 hk2 hn2
      go_enter Tryd.func11, Tryd.ntmps11
      go_wp2_with fail
      clear d1 d2
      refine (M1.out _ (Below.refl _ _)).mono ?_
      rintro _ w5 ⟨⟨v5, rfl, ho5⟩, hb5⟩
      obtain ⟨A5, c5, rfl⟩ := own_form12 ho5
      have Ho5 := Lib.hid ho5
      have Hb5 := Lib.hid hb5
      have hown0 : (w5.alloc (.cells #[] 45)).ownsRow w.heap.size 45 35 (.slice (some ⟨w5.heap.size, 0, none⟩) 0 0) 0 [] := ⟨rfl, .inr ⟨w5.heap.size, 0, #[], rfl, hb5.size, heap_alloc_new _ _, Nat.le_refl _, Nat.zero_le _, rfl, rfl⟩⟩
      have hb5a := hb5.alloc hb5.size (.cells #[] 45)
      have Hown0 := Lib.hid hown0
      have Hb5a := Lib.hid hb5a
      have hz5 : w.heap.size ≤ (w5.alloc (.cells #[] 45)).heap.size := hb5a.size
      have hq5 := (ens_len ho5).2
      obtain ⟨q5, hq5e⟩ : ∃ q5, q5 = (Inb.msgs (bks k1)).length := ⟨_, rfl⟩
      rw [← hq5e] at hq5 ⊢
      have HQ5 := Lib.hid hq5e
      clear ho5 hb5 hown0 hb5a hq5e
      go_wp2_with (first
      | (at_builtin
         refine wpList_append_blocks rfl (.tmp 19) (.tmp 20) rfl w.heap.size (.slice (some ⟨w5.heap.size, 0, none⟩) 0 0) 0 [] rfl Hown0.out w.heap.size (some ⟨g1, o1, none⟩) c1 k1 30 HL1.out rfl (H1.out.below Hb5a.out) HF1.out (by omega) hz5 ?_
         intro v6 w6 ho6 hg6
         have Ho6 := Lib.hid ho6
         have Hb6 := Lib.hid (below_row Hb5a.out hz5 Hown0.out hg6)
         have Hk6 := Lib.hid ((Ho5.out.alloc (.cells #[] 45)).kept hg6 (own_ne_own (Ho5.out.alloc (.cells #[] 45)) Hown0.out (by decide)))
         have hz6 : w.heap.size ≤ w6.heap.size := Hb6.out.size
         clear ho6 hg6)
      | (at_builtin
         refine wpList_append_blocks rfl (.tmp 21) (.tmp 22) rfl w.heap.size v6 (0 + 30) ([] ++ Bv.flat k1) rfl Ho6.out w.heap.size A2 c2 k2 n2 HL2.out rfl (H2.out.below Hb6.out) HF2.out (by omega) hz6 ?_
         intro v7 w7 ho7 hg7
         have Ho7 := Lib.hid ho7
         have Hb7 := Lib.hid (below_row Hb6.out hz6 Ho6.out hg7)
         have Hk7 := Lib.hid (Hk6.out.kept hg7 (own_ne_own Hk6.out Ho6.out (by decide)))
         clear ho7 hg7))
      obtain ⟨A7, c7, rfl⟩ := own_form12 Ho7.out
      have hlen7 : 0 + 30 + n2 = (k1 ++ k2).length := by rw [List.length_append]; have := HL1.out; have := HL2.out; omega
      have hB7 : BvsAt w7 w7.heap.size A7 (k1 ++ k2) := bvs_own (n := 0 + 30 + n2) (c := c7) (by rw [Bv.flat_append]; exact Ho7.out) (fun x hx => by
        rcases List.mem_append.1 hx with hx | hx
        · exact HF1.out x hx
        · exact HF2.out x hx) hlen7 rfl (fun x hx => by
        rcases List.mem_append.1 hx with hx | hx
        · have := items_of H1.out.1 x hx
          exact ⟨(this.1.below Hb7.out).mono Hb7.out.size, this.2⟩
        · have := items_of H2.out.1 x hx
          exact ⟨(this.1.below Hb7.out).mono Hb7.out.size, this.2⟩)
      have hFit : ∀ x ∈ k1 ++ k2, x.Fits := fun x hx => by
        rcases List.mem_append.1 hx with hx | hx
        · exact HF1.out x hx
        · exact HF2.out x hx
      have M7 := messages_any A7 c7 (bks (k1 ++ k2)) w7 (hB7.bks hFit) (by rw [bks_len, ← hlen7]; omega) (by rw [bks_append, tot_append]; exact Htot.out) (HT.out.below Hb7.out HT.out.pos)
      rw [bks_len, ← hlen7] at M7
      have M7 := Lib.hid M7
      have hg8 := Inb.good_run (bks_num hFit)
      have hpre : Inb.msgs (bks k1) <+: Inb.msgs (bks (k1 ++ k2)) := by rw [bks_append]; exact Inb.msgs_grow _ _
      have HPre := Lib.hid hpre
      have HAcc8 : Hid (∀ e ∈ Inb.msgs (bks (k1 ++ k2)), e.acc.length = 32) := Lib.hid (fun e he => (hg8.2.1 e he).1.1)
      clear hB7 hFit hlen7 hg8 hpre
      refine M7.out.mono ?_
      rintro _ w8 ⟨⟨v8, rfl, ho8⟩, hb8⟩
      obtain ⟨A8, c8, rfl⟩ := own_form12 ho8
      have hle := HPre.out.length_le
      have hc8 := (ens_len ho8).1
      have hE8 := ens_own ho8 HAcc8.out rfl
      have hE8b : ListAt 35 EnR w8 w8.heap.size A8 (Inb.msgs (bks k1)) := by
        rw [List.prefix_iff_eq_take.1 HPre.out]
        exact ListAt.take hE8 _
      have hE5 := ens_own (own_below Hk7.out hb8) HAcc.out rfl
      have HE8 := Lib.hid hE8b
      have HE5 := Lib.hid hE5
      have Hb8 := Lib.hid (two_below' Hb7.out hb8)
      have hsl := fun W => sliceHead A8 (Inb.msgs (bks (k1 ++ k2))).length q5 c8 (by have := HQ5.out; omega) W
      obtain ⟨q8, hq8⟩ : ∃ q8, q8 = (Inb.msgs (bks (k1 ++ k2))).length := ⟨_, rfl⟩
      rw [← HQ5.out] at hle
      rw [← hq8] at hsl hle ⊢
      have hle2 : (q5 : Int) ≤ (q8 : Int) := by omega
      clear hq8 ho8 hb8 hE8 hE8b hE5 hc8
      go_wp2_with fail
      refine (AW.out _ Hb8.out).mono ?_
      rintro _ w9 ⟨rfl, hb9⟩
      have Hb9 := Lib.hid (two_below' Hb8.out hb9)
      have SM := same_any (Inb.msgs (bks k1)) HFit1.out (by rw [← HQ5.out]; exact hq5) A5 A8 c5 c8 w9 (EnsAt.mono (EnsAt.below HE5.out hb9) hb9.size) (EnsAt.mono (EnsAt.below HE8.out hb9) hb9.size)
      rw [← HQ5.out] at SM
      have HSM := Lib.hid SM
      clear SM hb9
      go_wp2_with fail
      refine HSM.out.mono ?_
      rintro _ w10 ⟨rfl, hb10⟩
      have Hb10 := Lib.hid (two_below' Hb9.out hb10)
      clear hb10
      go_wp2_with fail
      go_ret
      exact ⟨rfl, Hb10.out⟩
  · by_cases j2 : 30 < l2.length
    · skip
      obtain ⟨k1, hk1⟩ : ∃ k1, k1 = l1 := ⟨_, rfl⟩
      obtain ⟨n1, hn1⟩ : ∃ n1, n1 = l1.length := ⟨_, rfl⟩
      have hL1 : n1 = k1.length := by rw [hk1]; exact hn1
      have hI1 : BvIn w w.heap.size A1 c1 k1 := by rw [hk1]; exact h1
      have hF1 : ∀ x ∈ k1, x.Fits := by rw [hk1]; exact f1
      have ht1 : Inb.tot (bks k1) ≤ Inb.tot (bks l1) := by rw [hk1]; exact Nat.le_refl _
      have d1 : decide ((30 : Int) < (l1.length : Int)) = false := by simp; omega
      have hn301 : n1 ≤ 30 := by omega
      obtain ⟨k2, hk2⟩ : ∃ k2, k2 = l2.take 30 := ⟨_, rfl⟩
      have hL2 : 30 = k2.length := by rw [hk2, List.length_take]; omega
      have hI2 : BvIn w w.heap.size A2 c2 k2 := by rw [hk2]; exact h2.take f2 30
      have hF2 : ∀ x ∈ k2, x.Fits := fun x hx => f2 x (List.mem_of_mem_take (by rw [← hk2]; exact hx))
      have ht2 : Inb.tot (bks k2) ≤ Inb.tot (bks l2) := by
        rw [hk2]; unfold bks; rw [List.map_take]; exact Inb.tot_le _ 30
      have d2 : decide ((30 : Int) < (l2.length : Int)) = true := by simp; omega
      have hc2 : (30 : Int) ≤ (c2 : Int) := by have := h2.2.2; omega
      have hcn2 : 30 ≤ c2 := by omega
      have hcz2 : ¬ c2 = 0 := by omega
      have hA2 : ∃ g off, A2 = some ⟨g, off, none⟩ := by
        obtain ⟨b, off, e, _⟩ := h2.1 (by intro e; rw [e] at j2; simp at j2)
        exact ⟨b, off, e⟩
      obtain ⟨g2, o2, rfl⟩ := hA2
      have HL1 := Lib.hid hL1
      have HL2 := Lib.hid hL2
      have H1 := Lib.hid hI1
      have H2 := Lib.hid hI2
      have HF1 := Lib.hid hF1
      have HF2 := Lib.hid hF2
      have Htot : Hid (Inb.tot (bks k1) + Inb.tot (bks k2) ≤ 3000000) := Lib.hid (by omega)
      have hg := Inb.good_run (bks_num hF1)
      have HAcc : Hid (∀ e ∈ Inb.msgs (bks k1), e.acc.length = 32) := Lib.hid (fun e he => (hg.2.1 e he).1.1)
      have HFit1 : Hid (∀ e ∈ Inb.msgs (bks k1), e.Fits) := Lib.hid (fun e he => (hg.2.1 e he).1)
      have M1 := Lib.hid (fun W (hW : Below w.heap.size w W) => messages_any A1 c1 (bks k1) W (((BvsAt.bks hI1.1 hF1).below hW).mono hW.size) (by rw [bks_len]; omega) (by omega) (hT.below hW hT.pos))
      rw [bks_len, ← hL1] at M1
      rw [← hn1] at d1 ⊢
      generalize l2.length = m2 at *
      clear hI1 hI2 hF1 hF2 ht1 ht2 h1 h2 f1 f2 htot hT hg hL1 hL2 hk1 hk2 hn1
      go_enter Tryd.func11, Tryd.ntmps11
      go_wp2_with fail
      clear d1 d2
      refine (M1.out _ (Below.refl _ _)).mono ?_
      rintro _ w5 ⟨⟨v5, rfl, ho5⟩, hb5⟩
      obtain ⟨A5, c5, rfl⟩ := own_form12 ho5
      have Ho5 := Lib.hid ho5
      have Hb5 := Lib.hid hb5
      have hown0 : (w5.alloc (.cells #[] 45)).ownsRow w.heap.size 45 35 (.slice (some ⟨w5.heap.size, 0, none⟩) 0 0) 0 [] := ⟨rfl, .inr ⟨w5.heap.size, 0, #[], rfl, hb5.size, heap_alloc_new _ _, Nat.le_refl _, Nat.zero_le _, rfl, rfl⟩⟩
      have hb5a := hb5.alloc hb5.size (.cells #[] 45)
      have Hown0 := Lib.hid hown0
      have Hb5a := Lib.hid hb5a
      have hz5 : w.heap.size ≤ (w5.alloc (.cells #[] 45)).heap.size := hb5a.size
      have hq5 := (ens_len ho5).2
      obtain ⟨q5, hq5e⟩ : ∃ q5, q5 = (Inb.msgs (bks k1)).length := ⟨_, rfl⟩
      rw [← hq5e] at hq5 ⊢
      have HQ5 := Lib.hid hq5e
      clear ho5 hb5 hown0 hb5a hq5e
      go_wp2_with (first
      | (at_builtin
         refine wpList_append_blocks rfl (.tmp 19) (.tmp 20) rfl w.heap.size (.slice (some ⟨w5.heap.size, 0, none⟩) 0 0) 0 [] rfl Hown0.out w.heap.size A1 c1 k1 n1 HL1.out rfl (H1.out.below Hb5a.out) HF1.out (by omega) hz5 ?_
         intro v6 w6 ho6 hg6
         have Ho6 := Lib.hid ho6
         have Hb6 := Lib.hid (below_row Hb5a.out hz5 Hown0.out hg6)
         have Hk6 := Lib.hid ((Ho5.out.alloc (.cells #[] 45)).kept hg6 (own_ne_own (Ho5.out.alloc (.cells #[] 45)) Hown0.out (by decide)))
         have hz6 : w.heap.size ≤ w6.heap.size := Hb6.out.size
         clear ho6 hg6)
      | (at_builtin
         refine wpList_append_blocks rfl (.tmp 21) (.tmp 22) rfl w.heap.size v6 (0 + n1) ([] ++ Bv.flat k1) rfl Ho6.out w.heap.size (some ⟨g2, o2, none⟩) c2 k2 30 HL2.out rfl (H2.out.below Hb6.out) HF2.out (by omega) hz6 ?_
         intro v7 w7 ho7 hg7
         have Ho7 := Lib.hid ho7
         have Hb7 := Lib.hid (below_row Hb6.out hz6 Ho6.out hg7)
         have Hk7 := Lib.hid (Hk6.out.kept hg7 (own_ne_own Hk6.out Ho6.out (by decide)))
         clear ho7 hg7))
      obtain ⟨A7, c7, rfl⟩ := own_form12 Ho7.out
      have hlen7 : 0 + n1 + 30 = (k1 ++ k2).length := by rw [List.length_append]; have := HL1.out; have := HL2.out; omega
      have hB7 : BvsAt w7 w7.heap.size A7 (k1 ++ k2) := bvs_own (n := 0 + n1 + 30) (c := c7) (by rw [Bv.flat_append]; exact Ho7.out) (fun x hx => by
        rcases List.mem_append.1 hx with hx | hx
        · exact HF1.out x hx
        · exact HF2.out x hx) hlen7 rfl (fun x hx => by
        rcases List.mem_append.1 hx with hx | hx
        · have := items_of H1.out.1 x hx
          exact ⟨(this.1.below Hb7.out).mono Hb7.out.size, this.2⟩
        · have := items_of H2.out.1 x hx
          exact ⟨(this.1.below Hb7.out).mono Hb7.out.size, this.2⟩)
      have hFit : ∀ x ∈ k1 ++ k2, x.Fits := fun x hx => by
        rcases List.mem_append.1 hx with hx | hx
        · exact HF1.out x hx
        · exact HF2.out x hx
      have M7 := messages_any A7 c7 (bks (k1 ++ k2)) w7 (hB7.bks hFit) (by rw [bks_len, ← hlen7]; omega) (by rw [bks_append, tot_append]; exact Htot.out) (HT.out.below Hb7.out HT.out.pos)
      rw [bks_len, ← hlen7] at M7
      have M7 := Lib.hid M7
      have hg8 := Inb.good_run (bks_num hFit)
      have hpre : Inb.msgs (bks k1) <+: Inb.msgs (bks (k1 ++ k2)) := by rw [bks_append]; exact Inb.msgs_grow _ _
      have HPre := Lib.hid hpre
      have HAcc8 : Hid (∀ e ∈ Inb.msgs (bks (k1 ++ k2)), e.acc.length = 32) := Lib.hid (fun e he => (hg8.2.1 e he).1.1)
      clear hB7 hFit hlen7 hg8 hpre
      refine M7.out.mono ?_
      rintro _ w8 ⟨⟨v8, rfl, ho8⟩, hb8⟩
      obtain ⟨A8, c8, rfl⟩ := own_form12 ho8
      have hle := HPre.out.length_le
      have hc8 := (ens_len ho8).1
      have hE8 := ens_own ho8 HAcc8.out rfl
      have hE8b : ListAt 35 EnR w8 w8.heap.size A8 (Inb.msgs (bks k1)) := by
        rw [List.prefix_iff_eq_take.1 HPre.out]
        exact ListAt.take hE8 _
      have hE5 := ens_own (own_below Hk7.out hb8) HAcc.out rfl
      have HE8 := Lib.hid hE8b
      have HE5 := Lib.hid hE5
      have Hb8 := Lib.hid (two_below' Hb7.out hb8)
      have hsl := fun W => sliceHead A8 (Inb.msgs (bks (k1 ++ k2))).length q5 c8 (by have := HQ5.out; omega) W
      obtain ⟨q8, hq8⟩ : ∃ q8, q8 = (Inb.msgs (bks (k1 ++ k2))).length := ⟨_, rfl⟩
      rw [← HQ5.out] at hle
      rw [← hq8] at hsl hle ⊢
      have hle2 : (q5 : Int) ≤ (q8 : Int) := by omega
      clear hq8 ho8 hb8 hE8 hE8b hE5 hc8
      go_wp2_with fail
      refine (AW.out _ Hb8.out).mono ?_
      rintro _ w9 ⟨rfl, hb9⟩
      have Hb9 := Lib.hid (two_below' Hb8.out hb9)
      have SM := same_any (Inb.msgs (bks k1)) HFit1.out (by rw [← HQ5.out]; exact hq5) A5 A8 c5 c8 w9 (EnsAt.mono (EnsAt.below HE5.out hb9) hb9.size) (EnsAt.mono (EnsAt.below HE8.out hb9) hb9.size)
      rw [← HQ5.out] at SM
      have HSM := Lib.hid SM
      clear SM hb9
      go_wp2_with fail
      refine HSM.out.mono ?_
      rintro _ w10 ⟨rfl, hb10⟩
      have Hb10 := Lib.hid (two_below' Hb9.out hb10)
      clear hb10
      go_wp2_with fail
      go_ret
      exact ⟨rfl, Hb10.out⟩
    · skip
      obtain ⟨k1, hk1⟩ : ∃ k1, k1 = l1 := ⟨_, rfl⟩
      obtain ⟨n1, hn1⟩ : ∃ n1, n1 = l1.length := ⟨_, rfl⟩
      have hL1 : n1 = k1.length := by rw [hk1]; exact hn1
      have hI1 : BvIn w w.heap.size A1 c1 k1 := by rw [hk1]; exact h1
      have hF1 : ∀ x ∈ k1, x.Fits := by rw [hk1]; exact f1
      have ht1 : Inb.tot (bks k1) ≤ Inb.tot (bks l1) := by rw [hk1]; exact Nat.le_refl _
      have d1 : decide ((30 : Int) < (l1.length : Int)) = false := by simp; omega
      have hn301 : n1 ≤ 30 := by omega
      obtain ⟨k2, hk2⟩ : ∃ k2, k2 = l2 := ⟨_, rfl⟩
      obtain ⟨n2, hn2⟩ : ∃ n2, n2 = l2.length := ⟨_, rfl⟩
      have hL2 : n2 = k2.length := by rw [hk2]; exact hn2
      have hI2 : BvIn w w.heap.size A2 c2 k2 := by rw [hk2]; exact h2
      have hF2 : ∀ x ∈ k2, x.Fits := by rw [hk2]; exact f2
      have ht2 : Inb.tot (bks k2) ≤ Inb.tot (bks l2) := by rw [hk2]; exact Nat.le_refl _
      have d2 : decide ((30 : Int) < (l2.length : Int)) = false := by simp; omega
      have hn302 : n2 ≤ 30 := by omega
      have HL1 := Lib.hid hL1
      have HL2 := Lib.hid hL2
      have H1 := Lib.hid hI1
      have H2 := Lib.hid hI2
      have HF1 := Lib.hid hF1
      have HF2 := Lib.hid hF2
      have Htot : Hid (Inb.tot (bks k1) + Inb.tot (bks k2) ≤ 3000000) := Lib.hid (by omega)
      have hg := Inb.good_run (bks_num hF1)
      have HAcc : Hid (∀ e ∈ Inb.msgs (bks k1), e.acc.length = 32) := Lib.hid (fun e he => (hg.2.1 e he).1.1)
      have HFit1 : Hid (∀ e ∈ Inb.msgs (bks k1), e.Fits) := Lib.hid (fun e he => (hg.2.1 e he).1)
      have M1 := Lib.hid (fun W (hW : Below w.heap.size w W) => messages_any A1 c1 (bks k1) W (((BvsAt.bks hI1.1 hF1).below hW).mono hW.size) (by rw [bks_len]; omega) (by omega) (hT.below hW hT.pos))
      rw [bks_len, ← hL1] at M1
      rw [← hn1] at d1 ⊢
      rw [← hn2] at d2 ⊢
      clear hI1 hI2 hF1 hF2 ht1 ht2 h1 h2 f1 f2 htot hT hg hL1 hL2 hk1 hk2 hn1 hn2
      go_enter Tryd.func11, Tryd.ntmps11
      go_wp2_with fail
      clear d1 d2
      refine (M1.out _ (Below.refl _ _)).mono ?_
      rintro _ w5 ⟨⟨v5, rfl, ho5⟩, hb5⟩
      obtain ⟨A5, c5, rfl⟩ := own_form12 ho5
      have Ho5 := Lib.hid ho5
      have Hb5 := Lib.hid hb5
      have hown0 : (w5.alloc (.cells #[] 45)).ownsRow w.heap.size 45 35 (.slice (some ⟨w5.heap.size, 0, none⟩) 0 0) 0 [] := ⟨rfl, .inr ⟨w5.heap.size, 0, #[], rfl, hb5.size, heap_alloc_new _ _, Nat.le_refl _, Nat.zero_le _, rfl, rfl⟩⟩
      have hb5a := hb5.alloc hb5.size (.cells #[] 45)
      have Hown0 := Lib.hid hown0
      have Hb5a := Lib.hid hb5a
      have hz5 : w.heap.size ≤ (w5.alloc (.cells #[] 45)).heap.size := hb5a.size
      have hq5 := (ens_len ho5).2
      obtain ⟨q5, hq5e⟩ : ∃ q5, q5 = (Inb.msgs (bks k1)).length := ⟨_, rfl⟩
      rw [← hq5e] at hq5 ⊢
      have HQ5 := Lib.hid hq5e
      clear ho5 hb5 hown0 hb5a hq5e
      go_wp2_with (first
      | (at_builtin
         refine wpList_append_blocks rfl (.tmp 19) (.tmp 20) rfl w.heap.size (.slice (some ⟨w5.heap.size, 0, none⟩) 0 0) 0 [] rfl Hown0.out w.heap.size A1 c1 k1 n1 HL1.out rfl (H1.out.below Hb5a.out) HF1.out (by omega) hz5 ?_
         intro v6 w6 ho6 hg6
         have Ho6 := Lib.hid ho6
         have Hb6 := Lib.hid (below_row Hb5a.out hz5 Hown0.out hg6)
         have Hk6 := Lib.hid ((Ho5.out.alloc (.cells #[] 45)).kept hg6 (own_ne_own (Ho5.out.alloc (.cells #[] 45)) Hown0.out (by decide)))
         have hz6 : w.heap.size ≤ w6.heap.size := Hb6.out.size
         clear ho6 hg6)
      | (at_builtin
         refine wpList_append_blocks rfl (.tmp 21) (.tmp 22) rfl w.heap.size v6 (0 + n1) ([] ++ Bv.flat k1) rfl Ho6.out w.heap.size A2 c2 k2 n2 HL2.out rfl (H2.out.below Hb6.out) HF2.out (by omega) hz6 ?_
         intro v7 w7 ho7 hg7
         have Ho7 := Lib.hid ho7
         have Hb7 := Lib.hid (below_row Hb6.out hz6 Ho6.out hg7)
         have Hk7 := Lib.hid (Hk6.out.kept hg7 (own_ne_own Hk6.out Ho6.out (by decide)))
         clear ho7 hg7))
      obtain ⟨A7, c7, rfl⟩ := own_form12 Ho7.out
      have hlen7 : 0 + n1 + n2 = (k1 ++ k2).length := by rw [List.length_append]; have := HL1.out; have := HL2.out; omega
      have hB7 : BvsAt w7 w7.heap.size A7 (k1 ++ k2) := bvs_own (n := 0 + n1 + n2) (c := c7) (by rw [Bv.flat_append]; exact Ho7.out) (fun x hx => by
        rcases List.mem_append.1 hx with hx | hx
        · exact HF1.out x hx
        · exact HF2.out x hx) hlen7 rfl (fun x hx => by
        rcases List.mem_append.1 hx with hx | hx
        · have := items_of H1.out.1 x hx
          exact ⟨(this.1.below Hb7.out).mono Hb7.out.size, this.2⟩
        · have := items_of H2.out.1 x hx
          exact ⟨(this.1.below Hb7.out).mono Hb7.out.size, this.2⟩)
      have hFit : ∀ x ∈ k1 ++ k2, x.Fits := fun x hx => by
        rcases List.mem_append.1 hx with hx | hx
        · exact HF1.out x hx
        · exact HF2.out x hx
      have M7 := messages_any A7 c7 (bks (k1 ++ k2)) w7 (hB7.bks hFit) (by rw [bks_len, ← hlen7]; omega) (by rw [bks_append, tot_append]; exact Htot.out) (HT.out.below Hb7.out HT.out.pos)
      rw [bks_len, ← hlen7] at M7
      have M7 := Lib.hid M7
      have hg8 := Inb.good_run (bks_num hFit)
      have hpre : Inb.msgs (bks k1) <+: Inb.msgs (bks (k1 ++ k2)) := by rw [bks_append]; exact Inb.msgs_grow _ _
      have HPre := Lib.hid hpre
      have HAcc8 : Hid (∀ e ∈ Inb.msgs (bks (k1 ++ k2)), e.acc.length = 32) := Lib.hid (fun e he => (hg8.2.1 e he).1.1)
      clear hB7 hFit hlen7 hg8 hpre
      refine M7.out.mono ?_
      rintro _ w8 ⟨⟨v8, rfl, ho8⟩, hb8⟩
      obtain ⟨A8, c8, rfl⟩ := own_form12 ho8
      have hle := HPre.out.length_le
      have hc8 := (ens_len ho8).1
      have hE8 := ens_own ho8 HAcc8.out rfl
      have hE8b : ListAt 35 EnR w8 w8.heap.size A8 (Inb.msgs (bks k1)) := by
        rw [List.prefix_iff_eq_take.1 HPre.out]
        exact ListAt.take hE8 _
      have hE5 := ens_own (own_below Hk7.out hb8) HAcc.out rfl
      have HE8 := Lib.hid hE8b
      have HE5 := Lib.hid hE5
      have Hb8 := Lib.hid (two_below' Hb7.out hb8)
      have hsl := fun W => sliceHead A8 (Inb.msgs (bks (k1 ++ k2))).length q5 c8 (by have := HQ5.out; omega) W
      obtain ⟨q8, hq8⟩ : ∃ q8, q8 = (Inb.msgs (bks (k1 ++ k2))).length := ⟨_, rfl⟩
      rw [← HQ5.out] at hle
      rw [← hq8] at hsl hle ⊢
      have hle2 : (q5 : Int) ≤ (q8 : Int) := by omega
      clear hq8 ho8 hb8 hE8 hE8b hE5 hc8
      go_wp2_with fail
      refine (AW.out _ Hb8.out).mono ?_
      rintro _ w9 ⟨rfl, hb9⟩
      have Hb9 := Lib.hid (two_below' Hb8.out hb9)
      have SM := same_any (Inb.msgs (bks k1)) HFit1.out (by rw [← HQ5.out]; exact hq5) A5 A8 c5 c8 w9 (EnsAt.mono (EnsAt.below HE5.out hb9) hb9.size) (EnsAt.mono (EnsAt.below HE8.out hb9) hb9.size)
      rw [← HQ5.out] at SM
      have HSM := Lib.hid SM
      clear SM hb9
      go_wp2_with fail
      refine HSM.out.mono ?_
      rintro _ w10 ⟨rfl, hb10⟩
      have Hb10 := Lib.hid (two_below' Hb9.out hb10)
      clear hb10
      go_wp2_with fail
      go_ret
      exact ⟨rfl, Hb10.out⟩
end Go.Proofs.YtjeooegkfjlejaaDoor
