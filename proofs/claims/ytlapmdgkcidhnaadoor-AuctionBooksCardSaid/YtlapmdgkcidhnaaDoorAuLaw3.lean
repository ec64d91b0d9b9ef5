/- AuctionOrders. -/
import Derived.Test.YtlapmdgkcidhnaaDoorAuOpen
namespace Go.Proofs.YtlapmdgkcidhnaaDoor
open Go.RowKit
set_option linter.unusedVariables false
set_option linter.unusedSimpArgs false
set_option maxRecDepth 100000

theorem wp_append_nil15 {P : Program} {o : Oper} {a : Act} {w : World} {K : Act → World → Prop} {Q : Exit → Act → World → Prop} (s x : Operand) (t e : TypeId) (i : TypeInfo) (ho : o.op = .call { callee := .builtin .append, args := #[s, x], argTypes := #[t, t] })
    (ht : P.underlying t = some (.slice e)) (hi : P.info? e = some i) (g n c : Nat) (hnc : n ≤ c) (k : Nat) (hs : a.eval s = .slice (some ⟨g, 0, none⟩) n c) (hx : a.eval x = .slice none 0 k) (hK : K (a.put o.dst (.slice (some ⟨g, 0, none⟩) n c)) w) : o.wp P a w K Q := by
  have hr : (Builtin.append_ #[t, t] o.type #[.slice (some ⟨g, 0, none⟩) n c, .slice none 0 k]).run P w = .ok (.slice (some ⟨g, 0, none⟩) n c) w := by
    simp [Builtin.append_, run_underlying ht, sizeOf, typeInfo, hi, Builtin.lenOf, Builtin.firstCells, hnc, storeCells]
  unfold Oper.wp execOp
  simp only [ho, resolve, invoke, builtin, Sem.run_bind, Sem.run_pure, Result.andThen_ok, List.map_toArray, List.map_cons, List.map_nil, hs, hx, hr]
  exact hK
/-- a list turned round: what lies n places on, the last first -/
def Au.turn (X : Nat → Bd) (m n : Nat) : Nat → List Bd
  | 0 => []
  | i + 1 => X ((i + n) % m) :: Au.turn X m n i
theorem Au.turn_eq (X : Nat → Bd) (m n : Nat) : ∀ i, Au.turn X m n i = ((List.range i).map fun j => X ((j + n) % m)).reverse
  | 0 => rfl
  | i + 1 => by
    rw [List.range_succ, List.map_append, List.reverse_append, ← Au.turn_eq X m n i]
    rfl
theorem Au.turn_len (X : Nat → Bd) (m n i : Nat) : (Au.turn X m n i).length = i := by rw [Au.turn_eq]; simp
theorem Au.turn_perm (L : List Bd) (n : Nat) (hn : n < L.length) : L.Perm (Au.turn (fun k => L.getD k Bd.zero) L.length n L.length) := by
  rw [Au.turn_eq]
  have e : (List.range L.length).map (fun j => L.getD ((j + n) % L.length) Bd.zero) = L.drop n ++ L.take n := by
    apply List.ext_getElem
    · simp; omega
    · intro i h1 h2
      have hi : i < L.length := by simpa using h1
      simp only [List.getElem_map, List.getElem_range]
      by_cases h : i + n < L.length
      · rw [Nat.mod_eq_of_lt h, List.getElem_append_left (by simp; omega), List.getElem_drop, List.getD_eq_getElem?_getD, List.getElem?_eq_getElem h]
        simp [Nat.add_comm]
      · have e2 : (i + n) % L.length = i + n - L.length := by rw [Nat.mod_eq_sub_mod (by omega), Nat.mod_eq_of_lt (by omega)]
        rw [e2, List.getElem_append_right (by simp; omega), List.getElem_take, List.getD_eq_getElem?_getD, List.getElem?_eq_getElem (by omega)]
        simp only [List.length_drop, Option.getD_some]
        congr 1
        omega
  rw [e]
  exact ((List.perm_append_comm (l₁ := L.take n) (l₂ := L.drop n)).symm.trans (by rw [List.take_append_drop])).symm.trans (List.reverse_perm _).symm
theorem Au.apart_of {L : List Bd} (h : ∀ a, a < L.length → ∀ b, b < a → (L.getD a Bd.zero).who ≠ (L.getD b Bd.zero).who) : L.Pairwise fun x y => x.who ≠ y.who := by
  rw [List.pairwise_iff_getElem]
  intro i j hi hj hij
  have := h j hj i hij
  rw [List.getD_eq_getElem?_getD, List.getD_eq_getElem?_getD, List.getElem?_eq_getElem hj, List.getElem?_eq_getElem hi] at this
  exact fun e => this e.symm
theorem Au.txt_inj {x y : Bd} (hx : x.Fits) (hy : y.Fits) (kx : x.check = 0) (ky : y.check = 0) (h : Au.txt x = Au.txt y) : x = y := by
  obtain ⟨s, hs⟩ := Bd.text_ok (Au.ok_of_check kx) hx.tag
  obtain ⟨t, ht⟩ := Bd.text_ok (Au.ok_of_check ky) hy.tag
  have e : s = t := by
    unfold Au.txt at h
    rw [hs, ht] at h
    exact h
  have h1 := Bd.read_text hx.tag hs
  have h2 := Bd.read_text hy.tag ht
  rw [e, h2] at h1
  injection h1 with h1
  exact h1.symm
theorem Au.winB_perm {F : List Int} {rd fl : Int} {L L' : List Bd} (hf : ∀ x ∈ L, x.Fits) (hp : L.Perm L') (hd : L.Pairwise fun x y => x.who ≠ y.who) : Au.winB F rd fl L = Au.winB F rd fl L' := by
  have hd' : L'.Pairwise fun x y => x.who ≠ y.who := hp.pairwise hd (fun h e => h e.symm)
  unfold Au.winB Au.cnt
  cases h1 : Au.win Bd.amount Au.sum Au.txt Bd.zero fl (Au.counts (Au.okB F rd fl) Bd.who L) with
  | none =>
    rw [Au.win_none] at h1
    symm
    rw [Au.win_none]
    refine List.eq_nil_iff_forall_not_mem.2 fun x hx => ?_
    rw [Au.counts_all hd', List.mem_filter, ← hp.mem_iff, ← List.mem_filter, ← Au.counts_all hd, h1] at hx
    cases hx
  | some w1 =>
    have hm : ∀ x, x ∈ Au.counts (Au.okB F rd fl) Bd.who L ↔ x ∈ Au.counts (Au.okB F rd fl) Bd.who L' := fun x => by
      rw [Au.counts_all hd, Au.counts_all hd', List.mem_filter, List.mem_filter, hp.mem_iff]
    obtain ⟨x, p⟩ := w1
    have k1 := Au.win_won (fun x hx => (Au.okB_low (Au.counts_mem hx).2).2) (Au.nodup_of (Au.counts_apart _ Bd.who L)) h1
    cases h2 : Au.win Bd.amount Au.sum Au.txt Bd.zero fl (Au.counts (Au.okB F rd fl) Bd.who L') with
    | none =>
      rw [Au.win_none] at h2
      have hx := k1.mem
      rw [hm, h2] at hx
      cases hx
    | some w2 =>
      obtain ⟨y, q⟩ := w2
      have k2 := Au.win_won (fun x hx => (Au.okB_low (Au.counts_mem hx).2).2) (Au.nodup_of (Au.counts_apart _ Bd.who L')) h2
      obtain ⟨rfl, rfl⟩ := k1.unique hm (fun x hx y hy => Au.txt_inj (hf x (Au.counts_mem hx).1) (hf y (Au.counts_mem hy).1) (Au.okB_low (Au.counts_mem hx).2).1 (Au.okB_low (Au.counts_mem hy).2).1) k2
      rfl
set_option maxHeartbeats 6400000 in
theorem auctionOrders_any (hRS : RefSum) (A : Option Addr) (c : Nat) (l : List Bd) (A2 : Option Addr) (c2 : Nat) (F : List Int) (rd fl : Int) (by_ : Int) (hby : 0 ≤ by_ ∧ by_ ≤ 255) (w : World) (hC : CaseIn w A c l A2 F rd fl) (hT : Tab w) :
    Calls Tryd.prog 5 #[.agg #[.slice A l.length c, .slice A2 F.length c2, .int .i64 rd, .int .i64 fl], .int .u8 by_] w fun e w' => e = .returned (.bool true) ∧ Below w.heap.size w w' := by
  obtain ⟨i0, hi, h2⟩ := Option.map_eq_some_iff.1 bd_info15
  simp only [Prod.mk.injEq] at h2
  have Hi := Lib.hid hi
  have Hz := Lib.hid h2.1
  have Hsz := Lib.hid h2.2.1
  have Hby := Lib.hid h2.2.2
  clear hi h2
  have hlt : (l.take 80).length ≤ 1000000 := by rw [List.length_take]; omega
  have HFit := Lib.hid (show ∀ b ∈ l.take 80, b.Fits from fun b hb => hC.fits b (List.mem_of_mem_take hb))
  have HP := Lib.hid hT.pos
  have HT := Lib.hid hT
  have FE : Hid (∀ W, Calls Tryd.prog 13 #[.slice A l.length c] W fun e w' => e = .returned (.slice A (l.take 80).length c) ∧ W = w') := Lib.hid (fun W => few15_any A c l W hC.len hC.cap)
  have WN : Hid (∀ W, Below w.heap.size w W → Calls Tryd.prog 14 #[.slice A (l.take 80).length c, .slice A2 F.length c2, .int .i64 rd, .int .i64 fl] W fun e w' => e = .returned (Au.winV (Au.winB F rd fl (l.take 80))) ∧ Below W.heap.size W w') :=
    Lib.hid (fun W hW => win_any (l.take 80) (fun b hb => (HFit.out b hb).tag) A c F A2 c2 rd fl W (((hC.bids.take 80).below hW).mono hW.size) hlt ((hC.funds.below hW).mono hW.size) hC.flen (HT.out.below hW HP.out))
  have RW : Hid (∀ W, Below w.heap.size w W → Calls Tryd.prog 15 #[.slice A (l.take 80).length c, .slice A2 F.length c2, .int .i64 rd, .int .i64 fl] W fun e w' => e = .returned (Au.winV (Au.winB F rd fl (l.take 80))) ∧ Below W.heap.size W w') :=
    Lib.hid (fun W hW => rwin_any hRS (l.take 80) HFit.out A c F A2 c2 rd fl W (((hC.bids.take 80).below hW).mono hW.size) hlt ((hC.funds.below hW).mono hW.size) hC.flen)
  have RC : Hid (∀ W, Below w.heap.size w W → Calls Tryd.prog 17 #[.slice A (l.take 80).length c, .slice A2 F.length c2, .int .i64 rd, .int .i64 fl] W fun e w' => ∃ v, e = .returned v ∧ OwnL w' W.heap.size 30 36 Bd.cells v (Au.cnt F rd fl (l.take 80)) ∧ Below W.heap.size W w') :=
    Lib.hid (fun W hW => rcounts_any hRS (l.take 80) HFit.out A c F A2 c2 rd fl W (((hC.bids.take 80).below hW).mono hW.size) hlt ((hC.funds.below hW).mono hW.size) hC.flen)
  have AWK : Hid (∀ W, Below w.heap.size w W → Calls Tryd.prog 16 #[] W fun e w' => e = .returned (.bool true) ∧ Below W.heap.size W w') := Lib.hid (fun W hW => awake15_any hRS W (HT.out.below hW HP.out))
  have HFR := Lib.hid (Au.winB_fits (F := F) (r := rd) (fl := fl) HFit.out hC.floor)
  obtain ⟨R, hR⟩ : ∃ R, R = Au.winB F rd fl (l.take 80) := ⟨_, rfl⟩
  rw [← hR] at WN HFR
  obtain ⟨L, hL⟩ : ∃ L, L = l.take 80 := ⟨_, rfl⟩
  have hbd := hC.bids.take 80
  have hfn := hC.funds
  have hflen := hC.flen
  rw [← hL] at hbd hR HFit hlt FE WN
  have hL80 : L.length ≤ 80 := by rw [hL, List.length_take]; omega
  have WT : Hid (∀ (T : List Bd) (W : World) (v : Value), L.Perm T → (L.Pairwise fun x y => x.who ≠ y.who) → Below w.heap.size w W → OwnL W w.heap.size 30 36 Bd.cells v T → Calls Tryd.prog 14 #[v, .slice A2 F.length c2, .int .i64 rd, .int .i64 fl] W fun e w' => e = .returned (Au.winV R) ∧ Below W.heap.size W w') := Lib.hid (fun T W v hp hd hW ho => by
    obtain ⟨A3, c3, rfl, _, _⟩ := ho.form
    have hT32 : ∀ b ∈ T, b.tag.length = 32 := fun b hb => (HFit.out b (hp.mem_iff.2 hb)).tag
    have h0 := win_any T hT32 A3 c3 F A2 c2 rd fl W ((ho.lsAt (fun x hx => Bd.cells_len (hT32 x hx))).bds) (by rw [← hp.length_eq]; omega) ((hfn.below hW).mono hW.size) hflen (HT.out.below hW HP.out)
    rw [← Au.winB_perm HFit.out hp hd, ← hR] at h0
    exact h0)
  unfold Au.winV at WN WT
  clear hR hlt RC RW
  have HR37 := Lib.hid (Au.winC_len HFR.out)
  have HR1 := Lib.hid (Au.winC_one HFR.out)
  have HWS := Lib.hid (fun W => win_same W R HFR.out)
  have HZ37 := Lib.hid (Au.wc_len (b := Bd.zero) (p := 0) rfl)
  have hzw := win_zv
  have HZ36 := Lib.hid (Bd.cells_len (b := Bd.zero) rfl)
  generalize Au.wc Bd.zero 0 = ZW at *
  obtain ⟨m, hm⟩ : ∃ m, m = L.length := ⟨_, rfl⟩
  obtain ⟨X, hX⟩ : ∃ X : Nat → Bd, X = fun k => L.getD k Bd.zero := ⟨_, rfl⟩
  have hX2 : ∀ k, L.getD k Bd.zero = X k := fun k => by rw [hX]
  have HXF : Hid (∀ i, i < m → (X i).Fits) := Lib.hid (fun i hi => by rw [← hX2]; exact HFit.out _ (Au.getD_mem (by omega)))
  have HAt : Hid (∀ i, i < m → ∃ g off, A = some ⟨g, off, none⟩ ∧ g < w.heap.size ∧ ∀ k, k < m → w.rangeAt g (off + k * 36) (X k).cells) := Lib.hid (fun i hi => by
    obtain ⟨g, off, e, hg, ha⟩ := hbd (by intro e; rw [e] at hm; simp at hm; omega)
    refine ⟨g, off, e, hg, fun k hk => ?_⟩
    rw [← hX2, List.getD_eq_getElem?_getD, List.getElem?_eq_getElem (by omega)]
    exact ha k (by omega))
  have HAP : Hid ((∀ a, a < m → ∀ b, b < a → (X a).who ≠ (X b).who) → L.Pairwise fun x y => x.who ≠ y.who) := Lib.hid (fun h => Au.apart_of (fun a ha b hb => by simp only [hX2]; exact h a (by omega) b hb))
  have HPE : Hid (∀ n, n < m → L.Perm (Au.turn X m n m)) := Lib.hid (fun n hn => by
    have := Au.turn_perm L n (by omega)
    rw [← hm, ← hX] at this
    exact this)
  rw [← hm] at FE WN hL80
  generalize Au.winC R = CR at *
  generalize hb : R.isSome = bb at *
  generalize l.length = n0 at *
  generalize F.length = q at *
  generalize Bd.zero.cells = ZB at *
  clear hC hT hRS hm hb hL hbd hfn hflen hX hX2
  have hr0 := Row.new w 25 [.slice A m c, .slice A2 q c2, .int .i64 rd, .int .i64 fl]
  have Hb1 : Hid (Below w.heap.size w (w.alloc (.cells #[.slice A m c, .slice A2 q c2, .int .i64 rd, .int .i64 fl] 25))) := Lib.hid ((Below.refl _ _).alloc (Nat.le_refl _) _)
  have Hr1 := Lib.hid hr0
  clear hr0
  go_enter Tryd.func5, Tryd.ntmps5
  go_wp2_with fail
  refine (FE.out _).mono ?_
  rintro _ w1 ⟨rfl, rfl⟩
  clear FE
  go_wp2_with fail
  refine (AWK.out _ Hb1.out).mono ?_
  rintro _ w2 ⟨rfl, hb2⟩
  have HB2 : Hid (Blocks w w2 [(w.heap.size, 25, [.slice A m c, .slice A2 q c2, .int .i64 rd, .int .i64 fl])]) := Lib.hid (((Blocks.nil Hb1.out).cons Hr1.out).step hb2)
  clear hb2
  have cc := HB2.out.hd.cell 0 (by simp)
  simp only [List.getElem_cons_zero] at cc
  by_cases hm0 : m = 0
  · subst hm0
    go_wp2_with fail
    refine (AWK.out _ HB2.out.1).mono ?_
    rintro _ w3 ⟨rfl, hb3⟩
    have HB3 := Lib.hid (HB2.out.step hb3)
    clear hb3
    go_wp2_with fail
    go_ret
    exact ⟨rfl, HB3.out.1⟩
  have dm0 : ((m : Int) == 0) = false := by simp; omega
  have dm1 : (m == 0) = false := by simpa using hm0
  have Hm0 := Lib.hid hm0
  clear hm0
  go_wp2_with fail
  clear cc
  go_loopw [5] (fun s5 wr => ∃ i : Nat, i ≤ m ∧ s5 = .int .i64 i ∧ Hid (∀ a, a < i → ∀ b, b < a → (X a).who ≠ (X b).who) ∧ Hid (Below w2.heap.size w2 wr)) (fun i _ => m - (intOf i).toNat)
  case atStart => exact ⟨0, Nat.zero_le _, rfl, Lib.hid (fun a ha => by omega), Lib.hid (Below.refl _ _)⟩
  case round =>
    obtain ⟨i, him, rfl, HD, Hbr⟩ := hrel
    have HB := Lib.hid (HB2.out.step Hbr.out)
    have cc := HB.out.hd.cell 0 (by simp)
    simp only [List.getElem_cons_zero] at cc
    generalize wr = wo at *
    by_cases hin : i < m
    · have hini : (i : Int) < (m : Int) := by omega
      have hi0 : (0 : Int) ≤ (i : Int) := by omega
      obtain ⟨g, off, rfl, hg, hat⟩ := HAt.out i hin
      have HAT : Hid (∀ k, k < m → ∀ W, Below w.heap.size w W → W.cell? ⟨g, off + k * 36 + 1, none⟩ = some (.int .i64 (X k).who)) := Lib.hid (fun k hk W hW => (hW.cell (p := ⟨g, off + k * 36 + 1, none⟩) hg).trans (hat k hk 1 _ rfl))
      clear hat
      go_wp2_with fail
      clear cc
      go_loopw [6] (fun s6 wr => ∃ k : Nat, k ≤ i ∧ s6 = .int .i64 k ∧ Hid (∀ b, b < k → (X i).who ≠ (X b).who) ∧ Hid (Below wo.heap.size wo wr)) (fun k _ => i - (intOf k).toNat)
      case atStart => exact ⟨0, Nat.zero_le _, rfl, Lib.hid (fun b hb => by omega), Lib.hid (Below.refl _ _)⟩
      case round =>
        obtain ⟨k, hki, rfl, HDk, Hbk⟩ := hrel
        have HBk := Lib.hid (HB.out.step Hbk.out)
        by_cases hkn : k < i
        · have hkni : (k : Int) < (i : Int) := by omega
          have hk0 : (0 : Int) ≤ (k : Int) := by omega
          have hkm : (k : Int) < (m : Int) := by omega
          have hkmN : k < m := by omega
          have cc := HBk.out.hd.cell 0 (by simp)
          simp only [List.getElem_cons_zero] at cc
          have y1 := HAT.out i hin _ HBk.out.1
          have y2 := HAT.out k hkmN _ HBk.out.1
          cases hee : ((X i).who == (X k).who) with
          | true =>
            generalize (X i).who = wi at *
            generalize (X k).who = wk at *
            go_wp2_with fail
            go_quiet (fail)
            go_wp2_with fail
            go_ret
            exact ⟨rfl, below_drewN' HBk.out.1 _⟩
          | false =>
            have hne : (X i).who ≠ (X k).who := by simpa using hee
            have HDn : Hid (∀ b, b < k + 1 → (X i).who ≠ (X b).who) := Lib.hid (fun b hb => by
              by_cases e : b = k
              · subst e; exact hne
              · exact HDk.out b (by omega))
            clear hne HDk
            generalize hxi : (X i).who = wi at *
            generalize hxk : (X k).who = wk at *
            clear hxi hxk
            go_wp2_with fail
            go_quiet (fail)
            go_wp2_with fail
            exact ⟨⟨k + 1, by omega, by go_num, HDn, Lib.hid (below_drewN' Hbk.out _)⟩, by simp [intOf]; omega⟩
        · have hkni : ¬ (k : Int) < (i : Int) := by omega
          have e : k = i := by omega
          subst e
          have HDn : Hid (∀ a, a < k + 1 → ∀ b, b < a → (X a).who ≠ (X b).who) := Lib.hid (fun a ha b hb => by
            by_cases e : a = k
            · subst e; exact HDk.out b hb
            · exact HD.out a (by omega) b hb)
          go_wp2_with fail
          exact ⟨⟨k + 1, by omega, by go_num, HDn, Lib.hid (two_below' Hbr.out Hbk.out)⟩, by simp [intOf]; omega⟩
    · have hini : ¬ (i : Int) < (m : Int) := by omega
      have e : i = m := by omega
      subst e
      have HDa := Lib.hid (HAP.out HD.out)
      have hmpos : 0 < i := by have := Hm0.out; omega
      obtain ⟨nn, hnn⟩ : ∃ nn : Nat, by_ % (i : Int) = (nn : Int) := ⟨(by_ % (i : Int)).toNat, by have := Int.emod_nonneg by_ (b := (i : Int)) (by omega); omega⟩
      have hnl : nn < i := by have := Int.emod_lt_of_pos by_ (b := (i : Int)) (by omega); omega
      have hrem : Int.tmod by_ (i : Int) = (nn : Int) := by rw [Int.tmod_eq_emod_of_nonneg hby.1]; exact hnn
      have HPe := Lib.hid (HPE.out nn hnl)
      have HTl := Lib.hid (fun j => Au.turn_len X i nn j)
      have HTS : Hid (∀ j, Au.turn X i nn (j + 1) = X ((j + nn) % i) :: Au.turn X i nn j) := Lib.hid (fun j => rfl)
      have HTZ : Hid (Au.turn X i nn 0 = []) := Lib.hid rfl
      have HTm : Hid (∀ j, ∀ x ∈ Au.turn X i nn j, x.Fits) := Lib.hid (fun j x hx => by
        rw [Au.turn_eq] at hx
        obtain ⟨k, _, rfl⟩ := List.mem_map.1 (List.mem_reverse.1 hx)
        exact HXF.out _ (Nat.mod_lt _ hmpos))
      generalize Au.turn X i nn = TT at *
      have hi63 : ¬ (i : Int) = 0 := by omega
      have di63 : ((i : Int) == 0) = false := by simpa using hi63
      go_wp2_with fail
      clear hrem hnn cc
      generalize i = m at *
      go_loopw [8, 9] (fun s8 s9 wr => ∃ (v : Value) (i : Nat), i ≤ m ∧ v = s8 ∧ s9 = .int .i64 i ∧ Hid (OwnL wr w.heap.size 30 36 Bd.cells v (TT i)) ∧ Hid (i = 0 → v = .slice none 0 0) ∧ Hid (Blocks w wr [(w.heap.size, 25, [.slice A m c, .slice A2 q c2, .int .i64 rd, .int .i64 fl])])) (fun _ i _ => m - (intOf i).toNat)
      case atStart => exact ⟨_, 0, Nat.zero_le _, rfl, rfl, Lib.hid (by rw [HTZ.out]; exact OwnL.nil _ _ _ _ _), Lib.hid (fun _ => rfl), HB⟩
      case round =>
        obtain ⟨v, i, him, rfl, rfl, HO, HZV, HBn⟩ := hrel
        clear HB
        have HB := HBn
        clear HBn
        have cc := HB.out.hd.cell 0 (by simp)
        simp only [List.getElem_cons_zero] at cc
        by_cases hin : i < m
        · have hini : (i : Int) < (m : Int) := by omega
          have hi0 : (0 : Int) ≤ (i : Int) := by omega
          obtain ⟨g, off, rfl, hg, hat⟩ := HAt.out i hin
          obtain ⟨jj, hjj⟩ : ∃ jj, jj = (i + nn) % m := ⟨_, rfl⟩
          have hjm0 : jj < m := by rw [hjj]; exact Nat.mod_lt _ hmpos
          have hjm : Hid (jj < m) := Lib.hid hjm0
          have hjmi : Hid ((jj : Int) < (m : Int) ∧ (0 : Int) ≤ (jj : Int)) := Lib.hid ⟨by omega, by omega⟩
          have hremJ : Hid (Int.tmod ((i : Int) + (nn : Int)) (m : Int) = (jj : Int) ∧ ((i : Int) + (nn : Int)) % (m : Int) = (jj : Int)) := Lib.hid ⟨by rw [Int.tmod_eq_emod_of_nonneg (by omega), hjj]; rfl, by rw [hjj]; rfl⟩
          have hwr : Hid (IntKind.i64.wrap ((i : Int) + (nn : Int)) = (i : Int) + (nn : Int)) := Lib.hid (IntWalk.i64_in _ (by omega))
          have hm0N : Hid (¬ m = 0) := Lib.hid (by omega)
          have hmne : Hid (((m : Int) == 0) = false ∧ ¬ (m : Int) = 0) := Lib.hid ⟨di63, hi63⟩
          have HTs : Hid (TT (i + 1) = X jj :: TT i) := Lib.hid (by rw [hjj]; exact HTS.out i)
          have HRj : Hid (∀ W, Below w.heap.size w W → W.rangeAt g (off + jj * 36) (X jj).cells) := Lib.hid (fun W hW k u hu => (hW.cell (p := ⟨g, off + jj * 36 + k, none⟩) hg).trans (hat jj hjm0 k u hu))
          have HK36 := Lib.hid (Bd.cells_len (HXF.out jj hjm0).tag)
          obtain ⟨CK, hCK⟩ : ∃ CK, (X jj).cells = CK := ⟨_, rfl⟩
          have HCK := Lib.hid hCK
          rw [hCK] at HRj HK36
          have hsum : (i : Int) + (nn : Int) ≤ 1000 := by omega
          clear hCK hat hjj hjm0
          by_cases hz : i = 0
          · have HT0 : Hid (TT i = []) := Lib.hid (by rw [hz]; exact HTZ.out)
            have hv0 := HZV.out hz
            subst hv0
            clear hz
            go_wp2_with fail
            clear cc
            refine wp_region_held_drew (S := fun w' => Row w' w.heap.size 25 [.slice (some ⟨g, off, none⟩) m c, .slice A2 q c2, .int .i64 rd, .int .i64 fl] ∧ Below w.heap.size w w') (by kernel_rfl) (⟨HB.out.hd.kept (grownBy_drew _ none) (by simp), HB.out.1.drew⟩) (fun hHeld => ?_)
            have HOq := Lib.hid (HO.out.kept (grownBy_drew wr none) (.inl rfl))
            generalize wr.drew = wq at *
            refine wpAnyH_take (i := 0) (v := .pointer (some ⟨w.heap.size, 0, none⟩)) rfl (by kernel_rfl) (by kernel_rfl) (by kernel_rfl) (fun _ _ _ h => h) (Or.inl ⟨by rfl, fun w' hSw => by go_simp⟩) hHeld ?_
            try simp only [Act.put, List.getElem_toArray, List.getElem_cons_succ, List.getElem_cons_zero, List.setIfInBounds_toArray, List.set_cons_zero, List.set_cons_succ]
            refine wpAnyH_take (i := 1) (v := .slice (some ⟨g, off, none⟩) m c) rfl (by kernel_rfl) (by kernel_rfl) (by kernel_rfl) (fun _ _ _ h => h) (Or.inl ⟨by rfl, fun w' hSw => by have hq := hSw; have q := hq.1.cell 0 (by simp); simp only [List.getElem_cons_zero] at q; go_simp⟩) hHeld ?_
            try simp only [Act.put, List.getElem_toArray, List.getElem_cons_succ, List.getElem_cons_zero, List.setIfInBounds_toArray, List.set_cons_zero, List.set_cons_succ]
            refine wpAnyH_take (i := 2) (v := .int .i64 i) rfl (by kernel_rfl) (by kernel_rfl) (by kernel_rfl) (fun _ _ _ h => h) (Or.inl ⟨by rfl, fun w' hSw => by go_simp⟩) hHeld ?_
            try simp only [Act.put, List.getElem_toArray, List.getElem_cons_succ, List.getElem_cons_zero, List.setIfInBounds_toArray, List.set_cons_zero, List.set_cons_succ]
            refine wpAnyH_take (i := 3) (v := .int .i64 nn) rfl (by kernel_rfl) (by kernel_rfl) (by kernel_rfl) (fun _ _ _ h => h) (Or.inl ⟨by rfl, fun w' hSw => by go_simp⟩) hHeld ?_
            try simp only [Act.put, List.getElem_toArray, List.getElem_cons_succ, List.getElem_cons_zero, List.setIfInBounds_toArray, List.set_cons_zero, List.set_cons_succ]
            refine wpAnyH_take (i := 4) (v := .int .i64 ((i : Int) + (nn : Int))) rfl (by kernel_rfl) (by kernel_rfl) (by kernel_rfl) (fun _ _ _ h => h) (Or.inl ⟨by rfl, fun w' hSw => by have hq := hSw; have q2 := hwr.out; go_simp⟩) hHeld ?_
            try simp only [Act.put, List.getElem_toArray, List.getElem_cons_succ, List.getElem_cons_zero, List.setIfInBounds_toArray, List.set_cons_zero, List.set_cons_succ]
            refine wpAnyH_take (i := 5) (v := .pointer (some ⟨w.heap.size, 0, none⟩)) rfl (by kernel_rfl) (by kernel_rfl) (by kernel_rfl) (fun _ _ _ h => h) (Or.inl ⟨by rfl, fun w' hSw => by go_simp⟩) hHeld ?_
            try simp only [Act.put, List.getElem_toArray, List.getElem_cons_succ, List.getElem_cons_zero, List.setIfInBounds_toArray, List.set_cons_zero, List.set_cons_succ]
            refine wpAnyH_take (i := 6) (v := .slice (some ⟨g, off, none⟩) m c) rfl (by kernel_rfl) (by kernel_rfl) (by kernel_rfl) (fun _ _ _ h => h) (Or.inl ⟨by rfl, fun w' hSw => by have hq := hSw; have q := hq.1.cell 0 (by simp); simp only [List.getElem_cons_zero] at q; go_simp⟩) hHeld ?_
            try simp only [Act.put, List.getElem_toArray, List.getElem_cons_succ, List.getElem_cons_zero, List.setIfInBounds_toArray, List.set_cons_zero, List.set_cons_succ]
            refine wpAnyH_take (i := 7) (v := .int .i64 m) rfl (by kernel_rfl) (by kernel_rfl) (by kernel_rfl) (fun _ _ _ h => h) (Or.inl ⟨by rfl, fun w' hSw => by go_simp⟩) hHeld ?_
            try simp only [Act.put, List.getElem_toArray, List.getElem_cons_succ, List.getElem_cons_zero, List.setIfInBounds_toArray, List.set_cons_zero, List.set_cons_succ]
            refine wpAnyH_take (i := 8) (v := .int .i64 jj) rfl (by kernel_rfl) (by kernel_rfl) (by kernel_rfl) (fun _ _ _ h => h) (Or.inl ⟨by rfl, fun w' hSw => by have hq := hSw; have q2 := hremJ.out; have q3 := hmne.out; have q4 := hm0N.out; go_simp⟩) hHeld ?_
            try simp only [Act.put, List.getElem_toArray, List.getElem_cons_succ, List.getElem_cons_zero, List.setIfInBounds_toArray, List.set_cons_zero, List.set_cons_succ]
            refine wpAnyH_take (i := 9) (v := .pointer (some ⟨g, (off + jj * 36), none⟩)) rfl (by kernel_rfl) (by kernel_rfl) (by kernel_rfl) (fun _ _ _ h => h) (Or.inl ⟨by rfl, fun w' hSw => by have hq := hSw; have q2 := hjmi.out; have q3 := hjm.out; go_simp⟩) hHeld ?_
            try simp only [Act.put, List.getElem_toArray, List.getElem_cons_succ, List.getElem_cons_zero, List.setIfInBounds_toArray, List.set_cons_zero, List.set_cons_succ]
            refine' wpAnyH_take (i := 10) (v := _) rfl (by kernel_rfl) (by kernel_rfl) (by kernel_rfl) (fun _ _ _ h => h) (yieldsIf_load_mid (by rfl) _ _ rfl g (off + jj * 36) rfl CK _ (fun w' hSw => HRj.out _ hSw.2) Tryd.underlying30 rfl (by rw [bid_info, HK36.out])) hHeld ?_
            try simp only [Act.put, List.getElem_toArray, List.getElem_cons_succ, List.getElem_cons_zero, List.setIfInBounds_toArray, List.set_cons_zero, List.set_cons_succ]
            refine wpAnyH_take (i := 12) (v := .slice none 0 0) rfl (by kernel_rfl) (by kernel_rfl) (by kernel_rfl) (fun _ _ _ h => h) (Or.inl ⟨by rfl, fun w' hSw => by go_simp⟩) hHeld ?_
            try simp only [Act.put, List.getElem_toArray, List.getElem_cons_succ, List.getElem_cons_zero, List.setIfInBounds_toArray, List.set_cons_zero, List.set_cons_succ]
            refine wpAnyH_ready (rs := [11]) (by kernel_rfl) (by simp) (AllReadyH.cons rfl (fun K1 hK1 => ?_) AllReadyH.nil)
            try simp only [Act.put, List.getElem_toArray, List.getElem_cons_succ, List.getElem_cons_zero, List.setIfInBounds_toArray, List.set_cons_zero, List.set_cons_succ]
            rw [if_pos (by rfl)]
            refine wp_buildSlice 22 30 1 _ rfl CK.toArray i0 (.agg ZB.toArray) Tryd.underlying22 Hi.out Hz.out (by rw [Hsz.out]; decide) (by rw [Hsz.out]; decide) (by rw [Hsz.out, Array.toList_map]; exact fill_one15 36 (.agg ZB.toArray) CK HK36.out) ?_
            have hbn := (Below.refl wq.heap.size wq).alloc (Nat.le_refl _) (.cells CK.toArray 30)
            have hHeld2 : Row (wq.alloc (.cells CK.toArray 30)) w.heap.size 25 [.slice (some ⟨g, off, none⟩) m c, .slice A2 q c2, .int .i64 rd, .int .i64 fl] ∧ Below w.heap.size w (wq.alloc (.cells CK.toArray 30)) := ⟨hHeld.1.kept (grownBy_of_below hbn none) (by simp), two_below' hHeld.2 hbn⟩
            have Hbb := Lib.hid hHeld2.2
            have HON : Hid (OwnL (wq.alloc (.cells CK.toArray 30)) w.heap.size 30 36 Bd.cells (.slice (some ⟨wq.heap.size, 0, none⟩) 1 1) [X jj]) := Lib.hid (row_own (Row.new wq 30 CK) hHeld.2.size rfl (Nat.le_refl _) (by unfold maxLen; omega) (by rw [HK36.out]) (by rw [Rw.flat_one, HCK.out, List.take_of_length_le (by rw [HK36.out]; omega)]) (by rw [Rw.flat_one, HCK.out, HK36.out]; rfl))
            have HOb := Lib.hid (HOq.out.alloc (.cells CK.toArray 30))
            have Hgq : Hid (w.heap.size < wq.heap.size) := Lib.hid hHeld.1.lt
            refine hK1.out _ _ (hHeld2) (fun hHeld => ?_)
            clear hK1 K1
            try simp only [Act.put, List.getElem_toArray, List.getElem_cons_succ, List.getElem_cons_zero, List.setIfInBounds_toArray, List.set_cons_zero, List.set_cons_succ]
            clear hHeld2 hbn
            refine wpAnyH_ready (rs := [13]) (by kernel_rfl) (by simp) (AllReadyH.cons rfl (fun K1 hK1 => ?_) AllReadyH.nil)
            try simp only [Act.put, List.getElem_toArray, List.getElem_cons_succ, List.getElem_cons_zero, List.setIfInBounds_toArray, List.set_cons_zero, List.set_cons_succ]
            rw [if_pos (by rfl)]
            refine wp_append_nil15 _ _ 22 30 i0 rfl Tryd.underlying22 Hi.out wq.heap.size 1 1 (Nat.le_refl _) 0 rfl rfl ?_
            have HOn : Hid (OwnL (wq.alloc (.cells CK.toArray 30)) w.heap.size 30 36 Bd.cells (.slice (some ⟨wq.heap.size, 0, none⟩) 1 1) (X jj :: TT i)) := Lib.hid (by rw [HT0.out]; exact HON.out)
            refine hK1.out _ _ (hHeld) (fun hHeld => ?_)
            clear hK1 K1
            try simp only [Act.put, List.getElem_toArray, List.getElem_cons_succ, List.getElem_cons_zero, List.setIfInBounds_toArray, List.set_cons_zero, List.set_cons_succ]
            refine wpAnyH_take (i := 14) (v := .slice (some ⟨wq.heap.size, 0, none⟩) 1 1) rfl (by kernel_rfl) (by kernel_rfl) (by kernel_rfl) (fun _ _ _ h => h) (Or.inl ⟨by rfl, fun w' hSw => by go_simp⟩) hHeld ?_
            try simp only [Act.put, List.getElem_toArray, List.getElem_cons_succ, List.getElem_cons_zero, List.setIfInBounds_toArray, List.set_cons_zero, List.set_cons_succ]
            refine wpAnyH_done (by kernel_rfl) ?_ _
            have HBn9 := Lib.hid ((Blocks.nil hHeld.2).cons hHeld.1)
            clear hHeld
            go_wp2_with fail
            exact ⟨⟨_, i + 1, by omega, rfl, by go_num, Lib.hid (by rw [HTs.out]; exact HOn.out), Lib.hid (fun h => by omega), HBn9⟩, by simp [intOf]; omega⟩
          · have hTTl := HTl.out i
            obtain ⟨g2, cp2, e2, hg2b, hg2l⟩ := HO.out.ne (by intro e; rw [e] at hTTl; simp at hTTl; omega)
            subst e2
            have HT1 : Hid (∀ u ∈ Rw.flat Bd.cells (TT i), u.oneCell' = true) := Lib.hid (fun u hu => by
              obtain ⟨x, hx, hux⟩ := List.mem_flatMap.1 hu
              exact Bd.cells_one (HTm.out i x hx).tag u hux)
            have hk63 : Hid (1 + (TT i).length ≤ maxLen) := Lib.hid (by rw [hTTl]; unfold maxLen; omega)
            have hk48 : Hid (((1 + (TT i).length) + (1 + (TT i).length) / 4 + 192) * 64 ≤ 281474976710656) := Lib.hid (by rw [hTTl]; omega)
            clear hTTl hz
            go_wp2_with fail
            clear cc
            refine wp_region_held_drew (S := fun w' => Row w' w.heap.size 25 [.slice (some ⟨g, off, none⟩) m c, .slice A2 q c2, .int .i64 rd, .int .i64 fl] ∧ Below w.heap.size w w') (by kernel_rfl) (⟨HB.out.hd.kept (grownBy_drew _ none) (by simp), HB.out.1.drew⟩) (fun hHeld => ?_)
            have HOq := Lib.hid (HO.out.kept (grownBy_drew wr none) (.inr (by simp [Value.ownBlock])))
            generalize wr.drew = wq at *
            refine wpAnyH_take (i := 0) (v := .pointer (some ⟨w.heap.size, 0, none⟩)) rfl (by kernel_rfl) (by kernel_rfl) (by kernel_rfl) (fun _ _ _ h => h) (Or.inl ⟨by rfl, fun w' hSw => by go_simp⟩) hHeld ?_
            try simp only [Act.put, List.getElem_toArray, List.getElem_cons_succ, List.getElem_cons_zero, List.setIfInBounds_toArray, List.set_cons_zero, List.set_cons_succ]
            refine wpAnyH_take (i := 1) (v := .slice (some ⟨g, off, none⟩) m c) rfl (by kernel_rfl) (by kernel_rfl) (by kernel_rfl) (fun _ _ _ h => h) (Or.inl ⟨by rfl, fun w' hSw => by have hq := hSw; have q := hq.1.cell 0 (by simp); simp only [List.getElem_cons_zero] at q; go_simp⟩) hHeld ?_
            try simp only [Act.put, List.getElem_toArray, List.getElem_cons_succ, List.getElem_cons_zero, List.setIfInBounds_toArray, List.set_cons_zero, List.set_cons_succ]
            refine wpAnyH_take (i := 2) (v := .int .i64 i) rfl (by kernel_rfl) (by kernel_rfl) (by kernel_rfl) (fun _ _ _ h => h) (Or.inl ⟨by rfl, fun w' hSw => by go_simp⟩) hHeld ?_
            try simp only [Act.put, List.getElem_toArray, List.getElem_cons_succ, List.getElem_cons_zero, List.setIfInBounds_toArray, List.set_cons_zero, List.set_cons_succ]
            refine wpAnyH_take (i := 3) (v := .int .i64 nn) rfl (by kernel_rfl) (by kernel_rfl) (by kernel_rfl) (fun _ _ _ h => h) (Or.inl ⟨by rfl, fun w' hSw => by go_simp⟩) hHeld ?_
            try simp only [Act.put, List.getElem_toArray, List.getElem_cons_succ, List.getElem_cons_zero, List.setIfInBounds_toArray, List.set_cons_zero, List.set_cons_succ]
            refine wpAnyH_take (i := 4) (v := .int .i64 ((i : Int) + (nn : Int))) rfl (by kernel_rfl) (by kernel_rfl) (by kernel_rfl) (fun _ _ _ h => h) (Or.inl ⟨by rfl, fun w' hSw => by have hq := hSw; have q2 := hwr.out; go_simp⟩) hHeld ?_
            try simp only [Act.put, List.getElem_toArray, List.getElem_cons_succ, List.getElem_cons_zero, List.setIfInBounds_toArray, List.set_cons_zero, List.set_cons_succ]
            refine wpAnyH_take (i := 5) (v := .pointer (some ⟨w.heap.size, 0, none⟩)) rfl (by kernel_rfl) (by kernel_rfl) (by kernel_rfl) (fun _ _ _ h => h) (Or.inl ⟨by rfl, fun w' hSw => by go_simp⟩) hHeld ?_
            try simp only [Act.put, List.getElem_toArray, List.getElem_cons_succ, List.getElem_cons_zero, List.setIfInBounds_toArray, List.set_cons_zero, List.set_cons_succ]
            refine wpAnyH_take (i := 6) (v := .slice (some ⟨g, off, none⟩) m c) rfl (by kernel_rfl) (by kernel_rfl) (by kernel_rfl) (fun _ _ _ h => h) (Or.inl ⟨by rfl, fun w' hSw => by have hq := hSw; have q := hq.1.cell 0 (by simp); simp only [List.getElem_cons_zero] at q; go_simp⟩) hHeld ?_
            try simp only [Act.put, List.getElem_toArray, List.getElem_cons_succ, List.getElem_cons_zero, List.setIfInBounds_toArray, List.set_cons_zero, List.set_cons_succ]
            refine wpAnyH_take (i := 7) (v := .int .i64 m) rfl (by kernel_rfl) (by kernel_rfl) (by kernel_rfl) (fun _ _ _ h => h) (Or.inl ⟨by rfl, fun w' hSw => by go_simp⟩) hHeld ?_
            try simp only [Act.put, List.getElem_toArray, List.getElem_cons_succ, List.getElem_cons_zero, List.setIfInBounds_toArray, List.set_cons_zero, List.set_cons_succ]
            refine wpAnyH_take (i := 8) (v := .int .i64 jj) rfl (by kernel_rfl) (by kernel_rfl) (by kernel_rfl) (fun _ _ _ h => h) (Or.inl ⟨by rfl, fun w' hSw => by have hq := hSw; have q2 := hremJ.out; have q3 := hmne.out; have q4 := hm0N.out; go_simp⟩) hHeld ?_
            try simp only [Act.put, List.getElem_toArray, List.getElem_cons_succ, List.getElem_cons_zero, List.setIfInBounds_toArray, List.set_cons_zero, List.set_cons_succ]
            refine wpAnyH_take (i := 9) (v := .pointer (some ⟨g, (off + jj * 36), none⟩)) rfl (by kernel_rfl) (by kernel_rfl) (by kernel_rfl) (fun _ _ _ h => h) (Or.inl ⟨by rfl, fun w' hSw => by have hq := hSw; have q2 := hjmi.out; have q3 := hjm.out; go_simp⟩) hHeld ?_
            try simp only [Act.put, List.getElem_toArray, List.getElem_cons_succ, List.getElem_cons_zero, List.setIfInBounds_toArray, List.set_cons_zero, List.set_cons_succ]
            refine' wpAnyH_take (i := 10) (v := _) rfl (by kernel_rfl) (by kernel_rfl) (by kernel_rfl) (fun _ _ _ h => h) (yieldsIf_load_mid (by rfl) _ _ rfl g (off + jj * 36) rfl CK _ (fun w' hSw => HRj.out _ hSw.2) Tryd.underlying30 rfl (by rw [bid_info, HK36.out])) hHeld ?_
            try simp only [Act.put, List.getElem_toArray, List.getElem_cons_succ, List.getElem_cons_zero, List.setIfInBounds_toArray, List.set_cons_zero, List.set_cons_succ]
            refine wpAnyH_take (i := 12) (v := .slice (some ⟨g2, 0, none⟩) (TT i).length cp2) rfl (by kernel_rfl) (by kernel_rfl) (by kernel_rfl) (fun _ _ _ h => h) (Or.inl ⟨by rfl, fun w' hSw => by go_simp⟩) hHeld ?_
            try simp only [Act.put, List.getElem_toArray, List.getElem_cons_succ, List.getElem_cons_zero, List.setIfInBounds_toArray, List.set_cons_zero, List.set_cons_succ]
            refine wpAnyH_ready (rs := [11]) (by kernel_rfl) (by simp) (AllReadyH.cons rfl (fun K1 hK1 => ?_) AllReadyH.nil)
            try simp only [Act.put, List.getElem_toArray, List.getElem_cons_succ, List.getElem_cons_zero, List.setIfInBounds_toArray, List.set_cons_zero, List.set_cons_succ]
            rw [if_pos (by rfl)]
            refine wp_buildSlice 22 30 1 _ rfl CK.toArray i0 (.agg ZB.toArray) Tryd.underlying22 Hi.out Hz.out (by rw [Hsz.out]; decide) (by rw [Hsz.out]; decide) (by rw [Hsz.out, Array.toList_map]; exact fill_one15 36 (.agg ZB.toArray) CK HK36.out) ?_
            have hbn := (Below.refl wq.heap.size wq).alloc (Nat.le_refl _) (.cells CK.toArray 30)
            have hHeld2 : Row (wq.alloc (.cells CK.toArray 30)) w.heap.size 25 [.slice (some ⟨g, off, none⟩) m c, .slice A2 q c2, .int .i64 rd, .int .i64 fl] ∧ Below w.heap.size w (wq.alloc (.cells CK.toArray 30)) := ⟨hHeld.1.kept (grownBy_of_below hbn none) (by simp), two_below' hHeld.2 hbn⟩
            have Hbb := Lib.hid hHeld2.2
            have HON : Hid (OwnL (wq.alloc (.cells CK.toArray 30)) w.heap.size 30 36 Bd.cells (.slice (some ⟨wq.heap.size, 0, none⟩) 1 1) [X jj]) := Lib.hid (row_own (Row.new wq 30 CK) hHeld.2.size rfl (Nat.le_refl _) (by unfold maxLen; omega) (by rw [HK36.out]) (by rw [Rw.flat_one, HCK.out, List.take_of_length_le (by rw [HK36.out]; omega)]) (by rw [Rw.flat_one, HCK.out, HK36.out]; rfl))
            have HOb := Lib.hid (HOq.out.alloc (.cells CK.toArray 30))
            have Hgq : Hid (w.heap.size < wq.heap.size) := Lib.hid hHeld.1.lt
            refine hK1.out _ _ (hHeld2) (fun hHeld => ?_)
            clear hK1 K1
            try simp only [Act.put, List.getElem_toArray, List.getElem_cons_succ, List.getElem_cons_zero, List.setIfInBounds_toArray, List.set_cons_zero, List.set_cons_succ]
            clear hHeld2 hbn
            refine wpAnyH_ready (rs := [13]) (by kernel_rfl) (by simp) (AllReadyH.cons rfl (fun K1 hK1 => ?_) AllReadyH.nil)
            try simp only [Act.put, List.getElem_toArray, List.getElem_cons_succ, List.getElem_cons_zero, List.setIfInBounds_toArray, List.set_cons_zero, List.set_cons_succ]
            rw [if_pos (by rfl)]
            refine wp_append_own_wide _ _ _ 22 rfl w.heap.size 30 i0 (.agg ZB.toArray) 36 64 Tryd.underlying22 Hi.out Hz.out Hsz.out Hby.out (by rw [← HZ36.out]; rfl) (by decide) (.slice (some ⟨wq.heap.size, 0, none⟩) 1 1) _ _ rfl HON.out.own ⟨g2, 0, none⟩ (TT i).length cp2 (Rw.flat Bd.cells (TT i)) rfl HOb.out.own.1 (HOb.out.own.cells (g := g2) rfl) HT1.out hk63.out hk48.out Hbb.out.size ?_
            intro v' wc hownc hgrowc _
            have hbc := below_row Hbb.out Hbb.out.size HON.out.own hgrowc
            have hr1c := hHeld.1.kept hgrowc (fun e => by have := Hgq.out; simp only [Value.ownBlock, Option.some.injEq] at e; omega)
            have HOn : Hid (OwnL wc w.heap.size 30 36 Bd.cells v' (X jj :: TT i)) := Lib.hid ⟨by
              have e : (X jj :: TT i).length = [X jj].length + (TT i).length := by simp; omega
              rw [e, Rw.flat_cons]
              rw [Rw.flat_one] at hownc
              exact hownc⟩
            clear hownc hgrowc
            refine hK1.out _ _ (⟨hr1c, hbc⟩) (fun hHeld => ?_)
            clear hK1 K1
            try simp only [Act.put, List.getElem_toArray, List.getElem_cons_succ, List.getElem_cons_zero, List.setIfInBounds_toArray, List.set_cons_zero, List.set_cons_succ]
            clear hr1c hbc
            refine wpAnyH_take (i := 14) (v := v') rfl (by kernel_rfl) (by kernel_rfl) (by kernel_rfl) (fun _ _ _ h => h) (Or.inl ⟨by rfl, fun w' hSw => by go_simp⟩) hHeld ?_
            try simp only [Act.put, List.getElem_toArray, List.getElem_cons_succ, List.getElem_cons_zero, List.setIfInBounds_toArray, List.set_cons_zero, List.set_cons_succ]
            refine wpAnyH_done (by kernel_rfl) ?_ _
            have HBn9 := Lib.hid ((Blocks.nil hHeld.2).cons hHeld.1)
            clear hHeld
            go_wp2_with fail
            exact ⟨⟨_, i + 1, by omega, rfl, by go_num, Lib.hid (by rw [HTs.out]; exact HOn.out), Lib.hid (fun h => by omega), HBn9⟩, by simp [intOf]; omega⟩
        · have hini : ¬ (i : Int) < (m : Int) := by omega
          have e : i = m := by omega
          subst e
          have Hrr : Hid (∀ W, Row W w.heap.size 25 [.slice A i c, .slice A2 q c2, .int .i64 rd, .int .i64 fl] → W.cell? ⟨w.heap.size, 0, none⟩ = some (.slice A i c) ∧ W.cell? ⟨w.heap.size, 1, none⟩ = some (.slice A2 q c2) ∧ W.cell? ⟨w.heap.size, 2, none⟩ = some (.int .i64 rd) ∧ W.cell? ⟨w.heap.size, 3, none⟩ = some (.int .i64 fl)) := Lib.hid (fun W h => by
            have e0 := h.cell 0 (by simp)
            have e1 := h.cell 1 (by simp)
            have e2 := h.cell 2 (by simp)
            have e3 := h.cell 3 (by simp)
            simp only [List.getElem_cons_zero, List.getElem_cons_succ] at e0 e1 e2 e3
            exact ⟨e0, e1, e2, e3⟩)
          obtain ⟨e0, e1, e2, e3⟩ := Hrr.out _ HB.out.hd
          clear cc
          go_wp2_with fail
          refine (WN.out _ HB.out.1).mono ?_
          rintro _ w5 ⟨rfl, hb5⟩
          have HB5 := Lib.hid (HB.out.step hb5)
          have HO5 := Lib.hid (HO.out.below hb5)
          have Hn5 := Lib.hid (Row.new w5 32 ZW)
          clear hb5 e0 e1 e2 e3
          go_wp2_with (first
            | (
               with_reducible show wpList _ _ _ (⟨_, .store 32 (.tmp 10) _, _, _, _, _⟩ :: _) _ _
               refine wpList_store_at rfl 32 (.tmp 10) (.tmp 89) rfl w5.heap.size 0 CR ZW _ rfl rfl (Hn5.out) (by have := HZ37.out; have := HR37.out; omega) (by rw [win_size, HR37.out]) HR1.out ?_
               intro w6 hr hg
               rw [splice_all (HR37.out.trans HZ37.out.symm)] at hr
               have HB6 := Lib.hid (((HB5.out.alloc (.cells ZW.toArray 32)).put hg HB5.out.size HB5.out.fresh).cons hr)
               have HO6 := Lib.hid ((HO5.out.alloc (.cells ZW.toArray 32)).kept hg (.inr (fun e => by have := HO5.out.lt _ e; omega)))
               obtain ⟨f0, f1, f2, f3⟩ := Hrr.out _ HB6.out.tl.hd
               clear hr hg))
          refine (WT.out _ _ _ HPe.out HDa.out HB6.out.1 HO6.out).mono ?_
          rintro _ w7 ⟨rfl, hb7⟩
          have HB7 := Lib.hid (HB6.out.step hb7)
          clear hb7 f0 f1 f2 f3
          have Hn7 := Lib.hid (Row.new w7 32 ZW)
          have hws := HWS.out
          go_wp2_with (first
            | (
               with_reducible show wpList _ _ _ (⟨_, .store 32 (.tmp 12) _, _, _, _, _⟩ :: _) _ _
               refine wpList_store_at rfl 32 (.tmp 12) (.tmp 100) rfl w7.heap.size 0 CR ZW _ rfl rfl (Hn7.out) (by have := HZ37.out; have := HR37.out; omega) (by rw [win_size, HR37.out]) HR1.out ?_
               intro w8 hr hg
               rw [splice_all (HR37.out.trans HZ37.out.symm)] at hr
               have HB8 := Lib.hid (((HB7.out.alloc (.cells ZW.toArray 32)).put hg HB7.out.size HB7.out.fresh).cons hr)
               clear hr hg)
            | ((with_reducible show wpList _ _ _ (⟨_, .load 32 (.tmp 10), _, _, _, _⟩ :: _) _ _); refine wpList_load_tx rfl 32 (.tmp 10) rfl w5.heap.size 0 (rfl) CR _ (row_range HB8.out.tl.hd) Tryd.underlying32 rfl (by rw [win_size, HR37.out]) ?_)
            | ((with_reducible show wpList _ _ _ (⟨_, .load 32 (.tmp 12), _, _, _, _⟩ :: _) _ _); refine wpList_load_tx rfl 32 (.tmp 12) rfl w7.heap.size 0 (rfl) CR _ (row_range HB8.out.hd) Tryd.underlying32 rfl (by rw [win_size, HR37.out]) ?_))
          go_ret
          exact ⟨by first | rfl | simp, HB8.out.1⟩
end Go.Proofs.YtlapmdgkcidhnaaDoor
