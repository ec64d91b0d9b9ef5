/- The auction's book: Bid. -/
import Derived.Test.YtlapmdgkcidhnaaDoorBkOps
import Derived.BigQuiet
namespace Go.Proofs.YtlapmdgkcidhnaaDoor
open Go.RowKit Go.Maps
set_option linter.unusedVariables false
set_option linter.unusedSimpArgs false
set_option maxRecDepth 100000

theorem wp_mapPut15 {H : Type} {P : Program} {op : Oper} {a : Act} {w : World} {K : Act → World → Prop} {Q : Exit → Act → World → Prop} (t : TypeId) (m x v : Operand) (ho : op.op = Op.mapUpdate t m x v)
    (k e : TypeId) (L : Keyed P k) (ht : P.underlying t = some (.map k e)) (R : Value → Option (DataW H × List MemPlace)) (b n : Nat) (D : DataW H)
    (hm : a.eval m = .map (some b)) (hown : w.ownsMap P k R b n D) (hn : n < maxLen) (key val : Value) (kl : Lit) (hx : a.eval x = key) (hv : a.eval v = val) (hkey : keyOf P k key = some kl)
    (d : DataW H) (ps : List MemPlace) (hval : R val = some (d, ps))
    (h : ∀ w', w'.ownsMap P k R b (n + 1) (D.put kl d) → w.grownBy w' (some b) → K (a.put op.dst undef) w') : op.wp P a w K Q := by
  obtain ⟨w', hrun, r1, r2⟩ := hown.store L ht hn hkey hval
  unfold Oper.wp
  simp [execOp, ho, hm, hx, hv, hrun, Result.andThen]
  exact h w' r1 r2.grown
/-- what a call makes of a book -/
def BkTo (w w' : World) (base B M : Nat) (fl : Int) (V : Int → Option Value) (L : List Bd) (n : Nat) : Prop :=
  ∃ V', BookAt w' base B M fl V' L n ∧ Chg (BkS B M V) w w' ∧ ∀ k, BkS B M V' k → BkS B M V k ∨ w.heap.size ≤ k
theorem BkTo.same {w w' : World} {base B M n : Nat} {fl : Int} {V : Int → Option Value} {L : List Bd} (h : BookAt w base B M fl V L n) (hb : Below w.heap.size w w') : BkTo w w' base B M fl V L (n + 1) :=
  ⟨V, (h.below hb).mono (by omega), Chg.of_below hb, fun k hk => .inl hk⟩
theorem Au.bidL_no {fl : Int} {L : List Bd} {x : Bd} {now : Int} (h : Au.bidE fl L x now ≠ 0) : Au.bidL fl L x now = L := if_neg h
/-- a bid has been put into its round -/
theorem BookAt.pushed {w w1 w2 w3 : World} {base B M n N : Nat} {fl : Int} {V : Int → Option Value} {L : List Bd} {x : Bd} {v' : Value} {D : DataW Value}
    (h : BookAt w base B M fl V L n) (hx : x.Fits) (hl : (Au.ofR x.round L).length < 32) (hb : Below w.heap.size w w1) (hN : N ≤ n) (hR : Reads15 D V)
    (hr2 : Row w2 B 106 [.int .i64 fl, .map (some M)]) (ho : OwnL w2 base 30 36 Bd.cells v' (Au.ofR x.round L ++ [x])) (hg : w1.grownBy w2 ((V x.round).getD (.slice none 0 0)).ownBlock) (hwh : v'.ownBlock = ((V x.round).getD (.slice none 0 0)).ownBlock ∨ v'.ownBlock = some w1.heap.size)
    (hM2 : w2.ownsMap Tryd.prog 3 held15 M N D) (hM : w3.ownsMap Tryd.prog 3 held15 M (N + 1) (D.put (K15 x.round) (.held v'))) (hg3 : w2.grownBy w3 (some M)) : BkTo w w3 base B M fl V (L ++ [x]) (n + 1) := by
  have hgM : ∀ k, ((V x.round).getD (.slice none 0 0)).ownBlock = some k → ∃ v, V x.round = some v ∧ v.ownBlock = some k := fun k hk => by
    cases e : V x.round with
    | none => rw [e] at hk; cases hk
    | some v => rw [e] at hk; exact ⟨v, rfl, hk⟩
  refine ⟨fun y => if y = x.round then some v' else V y, ⟨?_, ⟨_, N + 1, by omega, hM, hR.put _ _⟩, fun r v e => ?_, fun r e => ?_, h.ok.push hx hl, h.lo⟩, ?_, fun k hk => ?_⟩
  · exact hr2.kept hg3 (fun e => by injection e with e; exact row_ne_map hM2 hr2 e)
  · rw [Au.ofR_push]
    by_cases hr : r = x.round
    · subst hr
      simp only [↓reduceIte, Option.some.injEq] at e
      subst e
      rw [if_pos rfl]
      exact ⟨ho.kept hg3 (.inr (own_ne_map hM2 ho)), by simp⟩
    · simp only [if_neg hr] at e
      rw [if_neg (fun e => hr e.symm)]
      obtain ⟨h1, h2⟩ := h.sl r v e
      have h1b := h1.below hb
      have hlt := h1.lt
      refine ⟨(h1b.kept hg ?_).kept hg3 (.inr ?_), h2⟩
      · cases hvb : v.ownBlock with
        | none => exact .inl rfl
        | some k =>
          refine .inr (fun e2 => ?_)
          obtain ⟨u, hu1, hu2⟩ := hgM k e2.symm
          exact h.apart (fun e3 => hr e3) e hu1 hvb hu2
      · have h1c : OwnL w2 base 30 36 Bd.cells v (Au.ofR r L) := h1b.kept hg (by
          cases hvb : v.ownBlock with
          | none => exact .inl rfl
          | some k =>
            refine .inr (fun e2 => ?_)
            obtain ⟨u, hu1, hu2⟩ := hgM k e2.symm
            exact h.apart (fun e3 => hr e3) e hu1 hvb hu2)
        exact own_ne_map hM2 h1c
  · by_cases hr : r = x.round
    · subst hr; simp at e
    · simp only [if_neg hr] at e
      rw [Au.ofR_push, if_neg (fun e => hr e.symm)]
      exact h.no r e
  · refine (Chg.of_below (S := BkS B M V) hb).trans (S2 := fun k => BkS B M V k) ?_ (fun i hi => .inl hi)
    refine (Chg.of_grown (S := BkS B M V) hg (fun k hk => .inl ?_)).trans (S2 := BkS B M V) (Chg.of_grown hg3 (fun k hk => by cases hk; exact .inl (.inr (.inl rfl)))) (fun i hi => .inl hi)
    obtain ⟨u, hu1, hu2⟩ := hgM k hk
    exact .inr (.inr ⟨_, u, hu1, hu2⟩)
  · rcases hk with rfl | rfl | ⟨r, v, e, hk⟩
    · exact .inl (.inl rfl)
    · exact .inl (.inr (.inl rfl))
    · by_cases hr : r = x.round
      · subst hr
        simp only [↓reduceIte, Option.some.injEq] at e
        subst e
        rcases hwh with h1 | h1
        · rw [hk] at h1
          obtain ⟨u, hu1, hu2⟩ := hgM k h1.symm
          exact .inl (.inr (.inr ⟨_, u, hu1, hu2⟩))
        · rw [hk] at h1
          injection h1 with h1
          right; rw [h1]; exact hb.size
      · simp only [if_neg hr] at e
        exact .inl (.inr (.inr ⟨r, v, e, hk⟩))
theorem bookBid_nil (x : Bd) (now : Int) (w : World) : Calls Tryd.prog 21 #[.pointer none, .agg x.cells.toArray, .int .i64 now] w fun e w' => e = .returned (.int .i64 1) ∧ Below w.heap.size w w' := by
  generalize x.cells = C at *
  have hb := (Below.refl w.heap.size w).alloc (Nat.le_refl _) (.cells C.toArray 30)
  go_enter Tryd.func21, Tryd.ntmps21
  go_wp2_with fail
  go_ret
  exact ⟨rfl, hb⟩
set_option maxHeartbeats 6400000 in
theorem bookBid_any {w : World} {base B M n : Nat} {fl : Int} {V : Int → Option Value} {L : List Bd} (x : Bd) (hx : x.Fits) (now : Int) (h : BookAt w base B M fl V L n) (hn : n ≤ 1000) (hbs : base ≤ w.heap.size) (hT : Tab w) :
    Calls Tryd.prog 21 #[.pointer (some ⟨B, 0, none⟩), .agg x.cells.toArray, .int .i64 now] w fun e w' => e = .returned (.int .i64 (Au.bidE fl L x now)) ∧ BkTo w w' base B M fl V (Au.bidL fl L x now) (n + 1) := by
  obtain ⟨i0, hi, h2⟩ := Option.map_eq_some_iff.1 bd_info15
  simp only [Prod.mk.injEq] at h2
  have Hi := Lib.hid hi
  have Hz := Lib.hid h2.1
  have Hsz := Lib.hid h2.2.1
  have Hby := Lib.hid h2.2.2
  clear hi h2
  have HH := Lib.hid h
  have HX := Lib.hid hx
  have Hbs := Lib.hid hbs
  have HT := Lib.hid hT
  have HP := Lib.hid hT.pos
  have hmf : ∀ (fn : Fn) (first cap : Array Value) (w : World), (Instr.makeFunc fn first cap).run Tryd.prog w = .ok (.func fn first cap) w := fun _ _ _ _ => rfl
  have CB : Hid (∀ W, Tab W → Calls Tryd.prog 53 #[.agg x.cells.toArray] W fun e w' => e = .returned (.int .i64 x.check) ∧ Below W.heap.size W w') := Lib.hid (fun W hW => checkBid_any x HX.out.tag W hW)
  have HK36 := Lib.hid (Bd.cells_len HX.out.tag)
  have HK1 := Lib.hid (Bd.cells_one HX.out.tag)
  have HZ36 := Lib.hid (Bd.cells_len (b := Bd.zero) rfl)
  have HBox : Hid (∀ W, Row W w.heap.size 30 x.cells → W.cell? ⟨w.heap.size, 0, none⟩ = some (.int .i64 x.round) ∧ W.cell? ⟨w.heap.size, 2, none⟩ = some (.int .i64 x.amount)) := Lib.hid (fun W h => ⟨(bid_box h).1, (bid_box h).2.2.1⟩)
  have Hr0 := Lib.hid (Row.new w 30 x.cells)
  have Hb0 := Lib.hid ((Below.refl w.heap.size w).alloc (Nat.le_refl _) (.cells x.cells.toArray 30))
  obtain ⟨A, c, hv, _, _⟩ := (HH.out.own x.round).form
  have HV := Lib.hid hv
  obtain ⟨m, hm⟩ : ∃ m, m = (Au.ofR x.round L).length := ⟨_, rfl⟩
  have HLk : Hid (∀ W, Below w.heap.size w W → (Instr.lookup 104 (.map (some M)) (.int .i64 x.round) false).run Tryd.prog W = .ok (.slice A m c) W) := Lib.hid (fun W hW => by
    have := (HH.out.below hW).look x.round HX.out.round
    rw [HV.out, ← hm] at this
    exact this)
  have HCo : Hid (∀ W, Below w.heap.size w W → Row W w.heap.size 30 x.cells → Calls Tryd.prog 55 #[.slice A m c, .func (.func 54) #[] #[.pointer (some ⟨w.heap.size, 0, none⟩)]] W fun e w' => e = .returned (.bool ((Au.ofR x.round L).any fun y => y.who == x.who)) ∧ Below W.heap.size W w') := Lib.hid (fun W hW hr => by
    have hW2 := HH.out.below hW
    have ho := hW2.own x.round
    rw [HV.out] at ho
    rw [hm]
    exact containsF_any A c _ x w.heap.size W (ho.slB (hW2.fitsR x.round) (by have := hW2.ok.few x.round; omega)) hr)
  have hE : Au.bidE fl L x now = if x.check ≠ 0 then x.check else if x.round ≤ now then 26 else if x.amount < fl then 24 else if ((Au.ofR x.round L).any fun y => y.who == x.who) = true then 23 else if 32 ≤ m then 25 else 0 := by rw [hm]; rfl
  have HSame : Hid (∀ W, Below w.heap.size w W → ∀ E, E ≠ 0 → Au.bidE fl L x now = E → BkTo w W base B M fl V (Au.bidL fl L x now) (n + 1)) := Lib.hid (fun W hW E hE0 hE1 => by rw [Au.bidL_no (by rw [hE1]; exact hE0)]; exact BkTo.same HH.out hW)
  have hm32 : m ≤ 32 := by rw [hm]; exact HH.out.ok.few _
  have HM := Lib.hid hm
  obtain ⟨CK, hCK⟩ : ∃ CK, x.cells = CK := ⟨_, rfl⟩
  have HCK := Lib.hid hCK
  rw [hCK] at CB HK36 HK1 HBox Hr0 Hb0 HCo ⊢
  have hltB := HH.out.ltB
  clear h hx hT hbs hv hCK hm
  go_enter Tryd.func21, Tryd.ntmps21
  go_wp2_with ((with_reducible show wpList _ _ _ (⟨_, .load 30 (.tmp 4), _, _, _, _⟩ :: _) _ _); refine wpList_load_tx rfl 30 (.tmp 4) rfl w.heap.size 0 (rfl) CK _ (row_range Hr0.out) Tryd.underlying30 rfl (by rw [bid_info, HK36.out]) ?_)
  refine (CB.out _ (HT.out.below Hb0.out HP.out)).mono ?_
  rintro _ w5 ⟨rfl, hb5⟩
  have Hr5 := Lib.hid (Hr0.out.kept (grownBy_of_below hb5 none) (by simp))
  have Hb5 := Lib.hid (two_below' Hb0.out hb5)
  clear hb5
  by_cases q0 : x.check = 0
  rotate_left
  · rw [if_pos q0] at hE
    have HE := Lib.hid hE
    have Q0 := Lib.hid q0
    have e0 : (x.check != 0) = true := by simpa using q0
    clear hE q0
    go_wp2_with fail
    go_ret
    rw [HE.out]
    exact ⟨rfl, HSame.out _ Hb5.out _ Q0.out HE.out⟩
  rw [if_neg (by simpa using q0)] at hE
  rw [q0]
  have Q0 := Lib.hid q0
  clear q0
  obtain ⟨c0, c2⟩ := HBox.out _ Hr5.out
  have H5 := Lib.hid (HH.out.below Hb5.out)
  have d1 := H5.out.c1
  have hlk := fun k => HLk.out (w5.drewN k) (below_drewN' Hb5.out k)
  have HDr := Lib.hid (fun k => below_drewN' Hb5.out k)
  have HRr := Lib.hid (fun k => Hr5.out.kept (grownBy_drewN w5 k none) (by simp))
  go_wp2_with fail
  go_quiet (fail)
  have Hb6 := Lib.hid (HDr.out nq)
  have Hr6 := Lib.hid (HRr.out nq)
  clear hlk HDr HRr c0 c2 d1 H5
  generalize w5.drewN nq = w6 at *
  obtain ⟨c0, c2⟩ := HBox.out _ Hr6.out
  by_cases q1 : x.round ≤ now
  · rw [if_pos q1] at hE
    have HE := Lib.hid hE
    have e1 : decide (x.round ≤ now) = true := by simpa using q1
    clear hE q1
    generalize x.round = xr at *
    go_wp2_with fail
    go_ret
    rw [HE.out]
    exact ⟨rfl, HSame.out _ Hb6.out _ (by decide) HE.out⟩
  rw [if_neg q1] at hE
  have e1 : decide (x.round ≤ now) = false := by simpa using q1
  clear q1
  have H6 := Lib.hid (HH.out.below Hb6.out)
  have d0 := H6.out.c0
  have HDr := Lib.hid (fun k => below_drewN' Hb6.out k)
  have HRr := Lib.hid (fun k => Hr6.out.kept (grownBy_drewN w6 k none) (by simp))
  by_cases q2 : x.amount < fl
  · rw [if_pos q2] at hE
    have HE := Lib.hid hE
    have e2 : decide (x.amount < fl) = true := by simpa using q2
    clear hE q2
    generalize x.round = xr at *
    generalize x.amount = xa at *
    go_wp2_with fail
    go_quiet (fail)
    go_wp2_with fail
    go_ret
    rw [HE.out]
    exact ⟨rfl, HSame.out _ (HDr.out _) _ (by decide) HE.out⟩
  rw [if_neg q2] at hE
  have e2 : decide (x.amount < fl) = false := by simpa using q2
  clear q2
  obtain ⟨an, han⟩ : ∃ an, an = ((Au.ofR x.round L).any fun y => y.who == x.who) := ⟨_, rfl⟩
  rw [← han] at HCo hE
  clear han
  obtain ⟨xr, hxr⟩ : ∃ xr, xr = x.round := ⟨_, rfl⟩
  obtain ⟨xa, hxa⟩ : ∃ xa, xa = x.amount := ⟨_, rfl⟩
  rw [← hxr] at c0 e1
  rw [← hxa] at c2 e2
  have HXr := Lib.hid hxr
  clear hxr hxa
  go_wp2_with fail
  go_quiet (fail)
  go_wp2_with fail
  refine (HCo.out _ (HDr.out _) (HRr.out _)).mono ?_
  rintro _ w8 ⟨rfl, hb8⟩
  have Hr8 := Lib.hid ((HRr.out nq).kept (grownBy_of_below hb8 none) (by simp))
  have Hb8 := Lib.hid (two_below' (HDr.out nq) hb8)
  clear hb8 HDr HRr c0 c2 d0 H6
  cases an with
  | true =>
    rw [if_pos rfl] at hE
    have HE := Lib.hid hE
    clear hE
    go_wp2_with fail
    go_ret
    rw [HE.out]
    exact ⟨rfl, HSame.out _ Hb8.out _ (by decide) HE.out⟩
  | false =>
    rw [if_neg (by simp)] at hE
    by_cases q4 : 32 ≤ m
    · rw [if_pos q4] at hE
      have HE := Lib.hid hE
      have q4i : (32 : Int) ≤ (m : Int) := by omega
      clear hE
      go_wp2_with fail
      go_ret
      rw [HE.out]
      exact ⟨rfl, HSame.out _ Hb8.out _ (by decide) HE.out⟩
    · rw [if_neg q4] at hE
      have HE := Lib.hid hE
      have q4i : ¬ (32 : Int) ≤ (m : Int) := by omega
      have q4l : m < 32 := by omega
      have hL : Au.bidL fl L x now = L ++ [x] := if_pos hE
      have HE0 := Lib.hid hE
      have HL0 := Lib.hid hL
      clear hE q4 hL
      have H8 := Lib.hid (HH.out.below Hb8.out)
      have HBx := Lib.hid (fun W h => (HBox.out W h).1)
      have hk63 : Hid (m + 1 ≤ maxLen) := Lib.hid (by unfold maxLen; omega)
      have hk48 : Hid (((m + 1) + (m + 1) / 4 + 192) * 64 ≤ 281474976710656) := Lib.hid (by omega)
      obtain ⟨D, N, hN, hD, hR⟩ := H8.out.map
      have HNn := Lib.hid hN
      have HD8 := Lib.hid hD
      have HRd := Lib.hid hR
      have hoo := H8.out.own x.round
      rw [HV.out, ← HM.out] at hoo
      have HO8 := Lib.hid hoo
      clear hN hD hR hoo
      go_wp2_with fail
      refine wp_region_held_drew (S := fun w' => Row w' w.heap.size 30 CK ∧ Row w' B 106 [.int .i64 fl, .map (some M)]) (by kernel_rfl) (⟨Hr8.out.kept (grownBy_drew _ none) (by simp), H8.out.row.kept (grownBy_drew _ none) (by simp)⟩) (fun hHeld => ?_)
      have HOq := Lib.hid (HO8.out.below ((Below.refl w8.heap.size w8).drew))
      have HDq := Lib.hid (HD8.out.kept (grownBy_drew w8 none) (by simp))
      have Hbq := Lib.hid (Hb8.out.drew)
      generalize w8.drew = wq at *
      refine wpAnyH_take (i := 0) (v := .pointer (some ⟨B, 0, none⟩)) rfl (by kernel_rfl) (by kernel_rfl) (by kernel_rfl) (fun _ _ _ h => h) (Or.inl ⟨by rfl, fun w' hSw => by go_simp⟩) hHeld ?_
      try simp only [Act.put, List.getElem_toArray, List.getElem_cons_succ, List.getElem_cons_zero, List.setIfInBounds_toArray, List.set_cons_zero, List.set_cons_succ]
      refine wpAnyH_take (i := 1) (v := .pointer (some ⟨B, 0, none⟩)) rfl (by kernel_rfl) (by kernel_rfl) (by kernel_rfl) (fun _ _ _ h => h) (Or.inl ⟨by rfl, fun w' hSw => by go_simp⟩) hHeld ?_
      try simp only [Act.put, List.getElem_toArray, List.getElem_cons_succ, List.getElem_cons_zero, List.setIfInBounds_toArray, List.set_cons_zero, List.set_cons_succ]
      refine wpAnyH_take (i := 2) (v := .pointer (some ⟨B, 1, none⟩)) rfl (by kernel_rfl) (by kernel_rfl) (by kernel_rfl) (fun _ _ _ h => h) (Or.inl ⟨by rfl, fun w' hSw => by go_simp⟩) hHeld ?_
      try simp only [Act.put, List.getElem_toArray, List.getElem_cons_succ, List.getElem_cons_zero, List.setIfInBounds_toArray, List.set_cons_zero, List.set_cons_succ]
      refine wpAnyH_take (i := 3) (v := .map (some M)) rfl (by kernel_rfl) (by kernel_rfl) (by kernel_rfl) (fun _ _ _ h => h) (Or.inl ⟨by rfl, fun w' hSw => by have hq := hSw; have q := hq.2.cell 1 (by simp); simp only [List.getElem_cons_zero, List.getElem_cons_succ] at q; go_simp⟩) hHeld ?_
      try simp only [Act.put, List.getElem_toArray, List.getElem_cons_succ, List.getElem_cons_zero, List.setIfInBounds_toArray, List.set_cons_zero, List.set_cons_succ]
      refine wpAnyH_take (i := 4) (v := .pointer (some ⟨w.heap.size, 0, none⟩)) rfl (by kernel_rfl) (by kernel_rfl) (by kernel_rfl) (fun _ _ _ h => h) (Or.inl ⟨by rfl, fun w' hSw => by go_simp⟩) hHeld ?_
      try simp only [Act.put, List.getElem_toArray, List.getElem_cons_succ, List.getElem_cons_zero, List.setIfInBounds_toArray, List.set_cons_zero, List.set_cons_succ]
      refine wpAnyH_take (i := 5) (v := .int .i64 xr) rfl (by kernel_rfl) (by kernel_rfl) (by kernel_rfl) (fun _ _ _ h => h) (Or.inl ⟨by rfl, fun w' hSw => by have hq := hSw; have q := HBx.out _ hq.1; rw [← HXr.out] at q; go_simp⟩) hHeld ?_
      try simp only [Act.put, List.getElem_toArray, List.getElem_cons_succ, List.getElem_cons_zero, List.setIfInBounds_toArray, List.set_cons_zero, List.set_cons_succ]
      refine wpAnyH_take (i := 6) (v := .slice A m c) rfl (by kernel_rfl) (by kernel_rfl) (by kernel_rfl) (fun _ _ _ h => h) (Or.inl ⟨by rfl, fun w' hSw => by go_simp⟩) hHeld ?_
      try simp only [Act.put, List.getElem_toArray, List.getElem_cons_succ, List.getElem_cons_zero, List.setIfInBounds_toArray, List.set_cons_zero, List.set_cons_succ]
      refine' wpAnyH_take (i := 7) (v := _) rfl (by kernel_rfl) (by kernel_rfl) (by kernel_rfl) (fun _ _ _ h => h) (yieldsIf_load_mid (by rfl) _ _ rfl w.heap.size 0 rfl CK _ (fun w' hSw => row_range hSw.1) Tryd.underlying30 rfl (by rw [bid_info, HK36.out])) hHeld ?_
      try simp only [Act.put, List.getElem_toArray, List.getElem_cons_succ, List.getElem_cons_zero, List.setIfInBounds_toArray, List.set_cons_zero, List.set_cons_succ]
      refine wpAnyH_ready (rs := [8]) (by kernel_rfl) (by simp) (AllReadyH.cons rfl (fun K1 hK1 => ?_) AllReadyH.nil)
      try simp only [Act.put, List.getElem_toArray, List.getElem_cons_succ, List.getElem_cons_zero, List.setIfInBounds_toArray, List.set_cons_zero, List.set_cons_succ]
      rw [if_pos (by rfl)]
      refine wp_buildSlice 22 30 1 _ rfl CK.toArray i0 (.agg Bd.zero.cells.toArray) Tryd.underlying22 Hi.out Hz.out (by rw [Hsz.out]; decide) (by rw [Hsz.out]; decide) (by rw [Hsz.out, Array.toList_map]; exact fill_one15 36 (.agg Bd.zero.cells.toArray) CK HK36.out) ?_
      have hbn := (Below.refl wq.heap.size wq).alloc (Nat.le_refl _) (.cells CK.toArray 30)
      have hHeld2 : Row (wq.alloc (.cells CK.toArray 30)) w.heap.size 30 CK ∧ Row (wq.alloc (.cells CK.toArray 30)) B 106 [.int .i64 fl, .map (some M)] := ⟨hHeld.1.kept (grownBy_of_below hbn none) (by simp), hHeld.2.kept (grownBy_of_below hbn none) (by simp)⟩
      have HNew := Lib.hid (row_news (Row.new wq 30 CK))
      have HOn := Lib.hid (HOq.out.below hbn)
      have HDn := Lib.hid (HDq.out.kept (grownBy_of_below hbn none) (by simp))
      have Hbn := Lib.hid (two_below' Hbq.out hbn)
      refine hK1.out _ _ (hHeld2) (fun hHeld => ?_)
      clear hK1 K1
      try simp only [Act.put, List.getElem_toArray, List.getElem_cons_succ, List.getElem_cons_zero, List.setIfInBounds_toArray, List.set_cons_zero, List.set_cons_succ]
      clear hHeld2 hbn
      refine wpAnyH_ready (rs := [9]) (by kernel_rfl) (by simp) (AllReadyH.cons rfl (fun K1 hK1 => ?_) AllReadyH.nil)
      try simp only [Act.put, List.getElem_toArray, List.getElem_cons_succ, List.getElem_cons_zero, List.setIfInBounds_toArray, List.set_cons_zero, List.set_cons_succ]
      rw [if_pos (by rfl)]
      refine wp_append_own_at _ _ 22 rfl base 30 i0 (.agg Bd.zero.cells.toArray) 36 64 Tryd.underlying22 Hi.out Hz.out Hsz.out Hby.out (by rw [← HZ36.out]; rfl) (by decide) (.slice A m c) m (Rw.flat Bd.cells (Au.ofR x.round L)) rfl (by have := HOn.out.own; rw [← HM.out] at this; exact this) ⟨wq.heap.size, 0, none⟩ 1 1 CK rfl (by rw [HK36.out]) HNew.out HK1.out (by decide) hk63.out hk48.out (Nat.le_trans Hbs.out Hbn.out.size) ?_
      intro v' wc hownc hgrowc hwhere
      have Hwhere := Lib.hid hwhere
      have Hgc := Lib.hid hgrowc
      have HOc : Hid (OwnL wc base 30 36 Bd.cells v' (Au.ofR x.round L ++ [x])) := Lib.hid (OwnL.pushed (by rw [HCK.out, ← HM.out]; exact hownc))
      have hltA := HOn.out.lt
      have hOwn0 : ∀ k, (Value.slice A m c).ownBlock = some k → k < w.heap.size := fun k hk => by
        have := (HH.out.own x.round).lt k (by rw [HV.out, ← HM.out]; exact hk)
        exact this.2
      have hr1c := hHeld.1.kept hgrowc (fun e => by have := hOwn0 _ e.symm; omega)
      have hr2c := hHeld.2.kept hgrowc (fun e => HOn.out.ne_block hHeld.2 (by decide) e.symm)
      have HDc := Lib.hid (HDn.out.kept hgrowc (own_ne_map HDn.out HOn.out).symm)
      clear hownc hgrowc hwhere hltA hOwn0
      refine hK1.out _ _ (⟨hr1c, hr2c⟩) (fun hHeld => ?_)
      clear hK1 K1
      try simp only [Act.put, List.getElem_toArray, List.getElem_cons_succ, List.getElem_cons_zero, List.setIfInBounds_toArray, List.set_cons_zero, List.set_cons_succ]
      clear hr1c hr2c
      refine wpAnyH_ready (rs := [10]) (by kernel_rfl) (by simp) (AllReadyH.cons rfl (fun K1 hK1 => ?_) AllReadyH.nil)
      try simp only [Act.put, List.getElem_toArray, List.getElem_cons_succ, List.getElem_cons_zero, List.setIfInBounds_toArray, List.set_cons_zero, List.set_cons_succ]
      rw [if_pos (by rfl)]
      refine wp_mapPut15 104 (.tmp 49) (.tmp 51) (.tmp 55) rfl 3 22 lawI15 Tryd.underlying104 held15 M N D rfl HDc.out (by have := HNn.out; unfold maxLen; omega) (.int .i64 xr) v' (K15 xr) rfl rfl (key15 (by rw [HXr.out]; exact HX.out.round)) (.held v') [] rfl ?_
      intro wd hMd hgd
      have hr1d := hHeld.1.kept hgd (fun e => by injection e with e; exact row_ne_map HDc.out hHeld.1 e)
      have hr2d := hHeld.2.kept hgd (fun e => by injection e with e; exact row_ne_map HDc.out hHeld.2 e)
      have HEnd : Hid (BkTo w wd base B M fl V (L ++ [x]) (n + 1)) := Lib.hid (BookAt.pushed HH.out HX.out (by rw [← HM.out]; exact q4l) Hbn.out HNn.out HRd.out hHeld.2 HOc.out (by rw [HV.out, ← HM.out]; exact Hgc.out) (by rw [HV.out, ← HM.out]; exact Hwhere.out) HDc.out (by rw [← HXr.out]; exact hMd) hgd)
      clear hMd hgd
      refine hK1.out _ _ (⟨hr1d, hr2d⟩) (fun hHeld => ?_)
      clear hK1 K1
      try simp only [Act.put, List.getElem_toArray, List.getElem_cons_succ, List.getElem_cons_zero, List.setIfInBounds_toArray, List.set_cons_zero, List.set_cons_succ]
      clear hr1d hr2d
      refine wpAnyH_done (by kernel_rfl) ?_ _
      clear hHeld
      go_wp2_with fail
      go_ret
      rw [HE0.out, HL0.out]
      exact ⟨rfl, HEnd.out⟩
end Go.Proofs.YtlapmdgkcidhnaaDoor
