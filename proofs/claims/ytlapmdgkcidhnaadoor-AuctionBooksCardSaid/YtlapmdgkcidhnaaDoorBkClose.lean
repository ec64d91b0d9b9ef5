/- The auction's book: Close. -/
import Derived.Test.YtlapmdgkcidhnaaDoorBkSame
import Derived.Test.YtlapmdgkcidhnaaDoorBnA
import Derived.Maps.RangeWalk
namespace Go.Proofs.YtlapmdgkcidhnaaDoor
open Go.RowKit Go.Maps
set_option linter.unusedVariables false
set_option linter.unusedSimpArgs false
set_option maxRecDepth 100000

namespace Au
def dropR (r : Int) (L : List Bd) : List Bd := L.filter fun b => b.round != r
theorem ofR_drop (r s : Int) (L : List Bd) : ofR s (dropR r L) = if s = r then [] else ofR s L := by
  unfold ofR dropR
  rw [List.filter_filter]
  by_cases h : s = r
  · rw [if_pos h, List.filter_eq_nil_iff]
    intro b _
    simp
    intro h1; exact h1.trans h
  · rw [if_neg h]
    apply List.filter_congr
    intro b _
    by_cases h1 : b.round = s
    · simp [h1, h]
    · simp [h1]
theorem BkOk.drop {L : List Bd} {n : Nat} (h : BkOk L n) (r : Int) : BkOk (dropR r L) n :=
  ⟨Nat.le_trans (List.length_filter_le _ _) h.len, fun b hb => h.fits b (List.mem_filter.1 hb).1, fun s => by rw [ofR_drop]; split <;> first | simp | exact h.few s⟩
/-- what a bank holds behind a Close -/
def takeR (LK : List Int) : Option (Bd × Int) → List Int
  | none => LK
  | some (b, p) => (Bn.Bank.take LK b.who p).2
end Au
theorem BookAt.not_row {w : World} {base B M n : Nat} {fl : Int} {V : Int → Option Value} {L : List Bd} (h : BookAt w base B M fl V L n) {k : Nat} {T : TypeId} {xs : List Value} (hr : Row w k T xs) (h1 : T ≠ 106) (h2 : T ≠ 30) : ¬ BkS B M V k := by
  rintro (rfl | rfl | ⟨r, v, e, hk⟩)
  · exact row_ne_row hr h.row h1 rfl
  · obtain ⟨D, N, _, hD, _⟩ := h.map
    exact row_ne_map hD hr rfl
  · exact (h.sl r v e).1.ne_block hr h2 hk
/-- a book and a bank behind a Close -/
structure CloseTo (w W : World) (base B M K : Nat) (fl : Int) (V : Int → Option Value) (L : List Bd) (LK : List Int) (n : Nat) (r : Int) : Prop where
  book : ∃ V', BookAt W base B M fl V' (Au.dropR r L) n ∧ ∀ k, BkS B M V' k → BkS B M V k
  bank : Bn.BankAt W K LK
  chg : Chg (fun k => BkS B M V k ∨ k = K) w W
  old : (∀ k, BkS B M V k → k < w.heap.size) ∧ K < w.heap.size ∧ ¬ BkS B M V K
theorem CloseAt.dropped {w w1 w2 : World} {base B M K n N : Nat} {fl r : Int} {V : Int → Option Value} {L : List Bd} {LK : List Int} {D : DataW Value} (h : BookAt w base B M fl V L n) (hk : Bn.BankAt w K LK) (hb : Below w.heap.size w w1) (hN : N ≤ n) (hR : Reads15 D V)
    (hM1 : w1.ownsMap Tryd.prog 3 held15 M N D) (hM : w2.ownsMap Tryd.prog 3 held15 M N (D.del (K15 r))) (hg : w1.grownBy w2 (some M)) : CloseTo w w2 base B M K fl V L LK n r := by
  have h1 := h.below hb
  have hsub : ∀ k, BkS B M (fun y => if y = r then none else V y) k → BkS B M V k := fun k hk => by
    rcases hk with rfl | rfl | ⟨s, v, e, hk⟩
    · exact .inl rfl
    · exact .inr (.inl rfl)
    · by_cases hs : s = r
      · subst hs; simp at e
      · simp only [if_neg hs] at e
        exact .inr (.inr ⟨s, v, e, hk⟩)
  have hK := hk.1
  refine ⟨⟨_, ⟨?_, ⟨_, N, hN, hM, hR.del r⟩, fun s v e => ?_, fun s e => ?_, h.ok.drop r, h.lo⟩, hsub⟩, ?_, ?_, fun k hk => (h.ltS k hk).2, hK.lt, h.not_row hK (by decide) (by decide)⟩
  · exact h1.row.kept hg (fun e => by injection e with e; exact row_ne_map hM1 h1.row e)
  · by_cases hs : s = r
    · subst hs; simp at e
    · simp only [if_neg hs] at e
      rw [Au.ofR_drop, if_neg hs]
      exact ⟨(h1.sl s v e).1.kept hg (.inr (own_ne_map hM1 (h1.sl s v e).1)), (h1.sl s v e).2⟩
  · rw [Au.ofR_drop]
    by_cases hs : s = r
    · rw [if_pos hs]
    · simp only [if_neg hs] at e ⊢
      exact h.no s e
  · have hK1 := hk.kept (grownBy_of_below hb none) (by simp)
    exact hK1.kept hg (fun e => by injection e with e; exact row_ne_map hM1 hK1.1 e)
  · exact (Chg.of_below (S := fun k => BkS B M V k ∨ k = K) hb).trans (S2 := fun k => BkS B M V k ∨ k = K) (Chg.of_grown hg (fun k hk => by cases hk; exact .inl (.inl (.inr (.inl rfl))))) (fun i hi => .inl hi)
theorem CloseAt.put {w W W' : World} {base B M K n g : Nat} {fl r : Int} {V : Int → Option Value} {L : List Bd} {LK : List Int} (h : CloseTo w W base B M K fl V L LK n r) (hl : w.heap.size ≤ g) (hg : W.grownBy W' (some g)) : CloseTo w W' base B M K fl V L LK n r := by
  obtain ⟨V', hb, hs⟩ := h.book
  refine ⟨⟨V', hb.chg (S := fun k => k = g) (Chg.of_grown hg (fun k hk => by cases hk; exact .inl rfl)) (fun k hk => ?_), hs⟩, h.bank.kept hg (fun e => by injection e with e; have := h.old.2.1; omega), ?_, h.old⟩
  · have := h.old.1 k (hs k hk); omega
  · exact h.chg.trans (S2 := fun k => k = g) (Chg.of_grown hg (fun k hk => by cases hk; exact .inl rfl)) (fun i hi => .inr (by omega))
theorem CloseTo.taken {w W W' : World} {base B M K n : Nat} {fl r : Int} {V : Int → Option Value} {L : List Bd} {LK LK' : List Int} (h : CloseTo w W base B M K fl V L LK n r) (hk : Bn.BankAt W' K LK') (hg : W.grownBy W' (some K)) : CloseTo w W' base B M K fl V L LK' n r := by
  obtain ⟨V', hb, hs⟩ := h.book
  refine ⟨⟨V', hb.chg (S := fun k => k = K) (Chg.of_grown hg (fun k hk => by cases hk; exact .inl rfl)) (fun k hk e => ?_), hs⟩, hk, ?_, h.old⟩
  · rw [e] at hk; exact h.old.2.2 (hs K hk)
  · exact h.chg.trans (S2 := fun k => k = K) (Chg.of_grown hg (fun k hk => by cases hk; exact .inl rfl)) (fun i hi => .inl (.inr hi))
set_option maxHeartbeats 6400000 in
theorem bookClose_any {w : World} {base B M K n : Nat} {fl : Int} {V : Int → Option Value} {L : List Bd} {LK : List Int} (r : Int) (hr : Tx.fits r) (h : BookAt w base B M fl V L n) (hk : Bn.BankAt w K LK) (hfl : Tx.fits fl) (hT : Tab w) :
    Calls Tryd.prog 25 #[.pointer (some ⟨B, 0, none⟩), .int .i64 r, .pointer (some ⟨K, 0, none⟩)] w fun e w' => e = .returned (Au.winV (Au.winB LK r fl (Au.ofR r L))) ∧ CloseTo w w' base B M K fl V L (Au.takeR LK (Au.winB LK r fl (Au.ofR r L))) n r := by
  have HH := Lib.hid h
  have HBa := Lib.hid hk
  have Hr := Lib.hid hr
  have HT := Lib.hid hT
  have HP := Lib.hid hT.pos
  obtain ⟨A, c, hv, _, _⟩ := (HH.out.own r).form
  have HV := Lib.hid hv
  obtain ⟨m, hm⟩ : ∃ m, m = (Au.ofR r L).length := ⟨_, rfl⟩
  have HLk : Hid (∀ W, Below w.heap.size w W → (Instr.lookup 104 (.map (some M)) (.int .i64 r) false).run Tryd.prog W = .ok (.slice A m c) W) := Lib.hid (fun W hW => by
    have := (HH.out.below hW).look r Hr.out
    rw [HV.out, ← hm] at this
    exact this)
  have hlk64 : LK.length = 64 := HBa.out.2.1
  have WN : Hid (∀ W gI, Below w.heap.size w W → Row W gI 3 (Is LK) → Calls Tryd.prog 14 #[.slice A m c, .slice (some ⟨gI, 0, none⟩) 64 64, .int .i64 r, .int .i64 fl] W fun e w' => e = .returned (Au.winV (Au.winB LK r fl (Au.ofR r L))) ∧ Below W.heap.size W w') := Lib.hid (fun W gI hW hI => by
    have hW2 := HH.out.below hW
    have ho := hW2.own r
    rw [HV.out] at ho
    have h32 := hW2.fitsR r
    have h0 := win_any (Au.ofR r L) (fun b hb => (h32 b hb).tag) A c LK (some ⟨gI, 0, none⟩) 64 r fl W ((ho.lsAt (fun x hx => Bd.cells_len (h32 x hx).tag)).bds) (by have := hW2.ok.few r; omega) (FnIn.row hI hI.lt) (by omega) (HT.out.below hW HP.out)
    rw [hlk64, ← hm] at h0
    exact h0)
  have HFt0 := Au.winB_fits (F := LK) (r := r) (fl := fl) (fun b hb => HH.out.fitsR r b hb) hfl
  obtain ⟨R, hR⟩ : ∃ R, R = Au.winB LK r fl (Au.ofR r L) := ⟨_, rfl⟩
  rw [← hR] at WN HFt0 ⊢
  have HFt := Lib.hid HFt0
  obtain ⟨CR, hCR⟩ : ∃ CR, CR = Au.winC R := ⟨_, rfl⟩
  obtain ⟨rb, hrb⟩ : ∃ rb, rb = R.isSome := ⟨_, rfl⟩
  have HR37 : Hid (CR.length = 37) := Lib.hid (by rw [hCR]; exact Au.winC_len HFt.out)
  have HR1 : Hid (∀ v ∈ CR, v.oneCell' = true) := Lib.hid (by rw [hCR]; exact Au.winC_one HFt.out)
  have hwv : Au.winV R = .tuple #[.agg CR.toArray, .bool rb] := by rw [hCR, hrb]; rfl
  rw [hwv] at WN
  have HWV := Lib.hid hwv
  have HCR := Lib.hid hCR
  have HRB := Lib.hid hrb
  have hz := win_zv
  have HZ37 := Lib.hid (Au.wc_len (b := Bd.zero) (p := 0) rfl)
  have Hr0 := Lib.hid (Row.new w 32 (Au.wc Bd.zero 0))
  have Hb0 := Lib.hid ((Below.refl w.heap.size w).alloc (Nat.le_refl _) (.cells (Au.wc Bd.zero 0).toArray 32))
  generalize Au.wc Bd.zero 0 = WZ at *
  clear h hk hr hT hv hm hfl HFt0 hR hCR hrb hwv hlk64
  go_enter Tryd.func25, Tryd.ntmps25
  go_wp2_with fail
  refine wp_region_held_drew (S := fun w' => Row w' w.heap.size 32 WZ ∧ Below w.heap.size w w') (by kernel_rfl) (⟨Hr0.out.kept (grownBy_drew _ none) (by simp), Hb0.out.drew⟩) (fun hHeld => ?_)
  generalize (w.alloc (.cells WZ.toArray 32)).drew = wq at *
  refine wpAnyH_take (i := 0) (v := .pointer (some ⟨B, 0, none⟩)) rfl (by kernel_rfl) (by kernel_rfl) (by kernel_rfl) (fun _ _ _ h => h) (Or.inl ⟨by rfl, fun w' hSw => by go_simp⟩) hHeld ?_
  try simp only [Act.put, List.getElem_toArray, List.getElem_cons_succ, List.getElem_cons_zero, List.setIfInBounds_toArray, List.set_cons_zero, List.set_cons_succ]
  refine wpAnyH_take (i := 1) (v := .pointer (some ⟨B, 0, none⟩)) rfl (by kernel_rfl) (by kernel_rfl) (by kernel_rfl) (fun _ _ _ h => h) (Or.inl ⟨by rfl, fun w' hSw => by go_simp⟩) hHeld ?_
  try simp only [Act.put, List.getElem_toArray, List.getElem_cons_succ, List.getElem_cons_zero, List.setIfInBounds_toArray, List.set_cons_zero, List.set_cons_succ]
  refine wpAnyH_take (i := 2) (v := .pointer (some ⟨B, 1, none⟩)) rfl (by kernel_rfl) (by kernel_rfl) (by kernel_rfl) (fun _ _ _ h => h) (Or.inl ⟨by rfl, fun w' hSw => by go_simp⟩) hHeld ?_
  try simp only [Act.put, List.getElem_toArray, List.getElem_cons_succ, List.getElem_cons_zero, List.setIfInBounds_toArray, List.set_cons_zero, List.set_cons_succ]
  refine wpAnyH_take (i := 3) (v := .map (some M)) rfl (by kernel_rfl) (by kernel_rfl) (by kernel_rfl) (fun _ _ _ h => h) (Or.inl ⟨by rfl, fun w' hSw => by have hq := hSw; have q := (HH.out.below hq.2).c1; go_simp⟩) hHeld ?_
  try simp only [Act.put, List.getElem_toArray, List.getElem_cons_succ, List.getElem_cons_zero, List.setIfInBounds_toArray, List.set_cons_zero, List.set_cons_succ]
  refine wpAnyH_take (i := 4) (v := .int .i64 r) rfl (by kernel_rfl) (by kernel_rfl) (by kernel_rfl) (fun _ _ _ h => h) (Or.inl ⟨by rfl, fun w' hSw => by go_simp⟩) hHeld ?_
  try simp only [Act.put, List.getElem_toArray, List.getElem_cons_succ, List.getElem_cons_zero, List.setIfInBounds_toArray, List.set_cons_zero, List.set_cons_succ]
  refine wpAnyH_take (i := 5) (v := .slice A m c) rfl (by kernel_rfl) (by kernel_rfl) (by kernel_rfl) (fun _ _ _ h => h) (Or.inl ⟨by rfl, fun w' hSw => by have hq := hSw; have q := HLk.out _ hq.2; go_simp⟩) hHeld ?_
  try simp only [Act.put, List.getElem_toArray, List.getElem_cons_succ, List.getElem_cons_zero, List.setIfInBounds_toArray, List.set_cons_zero, List.set_cons_succ]
  refine wpAnyH_take (i := 6) (v := .pointer (some ⟨K, 0, none⟩)) rfl (by kernel_rfl) (by kernel_rfl) (by kernel_rfl) (fun _ _ _ h => h) (Or.inl ⟨by rfl, fun w' hSw => by go_simp⟩) hHeld ?_
  try simp only [Act.put, List.getElem_toArray, List.getElem_cons_succ, List.getElem_cons_zero, List.setIfInBounds_toArray, List.set_cons_zero, List.set_cons_succ]
  refine wpAnyH_take (i := 8) (v := .int .i64 r) rfl (by kernel_rfl) (by kernel_rfl) (by kernel_rfl) (fun _ _ _ h => h) (Or.inl ⟨by rfl, fun w' hSw => by go_simp⟩) hHeld ?_
  try simp only [Act.put, List.getElem_toArray, List.getElem_cons_succ, List.getElem_cons_zero, List.setIfInBounds_toArray, List.set_cons_zero, List.set_cons_succ]
  refine wpAnyH_take (i := 9) (v := .pointer (some ⟨B, 0, none⟩)) rfl (by kernel_rfl) (by kernel_rfl) (by kernel_rfl) (fun _ _ _ h => h) (Or.inl ⟨by rfl, fun w' hSw => by go_simp⟩) hHeld ?_
  try simp only [Act.put, List.getElem_toArray, List.getElem_cons_succ, List.getElem_cons_zero, List.setIfInBounds_toArray, List.set_cons_zero, List.set_cons_succ]
  refine wpAnyH_take (i := 10) (v := .pointer (some ⟨B, 0, none⟩)) rfl (by kernel_rfl) (by kernel_rfl) (by kernel_rfl) (fun _ _ _ h => h) (Or.inl ⟨by rfl, fun w' hSw => by go_simp⟩) hHeld ?_
  try simp only [Act.put, List.getElem_toArray, List.getElem_cons_succ, List.getElem_cons_zero, List.setIfInBounds_toArray, List.set_cons_zero, List.set_cons_succ]
  refine wpAnyH_take (i := 11) (v := .pointer (some ⟨B, 0, none⟩)) rfl (by kernel_rfl) (by kernel_rfl) (by kernel_rfl) (fun _ _ _ h => h) (Or.inl ⟨by rfl, fun w' hSw => by go_simp⟩) hHeld ?_
  try simp only [Act.put, List.getElem_toArray, List.getElem_cons_succ, List.getElem_cons_zero, List.setIfInBounds_toArray, List.set_cons_zero, List.set_cons_succ]
  refine wpAnyH_take (i := 12) (v := .int .i64 fl) rfl (by kernel_rfl) (by kernel_rfl) (by kernel_rfl) (fun _ _ _ h => h) (Or.inl ⟨by rfl, fun w' hSw => by have hq := hSw; have q := (HH.out.below hq.2).c0; go_simp⟩) hHeld ?_
  try simp only [Act.put, List.getElem_toArray, List.getElem_cons_succ, List.getElem_cons_zero, List.setIfInBounds_toArray, List.set_cons_zero, List.set_cons_succ]
  refine wpAnyH_ready (rs := [7, 17]) (by kernel_rfl) (by simp) (AllReadyH.cons rfl (fun K1 hK1 => ?_) (AllReadyH.cons rfl (fun K1 hK1 => ?_) AllReadyH.nil))
  · skip
    try simp only [Act.put, List.getElem_toArray, List.getElem_cons_succ, List.getElem_cons_zero, List.setIfInBounds_toArray, List.set_cons_zero, List.set_cons_succ]
    go_simp
    refine Calls.mono (Bn.bankAll_any _ K LK (HBa.out.kept (grownBy_of_below hHeld.2 none) (by simp))) ?_
    rintro e wa1 ⟨rfl, hI, hgI⟩
    have hc2 : Below wq.heap.size wq wa1 := ⟨hgI.os, hgI.tape, hgI.output, hgI.size, fun k hk => hgI.block k hk (by simp)⟩
    have HI : Hid (Row wa1 wq.heap.size 3 (Is LK)) := Lib.hid hI
    clear hI hgI
    have hHeld2 : Row wa1 w.heap.size 32 WZ ∧ Below w.heap.size w wa1 := ⟨hHeld.1.kept (grownBy_of_below hc2 none) (by simp), two_below' hHeld.2 hc2⟩
    generalize hgi : wq.heap.size = gI at *
    clear hgi
    refine hK1.out _ _ (hHeld2) (fun hHeld => ?_)
    clear hK1 K1
    try simp only [Act.put, List.getElem_toArray, List.getElem_cons_succ, List.getElem_cons_zero, List.setIfInBounds_toArray, List.set_cons_zero, List.set_cons_succ]
    clear hHeld2
    refine wpAnyH_ready (rs := [13, 17]) (by kernel_rfl) (by simp) (AllReadyH.cons rfl (fun K1 hK1 => ?_) (AllReadyH.cons rfl (fun K1 hK1 => ?_) AllReadyH.nil))
    · skip
      try simp only [Act.put, List.getElem_toArray, List.getElem_cons_succ, List.getElem_cons_zero, List.setIfInBounds_toArray, List.set_cons_zero, List.set_cons_succ]
      go_simp
      refine Calls.mono (WN.out _ gI hHeld.2 HI.out) ?_
      rintro e wv3 ⟨rfl, hc4⟩
      refine hK1.out _ _ (⟨hHeld.1.kept (grownBy_of_below hc4 none) (by simp), two_below' hHeld.2 hc4⟩) (fun hHeld => ?_)
      clear hK1 K1
      try simp only [Act.put, List.getElem_toArray, List.getElem_cons_succ, List.getElem_cons_zero, List.setIfInBounds_toArray, List.set_cons_zero, List.set_cons_succ]
      refine wpAnyH_take (i := 14) (v := .tuple #[.agg CR.toArray, .bool rb]) rfl (by kernel_rfl) (by kernel_rfl) (by kernel_rfl) (fun _ _ _ h => h) (Or.inl ⟨by rfl, fun w' hSw => by go_simp⟩) hHeld ?_
      try simp only [Act.put, List.getElem_toArray, List.getElem_cons_succ, List.getElem_cons_zero, List.setIfInBounds_toArray, List.set_cons_zero, List.set_cons_succ]
      refine wpAnyH_take (i := 15) (v := .agg CR.toArray) rfl (by kernel_rfl) (by kernel_rfl) (by kernel_rfl) (fun _ _ _ h => h) (Or.inl ⟨by rfl, fun w' hSw => by go_simp⟩) hHeld ?_
      try simp only [Act.put, List.getElem_toArray, List.getElem_cons_succ, List.getElem_cons_zero, List.setIfInBounds_toArray, List.set_cons_zero, List.set_cons_succ]
      refine wpAnyH_take (i := 16) (v := .bool rb) rfl (by kernel_rfl) (by kernel_rfl) (by kernel_rfl) (fun _ _ _ h => h) (Or.inl ⟨by rfl, fun w' hSw => by go_simp⟩) hHeld ?_
      try simp only [Act.put, List.getElem_toArray, List.getElem_cons_succ, List.getElem_cons_zero, List.setIfInBounds_toArray, List.set_cons_zero, List.set_cons_succ]
      refine wpAnyH_ready (rs := [17]) (by kernel_rfl) (by simp) (AllReadyH.cons rfl (fun K1 hK1 => ?_) AllReadyH.nil)
      try simp only [Act.put, List.getElem_toArray, List.getElem_cons_succ, List.getElem_cons_zero, List.setIfInBounds_toArray, List.set_cons_zero, List.set_cons_succ]
      go_simp
      have hd6 := (Below.refl wv3.heap.size wv3).alloc (Nat.le_refl _) (.cells WZ.toArray 32)
      have hHeld2 : Row (wv3.alloc (.cells WZ.toArray 32)) w.heap.size 32 WZ ∧ Below w.heap.size w (wv3.alloc (.cells WZ.toArray 32)) := ⟨hHeld.1.kept (grownBy_of_below hd6 none) (by simp), two_below' hHeld.2 hd6⟩
      have H8 : Hid (Row (wv3.alloc (.cells WZ.toArray 32)) wv3.heap.size 32 WZ) := Lib.hid (Row.new wv3 32 _)
      have N8 : Hid (w.heap.size ≠ wv3.heap.size ∧ w.heap.size ≤ wv3.heap.size) := Lib.hid ⟨by have := hHeld.1.lt; omega, hHeld.2.size⟩
      generalize wv3.alloc (.cells WZ.toArray 32) = wz5 at *
      generalize hg8 : wv3.heap.size = g8 at *
      clear hg8
      refine hK1.out _ _ (hHeld2) (fun hHeld => ?_)
      clear hK1 K1
      try simp only [Act.put, List.getElem_toArray, List.getElem_cons_succ, List.getElem_cons_zero, List.setIfInBounds_toArray, List.set_cons_zero, List.set_cons_succ]
      clear hHeld2
      refine wpAnyH_ready (rs := [18]) (by kernel_rfl) (by simp) (AllReadyH.cons rfl (fun K1 hK1 => ?_) AllReadyH.nil)
      try simp only [Act.put, List.getElem_toArray, List.getElem_cons_succ, List.getElem_cons_zero, List.setIfInBounds_toArray, List.set_cons_zero, List.set_cons_succ]
      rw [if_pos (by rfl)]
      refine wp_store_at 32 (.tmp 8) (.tmp 32) rfl g8 0 CR WZ 32 rfl rfl H8.out (by rw [HR37.out, HZ37.out]; omega) (by rw [win_size, HR37.out]) HR1.out ?_
      intro ws7 hrS hgS
      rw [splice_all (HR37.out.trans HZ37.out.symm)] at hrS
      have hHeld2 : Row ws7 w.heap.size 32 WZ ∧ Below w.heap.size w ws7 := ⟨hHeld.1.kept hgS (fun e => by injection e with e; exact N8.out.1 e), below_own hHeld.2 hgS (fun k hk => by cases hk; exact N8.out.2)⟩
      have HBl : Hid (Blocks w ws7 [(g8, 32, CR), (w.heap.size, 32, WZ)]) := Lib.hid (((Blocks.nil hHeld2.2).cons hHeld2.1).cons hrS)
      clear hrS hgS
      refine hK1.out _ _ (hHeld2) (fun hHeld => ?_)
      clear hK1 K1
      try simp only [Act.put, List.getElem_toArray, List.getElem_cons_succ, List.getElem_cons_zero, List.setIfInBounds_toArray, List.set_cons_zero, List.set_cons_succ]
      clear hHeld2
      refine wpAnyH_take (i := 19) (v := .bool rb) rfl (by kernel_rfl) (by kernel_rfl) (by kernel_rfl) (fun _ _ _ h => h) (Or.inl ⟨by rfl, fun w' hSw => by go_simp⟩) hHeld ?_
      try simp only [Act.put, List.getElem_toArray, List.getElem_cons_succ, List.getElem_cons_zero, List.setIfInBounds_toArray, List.set_cons_zero, List.set_cons_succ]
      refine wpAnyH_done (by kernel_rfl) ?_ _
      clear hHeld H8 N8
      have HHs := Lib.hid (HH.out.below HBl.out.1)
      have c1 := HHs.out.c1
      obtain ⟨D, N, hN, hD, hR⟩ := HHs.out.map
      have HNn := Lib.hid hN
      have HDs := Lib.hid hD
      have HRd := Lib.hid hR
      clear hN hD hR
      cases R with
      | none =>
        have hrb : rb = false := HRB.out
        subst hrb
        go_wp2_with (first
          | (at_delete; refine wpList_delete_own _ rfl _ _ 104 3 rfl 22 lawI15 Tryd.underlying104 _ M N D rfl HDs.out _ _ rfl (key15 Hr.out) ?_
             intro w2 hown2 hturn2
             have hg2 := hturn2.grown
             have HC2 := Lib.hid (CloseAt.dropped HH.out HBa.out HBl.out.1 HNn.out HRd.out HDs.out hown2 hg2)
             have HR8 : Hid (Row w2 g8 32 CR) := Lib.hid (HBl.out.hd.kept hg2 (fun e => by injection e with e; exact row_ne_map HDs.out HBl.out.hd e))
             have HR6 : Hid (Row w2 w.heap.size 32 WZ) := Lib.hid (HBl.out.tl.hd.kept hg2 (fun e => by injection e with e; exact row_ne_map HDs.out HBl.out.tl.hd e))
             skip
             clear hown2 hturn2 hg2
             go_frame)
          | (first
            | ((with_reducible show wpList _ _ _ (⟨_, .load 32 (.tmp 8), _, _, _, _⟩ :: _) _ _); refine wpList_load_tx rfl 32 (.tmp 8) rfl g8 0 (rfl) CR _ (row_range HR8.out) Tryd.underlying32 rfl (by rw [win_size, HR37.out]) ?_)
            | (
               with_reducible show wpList _ _ _ (⟨_, .store 32 (.tmp 6) _, _, _, _, _⟩ :: _) _ _
               refine wpList_store_at rfl 32 (.tmp 6) (.tmp 47) rfl w.heap.size 0 CR WZ _ rfl rfl (HR6.out) (by have := HZ37.out; have := HR37.out; omega) (by rw [win_size, HR37.out]) HR1.out ?_
               intro wl hr hg
               rw [splice_all (HR37.out.trans HZ37.out.symm)] at hr
               have HrL := Lib.hid hr
               have HFin := Lib.hid (CloseAt.put HC2.out (Nat.le_refl _) hg)
               clear hr hg)))
        refine bodyPost_ret (results_rowL rfl _ _ w.heap.size 32 _ _ rfl HrL.out Tryd.underlying32 rfl (by rw [win_size, List.size_toArray, HR37.out]) _ rfl) rfl ⟨?_, HFin.out⟩
        rw [HWV.out]
        rfl
      | some bp =>
        obtain ⟨b, p⟩ := bp
        have hrb : rb = true := HRB.out
        subst hrb
        have HC8 : Hid (∀ W g, Row W g 32 CR → W.cell? ⟨g, 1, none⟩ = some (.int .i64 b.who) ∧ W.cell? ⟨g, 36, none⟩ = some (.int .i64 p)) := Lib.hid (fun W g h => by
          have hcr : CR = Au.wc b p := HCR.out
          rw [hcr] at h
          have h1 := row_range h
          have h2 : W.rangeAt g 0 b.cells := range_head h1
          have h36 := Bd.cells_len HFt.out.1.tag
          have h3 := h1 36 (.int .i64 p) (by unfold Au.wc; rw [List.getElem?_append_right (by rw [h36]; omega), h36]; rfl)
          have a1 := h2 1 _ rfl
          rw [Nat.zero_add] at a1 h3
          exact ⟨a1, h3⟩)
        go_wp2_with (first
          | (at_delete; refine wpList_delete_own _ rfl _ _ 104 3 rfl 22 lawI15 Tryd.underlying104 _ M N D rfl HDs.out _ _ rfl (key15 Hr.out) ?_
             intro w2 hown2 hturn2
             have hg2 := hturn2.grown
             have HC2 := Lib.hid (CloseAt.dropped HH.out HBa.out HBl.out.1 HNn.out HRd.out HDs.out hown2 hg2)
             have HR8 : Hid (Row w2 g8 32 CR) := Lib.hid (HBl.out.hd.kept hg2 (fun e => by injection e with e; exact row_ne_map HDs.out HBl.out.hd e))
             have HR6 : Hid (Row w2 w.heap.size 32 WZ) := Lib.hid (HBl.out.tl.hd.kept hg2 (fun e => by injection e with e; exact row_ne_map HDs.out HBl.out.tl.hd e))
             have qq := HC8.out _ _ HR8.out
             have q1 := qq.1
             have q36 := qq.2
             clear qq
             clear hown2 hturn2 hg2
             go_frame))
        refine (Bn.bankTake_any b.who p _ K LK HC2.out.bank).mono ?_
        rintro _ w9 ⟨rfl, hk9, hg9⟩
        have HC9 := Lib.hid (HC2.out.taken hk9 hg9)
        have HR89 := Lib.hid (HR8.out.kept hg9 (fun e => by injection e with e; exact row_ne_row HR8.out HC2.out.bank.1 (by decide) e))
        have HR69 := Lib.hid (HR6.out.kept hg9 (fun e => by injection e with e; exact row_ne_row HR6.out HC2.out.bank.1 (by decide) e))
        clear hk9 hg9 q1 q36
        go_wp2_with (first
          | ((with_reducible show wpList _ _ _ (⟨_, .load 32 (.tmp 8), _, _, _, _⟩ :: _) _ _); refine wpList_load_tx rfl 32 (.tmp 8) rfl g8 0 (rfl) CR _ (row_range HR89.out) Tryd.underlying32 rfl (by rw [win_size, HR37.out]) ?_)
          | (
             with_reducible show wpList _ _ _ (⟨_, .store 32 (.tmp 6) _, _, _, _, _⟩ :: _) _ _
             refine wpList_store_at rfl 32 (.tmp 6) (.tmp 47) rfl w.heap.size 0 CR WZ _ rfl rfl (HR69.out) (by have := HZ37.out; have := HR37.out; omega) (by rw [win_size, HR37.out]) HR1.out ?_
             intro wl hr hg
             rw [splice_all (HR37.out.trans HZ37.out.symm)] at hr
             have HrL := Lib.hid hr
             have HFin := Lib.hid (CloseAt.put HC9.out (Nat.le_refl _) hg)
             clear hr hg))
        refine bodyPost_ret (results_rowL rfl _ _ w.heap.size 32 _ _ rfl HrL.out Tryd.underlying32 rfl (by rw [win_size, List.size_toArray, HR37.out]) _ rfl) rfl ⟨?_, HFin.out⟩
        rw [HWV.out]
        rfl
    · skip
      try simp only [Act.put, List.getElem_toArray, List.getElem_cons_succ, List.getElem_cons_zero, List.setIfInBounds_toArray, List.set_cons_zero, List.set_cons_succ]
      go_simp
      have hd9 := (Below.refl wa1.heap.size wa1).alloc (Nat.le_refl _) (.cells WZ.toArray 32)
      replace HI := Lib.hid (HI.out.kept (grownBy_of_below hd9 none) (by simp))
      have hHeld2 : Row (wa1.alloc (.cells WZ.toArray 32)) w.heap.size 32 WZ ∧ Below w.heap.size w (wa1.alloc (.cells WZ.toArray 32)) := ⟨hHeld.1.kept (grownBy_of_below hd9 none) (by simp), two_below' hHeld.2 hd9⟩
      have H8 : Hid (Row (wa1.alloc (.cells WZ.toArray 32)) wa1.heap.size 32 WZ) := Lib.hid (Row.new wa1 32 _)
      have N8 : Hid (w.heap.size ≠ wa1.heap.size ∧ w.heap.size ≤ wa1.heap.size) := Lib.hid ⟨by have := hHeld.1.lt; omega, hHeld.2.size⟩
      generalize wa1.alloc (.cells WZ.toArray 32) = wz8 at *
      generalize hg8 : wa1.heap.size = g8 at *
      clear hg8
      refine hK1.out _ _ (hHeld2) (fun hHeld => ?_)
      clear hK1 K1
      try simp only [Act.put, List.getElem_toArray, List.getElem_cons_succ, List.getElem_cons_zero, List.setIfInBounds_toArray, List.set_cons_zero, List.set_cons_succ]
      clear hHeld2
      refine wpAnyH_ready (rs := [13]) (by kernel_rfl) (by simp) (AllReadyH.cons rfl (fun K1 hK1 => ?_) AllReadyH.nil)
      try simp only [Act.put, List.getElem_toArray, List.getElem_cons_succ, List.getElem_cons_zero, List.setIfInBounds_toArray, List.set_cons_zero, List.set_cons_succ]
      go_simp
      refine Calls.mono (WN.out _ gI hHeld.2 HI.out) ?_
      rintro e wv10 ⟨rfl, hc11⟩
      replace H8 := Lib.hid (H8.out.kept (grownBy_of_below hc11 none) (by simp))
      refine hK1.out _ _ (⟨hHeld.1.kept (grownBy_of_below hc11 none) (by simp), two_below' hHeld.2 hc11⟩) (fun hHeld => ?_)
      clear hK1 K1
      try simp only [Act.put, List.getElem_toArray, List.getElem_cons_succ, List.getElem_cons_zero, List.setIfInBounds_toArray, List.set_cons_zero, List.set_cons_succ]
      refine wpAnyH_take (i := 14) (v := .tuple #[.agg CR.toArray, .bool rb]) rfl (by kernel_rfl) (by kernel_rfl) (by kernel_rfl) (fun _ _ _ h => h) (Or.inl ⟨by rfl, fun w' hSw => by go_simp⟩) hHeld ?_
      try simp only [Act.put, List.getElem_toArray, List.getElem_cons_succ, List.getElem_cons_zero, List.setIfInBounds_toArray, List.set_cons_zero, List.set_cons_succ]
      refine wpAnyH_take (i := 15) (v := .agg CR.toArray) rfl (by kernel_rfl) (by kernel_rfl) (by kernel_rfl) (fun _ _ _ h => h) (Or.inl ⟨by rfl, fun w' hSw => by go_simp⟩) hHeld ?_
      try simp only [Act.put, List.getElem_toArray, List.getElem_cons_succ, List.getElem_cons_zero, List.setIfInBounds_toArray, List.set_cons_zero, List.set_cons_succ]
      refine wpAnyH_take (i := 16) (v := .bool rb) rfl (by kernel_rfl) (by kernel_rfl) (by kernel_rfl) (fun _ _ _ h => h) (Or.inl ⟨by rfl, fun w' hSw => by go_simp⟩) hHeld ?_
      try simp only [Act.put, List.getElem_toArray, List.getElem_cons_succ, List.getElem_cons_zero, List.setIfInBounds_toArray, List.set_cons_zero, List.set_cons_succ]
      refine wpAnyH_ready (rs := [18]) (by kernel_rfl) (by simp) (AllReadyH.cons rfl (fun K1 hK1 => ?_) AllReadyH.nil)
      try simp only [Act.put, List.getElem_toArray, List.getElem_cons_succ, List.getElem_cons_zero, List.setIfInBounds_toArray, List.set_cons_zero, List.set_cons_succ]
      rw [if_pos (by rfl)]
      refine wp_store_at 32 (.tmp 8) (.tmp 32) rfl g8 0 CR WZ 32 rfl rfl H8.out (by rw [HR37.out, HZ37.out]; omega) (by rw [win_size, HR37.out]) HR1.out ?_
      intro ws12 hrS hgS
      rw [splice_all (HR37.out.trans HZ37.out.symm)] at hrS
      have hHeld2 : Row ws12 w.heap.size 32 WZ ∧ Below w.heap.size w ws12 := ⟨hHeld.1.kept hgS (fun e => by injection e with e; exact N8.out.1 e), below_own hHeld.2 hgS (fun k hk => by cases hk; exact N8.out.2)⟩
      have HBl : Hid (Blocks w ws12 [(g8, 32, CR), (w.heap.size, 32, WZ)]) := Lib.hid (((Blocks.nil hHeld2.2).cons hHeld2.1).cons hrS)
      clear hrS hgS
      refine hK1.out _ _ (hHeld2) (fun hHeld => ?_)
      clear hK1 K1
      try simp only [Act.put, List.getElem_toArray, List.getElem_cons_succ, List.getElem_cons_zero, List.setIfInBounds_toArray, List.set_cons_zero, List.set_cons_succ]
      clear hHeld2
      refine wpAnyH_take (i := 19) (v := .bool rb) rfl (by kernel_rfl) (by kernel_rfl) (by kernel_rfl) (fun _ _ _ h => h) (Or.inl ⟨by rfl, fun w' hSw => by go_simp⟩) hHeld ?_
      try simp only [Act.put, List.getElem_toArray, List.getElem_cons_succ, List.getElem_cons_zero, List.setIfInBounds_toArray, List.set_cons_zero, List.set_cons_succ]
      refine wpAnyH_done (by kernel_rfl) ?_ _
      clear hHeld H8 N8
      have HHs := Lib.hid (HH.out.below HBl.out.1)
      have c1 := HHs.out.c1
      obtain ⟨D, N, hN, hD, hR⟩ := HHs.out.map
      have HNn := Lib.hid hN
      have HDs := Lib.hid hD
      have HRd := Lib.hid hR
      clear hN hD hR
      cases R with
      | none =>
        have hrb : rb = false := HRB.out
        subst hrb
        go_wp2_with (first
          | (at_delete; refine wpList_delete_own _ rfl _ _ 104 3 rfl 22 lawI15 Tryd.underlying104 _ M N D rfl HDs.out _ _ rfl (key15 Hr.out) ?_
             intro w2 hown2 hturn2
             have hg2 := hturn2.grown
             have HC2 := Lib.hid (CloseAt.dropped HH.out HBa.out HBl.out.1 HNn.out HRd.out HDs.out hown2 hg2)
             have HR8 : Hid (Row w2 g8 32 CR) := Lib.hid (HBl.out.hd.kept hg2 (fun e => by injection e with e; exact row_ne_map HDs.out HBl.out.hd e))
             have HR6 : Hid (Row w2 w.heap.size 32 WZ) := Lib.hid (HBl.out.tl.hd.kept hg2 (fun e => by injection e with e; exact row_ne_map HDs.out HBl.out.tl.hd e))
             skip
             clear hown2 hturn2 hg2
             go_frame)
          | (first
            | ((with_reducible show wpList _ _ _ (⟨_, .load 32 (.tmp 8), _, _, _, _⟩ :: _) _ _); refine wpList_load_tx rfl 32 (.tmp 8) rfl g8 0 (rfl) CR _ (row_range HR8.out) Tryd.underlying32 rfl (by rw [win_size, HR37.out]) ?_)
            | (
               with_reducible show wpList _ _ _ (⟨_, .store 32 (.tmp 6) _, _, _, _, _⟩ :: _) _ _
               refine wpList_store_at rfl 32 (.tmp 6) (.tmp 47) rfl w.heap.size 0 CR WZ _ rfl rfl (HR6.out) (by have := HZ37.out; have := HR37.out; omega) (by rw [win_size, HR37.out]) HR1.out ?_
               intro wl hr hg
               rw [splice_all (HR37.out.trans HZ37.out.symm)] at hr
               have HrL := Lib.hid hr
               have HFin := Lib.hid (CloseAt.put HC2.out (Nat.le_refl _) hg)
               clear hr hg)))
        refine bodyPost_ret (results_rowL rfl _ _ w.heap.size 32 _ _ rfl HrL.out Tryd.underlying32 rfl (by rw [win_size, List.size_toArray, HR37.out]) _ rfl) rfl ⟨?_, HFin.out⟩
        rw [HWV.out]
        rfl
      | some bp =>
        obtain ⟨b, p⟩ := bp
        have hrb : rb = true := HRB.out
        subst hrb
        have HC8 : Hid (∀ W g, Row W g 32 CR → W.cell? ⟨g, 1, none⟩ = some (.int .i64 b.who) ∧ W.cell? ⟨g, 36, none⟩ = some (.int .i64 p)) := Lib.hid (fun W g h => by
          have hcr : CR = Au.wc b p := HCR.out
          rw [hcr] at h
          have h1 := row_range h
          have h2 : W.rangeAt g 0 b.cells := range_head h1
          have h36 := Bd.cells_len HFt.out.1.tag
          have h3 := h1 36 (.int .i64 p) (by unfold Au.wc; rw [List.getElem?_append_right (by rw [h36]; omega), h36]; rfl)
          have a1 := h2 1 _ rfl
          rw [Nat.zero_add] at a1 h3
          exact ⟨a1, h3⟩)
        go_wp2_with (first
          | (at_delete; refine wpList_delete_own _ rfl _ _ 104 3 rfl 22 lawI15 Tryd.underlying104 _ M N D rfl HDs.out _ _ rfl (key15 Hr.out) ?_
             intro w2 hown2 hturn2
             have hg2 := hturn2.grown
             have HC2 := Lib.hid (CloseAt.dropped HH.out HBa.out HBl.out.1 HNn.out HRd.out HDs.out hown2 hg2)
             have HR8 : Hid (Row w2 g8 32 CR) := Lib.hid (HBl.out.hd.kept hg2 (fun e => by injection e with e; exact row_ne_map HDs.out HBl.out.hd e))
             have HR6 : Hid (Row w2 w.heap.size 32 WZ) := Lib.hid (HBl.out.tl.hd.kept hg2 (fun e => by injection e with e; exact row_ne_map HDs.out HBl.out.tl.hd e))
             have qq := HC8.out _ _ HR8.out
             have q1 := qq.1
             have q36 := qq.2
             clear qq
             clear hown2 hturn2 hg2
             go_frame))
        refine (Bn.bankTake_any b.who p _ K LK HC2.out.bank).mono ?_
        rintro _ w9 ⟨rfl, hk9, hg9⟩
        have HC9 := Lib.hid (HC2.out.taken hk9 hg9)
        have HR89 := Lib.hid (HR8.out.kept hg9 (fun e => by injection e with e; exact row_ne_row HR8.out HC2.out.bank.1 (by decide) e))
        have HR69 := Lib.hid (HR6.out.kept hg9 (fun e => by injection e with e; exact row_ne_row HR6.out HC2.out.bank.1 (by decide) e))
        clear hk9 hg9 q1 q36
        go_wp2_with (first
          | ((with_reducible show wpList _ _ _ (⟨_, .load 32 (.tmp 8), _, _, _, _⟩ :: _) _ _); refine wpList_load_tx rfl 32 (.tmp 8) rfl g8 0 (rfl) CR _ (row_range HR89.out) Tryd.underlying32 rfl (by rw [win_size, HR37.out]) ?_)
          | (
             with_reducible show wpList _ _ _ (⟨_, .store 32 (.tmp 6) _, _, _, _, _⟩ :: _) _ _
             refine wpList_store_at rfl 32 (.tmp 6) (.tmp 47) rfl w.heap.size 0 CR WZ _ rfl rfl (HR69.out) (by have := HZ37.out; have := HR37.out; omega) (by rw [win_size, HR37.out]) HR1.out ?_
             intro wl hr hg
             rw [splice_all (HR37.out.trans HZ37.out.symm)] at hr
             have HrL := Lib.hid hr
             have HFin := Lib.hid (CloseAt.put HC9.out (Nat.le_refl _) hg)
             clear hr hg))
        refine bodyPost_ret (results_rowL rfl _ _ w.heap.size 32 _ _ rfl HrL.out Tryd.underlying32 rfl (by rw [win_size, List.size_toArray, HR37.out]) _ rfl) rfl ⟨?_, HFin.out⟩
        rw [HWV.out]
        rfl
  · skip
    try simp only [Act.put, List.getElem_toArray, List.getElem_cons_succ, List.getElem_cons_zero, List.setIfInBounds_toArray, List.set_cons_zero, List.set_cons_succ]
    go_simp
    have hd14 := (Below.refl wq.heap.size wq).alloc (Nat.le_refl _) (.cells WZ.toArray 32)
    have hHeld2 : Row (wq.alloc (.cells WZ.toArray 32)) w.heap.size 32 WZ ∧ Below w.heap.size w (wq.alloc (.cells WZ.toArray 32)) := ⟨hHeld.1.kept (grownBy_of_below hd14 none) (by simp), two_below' hHeld.2 hd14⟩
    have H8 : Hid (Row (wq.alloc (.cells WZ.toArray 32)) wq.heap.size 32 WZ) := Lib.hid (Row.new wq 32 _)
    have N8 : Hid (w.heap.size ≠ wq.heap.size ∧ w.heap.size ≤ wq.heap.size) := Lib.hid ⟨by have := hHeld.1.lt; omega, hHeld.2.size⟩
    generalize wq.alloc (.cells WZ.toArray 32) = wz13 at *
    generalize hg8 : wq.heap.size = g8 at *
    clear hg8
    refine hK1.out _ _ (hHeld2) (fun hHeld => ?_)
    clear hK1 K1
    try simp only [Act.put, List.getElem_toArray, List.getElem_cons_succ, List.getElem_cons_zero, List.setIfInBounds_toArray, List.set_cons_zero, List.set_cons_succ]
    clear hHeld2
    refine wpAnyH_ready (rs := [7]) (by kernel_rfl) (by simp) (AllReadyH.cons rfl (fun K1 hK1 => ?_) AllReadyH.nil)
    try simp only [Act.put, List.getElem_toArray, List.getElem_cons_succ, List.getElem_cons_zero, List.setIfInBounds_toArray, List.set_cons_zero, List.set_cons_succ]
    go_simp
    refine Calls.mono (Bn.bankAll_any _ K LK (HBa.out.kept (grownBy_of_below hHeld.2 none) (by simp))) ?_
    rintro e wa15 ⟨rfl, hI, hgI⟩
    have hc16 : Below wz13.heap.size wz13 wa15 := ⟨hgI.os, hgI.tape, hgI.output, hgI.size, fun k hk => hgI.block k hk (by simp)⟩
    replace H8 := Lib.hid (H8.out.kept (grownBy_of_below hc16 none) (by simp))
    have HI : Hid (Row wa15 wz13.heap.size 3 (Is LK)) := Lib.hid hI
    clear hI hgI
    have hHeld2 : Row wa15 w.heap.size 32 WZ ∧ Below w.heap.size w wa15 := ⟨hHeld.1.kept (grownBy_of_below hc16 none) (by simp), two_below' hHeld.2 hc16⟩
    generalize hgi : wz13.heap.size = gI at *
    clear hgi
    refine hK1.out _ _ (hHeld2) (fun hHeld => ?_)
    clear hK1 K1
    try simp only [Act.put, List.getElem_toArray, List.getElem_cons_succ, List.getElem_cons_zero, List.setIfInBounds_toArray, List.set_cons_zero, List.set_cons_succ]
    clear hHeld2
    refine wpAnyH_ready (rs := [13]) (by kernel_rfl) (by simp) (AllReadyH.cons rfl (fun K1 hK1 => ?_) AllReadyH.nil)
    try simp only [Act.put, List.getElem_toArray, List.getElem_cons_succ, List.getElem_cons_zero, List.setIfInBounds_toArray, List.set_cons_zero, List.set_cons_succ]
    go_simp
    refine Calls.mono (WN.out _ gI hHeld.2 HI.out) ?_
    rintro e wv17 ⟨rfl, hc18⟩
    replace H8 := Lib.hid (H8.out.kept (grownBy_of_below hc18 none) (by simp))
    refine hK1.out _ _ (⟨hHeld.1.kept (grownBy_of_below hc18 none) (by simp), two_below' hHeld.2 hc18⟩) (fun hHeld => ?_)
    clear hK1 K1
    try simp only [Act.put, List.getElem_toArray, List.getElem_cons_succ, List.getElem_cons_zero, List.setIfInBounds_toArray, List.set_cons_zero, List.set_cons_succ]
    refine wpAnyH_take (i := 14) (v := .tuple #[.agg CR.toArray, .bool rb]) rfl (by kernel_rfl) (by kernel_rfl) (by kernel_rfl) (fun _ _ _ h => h) (Or.inl ⟨by rfl, fun w' hSw => by go_simp⟩) hHeld ?_
    try simp only [Act.put, List.getElem_toArray, List.getElem_cons_succ, List.getElem_cons_zero, List.setIfInBounds_toArray, List.set_cons_zero, List.set_cons_succ]
    refine wpAnyH_take (i := 15) (v := .agg CR.toArray) rfl (by kernel_rfl) (by kernel_rfl) (by kernel_rfl) (fun _ _ _ h => h) (Or.inl ⟨by rfl, fun w' hSw => by go_simp⟩) hHeld ?_
    try simp only [Act.put, List.getElem_toArray, List.getElem_cons_succ, List.getElem_cons_zero, List.setIfInBounds_toArray, List.set_cons_zero, List.set_cons_succ]
    refine wpAnyH_take (i := 16) (v := .bool rb) rfl (by kernel_rfl) (by kernel_rfl) (by kernel_rfl) (fun _ _ _ h => h) (Or.inl ⟨by rfl, fun w' hSw => by go_simp⟩) hHeld ?_
    try simp only [Act.put, List.getElem_toArray, List.getElem_cons_succ, List.getElem_cons_zero, List.setIfInBounds_toArray, List.set_cons_zero, List.set_cons_succ]
    refine wpAnyH_ready (rs := [18]) (by kernel_rfl) (by simp) (AllReadyH.cons rfl (fun K1 hK1 => ?_) AllReadyH.nil)
    try simp only [Act.put, List.getElem_toArray, List.getElem_cons_succ, List.getElem_cons_zero, List.setIfInBounds_toArray, List.set_cons_zero, List.set_cons_succ]
    rw [if_pos (by rfl)]
    refine wp_store_at 32 (.tmp 8) (.tmp 32) rfl g8 0 CR WZ 32 rfl rfl H8.out (by rw [HR37.out, HZ37.out]; omega) (by rw [win_size, HR37.out]) HR1.out ?_
    intro ws19 hrS hgS
    rw [splice_all (HR37.out.trans HZ37.out.symm)] at hrS
    have hHeld2 : Row ws19 w.heap.size 32 WZ ∧ Below w.heap.size w ws19 := ⟨hHeld.1.kept hgS (fun e => by injection e with e; exact N8.out.1 e), below_own hHeld.2 hgS (fun k hk => by cases hk; exact N8.out.2)⟩
    have HBl : Hid (Blocks w ws19 [(g8, 32, CR), (w.heap.size, 32, WZ)]) := Lib.hid (((Blocks.nil hHeld2.2).cons hHeld2.1).cons hrS)
    clear hrS hgS
    refine hK1.out _ _ (hHeld2) (fun hHeld => ?_)
    clear hK1 K1
    try simp only [Act.put, List.getElem_toArray, List.getElem_cons_succ, List.getElem_cons_zero, List.setIfInBounds_toArray, List.set_cons_zero, List.set_cons_succ]
    clear hHeld2
    refine wpAnyH_take (i := 19) (v := .bool rb) rfl (by kernel_rfl) (by kernel_rfl) (by kernel_rfl) (fun _ _ _ h => h) (Or.inl ⟨by rfl, fun w' hSw => by go_simp⟩) hHeld ?_
    try simp only [Act.put, List.getElem_toArray, List.getElem_cons_succ, List.getElem_cons_zero, List.setIfInBounds_toArray, List.set_cons_zero, List.set_cons_succ]
    refine wpAnyH_done (by kernel_rfl) ?_ _
    clear hHeld H8 N8
    have HHs := Lib.hid (HH.out.below HBl.out.1)
    have c1 := HHs.out.c1
    obtain ⟨D, N, hN, hD, hR⟩ := HHs.out.map
    have HNn := Lib.hid hN
    have HDs := Lib.hid hD
    have HRd := Lib.hid hR
    clear hN hD hR
    cases R with
    | none =>
      have hrb : rb = false := HRB.out
      subst hrb
      go_wp2_with (first
        | (at_delete; refine wpList_delete_own _ rfl _ _ 104 3 rfl 22 lawI15 Tryd.underlying104 _ M N D rfl HDs.out _ _ rfl (key15 Hr.out) ?_
           intro w2 hown2 hturn2
           have hg2 := hturn2.grown
           have HC2 := Lib.hid (CloseAt.dropped HH.out HBa.out HBl.out.1 HNn.out HRd.out HDs.out hown2 hg2)
           have HR8 : Hid (Row w2 g8 32 CR) := Lib.hid (HBl.out.hd.kept hg2 (fun e => by injection e with e; exact row_ne_map HDs.out HBl.out.hd e))
           have HR6 : Hid (Row w2 w.heap.size 32 WZ) := Lib.hid (HBl.out.tl.hd.kept hg2 (fun e => by injection e with e; exact row_ne_map HDs.out HBl.out.tl.hd e))
           skip
           clear hown2 hturn2 hg2
           go_frame)
        | (first
          | ((with_reducible show wpList _ _ _ (⟨_, .load 32 (.tmp 8), _, _, _, _⟩ :: _) _ _); refine wpList_load_tx rfl 32 (.tmp 8) rfl g8 0 (rfl) CR _ (row_range HR8.out) Tryd.underlying32 rfl (by rw [win_size, HR37.out]) ?_)
          | (
             with_reducible show wpList _ _ _ (⟨_, .store 32 (.tmp 6) _, _, _, _, _⟩ :: _) _ _
             refine wpList_store_at rfl 32 (.tmp 6) (.tmp 47) rfl w.heap.size 0 CR WZ _ rfl rfl (HR6.out) (by have := HZ37.out; have := HR37.out; omega) (by rw [win_size, HR37.out]) HR1.out ?_
             intro wl hr hg
             rw [splice_all (HR37.out.trans HZ37.out.symm)] at hr
             have HrL := Lib.hid hr
             have HFin := Lib.hid (CloseAt.put HC2.out (Nat.le_refl _) hg)
             clear hr hg)))
      refine bodyPost_ret (results_rowL rfl _ _ w.heap.size 32 _ _ rfl HrL.out Tryd.underlying32 rfl (by rw [win_size, List.size_toArray, HR37.out]) _ rfl) rfl ⟨?_, HFin.out⟩
      rw [HWV.out]
      rfl
    | some bp =>
      obtain ⟨b, p⟩ := bp
      have hrb : rb = true := HRB.out
      subst hrb
      have HC8 : Hid (∀ W g, Row W g 32 CR → W.cell? ⟨g, 1, none⟩ = some (.int .i64 b.who) ∧ W.cell? ⟨g, 36, none⟩ = some (.int .i64 p)) := Lib.hid (fun W g h => by
        have hcr : CR = Au.wc b p := HCR.out
        rw [hcr] at h
        have h1 := row_range h
        have h2 : W.rangeAt g 0 b.cells := range_head h1
        have h36 := Bd.cells_len HFt.out.1.tag
        have h3 := h1 36 (.int .i64 p) (by unfold Au.wc; rw [List.getElem?_append_right (by rw [h36]; omega), h36]; rfl)
        have a1 := h2 1 _ rfl
        rw [Nat.zero_add] at a1 h3
        exact ⟨a1, h3⟩)
      go_wp2_with (first
        | (at_delete; refine wpList_delete_own _ rfl _ _ 104 3 rfl 22 lawI15 Tryd.underlying104 _ M N D rfl HDs.out _ _ rfl (key15 Hr.out) ?_
           intro w2 hown2 hturn2
           have hg2 := hturn2.grown
           have HC2 := Lib.hid (CloseAt.dropped HH.out HBa.out HBl.out.1 HNn.out HRd.out HDs.out hown2 hg2)
           have HR8 : Hid (Row w2 g8 32 CR) := Lib.hid (HBl.out.hd.kept hg2 (fun e => by injection e with e; exact row_ne_map HDs.out HBl.out.hd e))
           have HR6 : Hid (Row w2 w.heap.size 32 WZ) := Lib.hid (HBl.out.tl.hd.kept hg2 (fun e => by injection e with e; exact row_ne_map HDs.out HBl.out.tl.hd e))
           have qq := HC8.out _ _ HR8.out
           have q1 := qq.1
           have q36 := qq.2
           clear qq
           clear hown2 hturn2 hg2
           go_frame))
      refine (Bn.bankTake_any b.who p _ K LK HC2.out.bank).mono ?_
      rintro _ w9 ⟨rfl, hk9, hg9⟩
      have HC9 := Lib.hid (HC2.out.taken hk9 hg9)
      have HR89 := Lib.hid (HR8.out.kept hg9 (fun e => by injection e with e; exact row_ne_row HR8.out HC2.out.bank.1 (by decide) e))
      have HR69 := Lib.hid (HR6.out.kept hg9 (fun e => by injection e with e; exact row_ne_row HR6.out HC2.out.bank.1 (by decide) e))
      clear hk9 hg9 q1 q36
      go_wp2_with (first
        | ((with_reducible show wpList _ _ _ (⟨_, .load 32 (.tmp 8), _, _, _, _⟩ :: _) _ _); refine wpList_load_tx rfl 32 (.tmp 8) rfl g8 0 (rfl) CR _ (row_range HR89.out) Tryd.underlying32 rfl (by rw [win_size, HR37.out]) ?_)
        | (
           with_reducible show wpList _ _ _ (⟨_, .store 32 (.tmp 6) _, _, _, _, _⟩ :: _) _ _
           refine wpList_store_at rfl 32 (.tmp 6) (.tmp 47) rfl w.heap.size 0 CR WZ _ rfl rfl (HR69.out) (by have := HZ37.out; have := HR37.out; omega) (by rw [win_size, HR37.out]) HR1.out ?_
           intro wl hr hg
           rw [splice_all (HR37.out.trans HZ37.out.symm)] at hr
           have HrL := Lib.hid hr
           have HFin := Lib.hid (CloseAt.put HC9.out (Nat.le_refl _) hg)
           clear hr hg))
      refine bodyPost_ret (results_rowL rfl _ _ w.heap.size 32 _ _ rfl HrL.out Tryd.underlying32 rfl (by rw [win_size, List.size_toArray, HR37.out]) _ rfl) rfl ⟨?_, HFin.out⟩
      rw [HWV.out]
      rfl
end Go.Proofs.YtlapmdgkcidhnaaDoor
