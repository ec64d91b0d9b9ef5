/- Two books and two banks, apart. -/
import Derived.Test.YtlapmdgkcidhnaaDoorRClose
namespace Go.Proofs.YtlapmdgkcidhnaaDoor
open Go.RowKit Go.Maps
set_option linter.unusedVariables false
set_option linter.unusedSimpArgs false

def Keep15 (W W' : World) : Prop := ∀ g T xs, T ≠ 106 → T ≠ 30 → T ≠ 47 → T ≠ 109 → T ≠ 3 → Row W g T xs → Row W' g T xs
theorem Keep15.below {w w' : World} (h : Below w.heap.size w w') : Keep15 w w' := fun g T xs _ _ _ _ _ hr => hr.below h
/-- the two books and the two banks, above w -/
structure AllB (w wr : World) (B M X Y G K : Nat) (fl : Int) (V : Int → Option Value) (LB : List Bd) (nB : Nat) (v : Value) (LR : List Bd) (nR : Nat) (KB KR : List Int) : Prop where
  low : Below w.heap.size w wr
  bk : BookAt wr w.heap.size B M fl V LB nB
  rb : RBookAt wr w.heap.size X v fl LR nR
  kb : Bn.BankAt wr K KB
  kr : Bn.RefAt wr Y G KR
  sep : ∀ k, BkS B M V k → ¬ RBkS X v k
  lo : w.heap.size ≤ K ∧ w.heap.size ≤ G
section
variable {w wr W : World} {B M X Y G K : Nat} {fl : Int} {V V' : Int → Option Value} {LB L' LR : List Bd} {nB nR n' : Nat} {v v' : Value} {KB KR KB' KR' : List Int} {S : Nat → Prop}
theorem AllB.bookStep (h : AllB w wr B M X Y G K fl V LB nB v LR nR KB KR) (hb : BookAt W w.heap.size B M fl V' L' n') (hk : Bn.BankAt W K KB') (hc : Chg S wr W) (hS : ∀ k, S k → BkS B M V k ∨ k = K) (hV : ∀ k, BkS B M V' k → BkS B M V k ∨ wr.heap.size ≤ k) :
    AllB w W B M X Y G K fl V' L' n' v LR nR KB' KR ∧ Keep15 wr W := by
  have hK := h.kb.1
  have nS : ∀ k T xs, Row wr k T xs → T ≠ 106 → T ≠ 30 → T ≠ 109 → ¬ S k := fun k T xs hr h1 h2 h3 hs => by
    rcases hS k hs with e | e
    · exact h.bk.not_row hr h1 h2 e
    · subst e; exact row_ne_row hr hK h3 rfl
  have nR : ∀ k, RBkS X v k → ¬ S k := fun k hk2 hs => by
    rcases hS k hs with e | e
    · exact h.sep k e hk2
    · subst e; exact h.rb.not_row hK (by decide) (by decide) hk2
  refine ⟨⟨?_, hb, h.rb.chg hc nR, hk, ⟨hc.row h.kr.1 (nS _ _ _ h.kr.1 (by decide) (by decide) (by decide)), hc.row h.kr.2.1 (nS _ _ _ h.kr.2.1 (by decide) (by decide) (by decide)), h.kr.2.2⟩, fun k hk hr => ?_, h.lo⟩, fun g T xs h1 h2 h3 h4 h5 hr => hc.row hr (nS _ _ _ hr h1 h2 h4)⟩
  · refine below_chg h.low hc h.low.size (fun k hs => ?_)
    rcases hS k hs with e | e
    · exact (h.bk.ltS k e).1
    · subst e; exact h.lo.1
  · rcases hV k hk with e | e
    · exact h.sep k e hr
    · have := (h.rb.lt k hr).2; omega
theorem AllB.refStep (h : AllB w wr B M X Y G K fl V LB nB v LR nR KB KR) (hb : RBookAt W w.heap.size X v' fl L' n') (hk : Bn.RefAt W Y G KR') (hc : Chg S wr W) (hS : ∀ k, S k → RBkS X v k ∨ k = G) (hV : ∀ k, RBkS X v' k → RBkS X v k ∨ wr.heap.size ≤ k) :
    AllB w W B M X Y G K fl V LB nB v' L' n' KB KR' ∧ Keep15 wr W := by
  have hG := h.kr.2.1
  have nS : ∀ k T xs, Row wr k T xs → T ≠ 47 → T ≠ 30 → T ≠ 3 → ¬ S k := fun k T xs hr h1 h2 h3 hs => by
    rcases hS k hs with e | e
    · exact h.rb.not_row hr h1 h2 e
    · subst e; exact row_ne_row hr hG h3 rfl
  have nB : ∀ k, BkS B M V k → ¬ S k := fun k hk2 hs => by
    rcases hS k hs with e | e
    · exact h.sep k hk2 e
    · subst e; exact h.bk.not_row hG (by decide) (by decide) hk2
  refine ⟨⟨?_, h.bk.chg hc nB, hb, ⟨hc.row h.kb.1 (nS _ _ _ h.kb.1 (by decide) (by decide) (by decide)), h.kb.2⟩, hk, fun k hk hr => ?_, h.lo⟩, fun g T xs h1 h2 h3 h4 h5 hr => hc.row hr (nS _ _ _ hr h3 h2 h5)⟩
  · refine below_chg h.low hc h.low.size (fun k hs => ?_)
    rcases hS k hs with e | e
    · exact (h.rb.lt k e).1
    · subst e; exact h.lo.2
  · rcases hV k hr with e | e
    · exact h.sep k hk e
    · have := (h.bk.ltS k hk).2; omega
end
/-- .. wherever their lists lie -/
def Sit (w wr : World) (B M X Y G K : Nat) (fl : Int) (LB : List Bd) (nB : Nat) (LR : List Bd) (nR : Nat) (KB KR : List Int) : Prop := ∃ V v, AllB w wr B M X Y G K fl V LB nB v LR nR KB KR
section
variable {w wr : World} {B M X Y G K : Nat} {fl : Int} {LB LR : List Bd} {nB nR : Nat} {KB KR : List Int}
theorem Sit.low (h : Sit w wr B M X Y G K fl LB nB LR nR KB KR) : Below w.heap.size w wr := by obtain ⟨V, v, h⟩ := h; exact h.low
theorem Sit.y0 (h : Sit w wr B M X Y G K fl LB nB LR nR KB KR) : wr.cell? ⟨Y, 0, none⟩ = some (.slice (some ⟨G, 0, none⟩) 64 64) := by obtain ⟨V, v, h⟩ := h; exact h.kr.1.cell 0 (by simp)
theorem Sit.below {W : World} (h : Sit w wr B M X Y G K fl LB nB LR nR KB KR) (hb : Below wr.heap.size wr W) : Sit w W B M X Y G K fl LB nB LR nR KB KR := by
  obtain ⟨V, v, h⟩ := h
  exact ⟨V, v, ⟨two_below' h.low hb, h.bk.below hb, h.rb.below hb, h.kb.kept (grownBy_of_below hb none) (by simp), h.kr.below hb, h.sep, h.lo⟩⟩
theorem Sit.put {W : World} {g : Nat} {T : TypeId} {xs : List Value} (h : Sit w wr B M X Y G K fl LB nB LR nR KB KR) (hg : wr.grownBy W (some g)) (hl : w.heap.size ≤ g) (hr : Row wr g T xs) (h1 : T ≠ 106) (h2 : T ≠ 30) (h3 : T ≠ 47) (h4 : T ≠ 109) (h5 : T ≠ 3) (h6 : T ≠ 63) : Sit w W B M X Y G K fl LB nB LR nR KB KR := by
  obtain ⟨V, v, h⟩ := h
  have hc : Chg (fun k => k = g) wr W := Chg.of_grown hg (fun k hk => by cases hk; exact .inl rfl)
  refine ⟨V, v, ⟨below_chg h.low hc h.low.size (fun k hk => by subst hk; exact hl), h.bk.chg hc (fun k hk e => h.bk.not_row hr h1 h2 (e ▸ hk)), h.rb.chg hc (fun k hk e => h.rb.not_row hr h3 h2 (e ▸ hk)), ?_, ?_, h.sep, h.lo⟩⟩
  · exact h.kb.kept hg (fun e => by injection e with e; exact row_ne_row hr h.kb.1 h4 e.symm)
  · exact h.kr.kept hg (fun e => by injection e with e; exact row_ne_row hr h.kr.1 h6 e.symm) (fun e => by injection e with e; exact row_ne_row hr h.kr.2.1 h5 e.symm)
theorem Sit.bid (hT : Tab w) (x : Bd) (hx : x.Fits) (now : Int) (h : Sit w wr B M X Y G K fl LB nB LR nR KB KR) (hn : nB ≤ 1000) :
    Calls Tryd.prog 21 #[.pointer (some ⟨B, 0, none⟩), .agg x.cells.toArray, .int .i64 now] wr fun e w' => e = .returned (.int .i64 (Au.bidE fl LB x now)) ∧ Sit w w' B M X Y G K fl (Au.bidL fl LB x now) (nB + 1) LR nR KB KR ∧ Keep15 wr w' := by
  obtain ⟨V, v, h⟩ := h
  refine (bookBid_any x hx now h.bk hn h.low.size (hT.below h.low hT.pos)).mono ?_
  rintro e W ⟨rfl, V', hb, hc, hV⟩
  have hk : Bn.BankAt W K KB := ⟨hc.row h.kb.1 (h.bk.not_row h.kb.1 (by decide) (by decide)), h.kb.2⟩
  obtain ⟨h1, h2⟩ := h.bookStep hb hk hc (fun k hk => .inl hk) hV
  exact ⟨rfl, ⟨V', v, h1⟩, h2⟩
theorem Sit.rbid (hRS : RefSum) (x : Bd) (hx : x.Fits) (now : Int) (h : Sit w wr B M X Y G K fl LB nB LR nR KB KR) (hn : nR ≤ 1000) :
    Calls Tryd.prog 22 #[.pointer (some ⟨X, 0, none⟩), .agg x.cells.toArray, .int .i64 now] wr fun e w' => e = .returned (.int .i64 (Au.bidE fl LR x now)) ∧ Sit w w' B M X Y G K fl LB nB (Au.bidL fl LR x now) (nR + 1) KB KR ∧ Keep15 wr w' := by
  obtain ⟨V, v, h⟩ := h
  refine (rbookBid_any hRS x hx now h.rb hn h.low.size).mono ?_
  rintro e W ⟨rfl, v', hb, hc, hV⟩
  have hk : Bn.RefAt W Y G KR := ⟨hc.row h.kr.1 (h.rb.not_row h.kr.1 (by decide) (by decide)), hc.row h.kr.2.1 (h.rb.not_row h.kr.2.1 (by decide) (by decide)), h.kr.2.2⟩
  obtain ⟨h1, h2⟩ := h.refStep hb hk hc (fun k hk => .inl hk) hV
  exact ⟨rfl, ⟨V, v', h1⟩, h2⟩
theorem Sit.kput (a n : Int) (h : Sit w wr B M X Y G K fl LB nB LR nR KB KR) :
    Calls Tryd.prog 23 #[.pointer (some ⟨K, 0, none⟩), .int .i64 a, .int .i64 n] wr fun e w' => (∃ u, e = .returned (.int .i64 u)) ∧ Sit w w' B M X Y G K fl LB nB LR nR (Bn.Bank.put KB a n).2 KR ∧ Keep15 wr w' := by
  obtain ⟨V, v, h⟩ := h
  refine (Bn.bankPut_any a n wr K KB h.kb).mono ?_
  rintro e W ⟨rfl, hk, hg⟩
  have hc : Chg (fun k => k = K) wr W := Chg.of_grown hg (fun k hk => by cases hk; exact .inl rfl)
  obtain ⟨h1, h2⟩ := h.bookStep (h.bk.chg hc (fun k hk e => h.bk.not_row h.kb.1 (by decide) (by decide) (e ▸ hk))) hk hc (fun k hk => .inr hk) (fun k hk => .inl hk)
  exact ⟨⟨_, rfl⟩, ⟨V, v, h1⟩, h2⟩
theorem Sit.rput (a n : Int) (h : Sit w wr B M X Y G K fl LB nB LR nR KB KR) :
    Calls Tryd.prog 24 #[.pointer (some ⟨Y, 0, none⟩), .int .i64 a, .int .i64 n] wr fun e w' => (∃ u, e = .returned (.int .i64 u)) ∧ Sit w w' B M X Y G K fl LB nB LR nR KB (Bn.Bank.put KR a n).2 ∧ Keep15 wr w' := by
  obtain ⟨V, v, h⟩ := h
  refine (Bn.refPut_any a n wr Y G KR h.kr).mono ?_
  rintro e W ⟨rfl, hk, hg⟩
  have hc : Chg (fun k => k = G) wr W := Chg.of_grown hg (fun k hk => by cases hk; exact .inl rfl)
  obtain ⟨h1, h2⟩ := h.refStep (h.rb.chg hc (fun k hk e => h.rb.not_row h.kr.2.1 (by decide) (by decide) (e ▸ hk))) hk hc (fun k hk => .inr hk) (fun k hk => .inl hk)
  exact ⟨⟨_, rfl⟩, ⟨V, v, h1⟩, h2⟩
theorem Sit.close (hT : Tab w) (r : Int) (hr : Tx.fits r) (hfl : Tx.fits fl) (h : Sit w wr B M X Y G K fl LB nB LR nR KB KR) :
    Calls Tryd.prog 25 #[.pointer (some ⟨B, 0, none⟩), .int .i64 r, .pointer (some ⟨K, 0, none⟩)] wr fun e w' => e = .returned (Au.winV (Au.winB KB r fl (Au.ofR r LB))) ∧ Sit w w' B M X Y G K fl (Au.dropR r LB) (nB + 1) LR nR (Au.takeR KB (Au.winB KB r fl (Au.ofR r LB))) KR ∧ Keep15 wr w' := by
  obtain ⟨V, v, h⟩ := h
  refine (bookClose_any r hr h.bk h.kb hfl (hT.below h.low hT.pos)).mono ?_
  rintro e W ⟨rfl, hc⟩
  obtain ⟨V', hb, hV⟩ := hc.book
  obtain ⟨h1, h2⟩ := h.bookStep (hb.mono (Nat.le_succ _)) hc.bank hc.chg (fun k hk => hk) (fun k hk => .inl (hV k hk))
  exact ⟨rfl, ⟨V', v, h1⟩, h2⟩
theorem Sit.rclose (hRS : RefSum) (r : Int) (hfl : Tx.fits fl) (h : Sit w wr B M X Y G K fl LB nB LR nR KB KR) (hn : nR ≤ 1000) :
    Calls Tryd.prog 26 #[.pointer (some ⟨X, 0, none⟩), .int .i64 r, .pointer (some ⟨Y, 0, none⟩)] wr fun e w' => e = .returned (Au.winV (Au.winB KR r fl (Au.ofR r LR))) ∧ Sit w w' B M X Y G K fl LB nB (Au.dropR r LR) (nR + 1) KB (Au.takeR KR (Au.winB KR r fl (Au.ofR r LR))) ∧ Keep15 wr w' := by
  obtain ⟨V, v, h⟩ := h
  refine (rbookClose_any hRS r h.rb h.kr hfl hn).mono ?_
  rintro e W ⟨rfl, hc⟩
  obtain ⟨v', hb, hV⟩ := hc.book
  obtain ⟨h1, h2⟩ := h.refStep (hb.mono (Nat.le_succ _)) hc.bank hc.chg (fun k hk => hk) hV
  exact ⟨rfl, ⟨V, v', h1⟩, h2⟩
theorem Sit.fits (h : Sit w wr B M X Y G K fl LB nB LR nR KB KR) : ∀ b ∈ LB, b.Fits := by obtain ⟨V, v, h⟩ := h; exact h.bk.ok.fits
theorem Sit.few (h : Sit w wr B M X Y G K fl LB nB LR nR KB KR) (r : Int) : (Au.ofR r LB).length ≤ 32 := by obtain ⟨V, v, h⟩ := h; exact h.bk.ok.few r
theorem Sit.bids (r : Int) (hr : Tx.fits r) (h : Sit w wr B M X Y G K fl LB nB LR nR KB KR) :
    Calls Tryd.prog 28 #[.pointer (some ⟨B, 0, none⟩), .int .i64 r] wr fun e w' => (∃ A c, e = .returned (.slice A (Au.ofR r LB).length c) ∧ SlB w' w'.heap.size A c (Au.ofR r LB)) ∧ Below wr.heap.size wr w' := by
  have hf := h.fits
  have hw := h.few r
  obtain ⟨V, v, h⟩ := h
  refine (bids_any r hr h.bk).mono ?_
  rintro e W ⟨⟨u, rfl, ho⟩, hb⟩
  obtain ⟨A, c, rfl, _, _⟩ := ho.form
  exact ⟨⟨A, c, rfl, ho.slB (fun b hb => hf b (Au.ofR_round hb).2) (by omega)⟩, hb⟩
theorem Sit.rbids (r : Int) (h : Sit w wr B M X Y G K fl LB nB LR nR KB KR) (hn : nR ≤ 1000) :
    Calls Tryd.prog 29 #[.pointer (some ⟨X, 0, none⟩), .int .i64 r] wr fun e w' => (∃ A c, e = .returned (.slice A (Au.ofR r LR).length c) ∧ SlB w' w'.heap.size A c (Au.ofR r LR)) ∧ Below wr.heap.size wr w' := by
  obtain ⟨V, v, h⟩ := h
  have hf := h.rb.ok.fits
  have hw := h.rb.ok.few r
  refine (rbids_any r h.rb hn).mono ?_
  rintro e W ⟨u, rfl, ho, hb⟩
  obtain ⟨A, c, rfl, _, _⟩ := ho.form
  exact ⟨⟨A, c, rfl, ho.slB (fun b hb => hf b (Au.ofR_round hb).2) (by omega)⟩, hb⟩
theorem Sit.all (h : Sit w wr B M X Y G K fl LB nB LR nR KB KR) :
    Calls Tryd.prog 31 #[.pointer (some ⟨K, 0, none⟩)] wr fun e w' => e = .returned (.slice (some ⟨wr.heap.size, 0, none⟩) 64 64) ∧ Row w' wr.heap.size 3 (Is KB) ∧ Below wr.heap.size wr w' := by
  obtain ⟨V, v, h⟩ := h
  refine (Bn.bankAll_any wr K KB h.kb).mono ?_
  rintro e W ⟨rfl, hr, hg⟩
  exact ⟨rfl, hr, ⟨hg.os, hg.tape, hg.output, hg.size, fun k hk => hg.block k hk (by simp)⟩⟩
theorem Sit.numbers (gI : Nat) (h : Sit w wr B M X Y G K fl LB nB LR nR KB KB) (hI : Row wr gI 3 (Is KB)) :
    Calls Tryd.prog 30 #[.slice (some ⟨gI, 0, none⟩) 64 64, .slice (some ⟨G, 0, none⟩) 64 64] wr fun e w' => e = .returned (.bool true) ∧ Below wr.heap.size wr w' := by
  obtain ⟨V, v, h⟩ := h
  have hl : KB.length = 64 := h.kb.2.1
  have h1 : Bn.NumsV wr (.slice (some ⟨gI, 0, none⟩) 64 64) KB := by have := Bn.NumsV.row (c := 64) hI; rwa [hl] at this
  have h2 : Bn.NumsV wr (.slice (some ⟨G, 0, none⟩) 64 64) KB := by have := Bn.NumsV.row (c := 64) h.kr.2.1; rwa [hl] at this
  refine (Bn.numbers_any _ _ KB KB wr h1 h2 (by omega) (by omega)).mono ?_
  rintro e W ⟨rfl, n, rfl⟩
  exact ⟨by simp, below_drewN' (Below.refl _ _) n⟩
end
/-- where they begin -/
theorem Sit.begin {w w1 w2 w3 : World} {B M X Y G K : Nat} {fl : Int} (hb : BookAt w1 w.heap.size B M fl (fun _ => none) [] 0) (h1 : Below w.heap.size w w1) (hx : Row w2 X 47 [.int .i64 fl, .slice none 0 0]) (h2 : Below w1.heap.size w1 w2) (hk : Bn.BankAt w2 K Bn.Bank.none_) (hr : Bn.RefAt w3 Y G Bn.Bank.none_) (h3 : Below w2.heap.size w2 w3)
    (l1 : w.heap.size ≤ X) (l2 : w.heap.size ≤ K) (l3 : w.heap.size ≤ G) : Sit w w3 B M X Y G K fl [] 0 [] 0 Bn.Bank.none_ Bn.Bank.none_ := by
  have hb3 := (hb.below h2).below h3
  have hx3 := hx.below h3
  refine ⟨fun _ => none, .slice none 0 0, ⟨two_below' (two_below' h1 h2) h3, hb3, ⟨hx3, OwnL.nil _ _ _ _ _, Au.BkOk.nil 0, l1⟩, hk.kept (grownBy_of_below h3 none) (by simp), hr, fun k hk hr => ?_, l2, l3⟩⟩
  rcases hr with rfl | hr
  · rcases hk with e | e | ⟨r, v, e, _⟩
    · exact row_ne_row hx3 hb3.row (by decide) e
    · obtain ⟨D, N, _, hD, _⟩ := hb3.map
      exact row_ne_map hD hx3 e
    · cases e
  · cases hr
end Go.Proofs.YtlapmdgkcidhnaaDoor
