/- auction.Win: who wins, and what it pays. -/
import Derived.Test.YtlapmdgkcidhnaaDoorAuCnt
namespace Go.Proofs.YtlapmdgkcidhnaaDoor
open Go.RowKit
set_option linter.unusedVariables false
set_option linter.unusedSimpArgs false
set_option maxRecDepth 100000

namespace Au
/-- who wins, of some bids, with these funds -/
def winB (F : List Int) (r fl : Int) (L : List Bd) : Option (Bd × Int) := win Bd.amount sum txt Bd.zero fl (cnt F r fl L)
def wc (b : Bd) (p : Int) : List Value := b.cells ++ [.int .i64 p]
def winC : Option (Bd × Int) → List Value
  | none => wc Bd.zero 0
  | some (b, p) => wc b p
theorem wc_len {b : Bd} {p : Int} (h : b.tag.length = 32) : (wc b p).length = 37 := by unfold wc; rw [List.length_append, Bd.cells_len h]; rfl
theorem wc_one {b : Bd} {p : Int} (h : b.tag.length = 32) : ∀ v ∈ wc b p, v.oneCell' = true := by
  intro v hv
  rcases List.mem_append.1 hv with h1 | h1
  · exact Bd.cells_one h v h1
  · simp at h1; subst h1; rfl
theorem wc_set {b : Bd} {p q : Int} (h : b.tag.length = 32) : (wc b p).set 36 (.int .i64 q) = wc b q := by
  unfold wc
  rw [List.set_append_right _ _ (by rw [Bd.cells_len h]; omega), Bd.cells_len h]
  rfl
def winV (R : Option (Bd × Int)) : Value := .tuple #[.agg (winC R).toArray, .bool R.isSome]
end Au
theorem win_size : (Tryd.prog.info? 32).map (·.size) = some 37 := by kernel_rfl
theorem win_zv (W : World) : (zeroValue 32).run Tryd.prog W = .ok (.agg (Au.wc Bd.zero 0).toArray) W := by kernel_rfl
theorem win_places : (Tryd.prog.underlying 32).map (fun d => match d with | .struct fields => fields.toList.mapM (fun f => (Tryd.prog.info? f.type).map fun i => (f.offset, i.size)) | _ => Option.none) = some (some [(0, 36), (36, 1)]) := by kernel_rfl
theorem win_zero : (Tryd.prog.info? 32).map (·.zero) = some (some (.agg (Au.wc Bd.zero 0).toArray)) := by kernel_rfl
theorem win_built0 (parts : List (Nat × Value)) : Tryd.prog.built 32 parts = Instr.fill (#[(0, 36), (36, 1)][·]?) (Au.wc Bd.zero 0).toArray parts := by
  obtain ⟨i0, hi, hz⟩ := Option.map_eq_some_iff.1 win_zero
  have hp := win_places
  rw [Tryd.underlying32] at hp
  simp only [Option.map_some, Option.some.injEq] at hp
  unfold Program.built
  rw [hi, Tryd.underlying32]
  simp only [hz, hp]
  rfl
theorem win_built (b : Bd) (p : Int) (hb : b.tag.length = 32) : Tryd.prog.built 32 [(0, .agg b.cells.toArray), (1, .int .i64 p)] = some (Au.wc b p).toArray := by
  have hL : (Au.wc Bd.zero 0).length = 37 := Au.wc_len rfl
  have hc := Bd.cells_len hb
  rw [win_built0]
  rw [fill_step _ _ 0 _ b.cells _ 0 36 rfl (by simp [Value.cells]) hc (by rw [hL]; omega)]
  rw [fill_step _ _ 1 _ [.int .i64 p] _ 36 1 rfl rfl rfl (by simp only [List.length_append, List.length_take, List.length_drop, hL, hc]; omega)]
  rw [fill_end]
  congr 1
  congr 1
  unfold Au.wc
  rw [List.take_zero, List.nil_append, List.take_left' hc, List.drop_of_length_le (by simp only [List.length_append, List.length_drop, hc, Bd.cells_len (b := Bd.zero) rfl]; simp), List.append_nil]
theorem cnt_tag {F : List Int} {r fl : Int} {l : List Bd} (hl : ∀ b ∈ l, b.tag.length = 32) : ∀ b ∈ Au.cnt F r fl l, b.tag.length = 32 := fun b hb => hl b (Au.counts_mem hb).1
theorem cnt_len (F : List Int) (r fl : Int) (l : List Bd) : (Au.cnt F r fl l).length ≤ l.length := by
  have := Au.countsTo_len (Au.okB F r fl) Bd.who l l.length
  rwa [Au.countsTo_all] at this
set_option maxHeartbeats 6400000 in
theorem win_any (l : List Bd) (hl : ∀ b ∈ l, b.tag.length = 32) (A : Option Addr) (c : Nat) (F : List Int) (A2 : Option Addr) (c2 : Nat) (r fl : Int) (w : World) (hA : BdsIn w w.heap.size A l) (hn0 : l.length ≤ 1000000) (hF : FnIn w w.heap.size A2 F) (hF0 : F.length ≤ 9223372036854775807) (hT : Tab w) :
    Calls Tryd.prog 14 #[.slice A l.length c, .slice A2 F.length c2, .int .i64 r, .int .i64 fl] w fun e w' => e = .returned (Au.winV (Au.winB F r fl l)) ∧ Below w.heap.size w w' := by
  have hp := hT.pos
  have CC : Hid (∀ W, Below w.heap.size w W → Calls Tryd.prog 46 #[.slice A l.length c, .slice A2 F.length c2, .int .i64 r, .int .i64 fl] W fun e w' => ∃ v, e = .returned v ∧ OwnL w' W.heap.size 97 69 Au.en v (Au.cnt F r fl l) ∧ Below W.heap.size W w') :=
    Lib.hid (fun W hW => counting_any l hl A c F A2 c2 r fl W ((hA.below hW).mono hW.size) hn0 ((hF.below hW).mono hW.size) hF0 (hT.below hW hp))
  have hg32 := cnt_tag (F := F) (r := r) (fl := fl) hl
  have hgl := Nat.le_trans (cnt_len F r fl l) hn0
  have hR : Au.winB F r fl l = Au.win Bd.amount Au.sum Au.txt Bd.zero fl (Au.cnt F r fl l) := rfl
  rw [hR]
  obtain ⟨G, hG⟩ : ∃ G, G = Au.cnt F r fl l := ⟨_, rfl⟩
  rw [← hG] at CC hg32 hgl ⊢
  have hz := win_zv
  have HZ37 := Lib.hid (Au.wc_len (b := Bd.zero) (p := 0) rfl)
  have HZ1 := Lib.hid (Au.wc_one (b := Bd.zero) (p := 0) rfl)
  have HBt : Hid (Tryd.prog.built 32 [] = some (Au.wc Bd.zero 0).toArray) := Lib.hid (by rw [win_built0]; rfl)
  have Hr0 := Lib.hid (Row.new w 32 (Au.wc Bd.zero 0))
  have Hb0 := Lib.hid ((Below.refl w.heap.size w).alloc (Nat.le_refl _) (.cells (Au.wc Bd.zero 0).toArray 32))
  generalize l.length = n at *
  generalize F.length = q at *
  clear hA hF hT hl hR hG hn0 hF0
  have HG32 := Lib.hid hg32
  have HGL := Lib.hid hgl
  clear hg32 hgl
  have HZC : Hid (Au.winC none = Au.wc Bd.zero 0) := Lib.hid rfl
  generalize Au.wc Bd.zero 0 = WZ at *
  go_enter Tryd.func14, Tryd.ntmps14
  go_wp2_with fail
  refine calls_named ?_
  intro w1 hw1
  have Hr1 : Hid (Row w1 w.heap.size 32 WZ) := Lib.hid (by rw [hw1]; exact Hr0.out)
  have Hb1 : Hid (Below w.heap.size w w1) := Lib.hid (by rw [hw1]; exact Hb0.out)
  clear hw1 Hr0 Hb0
  refine (CC.out w1 Hb1.out).mono ?_
  rintro _ w2 ⟨v, rfl, ho2, hb2⟩
  have Hr2 := Lib.hid (Hr1.out.kept (grownBy_of_below hb2 none) (by simp))
  have Hb2 := Lib.hid (two_below' Hb1.out hb2)
  obtain ⟨A1, c1, rfl, hlc, hcm⟩ := ho2.form
  have Ho2 := Lib.hid ho2
  clear ho2 hb2 CC Hr1
  have BB : Hid (∀ W, Below w2.heap.size w2 W → Calls Tryd.prog 47 #[.slice A1 G.length c1, .func (.func 48) #[] #[]] W fun e w' => e = .returned (.int .i64 (Au.place (Au.best Au.hi Bd.zero G))) ∧ Below W.heap.size W w') :=
    Lib.hid (fun W hW => best_any G HG32.out A1 c1 W (((Ho2.out.below hW).lsAt (fun x hx => Au.en_len (HG32.out x hx)))) HGL.out)
  cases hb : Au.best Au.hi Bd.zero G with
  | none =>
    have hG0 : G = [] := Au.best_none.1 hb
    have HW : Hid (Au.win Bd.amount Au.sum Au.txt Bd.zero fl G = none) := Lib.hid (Au.win_none.2 hG0)
    rw [hb] at BB
    clear hb
    generalize G.length = m at *
    go_wp2_with fail
    refine (BB.out _ (Below.refl _ _)).mono ?_
    rintro _ w3 ⟨rfl, hb3⟩
    have Hr3 := Lib.hid (Hr2.out.kept (grownBy_of_below hb3 none) (by simp))
    have Hb3 := Lib.hid (two_below' Hb2.out hb3)
    clear hb3 hG0
    unfold Au.place
    simp only
    go_wp2_with (first
      | ((with_reducible show wpList _ _ _ (⟨_, .build 32 _, _, _, _, _⟩ :: _) _ _); refine wpList_buildL rfl 32 [] rfl (some 24) rfl _ rfl WZ.toArray HBt.out ?_)
      | (
         with_reducible show wpList _ _ _ (⟨_, .store 32 (.tmp 8) _, _, _, _, _⟩ :: _) _ _
         refine wpList_store_at rfl 32 (.tmp 8) (.tmp 24) rfl w.heap.size 0 WZ WZ _ rfl rfl (Hr3.out) (by have := HZ37.out; have := HZ37.out; omega) (by rw [win_size, HZ37.out]) HZ1.out ?_
         intro wl hr hg
         rw [splice_all rfl] at hr
         have HrL := Lib.hid hr
         have HbL := Lib.hid (below_own Hb3.out hg (fun k hk => by cases hk; exact Nat.le_refl _))
         clear hr hg))
    refine bodyPost_ret (results_rowL rfl _ _ w.heap.size 32 _ _ rfl HrL.out Tryd.underlying32 rfl (by rw [win_size, List.size_toArray, HZ37.out]) _ rfl) rfl ⟨?_, HbL.out⟩
    rw [HW.out]
    unfold Au.winV
    rw [HZC.out]
    rfl
  | some a =>
    have hal : a < G.length := Au.bestTo_lt hb
    obtain ⟨m, hm⟩ : ∃ m, G.length = m + 1 := ⟨G.length - 1, by omega⟩
    obtain ⟨g, c1', e, hg1, hg2⟩ := Ho2.out.ne (by intro e; rw [e] at hal; simp at hal)
    injection e with e1 e2 e3
    subst e1
    subst e3
    obtain ⟨b, hbb⟩ : ∃ b, b = G.getD a Bd.zero := ⟨_, rfl⟩
    have hbt : b.tag.length = 32 := by rw [hbb]; exact HG32.out _ (Au.getD_mem hal)
    have hat : w2.rangeAt g (a * 69) (Au.en b) := by
      rw [hbb, List.getD_eq_getElem?_getD, List.getElem?_eq_getElem hal]
      exact Ho2.out.at (fun x hx => Au.en_len (HG32.out x hx)) a hal
    have Hat := Lib.hid (en_at hbt hat).1
    have HB36 := Lib.hid (Bd.cells_len hbt)
    have HWB := Lib.hid (win_built b fl hbt)
    have HW37 := Lib.hid (fun p => Au.wc_len (b := b) (p := p) hbt)
    have HW1 := Lib.hid (fun p => Au.wc_one (b := b) (p := p) hbt)
    have HWS := Lib.hid (fun p q => Au.wc_set (b := b) (p := p) (q := q) hbt)
    have ham : a ≤ m := by omega
    have hami : (a : Int) < (m : Int) + 1 := by omega
    have ha0 : (0 : Int) ≤ (a : Int) := by omega
    have hab : (a : Int) ≤ 1000000 := by have := HGL.out; omega
    have ho2 := Ho2.out
    rw [hm] at ho2
    have DD : Hid (∀ W, OwnL W w1.heap.size 97 69 Au.en (.slice (some ⟨g, 0, none⟩) (m + 1) c1) G → Calls Tryd.prog 49 #[.slice (some ⟨g, 0, none⟩) (m + 1) c1, .int .i64 a, .int .i64 ((a : Int) + 1)] W fun e w' =>
      e = .returned (.slice (some ⟨g, 0, none⟩) m c1) ∧ OwnL w' w1.heap.size 97 69 Au.en (.slice (some ⟨g, 0, none⟩) m c1) (G.eraseIdx a) ∧ W.grownBy w' (some g)) := Lib.hid (fun W hW => delete_any m a hW HG32.out ham)
    have hel : (G.eraseIdx a).length = m := by rw [List.length_eraseIdx_of_lt hal]; omega
    have he32 : ∀ x ∈ G.eraseIdx a, x.tag.length = 32 := fun x hx => HG32.out x (List.mem_of_mem_eraseIdx hx)
    have HW : Hid (Au.win Bd.amount Au.sum Au.txt Bd.zero fl G = some (b, match Au.best Au.hi Bd.zero (G.eraseIdx a) with | none => fl | some c => ((G.eraseIdx a).getD c Bd.zero).amount)) := Lib.hid (by
      unfold Au.win
      have hb' : Au.best (Au.higher Bd.amount Au.sum Au.txt) Bd.zero G = some a := hb
      rw [hb', hbb]
      rfl)
    have EE : Hid (∀ W, OwnL W w1.heap.size 97 69 Au.en (.slice (some ⟨g, 0, none⟩) m c1) (G.eraseIdx a) → Calls Tryd.prog 47 #[.slice (some ⟨g, 0, none⟩) m c1, .func (.func 48) #[] #[]] W fun e w' => e = .returned (.int .i64 (Au.place (Au.best Au.hi Bd.zero (G.eraseIdx a)))) ∧ Below W.heap.size W w') :=
      Lib.hid (fun W hW => by
        have h0 := best_any (G.eraseIdx a) he32 (some ⟨g, 0, none⟩) c1 W (hW.lsAt (fun x hx => Au.en_len (he32 x hx))) (by rw [hel]; have := HGL.out; omega)
        rw [hel] at h0
        exact h0)
    have HEt : Hid (∀ c, c < m → ∀ W, OwnL W w1.heap.size 97 69 Au.en (.slice (some ⟨g, 0, none⟩) m c1) (G.eraseIdx a) → W.cell? ⟨g, c * 69 + 2, none⟩ = some (.int .i64 ((G.eraseIdx a).getD c Bd.zero).amount)) := Lib.hid (fun c hc W hW => by
      have h1 := hW.at (fun x hx => Au.en_len (he32 x hx)) c (by rw [hel]; exact hc)
      have h2 := (en_at (he32 _ (List.getElem_mem (by rw [hel]; exact hc))) h1).2.1
      rw [List.getD_eq_getElem?_getD, List.getElem?_eq_getElem (by rw [hel]; exact hc)]
      exact h2)
    have HEl : Hid (∀ c, Au.best Au.hi Bd.zero (G.eraseIdx a) = some c → c < m) := Lib.hid (fun c h => by have := Au.bestTo_lt h; omega)
    have Ho := Lib.hid ho2
    rw [hm, hb] at BB
    rw [hm]
    clear hb hm hal hbb hat hbt ho2 hel he32 HG32 HGL Ho2 hlc
    generalize G.eraseIdx a = E at *
    go_wp2_with fail
    refine (BB.out _ (Below.refl _ _)).mono ?_
    rintro _ w3 ⟨rfl, hb3⟩
    have Hr3 := Lib.hid (Hr2.out.kept (grownBy_of_below hb3 none) (by simp))
    have Hb3 := Lib.hid (two_below' Hb2.out hb3)
    have Ho3 := Lib.hid (Ho.out.below hb3)
    have Hat3 : Hid (w3.rangeAt g (a * 69) b.cells) := Lib.hid (fun j u hu => (hb3.cell (p := ⟨g, a * 69 + j, none⟩) hg2).trans (Hat.out j u hu))
    have Hg3 : Hid (g < w3.heap.size) := Lib.hid (Nat.lt_of_lt_of_le hg2 hb3.size)
    have Hnew := Lib.hid (Row.new w3 32 WZ)
    have Hb1s := Lib.hid (Nat.lt_of_lt_of_le Hr2.out.lt hb3.size)
    clear hb3 BB Ho Hat hg2
    unfold Au.place
    simp only
    go_wp2_with (first
      | ((with_reducible show wpList _ _ _ (⟨_, .load 30 (.tmp 28), _, _, _, _⟩ :: _) _ _); refine wpList_load_tx rfl 30 (.tmp 28) rfl g (a * 69) (by first | rfl | simp) b.cells _ (Hat3.out) Tryd.underlying30 rfl (by rw [bid_info, HB36.out]) ?_)
      | ((with_reducible show wpList _ _ _ (⟨_, .build 32 _, _, _, _, _⟩ :: _) _ _); refine wpList_buildL rfl 32 [(0, .tmp 29), (1, .tmp 30)] rfl (some 31) rfl [(0, .agg b.cells.toArray), (1, .int .i64 fl)] rfl (Au.wc b fl).toArray HWB.out ?_)
      | (
         with_reducible show wpList _ _ _ (⟨_, .store 32 (.tmp 12) _, _, _, _, _⟩ :: _) _ _
         refine wpList_store_at rfl 32 (.tmp 12) (.tmp 31) rfl w3.heap.size 0 (Au.wc b fl) WZ _ rfl rfl (Hnew.out) (by have := HZ37.out; have := HW37.out fl; omega) (by rw [win_size, HW37.out]) (HW1.out fl) ?_
         intro w4 hr hg
         rw [splice_all ((HW37.out fl).trans HZ37.out.symm)] at hr
         have Hr4 := Lib.hid hr
         have Hr84 := Lib.hid ((Hr3.out.below ((Below.refl w3.heap.size w3).alloc (Nat.le_refl _) (.cells WZ.toArray 32))).kept hg (fun e => by injection e with e; have := Hr3.out.lt; omega))
         have Hb4 := Lib.hid (below_own (two_below' Hb3.out ((Below.refl w3.heap.size w3).alloc (Nat.le_refl _) (.cells WZ.toArray 32))) hg (fun k hk => by cases hk; exact Hb3.out.size))
         have Ho4 := Lib.hid ((Ho3.out.alloc (.cells WZ.toArray 32)).kept hg (.inr (fun e => by simp only [Value.ownBlock, Option.some.injEq] at e; have := Hg3.out; omega)))
         have Hne12 : Hid (w3.heap.size ≠ w.heap.size) := Lib.hid (by have := Hr3.out.lt; omega)
         have Hle12 := Lib.hid Hb3.out.size
         clear hr hg))
    refine (DD.out _ Ho4.out).mono ?_
    rintro _ w5 ⟨rfl, ho5, hg5⟩
    have hne8 : w.heap.size ≠ g := by have := Hb1.out; have h1 := Ho4.out.ne_row Hr84.out (by decide); exact h1
    have hneg : w3.heap.size ≠ g := Ho4.out.ne_row Hr4.out (by decide)
    have Hr5 := Lib.hid (Hr4.out.kept hg5 (by simpa using hneg))
    have Hr85 := Lib.hid (Hr84.out.kept hg5 (by simpa using hne8))
    have Hb5 := Lib.hid (below_own Hb4.out hg5 (fun k hk => by cases hk; exact Nat.le_trans Hb1.out.size hg1))
    have Ho5 := Lib.hid ho5
    clear ho5 hg5 hne8 hneg DD
    generalize w3.heap.size = g12 at *
    go_wp2_with fail
    refine (EE.out _ Ho5.out).mono ?_
    rintro _ w6 ⟨rfl, hb6⟩
    have Hr6 := Lib.hid (Hr5.out.kept (grownBy_of_below hb6 none) (by simp))
    have Hr86 := Lib.hid (Hr85.out.kept (grownBy_of_below hb6 none) (by simp))
    have Hb6 := Lib.hid (two_below' Hb5.out hb6)
    have Ho6 := Lib.hid (Ho5.out.below hb6)
    clear hb6 EE Ho5
    cases hb2 : Au.best Au.hi Bd.zero E with
    | none =>
      rw [hb2] at HW
      clear hb2
      unfold Au.place
      simp only
      go_wp2_with (first
        | ((with_reducible show wpList _ _ _ (⟨_, .load 32 (.tmp 12), _, _, _, _⟩ :: _) _ _); refine wpList_load_tx rfl 32 (.tmp 12) rfl g12 0 (rfl) (Au.wc b fl) _ (row_range Hr6.out) Tryd.underlying32 rfl (by rw [win_size, HW37.out]) ?_)
        | (
           with_reducible show wpList _ _ _ (⟨_, .store 32 (.tmp 8) _, _, _, _, _⟩ :: _) _ _
           refine wpList_store_at rfl 32 (.tmp 8) (.tmp 48) rfl w.heap.size 0 (Au.wc b fl) WZ _ rfl rfl (Hr86.out) (by have := HZ37.out; have := HW37.out fl; omega) (by rw [win_size, HW37.out]) (HW1.out _) ?_
           intro wl hr hg
           rw [splice_all ((HW37.out _).trans HZ37.out.symm)] at hr
           have HrL := Lib.hid hr
           have HbL := Lib.hid (below_own Hb6.out hg (fun k hk => by cases hk; exact Nat.le_refl _))
           clear hr hg))
      refine bodyPost_ret (results_rowL rfl _ _ w.heap.size 32 _ _ rfl HrL.out Tryd.underlying32 rfl (by rw [win_size, List.size_toArray, HW37.out]) _ rfl) rfl ⟨?_, HbL.out⟩
      rw [HW.out]
      rfl
    | some d =>
      have hdm := HEl.out d hb2
      have cd := HEt.out d hdm _ Ho6.out
      rw [hb2] at HW
      simp only at HW
      clear hb2
      generalize (E.getD d Bd.zero).amount = pr at *
      have hdi : (d : Int) < (m : Int) := by omega
      have hd0 : (0 : Int) ≤ (d : Int) := by omega
      have f12 := Hr6.out.free 36
      have c12 : w6.cell? ⟨g12, 36, none⟩ = some (.int .i64 fl) := by
        have := Hr6.out.cell 36 (by rw [HW37.out]; omega)
        rw [this]
        unfold Au.wc
        rw [List.getElem_append_right (by rw [HB36.out]; omega)]
        simp [HB36.out]
      have Hr7 : Hid (Row (w6.setCell ⟨g12, 36, none⟩ (.int .i64 pr)) g12 32 (Au.wc b pr)) := Lib.hid (by
        have := Hr6.out.set 36 (.int .i64 pr) (by rw [HW37.out]; omega)
        rw [HWS.out] at this
        exact this)
      have Hr87 := Lib.hid (Hr86.out.kept (grownBy_set w6 g12 36 (.int .i64 pr)) (fun e => Hne12.out (by injection e with e; exact e.symm)))
      have Hb7 := Lib.hid (below_own Hb6.out (grownBy_set w6 g12 36 (.int .i64 pr)) (fun k hk => by cases hk; exact Hle12.out))
      unfold Au.place
      simp only
      go_wp2_with (first
        | ((with_reducible show wpList _ _ _ (⟨_, .load 32 (.tmp 12), _, _, _, _⟩ :: _) _ _); refine wpList_load_tx rfl 32 (.tmp 12) rfl g12 0 (rfl) (Au.wc b pr) _ (row_range Hr7.out) Tryd.underlying32 rfl (by rw [win_size, HW37.out]) ?_)
        | (
           with_reducible show wpList _ _ _ (⟨_, .store 32 (.tmp 8) _, _, _, _, _⟩ :: _) _ _
           refine wpList_store_at rfl 32 (.tmp 8) (.tmp 48) rfl w.heap.size 0 (Au.wc b pr) WZ _ rfl rfl (Hr87.out) (by have := HZ37.out; have := HW37.out pr; omega) (by rw [win_size, HW37.out]) (HW1.out _) ?_
           intro wl hr hg
           rw [splice_all ((HW37.out _).trans HZ37.out.symm)] at hr
           have HrL := Lib.hid hr
           have HbL := Lib.hid (below_own Hb7.out hg (fun k hk => by cases hk; exact Nat.le_refl _))
           clear hr hg))
      refine bodyPost_ret (results_rowL rfl _ _ w.heap.size 32 _ _ rfl HrL.out Tryd.underlying32 rfl (by rw [win_size, List.size_toArray, HW37.out]) _ rfl) rfl ⟨?_, HbL.out⟩
      rw [HW.out]
      rfl
end Go.Proofs.YtlapmdgkcidhnaaDoor
