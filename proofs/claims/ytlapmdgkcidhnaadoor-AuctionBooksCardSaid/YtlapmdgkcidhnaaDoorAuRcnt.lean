/- The reference's Counts. -/
import Derived.Test.YtlapmdgkcidhnaaDoorAuRah
namespace Go.Proofs.YtlapmdgkcidhnaaDoor
open Go.RowKit
set_option linter.unusedVariables false
set_option linter.unusedSimpArgs false
set_option maxRecDepth 100000

/-- where Counts stands -/
structure RcAt (w wr : World) (v : Value) (out : List Bd) : Prop where
  below : Below w.heap.size w wr
  own : OwnL wr w.heap.size 30 36 Bd.cells v out
theorem RcAt.step {w wr w' : World} {v : Value} {out : List Bd} (h : RcAt w wr v out) (hb : Below wr.heap.size wr w') : RcAt w w' v out := ⟨two_below' h.below hb, h.own.below hb⟩
/-- a new block, stored into -/
theorem RcAt.fresh {w wr w' : World} {v : Value} {out : List Bd} (h : RcAt w wr v out) (o : Obj) (hg : (wr.alloc o).grownBy w' (some wr.heap.size)) : RcAt w w' v out :=
  ⟨below_own (two_below' h.below ((Below.refl _ _).alloc (Nat.le_refl _) o)) hg (fun k hk => by cases hk; exact h.below.size), (h.own.alloc o).kept hg (.inr (fun e => by have := h.own.lt _ e; omega))⟩
theorem bd_info15 : (Tryd.prog.info? 30).map (fun i => (i.zero, i.size, i.bytes)) = some (some (.agg Bd.zero.cells.toArray), 36, 64) := by kernel_rfl
namespace Au
def any (out : List Bd) (b : Bd) (k : Nat) : Bool := (out.take k).any fun x => x.who == b.who
theorem any_zero (out : List Bd) (b : Bd) : any out b 0 = false := rfl
theorem any_succ (out : List Bd) (b : Bd) (k : Nat) (hk : k < out.length) : any out b (k + 1) = (any out b k || ((out.getD k Bd.zero).who == b.who)) := by
  unfold any
  rw [List.take_add_one, List.getElem?_eq_getElem hk, Option.toList_some, List.any_append, List.getD_eq_getElem?_getD, List.getElem?_eq_getElem hk]
  simp
theorem any_all (out : List Bd) (b : Bd) : any out b out.length = met out b.who := by unfold any met; rw [List.take_length]
end Au
set_option maxHeartbeats 6400000 in
theorem rcounts_any (hRS : RefSum) (l : List Bd) (hl : ∀ b ∈ l, b.Fits) (A : Option Addr) (c : Nat) (F : List Int) (A2 : Option Addr) (c2 : Nat) (r fl : Int) (w : World) (hA : BdsIn w w.heap.size A l) (hn0 : l.length ≤ 1000000) (hF : FnIn w w.heap.size A2 F) (hF0 : F.length ≤ 9223372036854775807) :
    Calls Tryd.prog 17 #[.slice A l.length c, .slice A2 F.length c2, .int .i64 r, .int .i64 fl] w fun e w' => ∃ v, e = .returned v ∧ OwnL w' w.heap.size 30 36 Bd.cells v (Au.cnt F r fl l) ∧ Below w.heap.size w w' := by
  obtain ⟨i0, hi, h2⟩ := Option.map_eq_some_iff.1 bd_info15
  simp only [Prod.mk.injEq] at h2
  have Hi := Lib.hid hi
  have Hz := Lib.hid h2.1
  have Hsz := Lib.hid h2.2.1
  have Hby := Lib.hid h2.2.2
  clear hi h2
  obtain ⟨n, hn⟩ : ∃ n, n = l.length := ⟨_, rfl⟩
  have hL : ∀ k, k < n → (l.getD k Bd.zero).Fits := fun k hk => hl _ (Au.getD_mem (by omega))
  have hA2 : ∀ k, k < n → ∃ g off, A = some ⟨g, off, none⟩ ∧ g < w.heap.size ∧ w.rangeAt g (off + k * 36) (l.getD k Bd.zero).cells := fun k hk => by
    obtain ⟨g, off, e, hg, ha⟩ := hA (by intro e; rw [e] at hn; simp at hn; omega)
    refine ⟨g, off, e, hg, ?_⟩
    rw [List.getD_eq_getElem?_getD, List.getElem?_eq_getElem (by omega)]
    exact ha k (by omega)
  obtain ⟨T, hTT⟩ : ∃ T, T = Au.countsTo (Au.okB F r fl) Bd.who l := ⟨_, rfl⟩
  obtain ⟨X, hX⟩ : ∃ X : Nat → Bd, X = fun k => l.getD k Bd.zero := ⟨_, rfl⟩
  have hX2 : ∀ k, l.getD k Bd.zero = X k := fun k => by rw [hX]
  have hs : ∀ k, k < n → T (k + 1) = Au.cstep (Au.okB F r fl) Bd.who (T k) (X k) := fun k hk => by
    rw [hTT, Au.countsTo_succ _ _ l k (by omega), ← hX2, List.getD_eq_getElem?_getD, List.getElem?_eq_getElem (by omega)]; rfl
  have hT0 : T 0 = [] := by rw [hTT]; rfl
  have hTl : ∀ k, (T k).length ≤ k := fun k => by rw [hTT]; exact Au.countsTo_len _ _ _ _
  have hTf : ∀ k, ∀ x ∈ T k, x.Fits := fun k x hx => by rw [hTT] at hx; exact hl x (List.mem_of_mem_take (Au.counts_mem hx).1)
  have hTn : Au.cnt F r fl l = T n := by rw [hTT, hn]; exact (Au.countsTo_all _ _ _).symm
  rw [hTn, ← hn]
  rw [← hn] at hn0
  simp only [hX2] at hL hA2
  have HL := Lib.hid hL
  have HA := Lib.hid hA2
  have HSS := Lib.hid hs
  have HT0 := Lib.hid hT0
  have HTL := Lib.hid hTl
  have HTF := Lib.hid hTf
  have HRS := Lib.hid hRS
  have hFA : ∀ j : Nat, j < F.length → ∃ g off, A2 = some ⟨g, off, none⟩ ∧ g < w.heap.size ∧ w.cell? ⟨g, off + j, none⟩ = some (.int .i64 (F.getD j 0)) := fun j hj => by
    obtain ⟨g, off, e, hg, ha⟩ := hF (by intro e; rw [e] at hj; simp at hj)
    exact ⟨g, off, e, hg, ha j hj⟩
  have HFA := Lib.hid hFA
  obtain ⟨q, hq⟩ : ∃ q, q = F.length := ⟨_, rfl⟩
  rw [← hq] at hF0 HFA ⊢
  have HQ := Lib.hid hq
  have HZ36 := Lib.hid (Bd.cells_len (b := Bd.zero) rfl)
  have hzb := bd_zv
  clear hL hA2 hs hT0 hTl hTf hTn hTT hX hX2 hA hl hn hF hFA hq hRS
  generalize Bd.zero.cells = ZB at *
  go_enter Tryd.func17, Tryd.ntmps17
  go_wp2_with fail
  go_loopw [9, 10] (fun s9 s10 wr => ∃ (v : Value) (k : Nat), k ≤ n ∧ v = s9 ∧ s10 = .int .i64 k ∧ RcAt w wr v (T k)) (fun _ i _ => n - (intOf i).toNat)
  case atStart => exact ⟨_, 0, Nat.zero_le _, rfl, rfl, by rw [HT0.out]; exact ⟨Below.refl _ _, OwnL.nil _ _ _ _ _⟩⟩
  case round =>
    obtain ⟨v, k, hk, rfl, rfl, hC⟩ := hrel
    have HC := Lib.hid hC
    clear hC
    generalize wr = wo at *
    by_cases hkn : k < n
    · have hki : (k : Int) < (n : Int) := by omega
      have hk0 : (0 : Int) ≤ (k : Int) := by omega
      obtain ⟨g, off, rfl, hg, hat⟩ := HA.out k hkn
      have HRr : Hid (wo.rangeAt g (off + k * 36) (X k).cells) := Lib.hid (fun j u hu => (HC.out.below.cell (p := ⟨g, off + k * 36 + j, none⟩) hg).trans (hat j u hu))
      have HFt := Lib.hid (HL.out k hkn)
      have HK36 := Lib.hid (Bd.cells_len HFt.out.tag)
      have HK1 := Lib.hid (Bd.cells_one HFt.out.tag)
      have Hnew := Lib.hid (Row.new wo 30 ZB)
      have CB : Hid (∀ W, Calls Tryd.prog 52 #[.agg (X k).cells.toArray] W fun e w' => e = .returned (.int .i64 (X k).check) ∧ Below W.heap.size W w') := Lib.hid (fun W => rcheckBid_any HRS.out (X k) HFt.out W)
      have HCell : Hid (∀ W g, Row W g 30 (X k).cells → W.cell? ⟨g, 0, none⟩ = some (.int .i64 (X k).round) ∧ W.cell? ⟨g, 1, none⟩ = some (.int .i64 (X k).who) ∧ W.cell? ⟨g, 2, none⟩ = some (.int .i64 (X k).amount)) := Lib.hid (fun W g h => ⟨h.cell 0 (by rw [HK36.out]; omega), h.cell 1 (by rw [HK36.out]; omega), h.cell 2 (by rw [HK36.out]; omega)⟩)
      have HS := Lib.hid (HSS.out k hkn)
      have HTLk := Lib.hid (HTL.out k)
      obtain ⟨A1, c1, rfl, hlc, hcm⟩ := HC.out.own.form
      obtain ⟨m, hm⟩ : ∃ m, m = (T k).length := ⟨_, rfl⟩
      have hmk : m ≤ k := by rw [hm]; exact HTLk.out
      have HAnyS : Hid (∀ i, i < m → Au.any (T k) (X k) (i + 1) = (Au.any (T k) (X k) i || (((T k).getD i Bd.zero).who == (X k).who))) := Lib.hid (fun i hi => Au.any_succ _ _ i (by omega))
      have HAny0 : Hid (Au.any (T k) (X k) 0 = false) := Lib.hid rfl
      have HAnyM : Hid (Au.any (T k) (X k) m = Au.met (T k) (X k).who) := Lib.hid (by rw [hm]; exact Au.any_all _ _)
      have HEl : Hid (∀ i, i < m → ∃ g1, A1 = some ⟨g1, 0, none⟩ ∧ g1 < wo.heap.size ∧ wo.cell? ⟨g1, i * 36 + 1, none⟩ = some (.int .i64 ((T k).getD i Bd.zero).who)) := Lib.hid (fun i hi => by
        obtain ⟨g1, c', e, _, hg1⟩ := HC.out.own.ne (by intro e; rw [e] at hm; simp at hm; omega)
        injection e with e1 e2 e3
        subst e1
        refine ⟨g1, rfl, hg1, ?_⟩
        have h1 := HC.out.own.at (fun x hx => Bd.cells_len (HTF.out k x hx).tag) i (by omega)
        rw [List.getD_eq_getElem?_getD, List.getElem?_eq_getElem (by omega)]
        exact h1 1 _ rfl)
      rw [← hm] at hlc HC ⊢
      have HM := Lib.hid hm
      clear hm
      obtain ⟨AN, hAN⟩ : ∃ AN, AN = Au.any (T k) (X k) := ⟨_, rfl⟩
      rw [← hAN] at HAnyS HAny0 HAnyM
      obtain ⟨WH, hWH⟩ : ∃ WH : Nat → Int, WH = fun i => ((T k).getD i Bd.zero).who := ⟨_, rfl⟩
      have hWH2 : ∀ i, ((T k).getD i Bd.zero).who = WH i := fun i => by rw [hWH]
      simp only [hWH2] at HEl HAnyS
      clear hAN hWH hWH2
      obtain ⟨CK, hCK⟩ : ∃ CK, (X k).cells = CK := ⟨_, rfl⟩
      rw [hCK] at HRr HK36 HK1 CB HCell
      have HCK := Lib.hid hCK
      clear hCK hat HA HSS HTL HL
      by_cases q0 : (X k).check = 0
      rotate_left
      · have e0 : ((X k).check == 0) = false := by simpa using q0
        have HNO := Lib.hid (Au.cstep_no (out := T k) (Au.okB_check (F := F) (r := r) (fl := fl) q0))
        clear q0
        generalize (X k).check = ck at *
        generalize (X k).who = xw at *
        go_wp2_with (first
          | ((with_reducible show wpList _ _ _ (⟨_, .load 30 (.tmp 23), _, _, _, _⟩ :: _) _ _); refine wpList_load_tx rfl 30 (.tmp 23) rfl g (off + k * 36) (by first | rfl | simp) CK _ (HRr.out) Tryd.underlying30 rfl (by rw [bid_info, HK36.out]) ?_)
          | (
             with_reducible show wpList _ _ _ (⟨_, .store 30 (.tmp 11) _, _, _, _, _⟩ :: _) _ _
             refine wpList_store_at rfl 30 (.tmp 11) (.tmp 24) rfl wo.heap.size 0 CK ZB _ rfl rfl (Hnew.out) (by have := HZ36.out; have := HK36.out; omega) (by rw [bid_info, HK36.out]) HK1.out ?_
             intro w4 hr hg
             rw [splice_all (HK36.out.trans HZ36.out.symm)] at hr
             have Hr4 := Lib.hid hr
             have HC4 := Lib.hid (HC.out.fresh (.cells ZB.toArray 30) hg)
             have Hz4 : Hid (wo.heap.size ≤ w4.heap.size) := Lib.hid (by have := hr.lt; omega)
             have Hg4 := Lib.hid hg
             clear hr hg)
          | ((with_reducible show wpList _ _ _ (⟨_, .load 30 (.tmp 11), _, _, _, _⟩ :: _) _ _); refine wpList_load_tx rfl 30 (.tmp 11) rfl wo.heap.size 0 (rfl) CK _ (row_range Hr4.out) Tryd.underlying30 rfl (by rw [bid_info, HK36.out]) ?_))
        refine (CB.out w4).mono ?_
        rintro _ w5 ⟨rfl, hb5⟩
        have hr5 := Hr4.out.kept (grownBy_of_below hb5 none) (by simp)
        obtain ⟨c0, c1', c2'⟩ := HCell.out _ _ hr5
        have Hr5 := Lib.hid hr5
        have HC5 := Lib.hid (HC4.out.step hb5)
        have HEl5 : Hid (∀ i, i < m → ∃ g1, A1 = some ⟨g1, 0, none⟩ ∧ g1 < w5.heap.size ∧ w5.cell? ⟨g1, i * 36 + 1, none⟩ = some (.int .i64 (WH i))) := Lib.hid (fun i hi => by
          obtain ⟨g1, e, h1, h2⟩ := HEl.out i hi
          have hb4 : w4.cell? ⟨g1, i * 36 + 1, none⟩ = some (.int .i64 (WH i)) := (Hg4.out.cell (((Below.refl wo.heap.size wo).alloc (Nat.le_refl _) (.cells ZB.toArray 30)).cell (p := ⟨g1, i * 36 + 1, none⟩) h1 |>.trans h2) (fun e2 => by injection e2 with e2; have e3 : g1 = wo.heap.size := e2; omega))
          have h4 : g1 < w4.heap.size := Nat.lt_of_lt_of_le h1 Hz4.out
          exact ⟨g1, e, Nat.lt_of_lt_of_le h4 hb5.size, (hb5.cell (p := ⟨g1, i * 36 + 1, none⟩) h4).trans hb4⟩)
        clear hb5 hr5
        go_wp2_with fail
        generalize wo.heap.size = g11 at *
        go_loopw [12, 14] (fun s12 s14 wr => ∃ (i : Nat), i ≤ m ∧ s14 = .int .i64 i ∧ s12 = .bool false ∧ Below w5.heap.size w5 wr) (fun _ i _ => m - (intOf i).toNat)
        case atStart => exact ⟨0, Nat.zero_le _, rfl, rfl, Below.refl _ _⟩
        case round =>
          obtain ⟨i, him, rfl, rfl, hbr⟩ := hrel
          have Hbr := Lib.hid hbr
          clear hbr
          by_cases hin : i < m
          · have hini : (i : Int) < (m : Int) := by omega
            have hi0 : (0 : Int) ≤ (i : Int) := by omega
            obtain ⟨g1, rfl, hg1, he1⟩ := HEl5.out i hin
            have c6 := (Hbr.out.cell (p := ⟨g1, i * 36 + 1, none⟩) hg1).trans he1
            have c7 := (Hbr.out.cell (p := ⟨g11, 1, none⟩) Hr5.out.lt).trans c1'
            have has := HAnyS.out i hin
            clear he1
            cases hew : (WH i == xw) with
            | true =>
              rw [hew, Bool.or_true] at has
              have HAS := Lib.hid has
              have HBr2 := Lib.hid (fun n => below_drewN' Hbr.out n)
              clear has
              go_wp2_with fail
              go_quiet (fail)
              go_wp2_with fail
              exact ⟨⟨i + 1, by omega, by go_num, (by first | rfl | (rw [HAS.out]; rfl) | (rw [HAS.out] <;> rfl)), HBr2.out _⟩, by simp [intOf]; omega⟩
            | false =>
              rw [hew, Bool.or_false] at has
              have HAS := Lib.hid has
              have HBr2 := Lib.hid (fun n => below_drewN' Hbr.out n)
              clear has
              go_wp2_with fail
              go_quiet (fail)
              go_wp2_with fail
              exact ⟨⟨i + 1, by omega, by go_num, (by first | rfl | (rw [HAS.out]; done) | (rw [HAS.out] <;> rfl)), HBr2.out _⟩, by simp [intOf]; omega⟩
          · have hini : ¬ (i : Int) < (m : Int) := by omega
            have e : i = m := by omega
            subst e
            go_wp2_with fail
            exact ⟨⟨_, k + 1, by omega, rfl, by go_num, by rw [HS.out, HNO.out]; exact HC5.out.step Hbr.out⟩, by simp [intOf]; omega⟩
      have hok := Au.ok_of_check q0
      rw [q0] at CB
      by_cases q1 : (X k).round = r
      rotate_left
      · have e0 : ((X k).round == r) = false := by simpa using q1
        have HNO := Lib.hid (Au.cstep_no (out := T k) (Au.okB_round (F := F) (r := r) (fl := fl) q1))
        clear q1 q0 hok
        generalize (X k).round = xr at *
        generalize (X k).who = xw at *
        go_wp2_with (first
          | ((with_reducible show wpList _ _ _ (⟨_, .load 30 (.tmp 23), _, _, _, _⟩ :: _) _ _); refine wpList_load_tx rfl 30 (.tmp 23) rfl g (off + k * 36) (by first | rfl | simp) CK _ (HRr.out) Tryd.underlying30 rfl (by rw [bid_info, HK36.out]) ?_)
          | (
             with_reducible show wpList _ _ _ (⟨_, .store 30 (.tmp 11) _, _, _, _, _⟩ :: _) _ _
             refine wpList_store_at rfl 30 (.tmp 11) (.tmp 24) rfl wo.heap.size 0 CK ZB _ rfl rfl (Hnew.out) (by have := HZ36.out; have := HK36.out; omega) (by rw [bid_info, HK36.out]) HK1.out ?_
             intro w4 hr hg
             rw [splice_all (HK36.out.trans HZ36.out.symm)] at hr
             have Hr4 := Lib.hid hr
             have HC4 := Lib.hid (HC.out.fresh (.cells ZB.toArray 30) hg)
             have Hz4 : Hid (wo.heap.size ≤ w4.heap.size) := Lib.hid (by have := hr.lt; omega)
             have Hg4 := Lib.hid hg
             clear hr hg)
          | ((with_reducible show wpList _ _ _ (⟨_, .load 30 (.tmp 11), _, _, _, _⟩ :: _) _ _); refine wpList_load_tx rfl 30 (.tmp 11) rfl wo.heap.size 0 (rfl) CK _ (row_range Hr4.out) Tryd.underlying30 rfl (by rw [bid_info, HK36.out]) ?_))
        refine (CB.out w4).mono ?_
        rintro _ w5 ⟨rfl, hb5⟩
        have hr5 := Hr4.out.kept (grownBy_of_below hb5 none) (by simp)
        obtain ⟨c0, c1', c2'⟩ := HCell.out _ _ hr5
        have Hr5 := Lib.hid hr5
        have HC5 := Lib.hid (HC4.out.step hb5)
        have HEl5 : Hid (∀ i, i < m → ∃ g1, A1 = some ⟨g1, 0, none⟩ ∧ g1 < w5.heap.size ∧ w5.cell? ⟨g1, i * 36 + 1, none⟩ = some (.int .i64 (WH i))) := Lib.hid (fun i hi => by
          obtain ⟨g1, e, h1, h2⟩ := HEl.out i hi
          have hb4 : w4.cell? ⟨g1, i * 36 + 1, none⟩ = some (.int .i64 (WH i)) := (Hg4.out.cell (((Below.refl wo.heap.size wo).alloc (Nat.le_refl _) (.cells ZB.toArray 30)).cell (p := ⟨g1, i * 36 + 1, none⟩) h1 |>.trans h2) (fun e2 => by injection e2 with e2; have e3 : g1 = wo.heap.size := e2; omega))
          have h4 : g1 < w4.heap.size := Nat.lt_of_lt_of_le h1 Hz4.out
          exact ⟨g1, e, Nat.lt_of_lt_of_le h4 hb5.size, (hb5.cell (p := ⟨g1, i * 36 + 1, none⟩) h4).trans hb4⟩)
        clear hb5 hr5
        go_wp2_with fail
        generalize wo.heap.size = g11 at *
        go_loopw [12, 14] (fun s12 s14 wr => ∃ (i : Nat), i ≤ m ∧ s14 = .int .i64 i ∧ s12 = .bool false ∧ Below w5.heap.size w5 wr) (fun _ i _ => m - (intOf i).toNat)
        case atStart => exact ⟨0, Nat.zero_le _, rfl, rfl, Below.refl _ _⟩
        case round =>
          obtain ⟨i, him, rfl, rfl, hbr⟩ := hrel
          have Hbr := Lib.hid hbr
          clear hbr
          by_cases hin : i < m
          · have hini : (i : Int) < (m : Int) := by omega
            have hi0 : (0 : Int) ≤ (i : Int) := by omega
            obtain ⟨g1, rfl, hg1, he1⟩ := HEl5.out i hin
            have c6 := (Hbr.out.cell (p := ⟨g1, i * 36 + 1, none⟩) hg1).trans he1
            have c7 := (Hbr.out.cell (p := ⟨g11, 1, none⟩) Hr5.out.lt).trans c1'
            have has := HAnyS.out i hin
            clear he1
            cases hew : (WH i == xw) with
            | true =>
              rw [hew, Bool.or_true] at has
              have HAS := Lib.hid has
              have HBr2 := Lib.hid (fun n => below_drewN' Hbr.out n)
              clear has
              go_wp2_with fail
              go_quiet (fail)
              go_wp2_with fail
              exact ⟨⟨i + 1, by omega, by go_num, (by first | rfl | (rw [HAS.out]; rfl) | (rw [HAS.out] <;> rfl)), HBr2.out _⟩, by simp [intOf]; omega⟩
            | false =>
              rw [hew, Bool.or_false] at has
              have HAS := Lib.hid has
              have HBr2 := Lib.hid (fun n => below_drewN' Hbr.out n)
              clear has
              go_wp2_with fail
              go_quiet (fail)
              go_wp2_with fail
              exact ⟨⟨i + 1, by omega, by go_num, (by first | rfl | (rw [HAS.out]; done) | (rw [HAS.out] <;> rfl)), HBr2.out _⟩, by simp [intOf]; omega⟩
          · have hini : ¬ (i : Int) < (m : Int) := by omega
            have e : i = m := by omega
            subst e
            go_wp2_with fail
            exact ⟨⟨_, k + 1, by omega, rfl, by go_num, by rw [HS.out, HNO.out]; exact HC5.out.step Hbr.out⟩, by simp [intOf]; omega⟩
      have e1 : ((X k).round == r) = true := by simpa using q1
      by_cases q2 : (X k).amount < fl
      · have e2 : decide (fl ≤ (X k).amount) = false := by simpa using q2
        have HNO := Lib.hid (Au.cstep_no (out := T k) (Au.okB_floor (F := F) (r := r) q2))
        clear q1 q0 q2 hok
        generalize (X k).round = xr at *
        generalize (X k).amount = xa at *
        generalize (X k).who = xw at *
        go_wp2_with (first
          | ((with_reducible show wpList _ _ _ (⟨_, .load 30 (.tmp 23), _, _, _, _⟩ :: _) _ _); refine wpList_load_tx rfl 30 (.tmp 23) rfl g (off + k * 36) (by first | rfl | simp) CK _ (HRr.out) Tryd.underlying30 rfl (by rw [bid_info, HK36.out]) ?_)
          | (
             with_reducible show wpList _ _ _ (⟨_, .store 30 (.tmp 11) _, _, _, _, _⟩ :: _) _ _
             refine wpList_store_at rfl 30 (.tmp 11) (.tmp 24) rfl wo.heap.size 0 CK ZB _ rfl rfl (Hnew.out) (by have := HZ36.out; have := HK36.out; omega) (by rw [bid_info, HK36.out]) HK1.out ?_
             intro w4 hr hg
             rw [splice_all (HK36.out.trans HZ36.out.symm)] at hr
             have Hr4 := Lib.hid hr
             have HC4 := Lib.hid (HC.out.fresh (.cells ZB.toArray 30) hg)
             have Hz4 : Hid (wo.heap.size ≤ w4.heap.size) := Lib.hid (by have := hr.lt; omega)
             have Hg4 := Lib.hid hg
             clear hr hg)
          | ((with_reducible show wpList _ _ _ (⟨_, .load 30 (.tmp 11), _, _, _, _⟩ :: _) _ _); refine wpList_load_tx rfl 30 (.tmp 11) rfl wo.heap.size 0 (rfl) CK _ (row_range Hr4.out) Tryd.underlying30 rfl (by rw [bid_info, HK36.out]) ?_))
        refine (CB.out w4).mono ?_
        rintro _ w5 ⟨rfl, hb5⟩
        have hr5 := Hr4.out.kept (grownBy_of_below hb5 none) (by simp)
        obtain ⟨c0, c1', c2'⟩ := HCell.out _ _ hr5
        have Hr5 := Lib.hid hr5
        have HC5 := Lib.hid (HC4.out.step hb5)
        have HEl5 : Hid (∀ i, i < m → ∃ g1, A1 = some ⟨g1, 0, none⟩ ∧ g1 < w5.heap.size ∧ w5.cell? ⟨g1, i * 36 + 1, none⟩ = some (.int .i64 (WH i))) := Lib.hid (fun i hi => by
          obtain ⟨g1, e, h1, h2⟩ := HEl.out i hi
          have hb4 : w4.cell? ⟨g1, i * 36 + 1, none⟩ = some (.int .i64 (WH i)) := (Hg4.out.cell (((Below.refl wo.heap.size wo).alloc (Nat.le_refl _) (.cells ZB.toArray 30)).cell (p := ⟨g1, i * 36 + 1, none⟩) h1 |>.trans h2) (fun e2 => by injection e2 with e2; have e3 : g1 = wo.heap.size := e2; omega))
          have h4 : g1 < w4.heap.size := Nat.lt_of_lt_of_le h1 Hz4.out
          exact ⟨g1, e, Nat.lt_of_lt_of_le h4 hb5.size, (hb5.cell (p := ⟨g1, i * 36 + 1, none⟩) h4).trans hb4⟩)
        clear hb5 hr5
        go_wp2_with fail
        generalize wo.heap.size = g11 at *
        go_loopw [12, 14] (fun s12 s14 wr => ∃ (i : Nat), i ≤ m ∧ s14 = .int .i64 i ∧ s12 = .bool false ∧ Below w5.heap.size w5 wr) (fun _ i _ => m - (intOf i).toNat)
        case atStart => exact ⟨0, Nat.zero_le _, rfl, rfl, Below.refl _ _⟩
        case round =>
          obtain ⟨i, him, rfl, rfl, hbr⟩ := hrel
          have Hbr := Lib.hid hbr
          clear hbr
          by_cases hin : i < m
          · have hini : (i : Int) < (m : Int) := by omega
            have hi0 : (0 : Int) ≤ (i : Int) := by omega
            obtain ⟨g1, rfl, hg1, he1⟩ := HEl5.out i hin
            have c6 := (Hbr.out.cell (p := ⟨g1, i * 36 + 1, none⟩) hg1).trans he1
            have c7 := (Hbr.out.cell (p := ⟨g11, 1, none⟩) Hr5.out.lt).trans c1'
            have has := HAnyS.out i hin
            clear he1
            cases hew : (WH i == xw) with
            | true =>
              rw [hew, Bool.or_true] at has
              have HAS := Lib.hid has
              have HBr2 := Lib.hid (fun n => below_drewN' Hbr.out n)
              clear has
              go_wp2_with fail
              go_quiet (fail)
              go_wp2_with fail
              exact ⟨⟨i + 1, by omega, by go_num, (by first | rfl | (rw [HAS.out]; rfl) | (rw [HAS.out] <;> rfl)), HBr2.out _⟩, by simp [intOf]; omega⟩
            | false =>
              rw [hew, Bool.or_false] at has
              have HAS := Lib.hid has
              have HBr2 := Lib.hid (fun n => below_drewN' Hbr.out n)
              clear has
              go_wp2_with fail
              go_quiet (fail)
              go_wp2_with fail
              exact ⟨⟨i + 1, by omega, by go_num, (by first | rfl | (rw [HAS.out]; done) | (rw [HAS.out] <;> rfl)), HBr2.out _⟩, by simp [intOf]; omega⟩
          · have hini : ¬ (i : Int) < (m : Int) := by omega
            have e : i = m := by omega
            subst e
            go_wp2_with fail
            exact ⟨⟨_, k + 1, by omega, rfl, by go_num, by rw [HS.out, HNO.out]; exact HC5.out.step Hbr.out⟩, by simp [intOf]; omega⟩
      have e2 : decide (fl ≤ (X k).amount) = true := by simp; omega
      have hw := (Bd.ok_iff (X k)).1 hok
      obtain ⟨j, hj⟩ : ∃ j : Nat, (X k).who = (j : Int) := ⟨(X k).who.toNat, by omega⟩
      have hj0 : (0 : Int) ≤ (j : Int) := by omega
      have hj63 : (j : Int) ≤ 63 := by omega
      obtain ⟨hv, hhv⟩ : ∃ hv, hv = Au.has F (j : Int) := ⟨_, rfl⟩
      have HHV := Lib.hid hhv
      have hcase : (j < q ∧ ∃ g off, A2 = some ⟨g, off, none⟩ ∧ g < w.heap.size ∧ w.cell? ⟨g, off + j, none⟩ = some (.int .i64 hv)) ∨ (¬ j < q ∧ hv = 0) := by
        by_cases h : j < q
        · obtain ⟨g2, off2, e, h1, h2⟩ := HFA.out j h
          refine .inl ⟨h, g2, off2, e, h1, ?_⟩
          rw [hhv, h2]
          unfold Au.has
          rw [if_pos (by rw [← HQ.out]; omega)]
          rfl
        · refine .inr ⟨h, ?_⟩
          rw [hhv]
          unfold Au.has
          rw [if_neg (by rw [← HQ.out]; omega)]
      have HMT : Hid (Au.met (T k) (j : Int) = true → Au.cstep (Au.okB F r fl) Bd.who (T k) (X k) = T k) := Lib.hid (fun h => Au.cstep_met (by rw [hj]; exact h))
      have HPO : Hid (hv < (X k).amount → Au.cstep (Au.okB F r fl) Bd.who (T k) (X k) = T k) := Lib.hid (fun h => Au.cstep_no (Au.okB_has (by rw [hj, ← hhv]; exact h)))
      have HYE : Hid (Au.met (T k) (j : Int) = false → (X k).amount ≤ hv → Au.cstep (Au.okB F r fl) Bd.who (T k) (X k) = T k ++ [X k]) := Lib.hid (fun h h2 => Au.cstep_yes (Au.okB_yes q0 q1 (by omega) (by rw [hj, ← hhv]; exact h2)) (by rw [hj]; exact h))
      have hk63 : m + 1 ≤ maxLen := by unfold maxLen; omega
      have hk48 : ((m + 1) + (m + 1) / 4 + 192) * 64 ≤ 281474976710656 := by omega
      rw [hj] at HCell HAnyM HAnyS
      clear q1 q0 q2 hok hw hj HHV HFA hhv
      generalize (X k).round = xr at *
      generalize (X k).amount = xa at *
      rcases hcase with ⟨hjq, g2, off2, rfl, hg2, hc2⟩ | ⟨hjq, rfl⟩
      · have hjqi : (j : Int) < (q : Int) := by omega
        have Hc2 := Lib.hid hc2
        clear hc2
        go_wp2_with (first
          | ((with_reducible show wpList _ _ _ (⟨_, .load 30 (.tmp 23), _, _, _, _⟩ :: _) _ _); refine wpList_load_tx rfl 30 (.tmp 23) rfl g (off + k * 36) (by first | rfl | simp) CK _ (HRr.out) Tryd.underlying30 rfl (by rw [bid_info, HK36.out]) ?_)
          | (
             with_reducible show wpList _ _ _ (⟨_, .store 30 (.tmp 11) _, _, _, _, _⟩ :: _) _ _
             refine wpList_store_at rfl 30 (.tmp 11) (.tmp 24) rfl wo.heap.size 0 CK ZB _ rfl rfl (Hnew.out) (by have := HZ36.out; have := HK36.out; omega) (by rw [bid_info, HK36.out]) HK1.out ?_
             intro w4 hr hg
             rw [splice_all (HK36.out.trans HZ36.out.symm)] at hr
             have Hr4 := Lib.hid hr
             have HC4 := Lib.hid (HC.out.fresh (.cells ZB.toArray 30) hg)
             have Hz4 : Hid (wo.heap.size ≤ w4.heap.size) := Lib.hid (by have := hr.lt; omega)
             have Hg4 := Lib.hid hg
             clear hr hg)
          | ((with_reducible show wpList _ _ _ (⟨_, .load 30 (.tmp 11), _, _, _, _⟩ :: _) _ _); refine wpList_load_tx rfl 30 (.tmp 11) rfl wo.heap.size 0 (rfl) CK _ (row_range Hr4.out) Tryd.underlying30 rfl (by rw [bid_info, HK36.out]) ?_))
        refine (CB.out w4).mono ?_
        rintro _ w5 ⟨rfl, hb5⟩
        have hr5 := Hr4.out.kept (grownBy_of_below hb5 none) (by simp)
        obtain ⟨c0, c1', c2'⟩ := HCell.out _ _ hr5
        have Hr5 := Lib.hid hr5
        have HC5 := Lib.hid (HC4.out.step hb5)
        have HEl5 : Hid (∀ i, i < m → ∃ g1, A1 = some ⟨g1, 0, none⟩ ∧ g1 < w5.heap.size ∧ w5.cell? ⟨g1, i * 36 + 1, none⟩ = some (.int .i64 (WH i))) := Lib.hid (fun i hi => by
          obtain ⟨g1, e, h1, h2⟩ := HEl.out i hi
          have hb4 : w4.cell? ⟨g1, i * 36 + 1, none⟩ = some (.int .i64 (WH i)) := (Hg4.out.cell (((Below.refl wo.heap.size wo).alloc (Nat.le_refl _) (.cells ZB.toArray 30)).cell (p := ⟨g1, i * 36 + 1, none⟩) h1 |>.trans h2) (fun e2 => by injection e2 with e2; have e3 : g1 = wo.heap.size := e2; omega))
          have h4 : g1 < w4.heap.size := Nat.lt_of_lt_of_le h1 Hz4.out
          exact ⟨g1, e, Nat.lt_of_lt_of_le h4 hb5.size, (hb5.cell (p := ⟨g1, i * 36 + 1, none⟩) h4).trans hb4⟩)
        clear hb5 hr5
        have c4 := (HC5.out.below.cell (p := ⟨g2, off2 + j, none⟩) hg2).trans Hc2.out
        go_wp2_with fail
        generalize wo.heap.size = g11 at *
        go_loopw [12, 14] (fun s12 s14 wr => ∃ (i : Nat), i ≤ m ∧ s14 = .int .i64 i ∧ s12 = .bool (!AN i) ∧ Below w5.heap.size w5 wr) (fun _ i _ => m - (intOf i).toNat)
        case atStart => exact ⟨0, Nat.zero_le _, rfl, by rw [HAny0.out]; rfl, Below.refl _ _⟩
        case round =>
          obtain ⟨i, him, rfl, rfl, hbr⟩ := hrel
          have Hbr := Lib.hid hbr
          clear hbr
          by_cases hin : i < m
          · have hini : (i : Int) < (m : Int) := by omega
            have hi0 : (0 : Int) ≤ (i : Int) := by omega
            obtain ⟨g1, rfl, hg1, he1⟩ := HEl5.out i hin
            have c6 := (Hbr.out.cell (p := ⟨g1, i * 36 + 1, none⟩) hg1).trans he1
            have c7 := (Hbr.out.cell (p := ⟨g11, 1, none⟩) Hr5.out.lt).trans c1'
            have has := HAnyS.out i hin
            clear he1
            cases hew : (WH i == (j : Int)) with
            | true =>
              rw [hew, Bool.or_true] at has
              have HAS := Lib.hid has
              have HBr2 := Lib.hid (fun n => below_drewN' Hbr.out n)
              clear has
              go_wp2_with fail
              go_quiet (fail)
              go_wp2_with fail
              exact ⟨⟨i + 1, by omega, by go_num, (by first | rfl | (rw [HAS.out]; rfl) | (rw [HAS.out] <;> rfl)), HBr2.out _⟩, by simp [intOf]; omega⟩
            | false =>
              rw [hew, Bool.or_false] at has
              have HAS := Lib.hid has
              have HBr2 := Lib.hid (fun n => below_drewN' Hbr.out n)
              clear has
              go_wp2_with fail
              go_quiet (fail)
              go_wp2_with fail
              exact ⟨⟨i + 1, by omega, by go_num, (by first | rfl | (rw [HAS.out]; done) | (rw [HAS.out] <;> rfl)), HBr2.out _⟩, by simp [intOf]; omega⟩
          · have hini : ¬ (i : Int) < (m : Int) := by omega
            have e : i = m := by omega
            subst e
            have HC6 := Lib.hid (HC5.out.step Hbr.out)
            have Hr6 := Lib.hid (Hr5.out.kept (grownBy_of_below Hbr.out none) (by simp))
            have c7 := (Hbr.out.cell (p := ⟨g11, 2, none⟩) Hr5.out.lt).trans c2'
            cases hme : AN i with
            | true =>
              have HNO := Lib.hid (HMT.out (HAnyM.out.symm.trans hme))
              clear hme
              simp only [Bool.not_true]
              go_wp2_with fail
              exact ⟨⟨_, k + 1, by omega, rfl, by go_num, by rw [HS.out, HNO.out]; exact HC6.out⟩, by simp [intOf]; omega⟩
            | false =>
              have hmf := HAnyM.out.symm.trans hme
              clear hme
              simp only [Bool.not_false]
              by_cases hxa : xa ≤ hv
              · have dx : decide (xa ≤ hv) = true := by simpa using hxa
                have HYES := Lib.hid (HYE.out hmf hxa)
                have hbn := (Below.refl wr.heap.size wr).alloc (Nat.le_refl _) (.cells CK.toArray 30)
                have HNew := Lib.hid (row_news (Row.new wr 30 CK))
                have HO7 := Lib.hid (HC6.out.own.own.alloc (.cells CK.toArray 30))
                rw [← HM.out] at HO7
                have HB7 := Lib.hid (two_below' HC6.out.below hbn)
                have HBs7 := Lib.hid HB7.out.size
                clear hmf hxa hbn
                go_wp2_with (first
                  | ((with_reducible show wpList _ _ _ (⟨_, .load 30 (.tmp 11), _, _, _, _⟩ :: _) _ _); refine wpList_load_tx rfl 30 (.tmp 11) rfl g11 0 (rfl) CK _ (row_range Hr6.out) Tryd.underlying30 rfl (by rw [bid_info, HK36.out]) ?_)
                  | ((with_reducible show wpList _ _ _ (⟨_, .buildSlice 22 _ _, _, _, _, _⟩ :: _) _ _); refine wpList_buildSliceL rfl 22 30 1 [(0, .tmp 75)] rfl (some 76) rfl [(0, .agg CK.toArray)] rfl CK.toArray i0 (.agg ZB.toArray) 36 Tryd.underlying22 Hi.out Hz.out Hsz.out (by decide) (by decide) (fill_one15 36 _ CK HK36.out) ?_)
                  | (at_builtin
                     refine wpList_append_own_wide _ rfl (.tmp 74) (.tmp 76) 22 rfl w.heap.size 30 i0 (.agg ZB.toArray) 36 64 Tryd.underlying22 Hi.out Hz.out Hsz.out Hby.out (by rw [← HZ36.out]; rfl) (by decide) _ _ _ rfl HO7.out ⟨wr.heap.size, 0, none⟩ 1 1 CK rfl (by rw [HK36.out]) HNew.out HK1.out hk63 hk48 HBs7.out ?_
                     intro v8 w8 hown8 hgrow8 _
                     have HC8 : Hid (RcAt w w8 v8 (T k ++ [X k])) := Lib.hid ⟨below_row HB7.out HBs7.out HO7.out hgrow8, OwnL.pushed (by rw [HCK.out, ← HM.out]; exact hown8)⟩
                     clear hown8 hgrow8))
                exact ⟨⟨_, k + 1, by omega, rfl, by go_num, by rw [HS.out, HYES.out]; exact HC8.out⟩, by simp [intOf]; omega⟩
              · have dx : decide (xa ≤ hv) = false := by simpa using hxa
                have HNO := Lib.hid (HPO.out (by omega))
                clear hmf hxa
                go_wp2_with fail
                exact ⟨⟨_, k + 1, by omega, rfl, by go_num, by rw [HS.out, HNO.out]; exact HC6.out⟩, by simp [intOf]; omega⟩
      · have hjqi : ¬ (j : Int) < (q : Int) := by omega
        go_wp2_with (first
          | ((with_reducible show wpList _ _ _ (⟨_, .load 30 (.tmp 23), _, _, _, _⟩ :: _) _ _); refine wpList_load_tx rfl 30 (.tmp 23) rfl g (off + k * 36) (by first | rfl | simp) CK _ (HRr.out) Tryd.underlying30 rfl (by rw [bid_info, HK36.out]) ?_)
          | (
             with_reducible show wpList _ _ _ (⟨_, .store 30 (.tmp 11) _, _, _, _, _⟩ :: _) _ _
             refine wpList_store_at rfl 30 (.tmp 11) (.tmp 24) rfl wo.heap.size 0 CK ZB _ rfl rfl (Hnew.out) (by have := HZ36.out; have := HK36.out; omega) (by rw [bid_info, HK36.out]) HK1.out ?_
             intro w4 hr hg
             rw [splice_all (HK36.out.trans HZ36.out.symm)] at hr
             have Hr4 := Lib.hid hr
             have HC4 := Lib.hid (HC.out.fresh (.cells ZB.toArray 30) hg)
             have Hz4 : Hid (wo.heap.size ≤ w4.heap.size) := Lib.hid (by have := hr.lt; omega)
             have Hg4 := Lib.hid hg
             clear hr hg)
          | ((with_reducible show wpList _ _ _ (⟨_, .load 30 (.tmp 11), _, _, _, _⟩ :: _) _ _); refine wpList_load_tx rfl 30 (.tmp 11) rfl wo.heap.size 0 (rfl) CK _ (row_range Hr4.out) Tryd.underlying30 rfl (by rw [bid_info, HK36.out]) ?_))
        refine (CB.out w4).mono ?_
        rintro _ w5 ⟨rfl, hb5⟩
        have hr5 := Hr4.out.kept (grownBy_of_below hb5 none) (by simp)
        obtain ⟨c0, c1', c2'⟩ := HCell.out _ _ hr5
        have Hr5 := Lib.hid hr5
        have HC5 := Lib.hid (HC4.out.step hb5)
        have HEl5 : Hid (∀ i, i < m → ∃ g1, A1 = some ⟨g1, 0, none⟩ ∧ g1 < w5.heap.size ∧ w5.cell? ⟨g1, i * 36 + 1, none⟩ = some (.int .i64 (WH i))) := Lib.hid (fun i hi => by
          obtain ⟨g1, e, h1, h2⟩ := HEl.out i hi
          have hb4 : w4.cell? ⟨g1, i * 36 + 1, none⟩ = some (.int .i64 (WH i)) := (Hg4.out.cell (((Below.refl wo.heap.size wo).alloc (Nat.le_refl _) (.cells ZB.toArray 30)).cell (p := ⟨g1, i * 36 + 1, none⟩) h1 |>.trans h2) (fun e2 => by injection e2 with e2; have e3 : g1 = wo.heap.size := e2; omega))
          have h4 : g1 < w4.heap.size := Nat.lt_of_lt_of_le h1 Hz4.out
          exact ⟨g1, e, Nat.lt_of_lt_of_le h4 hb5.size, (hb5.cell (p := ⟨g1, i * 36 + 1, none⟩) h4).trans hb4⟩)
        clear hb5 hr5
        go_wp2_with fail
        generalize wo.heap.size = g11 at *
        go_loopw [12, 14] (fun s12 s14 wr => ∃ (i : Nat), i ≤ m ∧ s14 = .int .i64 i ∧ s12 = .bool (!AN i) ∧ Below w5.heap.size w5 wr) (fun _ i _ => m - (intOf i).toNat)
        case atStart => exact ⟨0, Nat.zero_le _, rfl, by rw [HAny0.out]; rfl, Below.refl _ _⟩
        case round =>
          obtain ⟨i, him, rfl, rfl, hbr⟩ := hrel
          have Hbr := Lib.hid hbr
          clear hbr
          by_cases hin : i < m
          · have hini : (i : Int) < (m : Int) := by omega
            have hi0 : (0 : Int) ≤ (i : Int) := by omega
            obtain ⟨g1, rfl, hg1, he1⟩ := HEl5.out i hin
            have c6 := (Hbr.out.cell (p := ⟨g1, i * 36 + 1, none⟩) hg1).trans he1
            have c7 := (Hbr.out.cell (p := ⟨g11, 1, none⟩) Hr5.out.lt).trans c1'
            have has := HAnyS.out i hin
            clear he1
            cases hew : (WH i == (j : Int)) with
            | true =>
              rw [hew, Bool.or_true] at has
              have HAS := Lib.hid has
              have HBr2 := Lib.hid (fun n => below_drewN' Hbr.out n)
              clear has
              go_wp2_with fail
              go_quiet (fail)
              go_wp2_with fail
              exact ⟨⟨i + 1, by omega, by go_num, (by first | rfl | (rw [HAS.out]; rfl) | (rw [HAS.out] <;> rfl)), HBr2.out _⟩, by simp [intOf]; omega⟩
            | false =>
              rw [hew, Bool.or_false] at has
              have HAS := Lib.hid has
              have HBr2 := Lib.hid (fun n => below_drewN' Hbr.out n)
              clear has
              go_wp2_with fail
              go_quiet (fail)
              go_wp2_with fail
              exact ⟨⟨i + 1, by omega, by go_num, (by first | rfl | (rw [HAS.out]; done) | (rw [HAS.out] <;> rfl)), HBr2.out _⟩, by simp [intOf]; omega⟩
          · have hini : ¬ (i : Int) < (m : Int) := by omega
            have e : i = m := by omega
            subst e
            have HC6 := Lib.hid (HC5.out.step Hbr.out)
            have Hr6 := Lib.hid (Hr5.out.kept (grownBy_of_below Hbr.out none) (by simp))
            have c7 := (Hbr.out.cell (p := ⟨g11, 2, none⟩) Hr5.out.lt).trans c2'
            cases hme : AN i with
            | true =>
              have HNO := Lib.hid (HMT.out (HAnyM.out.symm.trans hme))
              clear hme
              simp only [Bool.not_true]
              go_wp2_with fail
              exact ⟨⟨_, k + 1, by omega, rfl, by go_num, by rw [HS.out, HNO.out]; exact HC6.out⟩, by simp [intOf]; omega⟩
            | false =>
              have hmf := HAnyM.out.symm.trans hme
              clear hme
              simp only [Bool.not_false]
              by_cases hxa : xa ≤ 0
              · have dx : decide (xa ≤ 0) = true := by simpa using hxa
                have HYES := Lib.hid (HYE.out hmf hxa)
                have hbn := (Below.refl wr.heap.size wr).alloc (Nat.le_refl _) (.cells CK.toArray 30)
                have HNew := Lib.hid (row_news (Row.new wr 30 CK))
                have HO7 := Lib.hid (HC6.out.own.own.alloc (.cells CK.toArray 30))
                rw [← HM.out] at HO7
                have HB7 := Lib.hid (two_below' HC6.out.below hbn)
                have HBs7 := Lib.hid HB7.out.size
                clear hmf hxa hbn
                go_wp2_with (first
                  | ((with_reducible show wpList _ _ _ (⟨_, .load 30 (.tmp 11), _, _, _, _⟩ :: _) _ _); refine wpList_load_tx rfl 30 (.tmp 11) rfl g11 0 (rfl) CK _ (row_range Hr6.out) Tryd.underlying30 rfl (by rw [bid_info, HK36.out]) ?_)
                  | ((with_reducible show wpList _ _ _ (⟨_, .buildSlice 22 _ _, _, _, _, _⟩ :: _) _ _); refine wpList_buildSliceL rfl 22 30 1 [(0, .tmp 75)] rfl (some 76) rfl [(0, .agg CK.toArray)] rfl CK.toArray i0 (.agg ZB.toArray) 36 Tryd.underlying22 Hi.out Hz.out Hsz.out (by decide) (by decide) (fill_one15 36 _ CK HK36.out) ?_)
                  | (at_builtin
                     refine wpList_append_own_wide _ rfl (.tmp 74) (.tmp 76) 22 rfl w.heap.size 30 i0 (.agg ZB.toArray) 36 64 Tryd.underlying22 Hi.out Hz.out Hsz.out Hby.out (by rw [← HZ36.out]; rfl) (by decide) _ _ _ rfl HO7.out ⟨wr.heap.size, 0, none⟩ 1 1 CK rfl (by rw [HK36.out]) HNew.out HK1.out hk63 hk48 HBs7.out ?_
                     intro v8 w8 hown8 hgrow8 _
                     have HC8 : Hid (RcAt w w8 v8 (T k ++ [X k])) := Lib.hid ⟨below_row HB7.out HBs7.out HO7.out hgrow8, OwnL.pushed (by rw [HCK.out, ← HM.out]; exact hown8)⟩
                     clear hown8 hgrow8))
                exact ⟨⟨_, k + 1, by omega, rfl, by go_num, by rw [HS.out, HYES.out]; exact HC8.out⟩, by simp [intOf]; omega⟩
              · have dx : decide (xa ≤ 0) = false := by simpa using hxa
                have HNO := Lib.hid (HPO.out (by omega))
                clear hmf hxa
                go_wp2_with fail
                exact ⟨⟨_, k + 1, by omega, rfl, by go_num, by rw [HS.out, HNO.out]; exact HC6.out⟩, by simp [intOf]; omega⟩
    · have hki : ¬ (k : Int) < (n : Int) := by omega
      have e : k = n := by omega
      subst e
      go_wp2_with fail
      go_ret
      exact ⟨v, rfl, HC.out.own, HC.out.below⟩
end Go.Proofs.YtlapmdgkcidhnaaDoor
