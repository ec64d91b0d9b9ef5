/- few, equality of wins, awake. -/
import Derived.Test.YtlapmdgkcidhnaaDoorAuRwin
namespace Go.Proofs.YtlapmdgkcidhnaaDoor
open Go.RowKit
set_option linter.unusedVariables false
set_option linter.unusedSimpArgs false
set_option maxRecDepth 100000

theorem few15_any (A : Option Addr) (c : Nat) (l : List Bd) (w : World) (hl : l.length ≤ 9223372036854775807) (hlc : l.length ≤ c) :
    Calls Tryd.prog 13 #[.slice A l.length c] w fun e w' => e = .returned (.slice A (l.take 80).length c) ∧ w = w' := by
  by_cases h : 80 < l.length
  · have e : (l.take 80).length = 80 := by rw [List.length_take]; omega
    rw [e]
    generalize l.length = n at *
    have hi : (80 : Int) < (n : Int) := by omega
    have hc : 80 ≤ c := by omega
    clear e
    go_enter Tryd.func13, Tryd.ntmps13
    go_wp2_with fail
    go_ret
    exact ⟨rfl, rfl⟩
  · have e : (l.take 80).length = l.length := by rw [List.length_take]; omega
    rw [e]
    generalize l.length = n at *
    have hi : ¬ (80 : Int) < (n : Int) := by omega
    clear e
    go_enter Tryd.func13, Tryd.ntmps13
    go_wp2_with fail
    go_ret
    exact ⟨rfl, rfl⟩
theorem BdsIn.take {w : World} {B : Nat} {A : Option Addr} {l : List Bd} (h : BdsIn w B A l) (k : Nat) : BdsIn w B A (l.take k) := fun hne => by
  obtain ⟨g, off, e, hg, ha⟩ := h (fun e => hne (by rw [e]; simp))
  exact ⟨g, off, e, hg, fun i hi => by
    rw [List.getElem_take]
    exact ha i (by rw [List.length_take] at hi; omega)⟩
namespace Au
def wLits (b : Bd) (p : Int) : List Lit := b.lits ++ [.int .i64 p]
theorem wLits_inj {a b : Bd} {p q : Int} (h : wLits a p = wLits b q) : a = b ∧ p = q := by
  unfold wLits at h
  obtain ⟨h1, h2⟩ := List.append_inj' h rfl
  refine ⟨Bd.lits_inj h1, ?_⟩
  simpa using h2
end Au
theorem win_lits {b : Bd} {p : Int} (h : b.Fits) (hp : Tx.fits p) : Tryd.prog.keyLits 4 32 (Au.wc b p) = some (Au.wLits b p) := by
  have hc : Tryd.prog.cellsOf 32 = 37 := by kernel_rfl
  have hI : Tryd.prog.cellsOf 3 = 1 := by kernel_rfl
  have hB : Tryd.prog.cellsOf 30 = 36 := by kernel_rfl
  unfold Program.keyLits
  simp only [Tryd.underlying32]
  rw [if_pos ⟨by rw [hc, Au.wc_len h.tag], by kernel_rfl⟩]
  have e0 : Tryd.prog.keyLits 3 30 (((Au.wc b p).drop 0).take (Tryd.prog.cellsOf 30)) = some b.lits := by
    rw [hB, List.drop_zero]
    unfold Au.wc
    rw [List.take_left' (Bd.cells_len h.tag)]
    exact bid_lits h
  have e1 : Tryd.prog.keyLits 3 3 (((Au.wc b p).drop 36).take (Tryd.prog.cellsOf 3)) = some [.int .i64 p] := by
    rw [hI]
    unfold Au.wc
    rw [List.drop_left' (Bd.cells_len h.tag)]
    exact lit_int 2 hp
  simp only [List.mapM_cons, List.mapM_nil, e0, e1, Option.bind_eq_bind, Option.bind_some, Option.pure_def, Option.map_some]
  simp [Au.wLits]
theorem win_eq (W : World) (a b : Bd) (p q : Int) (ha : a.Fits) (hb : b.Fits) (hp : Tx.fits p) (hq : Tx.fits q) : ∃ r : Bool, (Op.equalIn 10000 32 (.agg (Au.wc a p).toArray) (.agg (Au.wc b q).toArray)).run Tryd.prog W = .ok r W ∧ (r = true ↔ a = b ∧ p = q) := by
  have hk : Tryd.prog.keyTypeAt 4 32 = true := by kernel_rfl
  have hf : ∀ (x : Bd) (p : Int), x.Fits → (Value.agg (Au.wc x p).toArray).formed Tryd.prog 32 = true := by
    intro x p hx
    have hc : Tryd.prog.cellsOf 32 = 37 := by kernel_rfl
    have hs := Au.wc_len (p := p) hx.tag
    simp [Value.formed, Tryd.underlying32, hs, hc]
  obtain ⟨r, hr, hiff⟩ := run_equalIn_deep (P := Tryd.prog) 9996 4 32 hk W 4 4 (.agg (Au.wc a p).toArray) (.agg (Au.wc b q).toArray) _ _ (hf a p ha) (hf b q hb) (by show Tryd.prog.keyLits 4 _ (Au.wc a p).toArray.toList = _; exact win_lits ha hp) (by show Tryd.prog.keyLits 4 _ (Au.wc b q).toArray.toList = _; exact win_lits hb hq)
  exact ⟨r, hr, hiff.trans ⟨Au.wLits_inj, fun h => by rw [h.1, h.2]⟩⟩
/-- a result that fits -/
def Au.FitsR : Option (Bd × Int) → Prop
  | none => True
  | some (b, p) => b.Fits ∧ Tx.fits p
theorem Au.winC_len {R : Option (Bd × Int)} (h : Au.FitsR R) : (Au.winC R).length = 37 := by
  match R, h with
  | none, _ => exact Au.wc_len rfl
  | some (b, p), h => exact Au.wc_len h.1.tag
theorem Au.winC_one {R : Option (Bd × Int)} (h : Au.FitsR R) : ∀ v ∈ Au.winC R, v.oneCell' = true := by
  match R, h with
  | none, _ => exact Au.wc_one rfl
  | some (b, p), h => exact Au.wc_one h.1.tag
theorem win_same (W : World) (R : Option (Bd × Int)) (h : Au.FitsR R) : (Op.equalIn 10000 32 (.agg (Au.winC R).toArray) (.agg (Au.winC R).toArray)).run Tryd.prog W = .ok true W := by
  have hz : Bd.zero.Fits := ⟨rfl, ⟨by decide, by decide⟩, ⟨by decide, by decide⟩, ⟨by decide, by decide⟩, ⟨by decide, by decide⟩⟩
  have h0 : Tx.fits 0 := ⟨by decide, by decide⟩
  match R, h with
  | none, _ =>
    obtain ⟨r, hr, hi⟩ := win_eq W Bd.zero Bd.zero 0 0 hz hz h0 h0
    have : r = true := hi.2 ⟨rfl, rfl⟩
    subst this
    exact hr
  | some (b, p), h =>
    obtain ⟨r, hr, hi⟩ := win_eq W b b p p h.1 h.1 h.2 h.2
    have : r = true := hi.2 ⟨rfl, rfl⟩
    subst this
    exact hr
theorem Au.winB_fits {F : List Int} {r fl : Int} {L : List Bd} (hL : ∀ b ∈ L, b.Fits) (hf : Tx.fits fl) : Au.FitsR (Au.winB F r fl L) := by
  cases h : Au.winB F r fl L with
  | none => trivial
  | some x =>
    obtain ⟨b, p⟩ := x
    have hk := Au.win_won (fun x hx => (Au.okB_low (Au.cnt_ok hx)).2) (Au.nodup_of (Au.counts_apart (Au.okB F r fl) Bd.who L)) h
    refine ⟨hL b (Au.counts_mem hk.mem).1, ?_⟩
    rcases hk.is with e | ⟨y, hy, _, e⟩
    · rw [e]; exact hf
    · rw [e]; exact (hL y (Au.counts_mem hy).1).amount
theorem Au.winB_two (u v : Bd) (hu : u.check = 0) (hv : v.check = 0) (u1 : u.round = 1) (u2 : u.who = 1) (u3 : u.amount = 10) (v1 : v.round = 1) (v2 : v.who = 2) (v3 : v.amount = 7) :
    Au.winB [0, 10, 10] 1 3 [v, u] = some (u, 7) ∧ Au.winB [0, 10, 6] 1 3 [v, u] = some (u, 3) := by
  have hh : Au.higher Bd.amount Au.sum Au.txt u v = true := by unfold Au.higher; rw [u3, v3]; simp
  have o1 : Au.okB [0, 10, 10] 1 3 v = true := Au.okB_yes hv v1 (by omega) (by rw [v3, v2]; decide)
  have o2 : Au.okB [0, 10, 10] 1 3 u = true := Au.okB_yes hu u1 (by omega) (by rw [u3, u2]; decide)
  have o3 : Au.okB [0, 10, 6] 1 3 v = false := Au.okB_has (by rw [v3, v2]; decide)
  have o4 : Au.okB [0, 10, 6] 1 3 u = true := Au.okB_yes hu u1 (by omega) (by rw [u3, u2]; decide)
  constructor
  · have hc : Au.cnt [0, 10, 10] 1 3 [v, u] = [v, u] := by
      unfold Au.cnt Au.counts
      simp [Au.cstep, o1, o2, u2, v2]
    unfold Au.winB
    rw [hc]
    unfold Au.win Au.best
    simp [Au.bestTo, Au.step, hh, v3]
  · have hc : Au.cnt [0, 10, 6] 1 3 [v, u] = [u] := by
      unfold Au.cnt Au.counts
      simp [Au.cstep, o3, o4]
    unfold Au.winB
    rw [hc]
    unfold Au.win Au.best
    simp [Au.bestTo, Au.step]
theorem awk_facts15 : ∃ o p u v : Bd, (o.tag.length = 32 ∧ p.tag.length = 32 ∧ u.Fits ∧ v.Fits ∧ u.amount = 10) ∧ Tryd.prog.built 30 [(0, .int .i64 1), (1, .int .i64 1), (2, .int .i64 10)] = some o.cells.toArray ∧ Tryd.prog.built 30 [(0, .int .i64 1), (1, .int .i64 2), (2, .int .i64 7)] = some p.cells.toArray ∧
    Bd.pairV o.signE = .tuple #[.agg u.cells.toArray, .int .i64 0] ∧ Bd.pairV p.signE = .tuple #[.agg v.cells.toArray, .int .i64 0] ∧ Au.winB [0, 10, 10] 1 3 [v, u] = some (u, 7) ∧ Au.winB [0, 10, 6] 1 3 [v, u] = some (u, 3) := by
  obtain ⟨o, ho⟩ : ∃ o : Bd, o = ⟨1, 1, 10, 0, Tx.zero⟩ := ⟨_, rfl⟩
  obtain ⟨p, hp⟩ : ∃ p : Bd, p = ⟨1, 2, 7, 0, Tx.zero⟩ := ⟨_, rfl⟩
  have hof : o.Fits := by rw [ho]; exact ⟨rfl, ⟨by decide, by decide⟩, ⟨by decide, by decide⟩, ⟨by decide, by decide⟩, ⟨by decide, by decide⟩⟩
  have hpf : p.Fits := by rw [hp]; exact ⟨rfl, ⟨by decide, by decide⟩, ⟨by decide, by decide⟩, ⟨by decide, by decide⟩, ⟨by decide, by decide⟩⟩
  have hok : o.ok = true := by rw [ho]; decide +kernel
  have hpk : p.ok = true := by rw [hp]; decide +kernel
  have hob : Tryd.prog.built 30 [(0, .int .i64 1), (1, .int .i64 1), (2, .int .i64 10)] = some o.cells.toArray := by rw [ho]; kernel_rfl
  have hpb : Tryd.prog.built 30 [(0, .int .i64 1), (1, .int .i64 2), (2, .int .i64 7)] = some p.cells.toArray := by rw [hp]; kernel_rfl
  have q : o.round = 1 ∧ o.who = 1 ∧ o.amount = 10 := by rw [ho]; exact ⟨rfl, rfl, rfl⟩
  have q2 : p.round = 1 ∧ p.who = 2 ∧ p.amount = 7 := by rw [hp]; exact ⟨rfl, rfl, rfl⟩
  clear ho hp
  obtain ⟨w1, w2⟩ := Au.winB_two o.sign p.sign (Bd.sign_check hok) (Bd.sign_check hpk) q.1 q.2.1 q.2.2 q2.1 q2.2.1 q2.2.2
  exact ⟨o, p, o.sign, p.sign, ⟨hof.tag, hpf.tag, Bd.sign_fits hof, Bd.sign_fits hpf, q.2.2⟩, hob, hpb, Bd.signE_ok hok, Bd.signE_ok hpk, w1, w2⟩
theorem fill_two15 (n : Nat) (z : Value) (C D : List Value) (hC : C.length = n) (hD : D.length = n) : Instr.fill (fun i => some (i * n, n)) ((Array.range (2 * n)).map (z.cells[· % z.cells.size]!)) [(0, .agg C.toArray), (1, .agg D.toArray)] = some (C ++ D).toArray := by
  have hl : ((Array.range (2 * n)).map (z.cells[· % z.cells.size]!)).toList.length = 2 * n := by simp
  have e : (Array.range (2 * n)).map (z.cells[· % z.cells.size]!) = ((Array.range (2 * n)).map (z.cells[· % z.cells.size]!)).toList.toArray := Array.toArray_toList.symm
  rw [e, fill_step _ _ 0 _ C _ 0 n (by simp) (by simp [Value.cells]) hC (by omega), fill_step _ _ 1 _ D _ n n (by simp) (by simp [Value.cells]) hD (by simp only [List.length_append, List.length_take, List.length_drop, hl, hC]; omega), fill_end]
  congr 1
  congr 1
  rw [List.take_zero, List.nil_append, List.take_left' hC, List.drop_of_length_le (by simp only [List.length_append, List.length_drop, hl, hC]; omega), List.append_nil]
theorem BdsIn.two {w : World} {g B : Nat} {T : TypeId} {a b : Bd} (h : Row w g T (a.cells ++ b.cells)) (ha : a.tag.length = 32) (hB : g < B) : BdsIn w B (some ⟨g, 0, none⟩) [a, b] := fun _ => by
  have h1 := row_range h
  refine ⟨g, 0, rfl, hB, fun i hi => ?_⟩
  match i, hi with
  | 0, _ => exact range_head h1
  | 1, _ =>
    have h2 : w.rangeAt g 0 (a.cells ++ (b.cells ++ [])) := by rw [List.append_nil]; exact h1
    have := range_part h2
    rw [Bd.cells_len ha] at this
    exact this
theorem FnIn.row {w : World} {g B : Nat} {T : TypeId} {F : List Int} (h : Row w g T (Is F)) (hB : g < B) : FnIn w B (some ⟨g, 0, none⟩) F := fun _ => ⟨g, 0, rfl, hB, fun i hi => by rw [Nat.zero_add]; exact h.num i hi⟩
theorem blocks_two {w0 W : World} {l : List (Nat × TypeId × List Value)} (h : Blocks w0 W l) (C D : List Value) (T U : TypeId) : Blocks w0 ((W.alloc (.cells C.toArray T)).alloc (.cells D.toArray U)) ((W.heap.size + 1, U, D) :: (W.heap.size, T, C) :: l) := by
  have h1 := (h.alloc (.cells C.toArray T)).cons (Row.new W T C)
  have h2 := (h1.alloc (.cells D.toArray U)).cons (Row.new _ U D)
  rw [show (W.alloc (.cells C.toArray T)).heap.size = W.heap.size + 1 by simp] at h2
  exact h2
set_option maxHeartbeats 6400000 in
theorem awake15_any (hRS : RefSum) (w : World) (hT : Tab w) :
    Calls Tryd.prog 16 #[] w fun e w' => e = .returned (.bool true) ∧ Below w.heap.size w w' := by
  obtain ⟨i0, hi, h2⟩ := Option.map_eq_some_iff.1 bd_info15
  simp only [Prod.mk.injEq] at h2
  have Hi := Lib.hid hi
  have Hz := Lib.hid h2.1
  have Hsz := Lib.hid h2.2.1
  clear hi h2
  obtain ⟨o, p, u, v, ⟨ho, hp, hu, hv, hu10⟩, hbo, hbp, hso, hsp, hw1, hw2⟩ := awk_facts15
  have SO : Hid (∀ W, Calls Tryd.prog 51 #[.agg o.cells.toArray] W fun e w' => e = .returned (.tuple #[.agg u.cells.toArray, .int .i64 0]) ∧ Below W.heap.size W w') := Lib.hid (fun W => by have := rsignBid_any hRS o ho W; rw [hso] at this; exact this)
  have SP : Hid (∀ W, Calls Tryd.prog 51 #[.agg p.cells.toArray] W fun e w' => e = .returned (.tuple #[.agg v.cells.toArray, .int .i64 0]) ∧ Below W.heap.size W w') := Lib.hid (fun W => by have := rsignBid_any hRS p hp W; rw [hsp] at this; exact this)
  have HT := Lib.hid hT
  have HP := Lib.hid hT.pos
  have WW : Hid (∀ (F : List Int) (R : Option (Bd × Int)) (W : World) (gb gi : Nat), Au.winB F 1 3 [v, u] = R → F.length = 3 → Below w.heap.size w W → Row W gb 30 (v.cells ++ u.cells) → Row W gi 3 (Is F) →
      Calls Tryd.prog 14 #[.slice (some ⟨gb, 0, none⟩) 2 2, .slice (some ⟨gi, 0, none⟩) 3 3, .int .i64 1, .int .i64 3] W fun e w' => e = .returned (Au.winV R) ∧ Below W.heap.size W w') := Lib.hid (fun F R W gb gi hR hF hb h1 h2 => by
    have h0 := win_any [v, u] (by intro b hb; simp at hb; rcases hb with rfl | rfl; exact hv.tag; exact hu.tag) (some ⟨gb, 0, none⟩) 2 F (some ⟨gi, 0, none⟩) 3 1 3 W (BdsIn.two h1 hv.tag h1.lt) (by simp) (FnIn.row h2 h2.lt) (by omega) (HT.out.below hb HP.out)
    rw [hF, hR] at h0
    exact h0)
  have HW1 := Lib.hid (show Au.winV (some (u, 7)) = .tuple #[.agg (Au.wc u 7).toArray, .bool true] from rfl)
  have HW2 := Lib.hid (show Au.winV (some (u, 3)) = .tuple #[.agg (Au.wc u 3).toArray, .bool true] from rfl)
  have HE : Hid (∀ W, (Op.equalIn 10000 30 (.agg u.cells.toArray) (.agg u.cells.toArray)).run Tryd.prog W = .ok true W) := Lib.hid (fun W => bid_eqD W u u hu hu (by simp))
  have Hw1 := Lib.hid hw1
  have Hw2 := Lib.hid hw2
  have Hbo := Lib.hid hbo
  have Hbp := Lib.hid hbp
  have HU36 := Lib.hid (Bd.cells_len hu.tag)
  have HV36 := Lib.hid (Bd.cells_len hv.tag)
  have HU1 := Lib.hid (Bd.cells_one hu.tag)
  have HV1 := Lib.hid (Bd.cells_one hv.tag)
  have HX37 := Lib.hid (fun q => Au.wc_len (b := u) (p := q) hu.tag)
  have HX1 := Lib.hid (fun q => Au.wc_one (b := u) (p := q) hu.tag)
  have HXb : Hid (∀ q W g, Row W g 32 (Au.wc u q) → W.rangeAt g 0 u.cells ∧ W.cell? ⟨g, 36, none⟩ = some (.int .i64 q)) := Lib.hid (fun q W g h => by
    refine ⟨range_head (row_range h), ?_⟩
    have h1 := row_range h 36 (.int .i64 q) (by unfold Au.wc; rw [List.getElem?_append_right (by rw [HU36.out]; omega), HU36.out]; rfl)
    rwa [Nat.zero_add] at h1)
  have HZ36 := Lib.hid (Bd.cells_len (b := Bd.zero) rfl)
  have HZ37 := Lib.hid (Au.wc_len (b := Bd.zero) (p := 0) rfl)
  have HFT : Hid (Tryd.prog.info? 22 = Tryd.prog.info? 22) := Lib.hid rfl
  have hzb := bd_zv
  have hzw := win_zv
  clear hT ho hp hu hv hu10 hbo hbp hso hsp hw1 hw2 hRS
  generalize u.cells = CU at *
  generalize v.cells = CV at *
  generalize o.cells = CO at *
  generalize p.cells = CP at *
  generalize Bd.zero.cells = ZB at *
  generalize Au.wc Bd.zero 0 = ZW at *
  go_enter Tryd.func16, Tryd.ntmps16
  go_wp2_with (first
    | ((with_reducible show wpList _ _ _ (⟨some 10, .build 30 _, _, _, _, _⟩ :: _) _ _); refine wpList_buildL rfl 30 [(0, .const (.int .i64 1)), (1, .const (.int .i64 1)), (2, .const (.int .i64 10))] rfl (some 10) rfl [(0, .int .i64 1), (1, .int .i64 1), (2, .int .i64 10)] rfl CO.toArray Hbo.out ?_))
  refine (SO.out _).mono ?_
  rintro _ w1 ⟨rfl, hb1⟩
  have Hn1 := Lib.hid (Row.new w1 30 ZB)
  have Hb1 := Lib.hid hb1
  clear hb1
  go_wp2_with (first
    | (
       with_reducible show wpList _ _ _ (⟨_, .store 30 (.tmp 1) _, _, _, _, _⟩ :: _) _ _
       refine wpList_store_at rfl 30 (.tmp 1) (.tmp 12) rfl w1.heap.size 0 CU ZB _ rfl rfl (Hn1.out) (by have := HZ36.out; have := HU36.out; omega) (by rw [bid_info, HU36.out]) HU1.out ?_
       intro w2 hr hg
       rw [splice_all (HU36.out.trans HZ36.out.symm)] at hr
       have HB2 := Lib.hid ((((Blocks.nil Hb1.out).alloc (.cells ZB.toArray 30)).put hg Hb1.out.size (by simp)).cons hr)
       clear hr hg)
    | ((with_reducible show wpList _ _ _ (⟨some 15, .build 30 _, _, _, _, _⟩ :: _) _ _); refine wpList_buildL rfl 30 [(0, .const (.int .i64 1)), (1, .const (.int .i64 2)), (2, .const (.int .i64 7))] rfl (some 15) rfl [(0, .int .i64 1), (1, .int .i64 2), (2, .int .i64 7)] rfl CP.toArray Hbp.out ?_))
  refine (SP.out _).mono ?_
  rintro _ w3 ⟨rfl, hb3⟩
  have HB3 := Lib.hid (HB2.out.step hb3)
  clear hb3
  have Hn3 := Lib.hid (Row.new w3 30 ZB)
  go_wp2_with (first
    | (
       with_reducible show wpList _ _ _ (⟨_, .store 30 (.tmp 3) _, _, _, _, _⟩ :: _) _ _
       refine wpList_store_at rfl 30 (.tmp 3) (.tmp 17) rfl w3.heap.size 0 CV ZB _ rfl rfl (Hn3.out) (by have := HZ36.out; have := HV36.out; omega) (by rw [bid_info, HV36.out]) HV1.out ?_
       intro w4 hr hg
       rw [splice_all (HV36.out.trans HZ36.out.symm)] at hr
       have HB4 := Lib.hid (((HB3.out.alloc (.cells ZB.toArray 30)).put hg HB3.out.size HB3.out.fresh).cons hr)
       clear hr hg)
    | ((with_reducible show wpList _ _ _ (⟨_, .load 30 (.tmp 3), _, _, _, _⟩ :: _) _ _); refine wpList_load_tx rfl 30 (.tmp 3) rfl w3.heap.size 0 (rfl) CV _ (row_range HB4.out.hd) Tryd.underlying30 rfl (by rw [bid_info, HV36.out]) ?_)
    | ((with_reducible show wpList _ _ _ (⟨_, .load 30 (.tmp 1), _, _, _, _⟩ :: _) _ _); refine wpList_load_tx rfl 30 (.tmp 1) rfl w1.heap.size 0 (rfl) CU _ (row_range HB4.out.tl.hd) Tryd.underlying30 rfl (by rw [bid_info, HU36.out]) ?_)
    | ((with_reducible show wpList _ _ _ (⟨_, .buildSlice 22 _ _, _, _, _, _⟩ :: _) _ _); refine wpList_buildSliceL rfl 22 30 2 [(0, .tmp 20), (1, .tmp 21)] rfl (some 22) rfl [(0, .agg CV.toArray), (1, .agg CU.toArray)] rfl (CV ++ CU).toArray i0 (.agg ZB.toArray) 36 Tryd.underlying22 Hi.out Hz.out Hsz.out (by decide) (by decide) (fill_two15 36 _ CV CU HV36.out HU36.out) ?_))
  refine calls_named ?_
  intro w6 hw6
  have HB6 : Hid (Blocks w w6 [(w4.heap.size + 1, 3, Is [0, 10, 10]), (w4.heap.size, 30, CV ++ CU), (w3.heap.size, 30, CV), (w1.heap.size, 30, CU)]) := Lib.hid (by
    rw [hw6]
    exact blocks_two HB4.out (CV ++ CU) (Is [0, 10, 10]) _ _)
  clear hw6
  refine (WW.out _ _ _ _ _ Hw1.out rfl HB6.out.1 HB6.out.tl.hd HB6.out.hd).mono ?_
  rw [HW1.out]
  rintro _ w7 ⟨rfl, hb7⟩
  have HB7 := Lib.hid (HB6.out.tl.tl.step hb7)
  clear hb7 HB6
  generalize w4.heap.size = g45 at *
  have Hn7 := Lib.hid (Row.new w7 32 ZW)
  go_wp2_with (first
    | (
       with_reducible show wpList _ _ _ (⟨_, .store 32 (.tmp 5) _, _, _, _, _⟩ :: _) _ _
       refine wpList_store_at rfl 32 (.tmp 5) (.tmp 25) rfl w7.heap.size 0 (Au.wc u 7) ZW _ rfl rfl (Hn7.out) (by have := HZ37.out; have := HX37.out 7; omega) (by rw [win_size, HX37.out]) (HX1.out 7) ?_
       intro w8 hr hg
       rw [splice_all ((HX37.out _).trans HZ37.out.symm)] at hr
       have HB8 := Lib.hid (((HB7.out.alloc (.cells ZW.toArray 32)).put hg HB7.out.size HB7.out.fresh).cons hr)
       clear hr hg)
    | ((with_reducible show wpList _ _ _ (⟨_, .load 30 (.tmp 3), _, _, _, _⟩ :: _) _ _); refine wpList_load_tx rfl 30 (.tmp 3) rfl w3.heap.size 0 (rfl) CV _ (row_range HB8.out.tl.hd) Tryd.underlying30 rfl (by rw [bid_info, HV36.out]) ?_)
    | ((with_reducible show wpList _ _ _ (⟨_, .load 30 (.tmp 1), _, _, _, _⟩ :: _) _ _); refine wpList_load_tx rfl 30 (.tmp 1) rfl w1.heap.size 0 (rfl) CU _ (row_range HB8.out.tl.tl.hd) Tryd.underlying30 rfl (by rw [bid_info, HU36.out]) ?_)
    | ((with_reducible show wpList _ _ _ (⟨_, .buildSlice 22 _ _, _, _, _, _⟩ :: _) _ _); refine wpList_buildSliceL rfl 22 30 2 [(0, .tmp 28), (1, .tmp 29)] rfl (some 30) rfl [(0, .agg CV.toArray), (1, .agg CU.toArray)] rfl (CV ++ CU).toArray i0 (.agg ZB.toArray) 36 Tryd.underlying22 Hi.out Hz.out Hsz.out (by decide) (by decide) (fill_two15 36 _ CV CU HV36.out HU36.out) ?_))
  refine calls_named ?_
  intro w9 hw9
  have HB9 : Hid (Blocks w w9 [(w8.heap.size + 1, 3, Is [0, 10, 6]), (w8.heap.size, 30, CV ++ CU), (w7.heap.size, 32, Au.wc u 7), (w3.heap.size, 30, CV), (w1.heap.size, 30, CU)]) := Lib.hid (by
    rw [hw9]
    exact blocks_two HB8.out (CV ++ CU) (Is [0, 10, 6]) _ _)
  clear hw9
  refine (WW.out _ _ _ _ _ Hw2.out rfl HB9.out.1 HB9.out.tl.hd HB9.out.hd).mono ?_
  rw [HW2.out]
  rintro _ w10 ⟨rfl, hb10⟩
  have HB10 := Lib.hid (HB9.out.tl.tl.step hb10)
  clear hb10 HB9
  generalize w8.heap.size = g89 at *
  have Hn10 := Lib.hid (Row.new w10 32 ZW)
  have hee := HE.out
  go_wp2_with (first
    | (
       with_reducible show wpList _ _ _ (⟨_, .store 32 (.tmp 7) _, _, _, _, _⟩ :: _) _ _
       refine wpList_store_at rfl 32 (.tmp 7) (.tmp 33) rfl w10.heap.size 0 (Au.wc u 3) ZW _ rfl rfl (Hn10.out) (by have := HZ37.out; have := HX37.out 3; omega) (by rw [win_size, HX37.out]) (HX1.out 3) ?_
       intro w11 hr hg
       rw [splice_all ((HX37.out _).trans HZ37.out.symm)] at hr
       have HB11 := Lib.hid (((HB10.out.alloc (.cells ZW.toArray 32)).put hg HB10.out.size HB10.out.fresh).cons hr)
       have ca := (HXb.out _ _ _ HB11.out.hd).2
       have cb := (HXb.out _ _ _ HB11.out.tl.hd).2
       have HXa := Lib.hid (HXb.out _ _ _ HB11.out.tl.hd).1
       clear hr hg)
    | ((with_reducible show wpList _ _ _ (⟨_, .load 30 (.tmp 37), _, _, _, _⟩ :: _) _ _); refine wpList_load_tx rfl 30 (.tmp 37) rfl w7.heap.size 0 (rfl) CU _ (HXa.out) Tryd.underlying30 rfl (by rw [bid_info, HU36.out]) ?_)
    | ((with_reducible show wpList _ _ _ (⟨_, .load 30 (.tmp 1), _, _, _, _⟩ :: _) _ _); refine wpList_load_tx rfl 30 (.tmp 1) rfl w1.heap.size 0 (rfl) CU _ (row_range HB11.out.tl.tl.tl.hd) Tryd.underlying30 rfl (by rw [bid_info, HU36.out]) ?_))
  go_ret
  exact ⟨rfl, HB11.out.1⟩
end Go.Proofs.YtlapmdgkcidhnaaDoor
