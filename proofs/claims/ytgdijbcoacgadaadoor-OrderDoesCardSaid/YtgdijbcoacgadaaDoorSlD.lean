/- What later texts need of the earlier layers. -/
import Derived.Test.YtgdijbcoacgadaaDoorSlO
import Derived.Test.YtgdijbcoacgadaaDoorSlS
import Derived.Test.YtgdijbcoacgadaaDoorSlT
import Derived.Test.YtgdijbcoacgadaaDoorSlC
import Derived.Test.YtgdijbcoacgadaaDoorSlA
import Derived.Test.YtgdijbcoacgadaaDoorSlB
import Derived.Test.YtgdijbcoacgadaaDoorRows
import Derived.WalkKit
import Derived.ProofKit
import Derived.OpenShut
import Derived.Below
import Derived.Carry
import Derived.ReadAgain
import Derived.ChangeSame
import Derived.JoinedCond
import Derived.SizedLaws
import Derived.Deep.MidRow
import Derived.ChangeArms
import Derived.Deep.Slices
import Derived.Lib.SmallJoins
import Derived.SliceStrings
set_option maxRecDepth 100000
/- ---- LawEnd ---- -/
/- The last step of a law's proof: where nothing that was there has changed, and the law answered true, its statement's post stands. -/
namespace Go.Proofs.YtgdijbcoacgadaaDoor
open Go.ChangeShapes Go.WideShapes Go.ChangeAt Go.RowKit
set_option linter.unusedVariables false
set_option linter.unusedSimpArgs false

theorem Tryd.own : ownKnob Tryd.prog.godebug = none := by kernel_rfl
theorem Tryd.kids : Kids Tryd.prog (· < Tryd.prog.types.size) := kids_rows (by kernel_rfl) (by kernel_rfl)
theorem Tryd.full : ∀ t e, t < Tryd.prog.types.size → Tryd.prog.underlying t = some (.slice e) → 0 < Tryd.prog.cellsOf e := slices_full_of Tryd.prog (by kernel_rfl)
section
variable {H : Type} {enc : TypeId × Value → H} {P : Program}

theorem all_carry {w w' : World} {base : Nat} {sp : Nat → Bool} {held : Bool} : ∀ {ts : List TypeId} {vs : List Value} {ds : List (DataW H)} {ps : List MemPlace},
    DataW.TrodAll enc P w base sp held ts vs ds ps → (∀ p ∈ ps, w.sameAt w' p) → DataW.TrodAll enc P w' base sp held ts vs ds ps
  | [], [], [], _, h, _ => h
  | _ :: _, _ :: _, _ :: _, _, ⟨p, q, ⟨n, h1⟩, h2, e⟩, hs =>
    ⟨p, q, ⟨n, DataW.trod_carry n _ _ _ h1 (fun x hx => hs x (by rw [e]; exact List.mem_append_left _ hx))⟩, all_carry h2 (fun x hx => hs x (by rw [e]; exact List.mem_append_right _ hx)), e⟩
/-- 'post_of_same' with what is below the old heap's end unchanged, in place of all marks unchanged -/
theorem post_if_below {f : Func} {s : ChangeSpec} {apart fresh handsOn again : Bool} {W W' : World} {args : Array Value} {v : Value} {ds gs : List (DataW H)} {before pa pv : List MemPlace}
    (hW : DataW.Whole enc P f.params.toList s.vars apart W args.toList ds gs before)
    (hres : ∀ (b : Nat) (sp : Nat → Bool) (hd : Bool), DataW.TrodAll enc P W' b sp hd f.resultTypes.toList (v.resultList f.resultTypes.size) (s.fn H (ds ++ gs)).results [])
    (hargs : ∀ sp : Nat → Bool, (∀ p ∈ before, sp p.block = true) → DataW.TrodAll enc P W' 0 sp true f.params.toList args.toList (s.fn H (ds ++ gs)).args pa)
    (hvars : ∀ sp : Nat → Bool, (∀ p ∈ before, sp p.block = true) → DataW.TrodVars enc P W' sp s.vars (s.fn H (ds ++ gs)).vars pv)
    (hps : before = pa ++ pv) (hb : Below W.heap.size W W')
    (hok : ∀ (j : Nat) (t : TypeId) (r : Value), f.resultTypes[j]? = some t → (v.resultList f.resultTypes.size)[j]? = some r → Value.okWide P W' .any 0 t r) :
    s.post enc P f apart fresh handsOn again W args v W' := by
  subst hps
  have hlt := hW.lt
  have hold : ∀ p ∈ pa ++ pv, (fun b => decide (b < W.heap.size)) p.block = true := fun p hp => by simpa using hlt p hp
  have hW2 := hW
  obtain ⟨_, _, _, _, _, hz, hn⟩ := hW2
  refine ⟨ds, gs, pa ++ pv, [], pa, pv, hW, hres _ _ _, hargs _ hold, hvars _ hold, World.keptBut_mono (fun p hp => ⟨hp, List.mem_append.1 hp |> fun h => .inr h⟩) (hb.frame (· ∈ pa ++ pv)), fun _ => ⟨hok, _, _, ([] ++ pa) ++ pv, ⟨[] ++ pa, pv, trodAll_append (hargs _ (fun _ _ => rfl)) (hres _ _ _), hvars _ (fun _ _ => rfl), rfl, ?_, ?_⟩, ?_⟩⟩
  · intro b off hp
    have hin : MemPlace.cell b off ∈ pa ++ pv := by simpa using hp
    rw [hb.frozen (hlt _ hin)]
    exact hz b off hin
  · intro ha
    simpa using hn ha
  · intro p hp _
    simpa using hp
end

set_option maxRecDepth 100000 in
/-- a law that answered true and changed nothing that was there -/
theorem law_post {H : Type} {enc : TypeId × Value → H} {f : Func} {s : ChangeSpec} {W W' : World} {args : Array Value} {ds gs : List (DataW H)} {before : List MemPlace}
    (hv : s.vars = []) (hr : f.resultTypes = #[4]) (hp : ∀ t ∈ f.params.toList, t < Tryd.prog.types.size)
    (hW : DataW.Whole enc Tryd.prog f.params.toList s.vars false W args.toList ds gs before) (hb : Below W.heap.size W W')
    (hs : s.fn H (ds ++ gs) = { results := [.lit (.bool true)], args := ds }) :
    s.post enc Tryd.prog f false true false false W args (.bool true) W' := by
  have hW' := hW
  obtain ⟨p, q, hA, hV, rfl, hfz, hnd⟩ := hW
  rw [hv] at hV
  obtain ⟨rfl, rfl⟩ := trodVars_none hV
  have hlt := hW'.lt
  refine post_if_below (pa := p) (pv := []) hW' (fun _ _ _ => ?_) (fun sp hsp => ?_) (fun _ _ => ?_) rfl hb (ok_one hr rfl (okWide_bool_mk Tryd.underlying4 _))
  · rw [hs, hr]; exact trodAll_cons_mk (shut_bool Tryd.underlying4 _) trodAll_mk0
  · rw [hs]
    exact all_carry (DataW.TrodAll.respare Tryd.kids Tryd.full hp hA (fun x hx => hsp x (by simpa using hx))) (fun x hx => hb.same (hlt x (by simpa using hx)))
  · rw [hs, hv]; rfl
end Go.Proofs.YtgdijbcoacgadaaDoor

/- ---- TxOpen ---- -/
/- A law's argument that is a transaction, opened. -/
namespace Go.Proofs.YtgdijbcoacgadaaDoor
open Go.ChangeShapes Go.WideShapes Go.ChangeAt Go.RowKit
set_option linter.unusedVariables false
set_option linter.unusedSimpArgs false
set_option maxRecDepth 100000

section
variable {H : Type} {enc : TypeId × Value → H} {w : World} {base : Nat} {spare : Nat → Bool} {held : Bool} {fuel : Nat}
/-- the cells of a hash are 32 bytes -/
theorem hash_cells {cs : List Value} {x : DataW H × List MemPlace} (h : DataW.trod enc Tryd.prog w base spare held fuel 28 cs = some x) :
    ∃ R : List UInt8, R.length = 32 ∧ cs = (bRow R).toList ∧ x.2 = [] := by
  obtain ⟨xs, m, _, hx, hlen, hxl, hi⟩ := DataW.trod_array Tryd.underlying28 h
  have hc : Tryd.prog.cellsOf 28 = 32 := by kernel_rfl
  have hc5 : Tryd.prog.cellsOf 5 = 1 := by kernel_rfl
  rw [hc] at hlen
  have hb : ∀ i, i < 32 → ∃ b : UInt8, cs[i]? = some (.int .u8 (b.toNat : Int)) ∧ ∃ y, xs[i]? = some y ∧ y.2 = [] := by
    intro i hi32
    have h1 := hi i hi32
    rw [hc5, Nat.mul_one, List.drop_eq_getElem_cons (by omega)] at h1
    have hxi : xs[i]? = some (xs[i]'(by omega)) := List.getElem?_eq_getElem (by omega)
    rw [hxi] at h1
    obtain ⟨n, hn, hy, hw⟩ := DataW.trod_int Tryd.underlying5 h1
    have hcs : cs[i]'(by omega) = .int .u8 n := by
      rw [List.take_succ_cons, List.take_zero] at hn
      injection hn
    have hb8 := bounds_u8 hw
    refine ⟨UInt8.ofNat n.toNat, ?_, _, hxi, by rw [hy]⟩
    rw [List.getElem?_eq_getElem (by omega), hcs]
    congr 2
    rw [UInt8.toNat_ofNat']
    omega
  refine ⟨(List.range 32).map fun i => match cs[i]? with | some (Value.int IntKind.u8 n) => UInt8.ofNat n.toNat | _ => 0, by simp, ?_, ?_⟩
  · rw [bRow_yRow _ (by simp)]
    unfold yRow
    apply List.ext_getElem?
    intro i
    by_cases hi32 : i < 32
    · obtain ⟨b, hcb, _⟩ := hb i hi32
      rw [hcb]
      simp [hi32, hcb]
    · rw [List.getElem?_eq_none (by omega)]
      simp [hi32]
  · rw [hx]
    simp only [List.flatMap_eq_nil_iff]
    intro y hy
    obtain ⟨i, hi1, rfl⟩ := List.mem_iff_getElem.1 hy
    obtain ⟨_, _, y, h1, h2⟩ := hb i (by omega)
    rw [List.getElem?_eq_getElem hi1] at h1
    injection h1 with h1
    rw [h1]; exact h2
end
theorem ten_cells {a0 a1 a2 a3 a4 a5 a6 a7 : Value} {s t : List Value} : ∀ (l : List Value), l.length = 72 → (l.drop 0).take 1 = [a0] → (l.drop 1).take 1 = [a1] → (l.drop 2).take 1 = [a2] → (l.drop 3).take 1 = [a3] → (l.drop 4).take 1 = [a4] → (l.drop 5).take 1 = [a5] → (l.drop 6).take 1 = [a6] → (l.drop 7).take 1 = [a7] →
    (l.drop 8).take 32 = s → (l.drop 40).take 32 = t → l = [a0, a1, a2, a3, a4, a5, a6, a7] ++ (s ++ t)
  | x0 :: x1 :: x2 :: x3 :: x4 :: x5 :: x6 :: x7 :: r, hl, h0, h1, h2, h3, h4, h5, h6, h7, h8, h9 => by
    have hr : r.length = 64 := by simpa using hl
    simp at h0 h1 h2 h3 h4 h5 h6 h7 h8 h9
    rw [List.take_of_length_le (by simp; omega)] at h9
    rw [h0, h1, h2, h3, h4, h5, h6, h7, ← h8, ← h9, List.take_append_drop]; rfl
  | [], hl, _, _, _, _, _, _, _, _, _, _ => by simp at hl
  | [_], hl, _, _, _, _, _, _, _, _, _, _ => by simp at hl
  | [_, _], hl, _, _, _, _, _, _, _, _, _, _ => by simp at hl
  | [_, _, _], hl, _, _, _, _, _, _, _, _, _, _ => by simp at hl
  | [_, _, _, _], hl, _, _, _, _, _, _, _, _, _, _ => by simp at hl
  | [_, _, _, _, _], hl, _, _, _, _, _, _, _, _, _, _ => by simp at hl
  | [_, _, _, _, _, _], hl, _, _, _, _, _, _, _, _, _, _ => by simp at hl
  | [_, _, _, _, _, _, _], hl, _, _, _, _, _, _, _, _, _, _ => by simp at hl
/-- a transaction by value -/
theorem open_tx {H : Type} {enc : TypeId × Value → H} {W : World} {r : Reach} {b0 : Nat} {v : Value} {d : DataW H} {ps : List MemPlace} {ts : List TypeId} {ds : List (DataW H)} {j : Nat}
    (hv : Value.okWide Tryd.prog W r b0 50 v) (h : DataW.Trod enc Tryd.prog W 0 (fun _ => true) true 50 v d ps)
    (hsz : (DataW.weightsEach Tryd.prog ts ds).all (· ≤ reachBytes) = true) (ht : ts[j]? = some 50) (hd : ds[j]? = some d) :
    ∃ t : Tx, t.Ok ∧ v = t.v := by
  have hs := Tryd.underlying50
  have hwt : ∀ n ∈ d.weights Tryd.prog 50, n ≤ reachBytes := fun n hn => by
    have := List.all_eq_true.1 hsz _ (DataW.weights_mem_each ht hd n hn)
    simpa using this
  obtain ⟨cs, rfl, hcz⟩ := okWide_struct hs hv
  obtain ⟨fuel, hf⟩ := h
  have hc : Tryd.prog.cellsOf 50 = 72 := by kernel_rfl
  obtain ⟨xs, n, _, hx, _, hlen, hg⟩ := DataW.trod_struct hs hf
  have hI : Tryd.prog.cellsOf 3 = 1 := by kernel_rfl
  have hS : Tryd.prog.cellsOf 9 = 1 := by kernel_rfl
  have hB : Tryd.prog.cellsOf 4 = 1 := by kernel_rfl
  have hH : Tryd.prog.cellsOf 28 = 32 := by kernel_rfl
  have h0 : DataW.trod enc Tryd.prog W 0 (fun _ => true) true n 3 ((cs.toList.drop 0).take (Tryd.prog.cellsOf 3)) = xs[0]? := hg 0 _ rfl
  have h1 : DataW.trod enc Tryd.prog W 0 (fun _ => true) true n 3 ((cs.toList.drop 1).take (Tryd.prog.cellsOf 3)) = xs[1]? := hg 1 _ rfl
  have h2 : DataW.trod enc Tryd.prog W 0 (fun _ => true) true n 3 ((cs.toList.drop 2).take (Tryd.prog.cellsOf 3)) = xs[2]? := hg 2 _ rfl
  have h3 : DataW.trod enc Tryd.prog W 0 (fun _ => true) true n 3 ((cs.toList.drop 3).take (Tryd.prog.cellsOf 3)) = xs[3]? := hg 3 _ rfl
  have h4 : DataW.trod enc Tryd.prog W 0 (fun _ => true) true n 9 ((cs.toList.drop 4).take (Tryd.prog.cellsOf 9)) = xs[4]? := hg 4 _ rfl
  have h5 : DataW.trod enc Tryd.prog W 0 (fun _ => true) true n 4 ((cs.toList.drop 5).take (Tryd.prog.cellsOf 4)) = xs[5]? := hg 5 _ rfl
  have h6 : DataW.trod enc Tryd.prog W 0 (fun _ => true) true n 3 ((cs.toList.drop 6).take (Tryd.prog.cellsOf 3)) = xs[6]? := hg 6 _ rfl
  have h7 : DataW.trod enc Tryd.prog W 0 (fun _ => true) true n 3 ((cs.toList.drop 7).take (Tryd.prog.cellsOf 3)) = xs[7]? := hg 7 _ rfl
  have h8 : DataW.trod enc Tryd.prog W 0 (fun _ => true) true n 28 ((cs.toList.drop 8).take (Tryd.prog.cellsOf 28)) = xs[8]? := hg 8 _ rfl
  have h9 : DataW.trod enc Tryd.prog W 0 (fun _ => true) true n 28 ((cs.toList.drop 40).take (Tryd.prog.cellsOf 28)) = xs[9]? := hg 9 _ rfl
  rw [hI] at h0 h1 h2 h3 h6 h7
  rw [hS] at h4
  rw [hB] at h5
  rw [hH] at h8 h9
  have hl72 : cs.toList.length = 72 := by rw [Array.length_toList, hcz, hc]
  match xs, hlen with
  | [y0, y1, y2, y3, y4, y5, y6, y7, y8, y9], _ =>
    obtain ⟨n0, e0, f0, w0⟩ := DataW.trod_int Tryd.underlying3 h0
    obtain ⟨n1, e1, f1, w1⟩ := DataW.trod_int Tryd.underlying3 h1
    obtain ⟨n2, e2, f2, w2⟩ := DataW.trod_int Tryd.underlying3 h2
    obtain ⟨n3, e3, f3, w3⟩ := DataW.trod_int Tryd.underlying3 h3
    obtain ⟨s, e4, f4, w4⟩ := DataW.trod_string Tryd.underlying9 h4
    obtain ⟨b, e5, f5⟩ := DataW.trod_bool Tryd.underlying4 h5
    obtain ⟨n6, e6, f6, w6⟩ := DataW.trod_int Tryd.underlying3 h6
    obtain ⟨n7, e7, f7, w7⟩ := DataW.trod_int Tryd.underlying3 h7
    obtain ⟨R, hR, e8, _⟩ := hash_cells h8
    obtain ⟨Q, hQ, e9, _⟩ := hash_cells h9
    have hde : d = .agg [y0.1, y1.1, y2.1, y3.1, y4.1, y5.1, y6.1, y7.1, y8.1, y9.1] := (Prod.mk.inj hx).1
    have hss : s.size ≤ 140737488351232 := by
      have h6 := hwt s.data.toList.length (by
        rw [hde, f4]
        unfold DataW.weights
        rw [Tryd.underlying50]
        exact DataW.weights_mem_each (j := 4) (t := 9) (d := .lit (.string s.data.toList)) rfl rfl _ (by simp [DataW.weights]))
      have h7 : reachBytes = 140737488351232 := by decide
      have h8 : s.data.toList.length = s.size := rfl
      omega
    refine ⟨⟨n0, n1, n2, n3, s, b, n6, n7, R, Q⟩, ⟨hR, hQ, hss, bounds_i64 w0, bounds_i64 w1, bounds_i64 w2, bounds_i64 w3, bounds_i64 w6, bounds_i64 w7⟩, ?_⟩
    have e := ten_cells cs.toList hl72 e0 e1 e2 e3 e4 e5 e6 e7 e8 e9
    show Value.agg cs = .agg _
    congr 1
    apply Array.toList_inj.1
    rw [e]
    rfl
end Go.Proofs.YtgdijbcoacgadaaDoor

/- ---- NoOpen ---- -/
/- A law's argument that is a bid, a receipt, an item or a batch, opened. -/
namespace Go.Proofs.YtgdijbcoacgadaaDoor
open Go.ChangeShapes Go.WideShapes Go.ChangeAt Go.RowKit Go.Joins Go.Deep
set_option linter.unusedVariables false
set_option linter.unusedSimpArgs false
set_option maxRecDepth 100000

theorem six_cells {a0 a1 a2 a3 : Value} {s t : List Value} : ∀ (l : List Value), l.length = 68 → (l.drop 0).take 1 = [a0] → (l.drop 1).take 1 = [a1] → (l.drop 2).take 1 = [a2] → (l.drop 3).take 1 = [a3] →
    (l.drop 4).take 32 = s → (l.drop 36).take 32 = t → l = [a0, a1, a2, a3] ++ (s ++ t)
  | x0 :: x1 :: x2 :: x3 :: r, hl, h0, h1, h2, h3, h4, h5 => by
    have hr : r.length = 64 := by simpa using hl
    simp at h0 h1 h2 h3 h4 h5
    rw [List.take_of_length_le (by simp; omega)] at h5
    rw [h0, h1, h2, h3, ← h4, ← h5, List.take_append_drop]; rfl
  | [], hl, _, _, _, _, _, _ => by simp at hl
  | [_], hl, _, _, _, _, _, _ => by simp at hl
  | [_, _], hl, _, _, _, _, _, _ => by simp at hl
  | [_, _, _], hl, _, _, _, _, _, _ => by simp at hl
section
variable {H : Type} {enc : TypeId × Value → H} {w : World} {base : Nat} {spare : Nat → Bool} {held : Bool} {fuel : Nat}
theorem cellsI : Tryd.prog.cellsOf 3 = 1 := by kernel_rfl
theorem cellsS : Tryd.prog.cellsOf 9 = 1 := by kernel_rfl
theorem cellsH : Tryd.prog.cellsOf 28 = 32 := by kernel_rfl
theorem rcpt_cells {cs : List Value} {x : DataW H × List MemPlace} (hcs : cs.length = 68) (h : DataW.trod enc Tryd.prog w base spare held fuel 30 cs = some x)
    (hwt : ∀ n ∈ x.1.weights Tryd.prog 30, n ≤ reachBytes) :
    ∃ r : Rp, r.Fits ∧ cs = r.cells := by
  obtain ⟨xs, n, _, hx, _, hlen, hg⟩ := DataW.trod_struct Tryd.underlying30 h
  have h0 : DataW.trod enc Tryd.prog w base spare held n 3 ((cs.drop 0).take (Tryd.prog.cellsOf 3)) = xs[0]? := hg 0 _ rfl
  have h1 : DataW.trod enc Tryd.prog w base spare held n 3 ((cs.drop 1).take (Tryd.prog.cellsOf 3)) = xs[1]? := hg 1 _ rfl
  have h2 : DataW.trod enc Tryd.prog w base spare held n 3 ((cs.drop 2).take (Tryd.prog.cellsOf 3)) = xs[2]? := hg 2 _ rfl
  have h3 : DataW.trod enc Tryd.prog w base spare held n 9 ((cs.drop 3).take (Tryd.prog.cellsOf 9)) = xs[3]? := hg 3 _ rfl
  have h4 : DataW.trod enc Tryd.prog w base spare held n 28 ((cs.drop 4).take (Tryd.prog.cellsOf 28)) = xs[4]? := hg 4 _ rfl
  have h5 : DataW.trod enc Tryd.prog w base spare held n 28 ((cs.drop 36).take (Tryd.prog.cellsOf 28)) = xs[5]? := hg 5 _ rfl
  rw [cellsI] at h0 h1 h2
  rw [cellsS] at h3
  rw [cellsH] at h4 h5
  match xs, hlen with
  | [y0, y1, y2, y3, y4, y5], _ =>
    obtain ⟨n0, e0, f0, w0⟩ := DataW.trod_int Tryd.underlying3 h0
    obtain ⟨n1, e1, f1, w1⟩ := DataW.trod_int Tryd.underlying3 h1
    obtain ⟨n2, e2, f2, w2⟩ := DataW.trod_int Tryd.underlying3 h2
    obtain ⟨s, e3, f3, _⟩ := DataW.trod_string Tryd.underlying9 h3
    obtain ⟨R, hR, e4, _⟩ := hash_cells h4
    obtain ⟨Q, hQ, e5, _⟩ := hash_cells h5
    have hde : x.1 = .agg [y0.1, y1.1, y2.1, y3.1, y4.1, y5.1] := by rw [hx]; rfl
    have hss : s.size ≤ 140737488351232 := by
      have h6 := hwt s.data.toList.length (by
        rw [hde, f3]
        unfold DataW.weights
        rw [Tryd.underlying30]
        exact DataW.weights_mem_each (j := 3) (t := 9) (d := .lit (.string s.data.toList)) rfl rfl _ (by simp [DataW.weights]))
      have h7 : reachBytes = 140737488351232 := by decide
      have h8 : s.data.toList.length = s.size := rfl
      omega
    exact ⟨⟨n0, n1, n2, s, R, Q⟩, ⟨hR, hQ, hss, bounds_i64 w0, bounds_i64 w1, bounds_i64 w2⟩, six_cells cs hcs e0 e1 e2 e3 e4 e5⟩
theorem weights_one {H : Type} {P : Program} {e : TypeId} : ∀ {l : List (DataW H)} {d : DataW H}, d ∈ l → ∀ n ∈ d.weights P e, n ∈ DataW.weightsAll P e l
  | x :: l, d, hd, n, hn => by
    unfold DataW.weightsAll
    rcases List.mem_cons.1 hd with rfl | h
    · exact List.mem_append_left _ hn
    · exact List.mem_append_right _ (weights_one h n hn)
end
section
variable {H : Type} {enc : TypeId × Value → H} {W : World} {r : Reach} {b0 : Nat} {v : Value} {d : DataW H} {ps : List MemPlace} {ts : List TypeId} {ds : List (DataW H)} {j : Nat}
end
end Go.Proofs.YtgdijbcoacgadaaDoor

/- ---- OpenTexts ---- -/
/- An argument that is a slice of strings, opened: it reads as a list of texts. -/
namespace Go.Proofs.YtgdijbcoacgadaaDoor
open Go.ChangeShapes Go.WideShapes Go.ChangeAt Go.RowKit
set_option linter.unusedVariables false
set_option linter.unusedSimpArgs false
set_option maxRecDepth 100000

theorem add_at (b off i : Nat) : (⟨b, off, none⟩ : Addr).add i = ⟨b, off + i, none⟩ := by unfold Addr.add; split <;> simp_all
theorem add_zero_ (a : Addr) : a.add 0 = a := by simp [Addr.add]
theorem open_texts {H : Type} {enc : TypeId × Value → H} {W : World} {r : Reach} {b0 : Nat} {v : Value} {d : DataW H} {ps : List MemPlace}
    (hv : Value.okWide Tryd.prog W r b0 72 v) (h : DataW.Trod enc Tryd.prog W 0 (fun _ => true) true 72 v d ps) (hlt : ∀ p ∈ ps, p.block < W.heap.size) :
    ∃ L : List (List UInt8), TextsV W v L ∧ ((d = .nil ∧ L = []) ∨ ∃ spare, d = .slice (L.map fun l => .lit (.string l)) spare) := by
  obtain ⟨A, n, cap, rfl⟩ := okWide_slice Tryd.underlying72 hv
  obtain ⟨fuel, hf⟩ := h
  rcases open_strings Tryd.underlying72 Tryd.underlying9 (by kernel_rfl) hf with ⟨hcs, hx⟩ | ⟨a, len, cap', ss, hcs, _, hl, hm, hz, hx, hcell, _⟩
  · have hcs' : Value.slice A n cap = .slice none 0 0 := by simpa [Value.cells] using hcs
    rw [hcs']
    exact ⟨[], ⟨none, 0, rfl, fun h => absurd rfl h⟩, .inl ⟨(Prod.mk.inj hx).1, rfl⟩⟩
  · have hcs' : Value.slice A n cap = .slice (some a) len cap' := by simpa [Value.cells] using hcs
    rw [hcs']
    rw [if_pos rfl] at hz
    have hlen : ((ss.take len).map fun s => s.data.toList).length = len := by rw [List.length_map, List.length_take]; omega
    refine ⟨(ss.take len).map fun s => s.data.toList, ⟨some a, cap', by rw [hlen], fun hne => ?_⟩, .inr ⟨_, (Prod.mk.inj hx).1.trans (by congr 1; rw [List.map_map]; rfl)⟩⟩
    have hpos : 0 < len := by
      rcases Nat.eq_zero_or_pos len with h0 | h0
      · subst h0; simp at hne
      · exact h0
    have hc0 := hcell 0 (by omega)
    rw [add_zero_] at hc0
    have hsp := World.cell?_spot hc0
    obtain ⟨b, off, sp⟩ := a
    subst hsp
    have hps := (Prod.mk.inj hx).2
    refine ⟨b, off, rfl, ?_, fun i hi => ?_⟩
    · have := hlt (.cell b (off + 0)) (by rw [hps]; unfold MemPlace.row; exact List.mem_map.2 ⟨0, List.mem_range.2 (by omega), rfl⟩)
      exact this
    · rw [hlen] at hi
      have := hcell i (by omega)
      rw [add_at] at this
      rw [this]
      simp [List.getD, hi, show i < ss.length by omega]
end Go.Proofs.YtgdijbcoacgadaaDoor
