/- What later texts need of the earlier layers. -/
import Derived.Test.YtlapmdgkcidhnaaDoorSlO
import Derived.Test.YtlapmdgkcidhnaaDoorSlS
import Derived.Test.YtlapmdgkcidhnaaDoorSlT
import Derived.Test.YtlapmdgkcidhnaaDoorSlC
import Derived.Test.YtlapmdgkcidhnaaDoorSlA
import Derived.Test.YtlapmdgkcidhnaaDoorSlB
import Derived.Test.YtlapmdgkcidhnaaDoorRows
import Derived.WalkKit
import Derived.ProofKit
import Derived.OpenShut
import Derived.Below
import Derived.Carry
import Derived.ReadAgain
import Derived.ChangeSame
import Derived.JoinedCond
import Derived.SizedLaws
import Derived.Deep.MidRow
import Derived.ChangeArms
import Derived.Deep.Slices
import Derived.Lib.SmallJoins
import Derived.SliceStrings
set_option maxRecDepth 100000
/- ---- LawEnd ---- -/
/- The last step of a law's proof: where nothing that was there has changed, and the law answered true, its statement's post stands. -/
namespace Go.Proofs.YtlapmdgkcidhnaaDoor
open Go.ChangeShapes Go.WideShapes Go.ChangeAt Go.RowKit
set_option linter.unusedVariables false
set_option linter.unusedSimpArgs false

theorem Tryd.own : ownKnob Tryd.prog.godebug = none := by kernel_rfl
theorem Tryd.kids : Kids Tryd.prog (· < Tryd.prog.types.size) := kids_rows (by kernel_rfl) (by kernel_rfl)
theorem Tryd.full : ∀ t e, t < Tryd.prog.types.size → Tryd.prog.underlying t = some (.slice e) → 0 < Tryd.prog.cellsOf e := slices_full_of Tryd.prog (by kernel_rfl)
section
variable {H : Type} {enc : TypeId × Value → H} {P : Program}

theorem all_carry {w w' : World} {base : Nat} {sp : Nat → Bool} {held : Bool} : ∀ {ts : List TypeId} {vs : List Value} {ds : List (DataW H)} {ps : List MemPlace},
    DataW.TrodAll enc P w base sp held ts vs ds ps → (∀ p ∈ ps, w.sameAt w' p) → DataW.TrodAll enc P w' base sp held ts vs ds ps
  | [], [], [], _, h, _ => h
  | _ :: _, _ :: _, _ :: _, _, ⟨p, q, ⟨n, h1⟩, h2, e⟩, hs =>
    ⟨p, q, ⟨n, DataW.trod_carry n _ _ _ h1 (fun x hx => hs x (by rw [e]; exact List.mem_append_left _ hx))⟩, all_carry h2 (fun x hx => hs x (by rw [e]; exact List.mem_append_right _ hx)), e⟩
/-- 'post_of_same' with what is below the old heap's end unchanged, in place of all marks unchanged -/
theorem post_if_below {f : Func} {s : ChangeSpec} {apart fresh handsOn again : Bool} {W W' : World} {args : Array Value} {v : Value} {ds gs : List (DataW H)} {before pa pv : List MemPlace}
    (hW : DataW.Whole enc P f.params.toList s.vars apart W args.toList ds gs before)
    (hres : ∀ (b : Nat) (sp : Nat → Bool) (hd : Bool), DataW.TrodAll enc P W' b sp hd f.resultTypes.toList (v.resultList f.resultTypes.size) (s.fn H (ds ++ gs)).results [])
    (hargs : ∀ sp : Nat → Bool, (∀ p ∈ before, sp p.block = true) → DataW.TrodAll enc P W' 0 sp true f.params.toList args.toList (s.fn H (ds ++ gs)).args pa)
    (hvars : ∀ sp : Nat → Bool, (∀ p ∈ before, sp p.block = true) → DataW.TrodVars enc P W' sp s.vars (s.fn H (ds ++ gs)).vars pv)
    (hps : before = pa ++ pv) (hb : Below W.heap.size W W')
    (hok : ∀ (j : Nat) (t : TypeId) (r : Value), f.resultTypes[j]? = some t → (v.resultList f.resultTypes.size)[j]? = some r → Value.okWide P W' .any 0 t r) :
    s.post enc P f apart fresh handsOn again W args v W' := by
  subst hps
  have hlt := hW.lt
  have hold : ∀ p ∈ pa ++ pv, (fun b => decide (b < W.heap.size)) p.block = true := fun p hp => by simpa using hlt p hp
  have hW2 := hW
  obtain ⟨_, _, _, _, _, hz, hn⟩ := hW2
  refine ⟨ds, gs, pa ++ pv, [], pa, pv, hW, hres _ _ _, hargs _ hold, hvars _ hold, World.keptBut_mono (fun p hp => ⟨hp, List.mem_append.1 hp |> fun h => .inr h⟩) (hb.frame (· ∈ pa ++ pv)), fun _ => ⟨hok, _, _, ([] ++ pa) ++ pv, ⟨[] ++ pa, pv, trodAll_append (hargs _ (fun _ _ => rfl)) (hres _ _ _), hvars _ (fun _ _ => rfl), rfl, ?_, ?_⟩, ?_⟩⟩
  · intro b off hp
    have hin : MemPlace.cell b off ∈ pa ++ pv := by simpa using hp
    rw [hb.frozen (hlt _ hin)]
    exact hz b off hin
  · intro ha
    simpa using hn ha
  · intro p hp _
    simpa using hp
end

set_option maxRecDepth 100000 in
/-- a law that answered true and changed nothing that was there -/
theorem law_post {H : Type} {enc : TypeId × Value → H} {f : Func} {s : ChangeSpec} {W W' : World} {args : Array Value} {ds gs : List (DataW H)} {before : List MemPlace}
    (hv : s.vars = []) (hr : f.resultTypes = #[4]) (hp : ∀ t ∈ f.params.toList, t < Tryd.prog.types.size)
    (hW : DataW.Whole enc Tryd.prog f.params.toList s.vars false W args.toList ds gs before) (hb : Below W.heap.size W W')
    (hs : s.fn H (ds ++ gs) = { results := [.lit (.bool true)], args := ds }) :
    s.post enc Tryd.prog f false true false false W args (.bool true) W' := by
  have hW' := hW
  obtain ⟨p, q, hA, hV, rfl, hfz, hnd⟩ := hW
  rw [hv] at hV
  obtain ⟨rfl, rfl⟩ := trodVars_none hV
  have hlt := hW'.lt
  refine post_if_below (pa := p) (pv := []) hW' (fun _ _ _ => ?_) (fun sp hsp => ?_) (fun _ _ => ?_) rfl hb (ok_one hr rfl (okWide_bool_mk Tryd.underlying4 _))
  · rw [hs, hr]; exact trodAll_cons_mk (shut_bool Tryd.underlying4 _) trodAll_mk0
  · rw [hs]
    exact all_carry (DataW.TrodAll.respare Tryd.kids Tryd.full hp hA (fun x hx => hsp x (by simpa using hx))) (fun x hx => hb.same (hlt x (by simpa using hx)))
  · rw [hs, hv]; rfl
end Go.Proofs.YtlapmdgkcidhnaaDoor

/- ---- TxOpen ---- -/
/- A law's argument that is a transaction, opened. -/
namespace Go.Proofs.YtlapmdgkcidhnaaDoor
open Go.ChangeShapes Go.WideShapes Go.ChangeAt Go.RowKit
set_option linter.unusedVariables false
set_option linter.unusedSimpArgs false
set_option maxRecDepth 100000

section
variable {H : Type} {enc : TypeId × Value → H} {w : World} {base : Nat} {spare : Nat → Bool} {held : Bool} {fuel : Nat}
/-- the cells of a hash are 32 bytes -/
theorem hash_cells {cs : List Value} {x : DataW H × List MemPlace} (h : DataW.trod enc Tryd.prog w base spare held fuel 28 cs = some x) :
    ∃ R : List UInt8, R.length = 32 ∧ cs = (bRow R).toList ∧ x.2 = [] := by
  obtain ⟨xs, m, _, hx, hlen, hxl, hi⟩ := DataW.trod_array Tryd.underlying28 h
  have hc : Tryd.prog.cellsOf 28 = 32 := by kernel_rfl
  have hc5 : Tryd.prog.cellsOf 5 = 1 := by kernel_rfl
  rw [hc] at hlen
  have hb : ∀ i, i < 32 → ∃ b : UInt8, cs[i]? = some (.int .u8 (b.toNat : Int)) ∧ ∃ y, xs[i]? = some y ∧ y.2 = [] := by
    intro i hi32
    have h1 := hi i hi32
    rw [hc5, Nat.mul_one, List.drop_eq_getElem_cons (by omega)] at h1
    have hxi : xs[i]? = some (xs[i]'(by omega)) := List.getElem?_eq_getElem (by omega)
    rw [hxi] at h1
    obtain ⟨n, hn, hy, hw⟩ := DataW.trod_int Tryd.underlying5 h1
    have hcs : cs[i]'(by omega) = .int .u8 n := by
      rw [List.take_succ_cons, List.take_zero] at hn
      injection hn
    have hb8 := bounds_u8 hw
    refine ⟨UInt8.ofNat n.toNat, ?_, _, hxi, by rw [hy]⟩
    rw [List.getElem?_eq_getElem (by omega), hcs]
    congr 2
    rw [UInt8.toNat_ofNat']
    omega
  refine ⟨(List.range 32).map fun i => match cs[i]? with | some (Value.int IntKind.u8 n) => UInt8.ofNat n.toNat | _ => 0, by simp, ?_, ?_⟩
  · rw [bRow_yRow _ (by simp)]
    unfold yRow
    apply List.ext_getElem?
    intro i
    by_cases hi32 : i < 32
    · obtain ⟨b, hcb, _⟩ := hb i hi32
      rw [hcb]
      simp [hi32, hcb]
    · rw [List.getElem?_eq_none (by omega)]
      simp [hi32]
  · rw [hx]
    simp only [List.flatMap_eq_nil_iff]
    intro y hy
    obtain ⟨i, hi1, rfl⟩ := List.mem_iff_getElem.1 hy
    obtain ⟨_, _, y, h1, h2⟩ := hb i (by omega)
    rw [List.getElem?_eq_getElem hi1] at h1
    injection h1 with h1
    rw [h1]; exact h2
end
end Go.Proofs.YtlapmdgkcidhnaaDoor

/- ---- NoOpen ---- -/
/- A law's argument that is a bid, a receipt, an item or a batch, opened. -/
namespace Go.Proofs.YtlapmdgkcidhnaaDoor
open Go.ChangeShapes Go.WideShapes Go.ChangeAt Go.RowKit Go.Joins Go.Deep
set_option linter.unusedVariables false
set_option linter.unusedSimpArgs false
set_option maxRecDepth 100000

theorem five_cells {a0 a1 a2 a3 : Value} {s : List Value} : ∀ (l : List Value), l.length = 36 → (l.drop 0).take 1 = [a0] → (l.drop 1).take 1 = [a1] → (l.drop 2).take 1 = [a2] → (l.drop 3).take 1 = [a3] →
    (l.drop 4).take 32 = s → l = [a0, a1, a2, a3] ++ s
  | x0 :: x1 :: x2 :: x3 :: r, hl, h0, h1, h2, h3, h4 => by
    have hr : r.length = 32 := by simpa using hl
    simp at h0 h1 h2 h3 h4
    rw [List.take_of_length_le (by omega)] at h4
    rw [h0, h1, h2, h3, h4]; rfl
  | [], hl, _, _, _, _, _ => by simp at hl
  | [_], hl, _, _, _, _, _ => by simp at hl
  | [_, _], hl, _, _, _, _, _ => by simp at hl
  | [_, _, _], hl, _, _, _, _, _ => by simp at hl
section
variable {H : Type} {enc : TypeId × Value → H} {w : World} {base : Nat} {spare : Nat → Bool} {held : Bool} {fuel : Nat}
theorem cellsI : Tryd.prog.cellsOf 3 = 1 := by kernel_rfl
theorem cellsH : Tryd.prog.cellsOf 28 = 32 := by kernel_rfl
theorem bid_cells {cs : List Value} {x : DataW H × List MemPlace} (hcs : cs.length = 36) (h : DataW.trod enc Tryd.prog w base spare held fuel 30 cs = some x) :
    ∃ b : Bd, b.Fits ∧ cs = b.cells := by
  obtain ⟨xs, n, _, hx, _, hlen, hg⟩ := DataW.trod_struct Tryd.underlying30 h
  have h0 : DataW.trod enc Tryd.prog w base spare held n 3 ((cs.drop 0).take (Tryd.prog.cellsOf 3)) = xs[0]? := hg 0 _ rfl
  have h1 : DataW.trod enc Tryd.prog w base spare held n 3 ((cs.drop 1).take (Tryd.prog.cellsOf 3)) = xs[1]? := hg 1 _ rfl
  have h2 : DataW.trod enc Tryd.prog w base spare held n 3 ((cs.drop 2).take (Tryd.prog.cellsOf 3)) = xs[2]? := hg 2 _ rfl
  have h3 : DataW.trod enc Tryd.prog w base spare held n 3 ((cs.drop 3).take (Tryd.prog.cellsOf 3)) = xs[3]? := hg 3 _ rfl
  have h4 : DataW.trod enc Tryd.prog w base spare held n 28 ((cs.drop 4).take (Tryd.prog.cellsOf 28)) = xs[4]? := hg 4 _ rfl
  rw [cellsI] at h0 h1 h2 h3
  rw [cellsH] at h4
  match xs, hlen with
  | [y0, y1, y2, y3, y4], _ =>
    obtain ⟨n0, e0, f0, w0⟩ := DataW.trod_int Tryd.underlying3 h0
    obtain ⟨n1, e1, f1, w1⟩ := DataW.trod_int Tryd.underlying3 h1
    obtain ⟨n2, e2, f2, w2⟩ := DataW.trod_int Tryd.underlying3 h2
    obtain ⟨n3, e3, f3, w3⟩ := DataW.trod_int Tryd.underlying3 h3
    obtain ⟨R, hR, e4, _⟩ := hash_cells h4
    exact ⟨⟨n0, n1, n2, n3, R⟩, ⟨hR, bounds_i64 w0, bounds_i64 w1, bounds_i64 w2, bounds_i64 w3⟩, five_cells cs hcs e0 e1 e2 e3 e4⟩
theorem weights_one {H : Type} {P : Program} {e : TypeId} : ∀ {l : List (DataW H)} {d : DataW H}, d ∈ l → ∀ n ∈ d.weights P e, n ∈ DataW.weightsAll P e l
  | x :: l, d, hd, n, hn => by
    unfold DataW.weightsAll
    rcases List.mem_cons.1 hd with rfl | h
    · exact List.mem_append_left _ hn
    · exact List.mem_append_right _ (weights_one h n hn)
end
section
variable {H : Type} {enc : TypeId × Value → H} {W : World} {r : Reach} {b0 : Nat} {v : Value} {d : DataW H} {ps : List MemPlace} {ts : List TypeId} {ds : List (DataW H)} {j : Nat}
/-- a bid by value -/
theorem open_bid (hv : Value.okWide Tryd.prog W r b0 30 v) (h : DataW.Trod enc Tryd.prog W 0 (fun _ => true) true 30 v d ps) :
    ∃ b : Bd, b.Fits ∧ v = b.v := by
  obtain ⟨cs, rfl, hcz⟩ := okWide_struct Tryd.underlying30 hv
  obtain ⟨fuel, hf⟩ := h
  have hc : Tryd.prog.cellsOf 30 = 36 := by kernel_rfl
  obtain ⟨b, h1, h2⟩ := bid_cells (cs := cs.toList) (by rw [Array.length_toList, hcz, hc]) hf
  exact ⟨b, h1, by show Value.agg cs = .agg _; rw [← h2]⟩
end
end Go.Proofs.YtlapmdgkcidhnaaDoor

/- ---- OpenTexts ---- -/
/- An argument that is a slice of strings, opened: it reads as a list of texts. -/
namespace Go.Proofs.YtlapmdgkcidhnaaDoor
open Go.ChangeShapes Go.WideShapes Go.ChangeAt Go.RowKit
set_option linter.unusedVariables false
set_option linter.unusedSimpArgs false
set_option maxRecDepth 100000

theorem add_at (b off i : Nat) : (⟨b, off, none⟩ : Addr).add i = ⟨b, off + i, none⟩ := by unfold Addr.add; split <;> simp_all
theorem add_zero_ (a : Addr) : a.add 0 = a := by simp [Addr.add]
theorem open_texts {H : Type} {enc : TypeId × Value → H} {W : World} {r : Reach} {b0 : Nat} {v : Value} {d : DataW H} {ps : List MemPlace}
    (hv : Value.okWide Tryd.prog W r b0 133 v) (h : DataW.Trod enc Tryd.prog W 0 (fun _ => true) true 133 v d ps) (hlt : ∀ p ∈ ps, p.block < W.heap.size) :
    ∃ L : List (List UInt8), TextsV W v L ∧ ((d = .nil ∧ L = []) ∨ ∃ spare, d = .slice (L.map fun l => .lit (.string l)) spare) := by
  obtain ⟨A, n, cap, rfl⟩ := okWide_slice Tryd.underlying133 hv
  obtain ⟨fuel, hf⟩ := h
  rcases open_strings Tryd.underlying133 Tryd.underlying9 (by kernel_rfl) hf with ⟨hcs, hx⟩ | ⟨a, len, cap', ss, hcs, _, hl, hm, hz, hx, hcell, _⟩
  · have hcs' : Value.slice A n cap = .slice none 0 0 := by simpa [Value.cells] using hcs
    rw [hcs']
    exact ⟨[], ⟨none, 0, rfl, fun h => absurd rfl h⟩, .inl ⟨(Prod.mk.inj hx).1, rfl⟩⟩
  · have hcs' : Value.slice A n cap = .slice (some a) len cap' := by simpa [Value.cells] using hcs
    rw [hcs']
    rw [if_pos rfl] at hz
    have hlen : ((ss.take len).map fun s => s.data.toList).length = len := by rw [List.length_map, List.length_take]; omega
    refine ⟨(ss.take len).map fun s => s.data.toList, ⟨some a, cap', by rw [hlen], fun hne => ?_⟩, .inr ⟨_, (Prod.mk.inj hx).1.trans (by congr 1; rw [List.map_map]; rfl)⟩⟩
    have hpos : 0 < len := by
      rcases Nat.eq_zero_or_pos len with h0 | h0
      · subst h0; simp at hne
      · exact h0
    have hc0 := hcell 0 (by omega)
    rw [add_zero_] at hc0
    have hsp := World.cell?_spot hc0
    obtain ⟨b, off, sp⟩ := a
    subst hsp
    have hps := (Prod.mk.inj hx).2
    refine ⟨b, off, rfl, ?_, fun i hi => ?_⟩
    · have := hlt (.cell b (off + 0)) (by rw [hps]; unfold MemPlace.row; exact List.mem_map.2 ⟨0, List.mem_range.2 (by omega), rfl⟩)
      exact this
    · rw [hlen] at hi
      have := hcell i (by omega)
      rw [add_at] at this
      rw [this]
      simp [List.getD, hi, show i < ss.length by omega]
end Go.Proofs.YtlapmdgkcidhnaaDoor
