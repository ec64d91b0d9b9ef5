/- What later texts need of the earlier layers. -/
import Derived.Test.YtinciddchpccnaaDoorBxO
import Derived.Test.YtinciddchpccnaaDoorBxS
import Derived.Test.YtinciddchpccnaaDoorBxT
import Derived.Test.YtinciddchpccnaaDoorBxC
import Derived.Test.YtinciddchpccnaaDoorBxA
import Derived.Test.YtinciddchpccnaaDoorBxB
import Derived.Test.YtinciddchpccnaaDoorBxE
import Derived.Test.YtinciddchpccnaaDoorRows
import Derived.WalkKit
import Derived.ProofKit
import Derived.OpenShut
import Derived.Below
import Derived.Carry
import Derived.ReadAgain
import Derived.ChangeSame
import Derived.JoinedCond
import Derived.SizedLaws
import Derived.Deep.MidRow
import Derived.ChangeArms
import Derived.Deep.Slices
import Derived.Lib.SmallJoins
import Derived.SliceStrings
set_option maxRecDepth 100000
/- ---- LawEnd ---- -/
/- The last step of a law's proof: where nothing that was there has changed, and the law answered true, its statement's post stands. -/
namespace Go.Proofs.YtinciddchpccnaaDoor
open Go.ChangeShapes Go.WideShapes Go.ChangeAt Go.RowKit
set_option linter.unusedVariables false
set_option linter.unusedSimpArgs false

theorem Tryd.own : ownKnob Tryd.prog.godebug = none := by kernel_rfl
theorem Tryd.kids : Kids Tryd.prog (· < Tryd.prog.types.size) := kids_rows (by kernel_rfl) (by kernel_rfl)
theorem Tryd.full : ∀ t e, t < Tryd.prog.types.size → Tryd.prog.underlying t = some (.slice e) → 0 < Tryd.prog.cellsOf e := slices_full_of Tryd.prog (by kernel_rfl)
section
variable {H : Type} {enc : TypeId × Value → H} {P : Program}

theorem all_carry {w w' : World} {base : Nat} {sp : Nat → Bool} {held : Bool} : ∀ {ts : List TypeId} {vs : List Value} {ds : List (DataW H)} {ps : List MemPlace},
    DataW.TrodAll enc P w base sp held ts vs ds ps → (∀ p ∈ ps, w.sameAt w' p) → DataW.TrodAll enc P w' base sp held ts vs ds ps
  | [], [], [], _, h, _ => h
  | _ :: _, _ :: _, _ :: _, _, ⟨p, q, ⟨n, h1⟩, h2, e⟩, hs =>
    ⟨p, q, ⟨n, DataW.trod_carry n _ _ _ h1 (fun x hx => hs x (by rw [e]; exact List.mem_append_left _ hx))⟩, all_carry h2 (fun x hx => hs x (by rw [e]; exact List.mem_append_right _ hx)), e⟩
/-- 'post_of_same' with what is below the old heap's end unchanged, in place of all marks unchanged -/
theorem post_if_below {f : Func} {s : ChangeSpec} {apart fresh handsOn again : Bool} {W W' : World} {args : Array Value} {v : Value} {ds gs : List (DataW H)} {before pa pv : List MemPlace}
    (hW : DataW.Whole enc P f.params.toList s.vars apart W args.toList ds gs before)
    (hres : ∀ (b : Nat) (sp : Nat → Bool) (hd : Bool), DataW.TrodAll enc P W' b sp hd f.resultTypes.toList (v.resultList f.resultTypes.size) (s.fn H (ds ++ gs)).results [])
    (hargs : ∀ sp : Nat → Bool, (∀ p ∈ before, sp p.block = true) → DataW.TrodAll enc P W' 0 sp true f.params.toList args.toList (s.fn H (ds ++ gs)).args pa)
    (hvars : ∀ sp : Nat → Bool, (∀ p ∈ before, sp p.block = true) → DataW.TrodVars enc P W' sp s.vars (s.fn H (ds ++ gs)).vars pv)
    (hps : before = pa ++ pv) (hb : Below W.heap.size W W')
    (hok : ∀ (j : Nat) (t : TypeId) (r : Value), f.resultTypes[j]? = some t → (v.resultList f.resultTypes.size)[j]? = some r → Value.okWide P W' .any 0 t r) :
    s.post enc P f apart fresh handsOn again W args v W' := by
  subst hps
  have hlt := hW.lt
  have hold : ∀ p ∈ pa ++ pv, (fun b => decide (b < W.heap.size)) p.block = true := fun p hp => by simpa using hlt p hp
  have hW2 := hW
  obtain ⟨_, _, _, _, _, hz, hn⟩ := hW2
  refine ⟨ds, gs, pa ++ pv, [], pa, pv, hW, hres _ _ _, hargs _ hold, hvars _ hold, World.keptBut_mono (fun p hp => ⟨hp, List.mem_append.1 hp |> fun h => .inr h⟩) (hb.frame (· ∈ pa ++ pv)), fun _ => ⟨hok, _, _, ([] ++ pa) ++ pv, ⟨[] ++ pa, pv, trodAll_append (hargs _ (fun _ _ => rfl)) (hres _ _ _), hvars _ (fun _ _ => rfl), rfl, ?_, ?_⟩, ?_⟩⟩
  · intro b off hp
    have hin : MemPlace.cell b off ∈ pa ++ pv := by simpa using hp
    rw [hb.frozen (hlt _ hin)]
    exact hz b off hin
  · intro ha
    simpa using hn ha
  · intro p hp _
    simpa using hp
end

set_option maxRecDepth 100000 in
/-- a law that answered true and changed nothing that was there -/
theorem law_post {H : Type} {enc : TypeId × Value → H} {f : Func} {s : ChangeSpec} {W W' : World} {args : Array Value} {ds gs : List (DataW H)} {before : List MemPlace}
    (hv : s.vars = []) (hr : f.resultTypes = #[4]) (hp : ∀ t ∈ f.params.toList, t < Tryd.prog.types.size)
    (hW : DataW.Whole enc Tryd.prog f.params.toList s.vars false W args.toList ds gs before) (hb : Below W.heap.size W W')
    (hs : s.fn H (ds ++ gs) = { results := [.lit (.bool true)], args := ds }) :
    s.post enc Tryd.prog f false true false false W args (.bool true) W' := by
  have hW' := hW
  obtain ⟨p, q, hA, hV, rfl, hfz, hnd⟩ := hW
  rw [hv] at hV
  obtain ⟨rfl, rfl⟩ := trodVars_none hV
  have hlt := hW'.lt
  refine post_if_below (pa := p) (pv := []) hW' (fun _ _ _ => ?_) (fun sp hsp => ?_) (fun _ _ => ?_) rfl hb (ok_one hr rfl (okWide_bool_mk Tryd.underlying4 _))
  · rw [hs, hr]; exact trodAll_cons_mk (shut_bool Tryd.underlying4 _) trodAll_mk0
  · rw [hs]
    exact all_carry (DataW.TrodAll.respare Tryd.kids Tryd.full hp hA (fun x hx => hsp x (by simpa using hx))) (fun x hx => hb.same (hlt x (by simpa using hx)))
  · rw [hs, hv]; rfl
end Go.Proofs.YtinciddchpccnaaDoor

/- ---- TxOpen ---- -/
/- A law's argument that is a transaction, opened. -/
namespace Go.Proofs.YtinciddchpccnaaDoor
open Go.ChangeShapes Go.WideShapes Go.ChangeAt Go.RowKit
set_option linter.unusedVariables false
set_option linter.unusedSimpArgs false
set_option maxRecDepth 100000

section
variable {H : Type} {enc : TypeId × Value → H} {w : World} {base : Nat} {spare : Nat → Bool} {held : Bool} {fuel : Nat}
/-- the cells of a hash are 32 bytes -/
theorem hash_cells {cs : List Value} {x : DataW H × List MemPlace} (h : DataW.trod enc Tryd.prog w base spare held fuel 51 cs = some x) :
    ∃ R : List UInt8, R.length = 32 ∧ cs = (bRow R).toList ∧ x.2 = [] := by
  obtain ⟨xs, m, _, hx, hlen, hxl, hi⟩ := DataW.trod_array Tryd.underlying51 h
  have hc : Tryd.prog.cellsOf 51 = 32 := by kernel_rfl
  have hc5 : Tryd.prog.cellsOf 5 = 1 := by kernel_rfl
  rw [hc] at hlen
  have hb : ∀ i, i < 32 → ∃ b : UInt8, cs[i]? = some (.int .u8 (b.toNat : Int)) ∧ ∃ y, xs[i]? = some y ∧ y.2 = [] := by
    intro i hi32
    have h1 := hi i hi32
    rw [hc5, Nat.mul_one, List.drop_eq_getElem_cons (by omega)] at h1
    have hxi : xs[i]? = some (xs[i]'(by omega)) := List.getElem?_eq_getElem (by omega)
    rw [hxi] at h1
    obtain ⟨n, hn, hy, hw⟩ := DataW.trod_int Tryd.underlying5 h1
    have hcs : cs[i]'(by omega) = .int .u8 n := by
      rw [List.take_succ_cons, List.take_zero] at hn
      injection hn
    have hb8 := bounds_u8 hw
    refine ⟨UInt8.ofNat n.toNat, ?_, _, hxi, by rw [hy]⟩
    rw [List.getElem?_eq_getElem (by omega), hcs]
    congr 2
    rw [UInt8.toNat_ofNat']
    omega
  refine ⟨(List.range 32).map fun i => match cs[i]? with | some (Value.int IntKind.u8 n) => UInt8.ofNat n.toNat | _ => 0, by simp, ?_, ?_⟩
  · rw [bRow_yRow _ (by simp)]
    unfold yRow
    apply List.ext_getElem?
    intro i
    by_cases hi32 : i < 32
    · obtain ⟨b, hcb, _⟩ := hb i hi32
      rw [hcb]
      simp [hi32, hcb]
    · rw [List.getElem?_eq_none (by omega)]
      simp [hi32]
  · rw [hx]
    simp only [List.flatMap_eq_nil_iff]
    intro y hy
    obtain ⟨i, hi1, rfl⟩ := List.mem_iff_getElem.1 hy
    obtain ⟨_, _, y, h1, h2⟩ := hb i (by omega)
    rw [List.getElem?_eq_getElem hi1] at h1
    injection h1 with h1
    rw [h1]; exact h2
end
end Go.Proofs.YtinciddchpccnaaDoor

/- ---- NoOpen ---- -/
/- A law's argument that is a bid, a receipt, an item or a batch, opened. -/
namespace Go.Proofs.YtinciddchpccnaaDoor
open Go.ChangeShapes Go.WideShapes Go.ChangeAt Go.RowKit Go.Joins Go.Deep
set_option linter.unusedVariables false
set_option linter.unusedSimpArgs false
set_option maxRecDepth 100000

theorem four_cells {a b c e : Value} : ∀ (l : List Value), l.length = 4 → (l.drop 0).take 1 = [a] → (l.drop 1).take 1 = [b] → (l.drop 2).take 1 = [c] → (l.drop 3).take 1 = [e] → l = [a, b, c, e]
  | [x, y, z, u], _, h0, h1, h2, h3 => by
    simp at h0 h1 h2 h3
    rw [h0, h1, h2, h3]
  | [], hl, _, _, _, _ => by simp at hl
  | [_], hl, _, _, _, _ => by simp at hl
  | [_, _], hl, _, _, _, _ => by simp at hl
  | [_, _, _], hl, _, _, _, _ => by simp at hl
  | _ :: _ :: _ :: _ :: _ :: _, hl, _, _, _, _ => by simp at hl
theorem two_cells {a b : Value} : ∀ (l : List Value), l.length = 2 → (l.drop 0).take 1 = [a] → (l.drop 1).take 1 = [b] → l = [a, b]
  | [x, y], _, h0, h1 => by
    simp at h0 h1
    rw [h0, h1]
  | [], hl, _, _ => by simp at hl
  | [_], hl, _, _ => by simp at hl
  | _ :: _ :: _ :: _, hl, _, _ => by simp at hl
section
variable {H : Type} {enc : TypeId × Value → H} {w : World} {base : Nat} {spare : Nat → Bool} {held : Bool} {fuel : Nat}
theorem cellsI : Tryd.prog.cellsOf 3 = 1 := by kernel_rfl
theorem cellsS : Tryd.prog.cellsOf 9 = 1 := by kernel_rfl
theorem cellsB : Tryd.prog.cellsOf 4 = 1 := by kernel_rfl
theorem item_cells {cs : List Value} {x : DataW H × List MemPlace} (hcs : cs.length = 4) (h : DataW.trod enc Tryd.prog w base spare held fuel 59 cs = some x) :
    ∃ i : It, cs = [.int .i64 i.kind, .int .i64 i.who, .int .i64 i.n, .string i.text] := by
  obtain ⟨xs, n, _, hx, _, hlen, hg⟩ := DataW.trod_struct Tryd.underlying59 h
  have h0 : DataW.trod enc Tryd.prog w base spare held n 3 ((cs.drop 0).take (Tryd.prog.cellsOf 3)) = xs[0]? := hg 0 _ rfl
  have h1 : DataW.trod enc Tryd.prog w base spare held n 3 ((cs.drop 1).take (Tryd.prog.cellsOf 3)) = xs[1]? := hg 1 _ rfl
  have h2 : DataW.trod enc Tryd.prog w base spare held n 3 ((cs.drop 2).take (Tryd.prog.cellsOf 3)) = xs[2]? := hg 2 _ rfl
  have h3 : DataW.trod enc Tryd.prog w base spare held n 9 ((cs.drop 3).take (Tryd.prog.cellsOf 9)) = xs[3]? := hg 3 _ rfl
  rw [cellsI] at h0 h1 h2
  rw [cellsS] at h3
  match xs, hlen with
  | [y0, y1, y2, y3], _ =>
    obtain ⟨n0, e0, f0, w0⟩ := DataW.trod_int Tryd.underlying3 h0
    obtain ⟨n1, e1, f1, w1⟩ := DataW.trod_int Tryd.underlying3 h1
    obtain ⟨n2, e2, f2, w2⟩ := DataW.trod_int Tryd.underlying3 h2
    obtain ⟨s, e3, f3, _⟩ := DataW.trod_string Tryd.underlying9 h3
    exact ⟨⟨n0, n1, n2, s⟩, four_cells cs hcs e0 e1 e2 e3⟩
theorem weights_one {H : Type} {P : Program} {e : TypeId} : ∀ {l : List (DataW H)} {d : DataW H}, d ∈ l → ∀ n ∈ d.weights P e, n ∈ DataW.weightsAll P e l
  | x :: l, d, hd, n, hn => by
    unfold DataW.weightsAll
    rcases List.mem_cons.1 hd with rfl | h
    · exact List.mem_append_left _ hn
    · exact List.mem_append_right _ (weights_one h n hn)
/-- parts that a slice reads as -/
theorem parts_cells {W : World} {A : Option Addr} {n cap : Nat} {d : DataW H} {ps : List MemPlace} (h : DataW.trod enc Tryd.prog W 0 (fun _ => true) true fuel 22 [.slice A n cap] = some (d, ps))
    (hwt : ∀ n ∈ d.weights Tryd.prog 22, n ≤ reachBytes) :
    ∃ P : List Pt, P.length = n ∧ PartsAt W W.heap.size A P ∧ (∀ p ∈ P, p.2.length ≤ 140737488351232) ∧ n ≤ 9223372036854775807 ∧ n ≤ cap := by
  have hC : Tryd.prog.cellsOf 57 = 2 := by kernel_rfl
  rcases open_slice Tryd.underlying22 h with ⟨hcs, hx⟩ | ⟨a, len, cap', m, n', D, Pl, hcs, _, hlc, hcm, hm, hx, hi⟩
  · have hcs' : Value.slice A n cap = .slice none 0 0 := by injection hcs
    injection hcs' with _ e2 e3
    exact ⟨[], by rw [e2]; rfl, fun hne => absurd rfl hne, by simp, by omega, by omega⟩
  · have hcs' : Value.slice A n cap = .slice (some a) len cap' := by injection hcs
    injection hcs' with e1 e2 e3
    subst e1 e2 e3
    rw [if_pos rfl] at hm
    subst hm
    obtain ⟨rfl, _⟩ := Prod.mk.inj hx
    have hel : ∀ i, i < m → ∃ p : Pt, W.cell? (a.add (i * 2)) = some (.bool p.1) ∧ W.cell? ((a.add (i * 2)).add 1) = some (S p.2) ∧ (i < n → p.2.length ≤ 140737488351232) := by
      intro i him
      obtain ⟨cs', hc, ht⟩ := hi i him
      rw [hC] at hc
      obtain ⟨_, hcl, hat⟩ := World.cells?_some hc
      obtain ⟨xs, k, _, hx3, _, hlen3, hg⟩ := DataW.trod_struct Tryd.underlying57 ht
      match xs, hlen3 with
      | [y0, y1], _ =>
        have h0 : DataW.trod enc Tryd.prog W 0 (fun _ => true) true k 4 ((cs'.drop 0).take (Tryd.prog.cellsOf 4)) = some y0 := hg 0 _ rfl
        have h1 : DataW.trod enc Tryd.prog W 0 (fun _ => true) true k 9 ((cs'.drop 1).take (Tryd.prog.cellsOf 9)) = some y1 := hg 1 _ rfl
        rw [cellsB] at h0
        rw [cellsS] at h1
        obtain ⟨b, e0, _⟩ := DataW.trod_bool Tryd.underlying4 h0
        obtain ⟨s, e1, f1, _⟩ := DataW.trod_string Tryd.underlying9 h1
        have hDi : D i = .agg [y0.1, y1.1] := (Prod.mk.inj hx3).1
        have hss : i < n → s.data.toList.length ≤ 140737488351232 := by
          intro hin
          have hmem : D i ∈ (List.range n).map D := List.mem_map.2 ⟨i, List.mem_range.2 hin, rfl⟩
          have h6 := hwt s.data.toList.length (by
            simp only [DataW.weights, Tryd.underlying22]
            refine List.mem_cons_of_mem _ (List.mem_append_left _ (weights_one hmem _ ?_))
            rw [hDi, f1]
            unfold DataW.weights
            rw [Tryd.underlying57]
            exact DataW.weights_mem_each (j := 1) (t := 9) (d := .lit (.string s.data.toList)) rfl rfl _ (by simp [DataW.weights]))
          have h7 : reachBytes = 140737488351232 := by decide
          omega
        have hcs2 := two_cells cs' hcl e0 e1
        subst hcs2
        have q0 := hat 0 (by omega)
        have q1 := hat 1 (by omega)
        refine ⟨(b, s.data.toList), ?_, q1, hss⟩
        have ez : (a.add (i * 2)).add 0 = a.add (i * 2) := by simp [Addr.add]
        rw [ez] at q0
        exact q0
    have hch : ∃ f : Nat → Pt, ∀ i, i < m → W.cell? (a.add (i * 2)) = some (.bool (f i).1) ∧ W.cell? ((a.add (i * 2)).add 1) = some (S (f i).2) ∧ (i < n → (f i).2.length ≤ 140737488351232) := by
      refine ⟨fun i => if h : i < m then (hel i h).choose else (false, []), fun i h => ?_⟩
      simp only [dif_pos h]
      exact (hel i h).choose_spec
    obtain ⟨f, hfi⟩ := hch
    have hmax : m ≤ 9223372036854775807 := by
      have := hcm; unfold maxLen at this; omega
    refine ⟨(List.range n).map f, by simp, fun hne => ?_, fun p hp => ?_, by omega, by omega⟩
    case refine_2 =>
      obtain ⟨i, hi1, rfl⟩ := List.mem_map.1 hp
      have hi2 : i < n := List.mem_range.1 hi1
      exact (hfi i (by omega)).2.2 hi2
    have hpos : 0 < n := by
      rcases Nat.eq_zero_or_pos n with h0 | h0
      · subst h0; simp at hne
      · exact h0
    have hc0 := (hfi 0 (by omega)).1
    have ez : a.add (0 * 2) = a := by simp [Addr.add]
    rw [ez] at hc0
    have hsp := World.cell?_spot hc0
    have hblt := World.block_lt_of_cell? W a hc0
    obtain ⟨b, off, sp⟩ := a
    subst hsp
    have hadd : ∀ k i, (⟨b, k, none⟩ : Addr).add i = ⟨b, k + i, none⟩ := fun k i => by unfold Addr.add; split <;> simp_all
    refine ⟨b, off, rfl, hblt, fun i hil => ?_⟩
    have hil' : i < n := by simpa using hil
    have := hfi i (by omega)
    simp only [hadd] at this
    simpa using And.intro this.1 this.2.1
theorem batch_cells {W : World} {cs : List Value} {x : DataW H × List MemPlace} (hcs : cs.length = 4) (h : DataW.trod enc Tryd.prog W 0 (fun _ => true) true fuel 24 cs = some x)
    (hwt : ∀ n ∈ x.1.weights Tryd.prog 24, n ≤ reachBytes) :
    ∃ (b : Bt) (A : Option Addr) (cap : Nat), b.Fits ∧ cs = b.cells A cap ∧ PartsAt W W.heap.size A b.parts ∧ b.parts.length ≤ 9223372036854775807 ∧ b.parts.length ≤ cap := by
  obtain ⟨xs, n, _, hx, _, hlen, hg⟩ := DataW.trod_struct Tryd.underlying24 h
  have h0 : DataW.trod enc Tryd.prog W 0 (fun _ => true) true n 3 ((cs.drop 0).take (Tryd.prog.cellsOf 3)) = xs[0]? := hg 0 _ rfl
  have h1 : DataW.trod enc Tryd.prog W 0 (fun _ => true) true n 3 ((cs.drop 1).take (Tryd.prog.cellsOf 3)) = xs[1]? := hg 1 _ rfl
  have h2 : DataW.trod enc Tryd.prog W 0 (fun _ => true) true n 3 ((cs.drop 2).take (Tryd.prog.cellsOf 3)) = xs[2]? := hg 2 _ rfl
  have h3 : DataW.trod enc Tryd.prog W 0 (fun _ => true) true n 22 ((cs.drop 3).take (Tryd.prog.cellsOf 22)) = xs[3]? := hg 3 _ rfl
  have cellsP : Tryd.prog.cellsOf 22 = 1 := by kernel_rfl
  rw [cellsI] at h0 h1 h2
  rw [cellsP] at h3
  match xs, hlen with
  | [y0, y1, y2, y3], _ =>
    obtain ⟨n0, e0, f0, w0⟩ := DataW.trod_int Tryd.underlying3 h0
    obtain ⟨n1, e1, f1, w1⟩ := DataW.trod_int Tryd.underlying3 h1
    obtain ⟨n2, e2, f2, w2⟩ := DataW.trod_int Tryd.underlying3 h2
    have e3 : ∃ A k c, (cs.drop 3).take 1 = [.slice A k c] := by
      rcases open_slice Tryd.underlying22 h3 with ⟨e, _⟩ | ⟨_, _, _, _, _, _, _, e, _⟩
      · exact ⟨_, _, _, e⟩
      · exact ⟨_, _, _, e⟩
    obtain ⟨A, k, c, e3⟩ := e3
    rw [e3] at h3
    have hde : x.1 = .agg [y0.1, y1.1, y2.1, y3.1] := by rw [hx]; rfl
    obtain ⟨P, hl, hP, hp5, h6, h7⟩ := parts_cells (d := y3.1) (ps := y3.2) h3 (fun n hn => hwt n (by
      rw [hde]
      unfold DataW.weights
      rw [Tryd.underlying24]
      exact DataW.weights_mem_each (j := 3) (t := 22) (d := y3.1) rfl rfl n hn))
    subst hl
    exact ⟨⟨n0, n1, n2, P⟩, A, c, ⟨bounds_i64 w0, bounds_i64 w1, bounds_i64 w2, hp5⟩, four_cells cs hcs e0 e1 e2 e3, hP, h6, h7⟩
end
section
variable {H : Type} {enc : TypeId × Value → H} {W : World} {r : Reach} {b0 : Nat} {v : Value} {d : DataW H} {ps : List MemPlace} {ts : List TypeId} {ds : List (DataW H)} {j : Nat}
end
end Go.Proofs.YtinciddchpccnaaDoor

/- ---- OpenTexts ---- -/
/- An argument that is a slice of strings, opened: it reads as a list of texts. -/
namespace Go.Proofs.YtinciddchpccnaaDoor
open Go.ChangeShapes Go.WideShapes Go.ChangeAt Go.RowKit
set_option linter.unusedVariables false
set_option linter.unusedSimpArgs false
set_option maxRecDepth 100000

theorem add_at (b off i : Nat) : (⟨b, off, none⟩ : Addr).add i = ⟨b, off + i, none⟩ := by unfold Addr.add; split <;> simp_all
theorem add_zero_ (a : Addr) : a.add 0 = a := by simp [Addr.add]
theorem open_texts {H : Type} {enc : TypeId × Value → H} {W : World} {r : Reach} {b0 : Nat} {v : Value} {d : DataW H} {ps : List MemPlace}
    (hv : Value.okWide Tryd.prog W r b0 45 v) (h : DataW.Trod enc Tryd.prog W 0 (fun _ => true) true 45 v d ps) (hlt : ∀ p ∈ ps, p.block < W.heap.size) :
    ∃ L : List (List UInt8), TextsV W v L ∧ ((d = .nil ∧ L = []) ∨ ∃ spare, d = .slice (L.map fun l => .lit (.string l)) spare) := by
  obtain ⟨A, n, cap, rfl⟩ := okWide_slice Tryd.underlying45 hv
  obtain ⟨fuel, hf⟩ := h
  rcases open_strings Tryd.underlying45 Tryd.underlying9 (by kernel_rfl) hf with ⟨hcs, hx⟩ | ⟨a, len, cap', ss, hcs, _, hl, hm, hz, hx, hcell, _⟩
  · have hcs' : Value.slice A n cap = .slice none 0 0 := by simpa [Value.cells] using hcs
    rw [hcs']
    exact ⟨[], ⟨none, 0, rfl, fun h => absurd rfl h⟩, .inl ⟨(Prod.mk.inj hx).1, rfl⟩⟩
  · have hcs' : Value.slice A n cap = .slice (some a) len cap' := by simpa [Value.cells] using hcs
    rw [hcs']
    rw [if_pos rfl] at hz
    have hlen : ((ss.take len).map fun s => s.data.toList).length = len := by rw [List.length_map, List.length_take]; omega
    refine ⟨(ss.take len).map fun s => s.data.toList, ⟨some a, cap', by rw [hlen], fun hne => ?_⟩, .inr ⟨_, (Prod.mk.inj hx).1.trans (by congr 1; rw [List.map_map]; rfl)⟩⟩
    have hpos : 0 < len := by
      rcases Nat.eq_zero_or_pos len with h0 | h0
      · subst h0; simp at hne
      · exact h0
    have hc0 := hcell 0 (by omega)
    rw [add_zero_] at hc0
    have hsp := World.cell?_spot hc0
    obtain ⟨b, off, sp⟩ := a
    subst hsp
    have hps := (Prod.mk.inj hx).2
    refine ⟨b, off, rfl, ?_, fun i hi => ?_⟩
    · have := hlt (.cell b (off + 0)) (by rw [hps]; unfold MemPlace.row; exact List.mem_map.2 ⟨0, List.mem_range.2 (by omega), rfl⟩)
      exact this
    · rw [hlen] at hi
      have := hcell i (by omega)
      rw [add_at] at this
      rw [this]
      simp [List.getD, hi, show i < ss.length by omega]
end Go.Proofs.YtinciddchpccnaaDoor
