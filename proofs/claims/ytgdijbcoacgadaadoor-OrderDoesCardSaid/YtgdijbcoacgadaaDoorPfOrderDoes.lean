/- OrderDoes: for every list of acts and every two numbers the law returns true, and it reads as before. No conditions but the laid table. -/
import Derived.Test.YtgdijbcoacgadaaDoorSlD
import Derived.Test.YtgdijbcoacgadaaDoorCards
import Derived.Test.YtgdijbcoacgadaaDoorTie
import Derived.Test.YtgdijbcoacgadaaDoorOdDoes
import Derived.Test.YtgdijbcoacgadaaDoorOdOpen
import Derived.Test.YtgdijbcoacgadaaDoorShaRefSum
import Derived.OpenShut
import Derived.SizedLaws
import Derived.ChangeMaps5
import Derived.Deep.DeepHandedRow
import Derived.Lib.LaidTab
namespace Go.Proofs.YtgdijbcoacgadaaDoor.orderDoes
open Go.ChangeShapes Go.WideShapes Go.ChangeAt Go.RowKit
open Go.ChangeMaps (open_string)
set_option linter.unusedVariables false
set_option linter.unusedSimpArgs false

/-- the table that the row lists -/
def tabName : String := Rows.orderDoesRow.named.headD default
theorem gTab : Tryd.prog.globalNamed tabName = some 0 := by kernel_rfl
theorem gTabType : (Tryd.prog.globals[0]?).map (·.type) = some 126 := by kernel_rfl
theorem cellsT : Tryd.prog.cellsOf 126 = 64 := by kernel_rfl
theorem cellsE : Tryd.prog.cellsOf 99 = 1 := by kernel_rfl
/-- the row's list gives the table -/
theorem table {W : World} (h : laidMetH Tryd.prog Rows.orderDoesRow.laid W) : Tab W := by
  have ht : Lib.TabIs Tryd.prog W tabName .u32 (Sha.kk.map fun (k : Nat) => (k : Int)) :=
    Lib.tabIs_of_head (rest := []) gTab gTabType Tryd.underlying126 Tryd.underlying99 cellsE cellsT h
  intro t htl
  have := ht.cell gTab t (by rw [List.length_map]; exact htl)
  rw [this]
  have hl : t < Sha.kk.length := htl
  simp [List.getD, hl]
/-- arguments that fit -/
def args0 : Array Value := #[.slice none 0 0, .int .i64 0, .int .i64 0]
/-- what they read as -/
def data0 {H : Type} : List (DataW H) := [.nil, .lit (.int .i64 0), .lit (.int .i64 0)]
noncomputable def laidWorld (os : Os) : World :=
  { World.holding Tryd.prog os ⟨#[], #[], []⟩ with heap := (World.holding Tryd.prog os ⟨#[], #[], []⟩).heap.modify 0 fun
      | .cells _ t frozen => .cells (Sha.kk.map fun (k : Nat) => Value.int .u32 (k : Int)).toArray t frozen
      | o => o }
theorem laid_met (os : Os) : laidMet Tryd.prog Rows.orderDoesRow.laid ((laidWorld os).forCall (fun _ _ => 0) ⟨#[], args0, []⟩).memory :=
  laidMet_of_run' 8 (by kernel_rfl) (by kernel_rfl)
theorem reads (os : Os) {H : Type} (enc : TypeId × Value → H) : ∃ places, DataW.whole enc Tryd.prog ((laidWorld os).forCall (fun _ _ => 0) ⟨#[], args0, []⟩).memory Tryd.f3.params.toList Rows.orderDoesSpec.vars false args0.toList 8 = some (data0, [], places) :=
  ⟨[], by kernel_rfl⟩
set_option maxRecDepth 100000 in
theorem lifted (os : Os) (started : os.Started) (H : Type) (enc : TypeId × Value → H) (F : Stop.Interp) :
    ReturnsInHanded {} Tryd.checked os 3 .any ((OpenSpec.ofChange Rows.orderDoesSpec).preRow enc Tryd.prog Tryd.f3 Rows.orderDoesRow.domain false Rows.orderDoesRow.laid) (((OpenSpec.ofChange Rows.orderDoesSpec).at F).post enc Tryd.prog Tryd.f3 false true false false) := by
  obtain ⟨places, hx⟩ := reads os enc
  refine returnsInHanded_of_row (C := Tryd.checked) (s := OpenSpec.ofChange Rows.orderDoesSpec) Tryd.own started (by kernel_rfl) Tryd.func3
    (witness_row_at (enc := enc) (C := Tryd.checked) false (laidWorld os) args0 rfl (by kernel_rfl) (by kernel_rfl) (by kernel_rfl)
      (OpenSpec.preRow_of_cond 8 hx (by kernel_rfl) (fun k hk => by cases hk) (by kernel_rfl) (laid_met os))) ?_
  intro W base args ds gs before hval hW _ _ hsz hL _ _
  have hW' := hW
  have hlt := hW.lt
  obtain ⟨p, q, hA0, hV, rfl, hfz, hnd⟩ := hW
  have hA : DataW.TrodAll enc Tryd.prog W 0 (fun _ => true) true Tryd.f3.params.toList args.toList ds p := hA0
  have hval' : ∀ (j : Nat) t v, Tryd.f3.params[j]? = some t → args[j]? = some v → Value.okWide Tryd.prog W .any base t v := hval
  rw [Tryd.params3] at hA hval' hsz
  obtain ⟨v0, vs0, d0, ds0, p0, q0, hargs, rfl, rfl, h0, r0⟩ := trodAll_cons hA
  obtain ⟨v1, vs1, d1, ds1, p1, q1, rfl, rfl, rfl, h1, r1⟩ := trodAll_cons r0
  obtain ⟨v2, vs2, d2, ds2, p2, q2, rfl, rfl, rfl, h2, r2⟩ := trodAll_cons r1
  obtain ⟨rfl, rfl, rfl⟩ := trodAll_nil r2
  obtain rfl : args = #[v0, v1, v2] := by cases args; simp_all
  obtain ⟨rfl, rfl⟩ := trodVars_none hV
  obtain ⟨A_l, c_l, l, rfl, q_l, k_l⟩ := open_Act19s (hval' 0 22 v0 rfl rfl) h0 hsz (j := 0) rfl rfl
  obtain ⟨i, rfl, rfl, rfl, w_i⟩ := open_int Tryd.underlying3 (hval' 1 3 v1 rfl rfl) h1
  have b_i := bounds_i64 w_i
  obtain ⟨who, rfl, rfl, rfl, w_who⟩ := open_int Tryd.underlying3 (hval' 2 3 v2 rfl rfl) h2
  have b_who := bounds_i64 w_who
  exact (orderDoes_any refSum_any l A_l c_l i who W k_l (table hL)).mono fun e W' ⟨he, hb⟩ => ⟨_, he, law_post rfl rfl (by rw [Tryd.params3]; decide) hW' hb rfl⟩
theorem said : Rows.OrderDoesSaid :=
  OpenClaim.holds_of_cond 3 Tryd.f3 rfl rfl rfl rfl rfl rfl rfl ⟨rfl, rfl, rfl, rfl, rfl⟩ rfl rfl rfl rfl rfl (by kernel_rfl) Tryd.func3 (by kernel_rfl)
    (of_decide_eq_true (by kernel_rfl)) (by unfold Func.isWrapper; first | (rw [if_pos (by decide +kernel)]; kernel_rfl) | (rw [if_neg (by decide +kernel)]; exact ⟨rfl, rfl⟩))
    (fun os started H enc _ F => by rw [OpenClaim.pre_eq_preRow]; exact lifted os started H enc F)
theorem plain (f : FuncId) (fn : Func) (hf : Tryd.pinned.checked.prog.funcNamed Rows.orderDoesRow.func = some f) (hfn : Tryd.pinned.checked.prog.funcs[f]? = some fn) :
    false = Tryd.pinned.checked.prog.looks [] ∧ ∀ (j : Nat) t, fn.params[j]? = some t → Tryd.pinned.checked.prog.wantsStandIn t = false := by
  have e1 : Tryd.prog.funcNamed Rows.orderDoesRow.func = some 3 := by kernel_rfl
  obtain rfl : f = 3 := (Option.some.inj (e1.symm.trans hf)).symm
  obtain rfl : fn = Tryd.f3 := (Option.some.inj (Tryd.func3.symm.trans hfn)).symm
  refine ⟨by kernel_rfl, fun j t ht => ?_⟩
  rw [Tryd.params3] at ht
  have hs_acts19 : Tryd.prog.wantsStandIn 22 = false := by kernel_rfl
  have hs_int : Tryd.prog.wantsStandIn 3 = false := by kernel_rfl
  have hm := Array.mem_of_getElem? ht
  simp only [List.mem_toArray, List.mem_cons, List.not_mem_nil, or_false] at hm
  rcases hm with hm | hm | hm
  · rw [hm]; exact hs_acts19
  · rw [hm]; exact hs_int
  · rw [hm]; exact hs_int
theorem card : Rows.OrderDoesCardSaid :=
  Claim7.holds_tied_plain_at .later [] _ _ _ _ said (fun _ h => by cases h) (by kernel_rfl) (fun _ h => by cases h) orderDoes_row_tie rfl ⟨rfl, rfl⟩ (by kernel_rfl) rfl plain (by kernel_rfl)
theorem proved : Rows.OrderDoesCardSaid := card
end Go.Proofs.YtgdijbcoacgadaaDoor.orderDoes
