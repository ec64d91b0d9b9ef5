/- TreeDoes: every call of a chain is answered as the document says: for every depth, list of acts and number. -/
import Derived.Test.YtjeooegkfjlejaaDoorEarD
import Derived.Test.YtjeooegkfjlejaaDoorCards
import Derived.Test.YtjeooegkfjlejaaDoorTie
import Derived.Test.YtjeooegkfjlejaaDoorTrDoes
import Derived.Test.YtjeooegkfjlejaaDoorTrOpen2
import Derived.Test.YtjeooegkfjlejaaDoorShaRefSum
import Derived.OpenShut
import Derived.SizedLaws
import Derived.ChangeMaps5
import Derived.Deep.DeepHandedRow
import Derived.Lib.LaidTab
namespace Go.Proofs.YtjeooegkfjlejaaDoor.treeDoes
open Go.ChangeShapes Go.WideShapes Go.ChangeAt Go.RowKit
open Go.ChangeMaps (open_string)
set_option linter.unusedVariables false
set_option linter.unusedSimpArgs false

/-- the table that the row lists -/
def tabName : String := Rows.treeDoesUptoRow.named.headD default
theorem gTab : Tryd.prog.globalNamed tabName = some 0 := by kernel_rfl
theorem gTabType : (Tryd.prog.globals[0]?).map (·.type) = some 132 := by kernel_rfl
theorem cellsT : Tryd.prog.cellsOf 132 = 64 := by kernel_rfl
theorem cellsE : Tryd.prog.cellsOf 115 = 1 := by kernel_rfl
/-- the row's list gives the table -/
theorem table {W : World} (h : laidMetH Tryd.prog Rows.treeDoesUptoRow.laid W) : Tab W := by
  have ht : Lib.TabIs Tryd.prog W tabName .u32 (Sha.kk.map fun (k : Nat) => (k : Int)) :=
    Lib.tabIs_of_head (rest := []) gTab gTabType Tryd.underlying132 Tryd.underlying115 cellsE cellsT h
  intro t htl
  have := ht.cell gTab t (by rw [List.length_map]; exact htl)
  rw [this]
  have hl : t < Sha.kk.length := htl
  simp [List.getD, hl]
/-- arguments that fit -/
def args0 : Array Value := #[.int .i64 0, .slice none 0 0, .int .i64 0]
/-- what they read as -/
def data0 {H : Type} : List (DataW H) := [.lit (.int .i64 0), .nil, .lit (.int .i64 0)]
noncomputable def laidWorld (os : Os) : World :=
  { World.holding Tryd.prog os ⟨#[], #[], []⟩ with heap := (World.holding Tryd.prog os ⟨#[], #[], []⟩).heap.modify 0 fun
      | .cells _ t frozen => .cells (Sha.kk.map fun (k : Nat) => Value.int .u32 (k : Int)).toArray t frozen
      | o => o }
theorem laid_met (os : Os) : laidMet Tryd.prog Rows.treeDoesUptoRow.laid ((laidWorld os).forCall (fun _ _ => 0) ⟨#[], args0, []⟩).memory :=
  laidMet_of_run' 8 (by kernel_rfl) (by kernel_rfl)
theorem reads (os : Os) {H : Type} (enc : TypeId × Value → H) : ∃ places, DataW.whole enc Tryd.prog ((laidWorld os).forCall (fun _ _ => 0) ⟨#[], args0, []⟩).memory Tryd.f3.params.toList Rows.treeDoesSpec.vars false args0.toList 8 = some (data0, [], places) :=
  ⟨[], by kernel_rfl⟩
set_option maxRecDepth 100000 in
theorem lifted (os : Os) (started : os.Started) (H : Type) (enc : TypeId × Value → H) (F : Stop.Interp) :
    ReturnsInHanded {} Tryd.checked os 3 .any ((Rows.OpenSpec.upto Rows.treeDoesSpec).preRow enc Tryd.prog Tryd.f3 Rows.treeDoesUptoRow.domain false Rows.treeDoesUptoRow.laid) (((Rows.OpenSpec.upto Rows.treeDoesSpec).at F).post enc Tryd.prog Tryd.f3 false true false false) := by
  obtain ⟨places, hx⟩ := reads os enc
  refine returnsInHanded_of_row (C := Tryd.checked) (s := Rows.OpenSpec.upto Rows.treeDoesSpec) Tryd.own started (by kernel_rfl) Tryd.func3
    (witness_row_at (enc := enc) (C := Tryd.checked) false (laidWorld os) args0 rfl (by kernel_rfl) (by kernel_rfl) (by kernel_rfl)
      (OpenSpec.preRow_of_cond 8 hx (by kernel_rfl) (fun k hk => by cases hk; kernel_rfl) (by kernel_rfl) (laid_met os))) ?_
  intro W base args ds gs before hval hW _ hk hsz hL _ _
  have hW' := hW
  have hlt := hW.lt
  obtain ⟨p, q, hA0, hV, rfl, hfz, hnd⟩ := hW
  have hA : DataW.TrodAll enc Tryd.prog W 0 (fun _ => true) true Tryd.f3.params.toList args.toList ds p := hA0
  have hval' : ∀ (j : Nat) t v, Tryd.f3.params[j]? = some t → args[j]? = some v → Value.okWide Tryd.prog W .any base t v := hval
  rw [Tryd.params3] at hA hval' hsz
  obtain ⟨v0, vs0, d0, ds0, p0, q0, hargs, rfl, rfl, h0, r0⟩ := trodAll_cons hA
  obtain ⟨v1, vs1, d1, ds1, p1, q1, rfl, rfl, rfl, h1, r1⟩ := trodAll_cons r0
  obtain ⟨v2, vs2, d2, ds2, p2, q2, rfl, rfl, rfl, h2, r2⟩ := trodAll_cons r1
  obtain ⟨rfl, rfl, rfl⟩ := trodAll_nil r2
  obtain rfl : args = #[v0, v1, v2] := by cases args; simp_all
  obtain ⟨rfl, rfl⟩ := trodVars_none hV
  obtain ⟨d, rfl, rfl, rfl, w_d⟩ := open_int Tryd.underlying3 (hval' 0 3 v0 rfl rfl) h0
  have b_d := bounds_i64 w_d
  obtain ⟨A_l, c_l, l, rfl, i_l⟩ := open_acts11 (hval' 1 22 v1 rfl rfl) h1
  obtain ⟨m, rfl, rfl, rfl, w_m⟩ := open_int Tryd.underlying3 (hval' 2 3 v2 rfl rfl) h2
  have b_m := bounds_i64 w_m
  have hbulk : Rows.uptoBulkAll _ ≤ 1048576 := of_decide_eq_true (hk _ rfl)
  simp only [List.cons_append, List.nil_append, List.append_nil, Rows.uptoBulkAll] at hbulk
  exact (treeDoes_any refSum_any d m b_m l A_l c_l W (i_l (by omega)) (table hL)).mono fun e W' ⟨he, hb⟩ => ⟨_, he, law_post rfl rfl (by rw [Tryd.params3]; decide) hW' hb rfl⟩
theorem said : Rows.TreeDoesUptoSaid :=
  OpenClaim.holds_of_cond 3 Tryd.f3 rfl rfl rfl rfl rfl rfl rfl ⟨rfl, rfl, rfl, rfl, rfl⟩ rfl rfl rfl rfl rfl (by kernel_rfl) Tryd.func3 (by kernel_rfl)
    (of_decide_eq_true (by kernel_rfl)) (by unfold Func.isWrapper; first | (rw [if_pos (by decide +kernel)]; kernel_rfl) | (rw [if_neg (by decide +kernel)]; exact ⟨rfl, rfl⟩))
    (fun os started H enc _ F => by rw [OpenClaim.pre_eq_preRow]; exact lifted os started H enc F)
theorem plain (f : FuncId) (fn : Func) (hf : Tryd.pinned.checked.prog.funcNamed Rows.treeDoesUptoRow.func = some f) (hfn : Tryd.pinned.checked.prog.funcs[f]? = some fn) :
    false = Tryd.pinned.checked.prog.looks [] ∧ ∀ (j : Nat) t, fn.params[j]? = some t → Tryd.pinned.checked.prog.wantsStandIn t = false := by
  have e1 : Tryd.prog.funcNamed Rows.treeDoesUptoRow.func = some 3 := by kernel_rfl
  obtain rfl : f = 3 := (Option.some.inj (e1.symm.trans hf)).symm
  obtain rfl : fn = Tryd.f3 := (Option.some.inj (Tryd.func3.symm.trans hfn)).symm
  refine ⟨by kernel_rfl, fun j t ht => ?_⟩
  rw [Tryd.params3] at ht
  have hs_int : Tryd.prog.wantsStandIn 3 = false := by kernel_rfl
  have hs_acts : Tryd.prog.wantsStandIn 22 = false := by kernel_rfl
  have hm := Array.mem_of_getElem? ht
  simp only [List.mem_toArray, List.mem_cons, List.not_mem_nil, or_false] at hm
  rcases hm with hm | hm | hm
  · rw [hm]; exact hs_int
  · rw [hm]; exact hs_acts
  · rw [hm]; exact hs_int
theorem card : Rows.TreeDoesUptoCardSaid :=
  Claim7.holds_tied_plain_at .later [] _ _ _ _ said (fun _ h => by cases h) (by kernel_rfl) (fun _ h => by cases h) treeDoesUpto_row_tie rfl ⟨rfl, rfl⟩ (by kernel_rfl) rfl plain (by kernel_rfl)
theorem proved : Rows.TreeDoesUptoCardSaid := card
end Go.Proofs.YtjeooegkfjlejaaDoor.treeDoes
