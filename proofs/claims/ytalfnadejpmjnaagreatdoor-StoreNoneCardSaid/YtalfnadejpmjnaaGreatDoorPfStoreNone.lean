/- StoreNone: for every act the law returns true, and it reads as before. No conditions but the laid tables. -/
import Derived.Test.YtalfnadejpmjnaaGreatDoorNSlD
import Derived.Test.YtalfnadejpmjnaaGreatDoorCards
import Derived.Test.YtalfnadejpmjnaaGreatDoorTie
import Derived.Test.YtalfnadejpmjnaaGreatDoorNStNone
import Derived.Test.YtalfnadejpmjnaaGreatDoorNStOpen
import Derived.OpenShut
import Derived.SizedLaws
import Derived.ChangeMaps5
import Derived.Deep.DeepHandedRow
import Derived.Lib.LaidTab
namespace Go.Proofs.YtalfnadejpmjnaaGreatDoor.storeNone
open Go.ChangeShapes Go.WideShapes Go.ChangeAt Go.RowKit
open Go.ChangeMaps (open_string)
set_option linter.unusedVariables false
set_option linter.unusedSimpArgs false

/-- the tables that the row lists, as cells -/
def firstCells : Array Value := (Go.Pinned.utf8FirstZ.map fun (k : Nat) => Value.int .u8 (k : Int)).toArray
def rangeCells : Array Value := (([128, 191, 160, 191, 128, 159, 144, 191, 128, 143] : List Nat) ++ List.replicate 22 0).map (fun (k : Nat) => Value.int .u8 (k : Int)) |>.toArray
/-- arguments that fit -/
def args0 : Array Value := #[.agg (Act20.cells ⟨0, 0, 0, 0, ByteArray.empty⟩).toArray]
/-- what they read as -/
def data0 {H : Type} : List (DataW H) := [.agg [.lit (.int .i64 0), .lit (.int .i64 0), .lit (.int .i64 0), .lit (.int .i64 0), .lit (.string [])]]
def setCellsTo (cs : Array Value) : Obj → Obj
  | .cells _ t frozen => .cells cs t frozen
  | o => o
/-- the third table, that of digest.rounds -/
def tabName : String := Rows.storeNoneRow.named.getD 2 default
theorem gTab : Tryz.prog.globalNamed tabName = some 2 := by kernel_rfl
theorem gTabType : (Tryz.prog.globals[2]?).map (·.type) = some 238 := by kernel_rfl
theorem cellsT : Tryz.prog.cellsOf 238 = 64 := by kernel_rfl
theorem cellsE : Tryz.prog.cellsOf 174 = 1 := by kernel_rfl
/-- the row's list gives the table -/
theorem table {W : World} (h : laidMetH Tryz.prog Rows.storeNoneRow.laid W) : Tab W := by
  have ht : Lib.TabIs Tryz.prog W tabName .u32 (Sha.kk.map fun (k : Nat) => (k : Int)) :=
    Lib.tabIs_of_head (rest := Rows.storeNoneRow.laid.tail) gTab gTabType Tryz.underlying238 Tryz.underlying174 cellsE cellsT h
  intro t htl
  have := ht.cell gTab t (by rw [List.length_map]; exact htl)
  rw [this]
  have hl : t < Sha.kk.length := htl
  simp [List.getD, hl]
noncomputable def laidWorld (os : Os) : World :=
  { World.holding Tryz.prog os ⟨#[], #[], []⟩ with heap := ((Array.modify (World.holding Tryz.prog os ⟨#[], #[], []⟩).heap 0 (setCellsTo firstCells)).modify 1 (setCellsTo rangeCells)).modify 2 (setCellsTo (Sha.kk.map fun (k : Nat) => Value.int .u32 (k : Int)).toArray) }
theorem laid_met (os : Os) : laidMet Tryz.prog Rows.storeNoneRow.laid ((laidWorld os).forCall (fun _ _ => 0) ⟨#[], args0, []⟩).memory :=
  laidMet_of_run' 8 (by kernel_rfl) (by kernel_rfl)
theorem reads (os : Os) {H : Type} (enc : TypeId × Value → H) : ∃ places, DataW.whole enc Tryz.prog ((laidWorld os).forCall (fun _ _ => 0) ⟨#[], args0, []⟩).memory Tryz.f8.params.toList Rows.storeNoneSpec.vars false args0.toList 8 = some (data0, [], places) :=
  ⟨[], by kernel_rfl⟩
set_option maxRecDepth 100000 in
theorem lifted (os : Os) (started : os.Started) (H : Type) (enc : TypeId × Value → H) (F : Stop.Interp) :
    ReturnsInHanded {} Tryz.checked os 8 .any ((OpenSpec.ofChange Rows.storeNoneSpec).preRow enc Tryz.prog Tryz.f8 Rows.storeNoneRow.domain false Rows.storeNoneRow.laid) (((OpenSpec.ofChange Rows.storeNoneSpec).at F).post enc Tryz.prog Tryz.f8 false true false false) := by
  obtain ⟨places, hx⟩ := reads os enc
  refine returnsInHanded_of_row (C := Tryz.checked) (s := OpenSpec.ofChange Rows.storeNoneSpec) Tryz.own started (by kernel_rfl) Tryz.func8
    (witness_row_at (enc := enc) (C := Tryz.checked) false (laidWorld os) args0 rfl (by kernel_rfl) (by kernel_rfl) (by kernel_rfl)
      (OpenSpec.preRow_of_cond 8 hx (by kernel_rfl) (fun k hk => by cases hk) (by kernel_rfl) (laid_met os))) ?_
  intro W base args ds gs before hval hW _ _ hsz hL _ _
  have hW' := hW
  have hlt := hW.lt
  obtain ⟨p, q, hA0, hV, rfl, hfz, hnd⟩ := hW
  have hA : DataW.TrodAll enc Tryz.prog W 0 (fun _ => true) true Tryz.f8.params.toList args.toList ds p := hA0
  have hval' : ∀ (j : Nat) t v, Tryz.f8.params[j]? = some t → args[j]? = some v → Value.okWide Tryz.prog W .any base t v := hval
  rw [Tryz.params8] at hA hval' hsz
  obtain ⟨v0, vs0, d0, ds0, p0, q0, hargs, rfl, rfl, h0, r0⟩ := trodAll_cons hA
  obtain ⟨rfl, rfl, rfl⟩ := trodAll_nil r0
  obtain rfl : args = #[v0] := by cases args; simp_all
  obtain ⟨rfl, rfl⟩ := trodVars_none hV
  obtain ⟨a, k_a, rfl⟩ := open_Act201 (hval' 0 36 v0 rfl rfl) h0 hsz (j := 0) rfl rfl
  exact (storeNone_any a k_a W (table hL)).mono fun e W' ⟨he, hb⟩ => ⟨_, he, law_post rfl rfl (by rw [Tryz.params8]; decide) hW' hb rfl⟩
theorem said : Rows.StoreNoneSaid :=
  OpenClaim.holds_of_cond 8 Tryz.f8 rfl rfl rfl rfl rfl rfl rfl ⟨rfl, rfl, rfl, rfl, rfl⟩ rfl rfl rfl rfl rfl (by kernel_rfl) Tryz.func8 (by kernel_rfl)
    (of_decide_eq_true (by kernel_rfl)) (by unfold Func.isWrapper; first | (rw [if_pos (by decide +kernel)]; kernel_rfl) | (rw [if_neg (by decide +kernel)]; exact ⟨rfl, rfl⟩))
    (fun os started H enc _ F => by rw [OpenClaim.pre_eq_preRow]; exact lifted os started H enc F)
theorem plain (f : FuncId) (fn : Func) (hf : Tryz.pinned.checked.prog.funcNamed Rows.storeNoneRow.func = some f) (hfn : Tryz.pinned.checked.prog.funcs[f]? = some fn) :
    false = Tryz.pinned.checked.prog.looks [] ∧ ∀ (j : Nat) t, fn.params[j]? = some t → Tryz.pinned.checked.prog.wantsStandIn t = false := by
  have e1 : Tryz.prog.funcNamed Rows.storeNoneRow.func = some 8 := by kernel_rfl
  obtain rfl : f = 8 := (Option.some.inj (e1.symm.trans hf)).symm
  obtain rfl : fn = Tryz.f8 := (Option.some.inj (Tryz.func8.symm.trans hfn)).symm
  refine ⟨by kernel_rfl, fun j t ht => ?_⟩
  rw [Tryz.params8] at ht
  have hs_act20 : Tryz.prog.wantsStandIn 36 = false := by kernel_rfl
  have hm := Array.mem_of_getElem? ht
  simp only [List.mem_toArray, List.mem_cons, List.not_mem_nil, or_false] at hm
  rw [hm]; exact hs_act20
theorem card : Rows.StoreNoneCardSaid :=
  Claim7.holds_tied_plain_at .later [] _ _ _ _ said (fun _ h => by cases h) (by kernel_rfl) (fun _ h => by cases h) storeNone_row_tie rfl ⟨rfl, rfl⟩ (by kernel_rfl) rfl plain (by kernel_rfl)
theorem proved : Rows.StoreNoneCardSaid := card
end Go.Proofs.YtalfnadejpmjnaaGreatDoor.storeNone
