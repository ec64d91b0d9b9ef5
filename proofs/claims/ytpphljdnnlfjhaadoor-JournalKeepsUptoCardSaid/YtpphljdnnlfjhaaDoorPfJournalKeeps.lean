/- JournalKeeps: behind a crash at any place there is a beginning of what was added -/
import Derived.Test.YtpphljdnnlfjhaaDoorLawEnd
import Derived.Test.YtpphljdnnlfjhaaDoorCards
import Derived.Test.YtpphljdnnlfjhaaDoorTie
import Derived.Test.YtpphljdnnlfjhaaDoorJrKz
import Derived.OpenShut
import Derived.SizedLaws
import Derived.ChangeMaps5
import Derived.Deep.DeepHandedRow
import Derived.Lib.LaidTab
namespace Go.Proofs.YtpphljdnnlfjhaaDoor.journalKeeps
open Go.ChangeShapes Go.WideShapes Go.ChangeAt Go.RowKit
open Go.ChangeMaps (open_string)
set_option linter.unusedVariables false
set_option linter.unusedSimpArgs false

/-- the tables that the row lists, as cells -/
def firstCells : Array Value := (Go.Pinned.utf8FirstZ.map fun (k : Nat) => Value.int .u8 (k : Int)).toArray
def rangeCells : Array Value := (([128, 191, 160, 191, 128, 159, 144, 191, 128, 143] : List Nat) ++ List.replicate 22 0).map (fun (k : Nat) => Value.int .u8 (k : Int)) |>.toArray
/-- arguments that fit -/
def args0 : Array Value := #[.slice none 0 0, .int .u8 0, .slice none 0 0]
/-- what they read as -/
def data0 {H : Type} : List (DataW H) := [.nil, .lit (.int .u8 0), .nil]
def setCellsTo (cs : Array Value) : Obj → Obj
  | .cells _ t frozen => .cells cs t frozen
  | o => o
noncomputable def laidWorld (os : Os) : World :=
  { World.holding Tryd.prog os ⟨#[], #[], []⟩ with heap := (Array.modify (World.holding Tryd.prog os ⟨#[], #[], []⟩).heap 0 (setCellsTo firstCells)).modify 1 (setCellsTo rangeCells) }
theorem laid_met (os : Os) : laidMet Tryd.prog Rows.journalKeepsUptoRow.laid ((laidWorld os).forCall (fun _ _ => 0) ⟨#[], args0, []⟩).memory :=
  laidMet_of_run' 8 (by kernel_rfl) (by kernel_rfl)
theorem reads (os : Os) {H : Type} (enc : TypeId × Value → H) : ∃ places, DataW.whole enc Tryd.prog ((laidWorld os).forCall (fun _ _ => 0) ⟨#[], args0, []⟩).memory Tryd.f4.params.toList Rows.journalKeepsSpec.vars false args0.toList 8 = some (data0, [], places) :=
  ⟨[], by kernel_rfl⟩
set_option maxRecDepth 100000 in
theorem lifted (os : Os) (started : os.Started) (H : Type) (enc : TypeId × Value → H) (F : Stop.Interp) :
    ReturnsInHanded {} Tryd.checked os 4 .any ((Rows.OpenSpec.upto Rows.journalKeepsSpec).preRow enc Tryd.prog Tryd.f4 Rows.journalKeepsUptoRow.domain false Rows.journalKeepsUptoRow.laid) (((Rows.OpenSpec.upto Rows.journalKeepsSpec).at F).post enc Tryd.prog Tryd.f4 false true false false) := by
  obtain ⟨places, hx⟩ := reads os enc
  refine returnsInHanded_of_row (C := Tryd.checked) (s := Rows.OpenSpec.upto Rows.journalKeepsSpec) Tryd.own started (by kernel_rfl) Tryd.func4
    (witness_row_at (enc := enc) (C := Tryd.checked) false (laidWorld os) args0 rfl (by kernel_rfl) (by kernel_rfl) (by kernel_rfl)
      (OpenSpec.preRow_of_cond 8 hx (by kernel_rfl) (fun k hk => by cases hk; kernel_rfl) (by kernel_rfl) (laid_met os))) ?_
  intro W base args ds gs before hval hW _ hk hsz hL _ _
  have hW' := hW
  have hlt := hW.lt
  obtain ⟨p, q, hA0, hV, rfl, hfz, hnd⟩ := hW
  have hA : DataW.TrodAll enc Tryd.prog W 0 (fun _ => true) true Tryd.f4.params.toList args.toList ds p := hA0
  have hval' : ∀ (j : Nat) t v, Tryd.f4.params[j]? = some t → args[j]? = some v → Value.okWide Tryd.prog W .any base t v := hval
  rw [Tryd.params4] at hA hval' hsz
  obtain ⟨v0, vs0, d0, ds0, p0, q0, hargs, rfl, rfl, h0, r0⟩ := trodAll_cons hA
  obtain ⟨v1, vs1, d1, ds1, p1, q1, rfl, rfl, rfl, h1, r1⟩ := trodAll_cons r0
  obtain ⟨v2, vs2, d2, ds2, p2, q2, rfl, rfl, rfl, h2, r2⟩ := trodAll_cons r1
  obtain ⟨rfl, rfl, rfl⟩ := trodAll_nil r2
  obtain rfl : args = #[v0, v1, v2] := by cases args; simp_all
  obtain ⟨rfl, rfl⟩ := trodVars_none hV
  have hbulk0 : Rows.uptoBulkAll _ ≤ 1048576 := of_decide_eq_true (hk _ rfl)
  have hbk0 : Rows.uptoBulk d0 ≤ 1048576 := by simp only [List.cons_append, List.nil_append, List.append_nil, Rows.uptoBulkAll] at hbulk0; omega
  clear hbulk0
  obtain ⟨l, a_l, n_l⟩ := open_acts10 (hval' 0 28 v0 rfl rfl) h0 hbk0
  obtain ⟨n, rfl, rfl, rfl, w_n⟩ := open_int Tryd.underlying5 (hval' 1 5 v1 rfl rfl) h1
  have b_n := bounds_u8 w_n
  obtain ⟨ks, k_ks⟩ := open_ints (hval' 2 29 v2 rfl rfl) h2
  exact (journalKeeps_any v0 v2 l n ks W a_l n_l b_n k_ks).mono fun e W' ⟨he, hb⟩ => ⟨_, he, law_post rfl rfl (by rw [Tryd.params4]; decide) hW' hb rfl⟩
theorem said : Rows.JournalKeepsUptoSaid :=
  OpenClaim.holds_of_cond 4 Tryd.f4 rfl rfl rfl rfl rfl rfl rfl ⟨rfl, rfl, rfl, rfl, rfl⟩ rfl rfl rfl rfl rfl (by kernel_rfl) Tryd.func4 (by kernel_rfl)
    (of_decide_eq_true (by kernel_rfl)) (by unfold Func.isWrapper; first | (rw [if_pos (by decide +kernel)]; kernel_rfl) | (rw [if_neg (by decide +kernel)]; exact ⟨rfl, rfl⟩))
    (fun os started H enc _ F => by rw [OpenClaim.pre_eq_preRow]; exact lifted os started H enc F)
theorem plain (f : FuncId) (fn : Func) (hf : Tryd.pinned.checked.prog.funcNamed Rows.journalKeepsUptoRow.func = some f) (hfn : Tryd.pinned.checked.prog.funcs[f]? = some fn) :
    false = Tryd.pinned.checked.prog.looks [] ∧ ∀ (j : Nat) t, fn.params[j]? = some t → Tryd.pinned.checked.prog.wantsStandIn t = false := by
  have e1 : Tryd.prog.funcNamed Rows.journalKeepsUptoRow.func = some 4 := by kernel_rfl
  obtain rfl : f = 4 := (Option.some.inj (e1.symm.trans hf)).symm
  obtain rfl : fn = Tryd.f4 := (Option.some.inj (Tryd.func4.symm.trans hfn)).symm
  refine ⟨by kernel_rfl, fun j t ht => ?_⟩
  rw [Tryd.params4] at ht
  have hs_acts : Tryd.prog.wantsStandIn 28 = false := by kernel_rfl
  have hs_u8 : Tryd.prog.wantsStandIn 5 = false := by kernel_rfl
  have hs_ints : Tryd.prog.wantsStandIn 29 = false := by kernel_rfl
  have hm := Array.mem_of_getElem? ht
  simp only [List.mem_toArray, List.mem_cons, List.not_mem_nil, or_false] at hm
  rcases hm with hm | hm | hm
  · rw [hm]; exact hs_acts
  · rw [hm]; exact hs_u8
  · rw [hm]; exact hs_ints
theorem card : Rows.JournalKeepsUptoCardSaid :=
  Claim7.holds_tied_plain_at .later [] _ _ _ _ said (fun _ h => by cases h) (by kernel_rfl) (fun _ h => by cases h) journalKeepsUpto_row_tie rfl ⟨rfl, rfl⟩ (by kernel_rfl) rfl plain (by kernel_rfl)
theorem proved : Rows.JournalKeepsUptoCardSaid := card
end Go.Proofs.YtpphljdnnlfjhaaDoor.journalKeeps
