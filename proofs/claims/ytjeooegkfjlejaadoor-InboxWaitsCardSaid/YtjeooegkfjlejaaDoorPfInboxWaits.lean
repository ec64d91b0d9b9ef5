/- A later call, one that names more, and a shorter wait reach no less. -/
import Derived.Test.YtjeooegkfjlejaaDoorEarD
import Derived.Test.YtjeooegkfjlejaaDoorCards
import Derived.Test.YtjeooegkfjlejaaDoorTie
import Derived.Test.YtjeooegkfjlejaaDoorInbLaw1
import Derived.Test.YtjeooegkfjlejaaDoorInbOpen
import Derived.OpenShut
import Derived.SizedLaws
import Derived.ChangeMaps5
import Derived.Deep.DeepHandedRow
import Derived.Lib.LaidTab
namespace Go.Proofs.YtjeooegkfjlejaaDoor.inboxWaits
open Go.ChangeShapes Go.WideShapes Go.ChangeAt Go.RowKit
open Go.ChangeMaps (open_string)
set_option linter.unusedVariables false
set_option linter.unusedSimpArgs false

/-- the table that the row lists -/
def tabName : String := Rows.inboxWaitsRow.named.headD default
theorem gTab : Tryd.prog.globalNamed tabName = some 0 := by kernel_rfl
theorem gTabType : (Tryd.prog.globals[0]?).map (·.type) = some 132 := by kernel_rfl
theorem cellsT : Tryd.prog.cellsOf 132 = 64 := by kernel_rfl
theorem cellsE : Tryd.prog.cellsOf 115 = 1 := by kernel_rfl
/-- the row's list gives the table -/
theorem table {W : World} (h : laidMetH Tryd.prog Rows.inboxWaitsRow.laid W) : Tab W := by
  have ht : Lib.TabIs Tryd.prog W tabName .u32 (Sha.kk.map fun (k : Nat) => (k : Int)) :=
    Lib.tabIs_of_head (rest := []) gTab gTabType Tryd.underlying132 Tryd.underlying115 cellsE cellsT h
  intro t htl
  have := ht.cell gTab t (by rw [List.length_map]; exact htl)
  rw [this]
  have hl : t < Sha.kk.length := htl
  simp [List.getD, hl]
/-- arguments that fit -/
def args0 : Array Value := #[.slice none 0 0, .agg #[.int .i64 0, .int .i64 0, .int .i64 0], .agg #[.int .i64 0, .int .i64 0, .int .i64 0]]
/-- what they read as -/
def data0 {H : Type} : List (DataW H) := [.nil, .agg [.lit (.int .i64 0), .lit (.int .i64 0), .lit (.int .i64 0)], .agg [.lit (.int .i64 0), .lit (.int .i64 0), .lit (.int .i64 0)]]
noncomputable def laidWorld (os : Os) : World :=
  { World.holding Tryd.prog os ⟨#[], #[], []⟩ with heap := (World.holding Tryd.prog os ⟨#[], #[], []⟩).heap.modify 0 fun
      | .cells _ t frozen => .cells (Sha.kk.map fun (k : Nat) => Value.int .u32 (k : Int)).toArray t frozen
      | o => o }
theorem laid_met (os : Os) : laidMet Tryd.prog Rows.inboxWaitsRow.laid ((laidWorld os).forCall (fun _ _ => 0) ⟨#[], args0, []⟩).memory :=
  laidMet_of_run' 8 (by kernel_rfl) (by kernel_rfl)
theorem reads (os : Os) {H : Type} (enc : TypeId × Value → H) : ∃ places, DataW.whole enc Tryd.prog ((laidWorld os).forCall (fun _ _ => 0) ⟨#[], args0, []⟩).memory Tryd.f13.params.toList Rows.inboxWaitsSpec.vars false args0.toList 8 = some (data0, [], places) :=
  ⟨[], by kernel_rfl⟩
set_option maxRecDepth 100000 in
theorem lifted (os : Os) (started : os.Started) (H : Type) (enc : TypeId × Value → H) (F : Stop.Interp) :
    ReturnsInHanded {} Tryd.checked os 13 .any ((OpenSpec.ofChange Rows.inboxWaitsSpec).preRow enc Tryd.prog Tryd.f13 Rows.inboxWaitsRow.domain false Rows.inboxWaitsRow.laid) (((OpenSpec.ofChange Rows.inboxWaitsSpec).at F).post enc Tryd.prog Tryd.f13 false true false false) := by
  obtain ⟨places, hx⟩ := reads os enc
  refine returnsInHanded_of_row (C := Tryd.checked) (s := OpenSpec.ofChange Rows.inboxWaitsSpec) Tryd.own started (by kernel_rfl) Tryd.func13
    (witness_row_at (enc := enc) (C := Tryd.checked) false (laidWorld os) args0 rfl (by kernel_rfl) (by kernel_rfl) (by kernel_rfl)
      (OpenSpec.preRow_of_cond 8 hx (by kernel_rfl) (fun k hk => by cases hk) (by kernel_rfl) (laid_met os))) ?_
  intro W base args ds gs before hval hW _ _ hsz hL _ _
  have hW' := hW
  have hlt := hW.lt
  obtain ⟨p, q, hA0, hV, rfl, hfz, hnd⟩ := hW
  have hA : DataW.TrodAll enc Tryd.prog W 0 (fun _ => true) true Tryd.f13.params.toList args.toList ds p := hA0
  have hval' : ∀ (j : Nat) t v, Tryd.f13.params[j]? = some t → args[j]? = some v → Value.okWide Tryd.prog W .any base t v := hval
  rw [Tryd.params13] at hA hval' hsz
  obtain ⟨v0, vs0, d0, ds0, p0, q0, hargs, rfl, rfl, h0, r0⟩ := trodAll_cons hA
  obtain ⟨v1, vs1, d1, ds1, p1, q1, rfl, rfl, rfl, h1, r1⟩ := trodAll_cons r0
  obtain ⟨v2, vs2, d2, ds2, p2, q2, rfl, rfl, rfl, h2, r2⟩ := trodAll_cons r1
  obtain ⟨rfl, rfl, rfl⟩ := trodAll_nil r2
  obtain rfl : args = #[v0, v1, v2] := by cases args; simp_all
  obtain ⟨rfl, rfl⟩ := trodVars_none hV
  obtain ⟨A_l, c_l, l, rfl, i_l, m_l⟩ := open_ens (hval' 0 68 v0 rfl rfl) h0
  obtain ⟨n_a, a_a, t_a, p_a, q_a, r_a, rfl⟩ := open_call (hval' 1 72 v1 rfl rfl) h1
  obtain ⟨n_b, a_b, t_b, p_b, q_b, r_b, rfl⟩ := open_call (hval' 2 72 v2 rfl rfl) h2
  exact (inboxWaits_any A_l c_l l n_a a_a t_a n_b a_b t_b p_a q_a r_a p_b q_b r_b W i_l m_l (table hL)).mono fun e W' ⟨he, hb⟩ => ⟨_, he, law_post rfl rfl (by rw [Tryd.params13]; decide) hW' hb rfl⟩
theorem said : Rows.InboxWaitsSaid :=
  OpenClaim.holds_of_cond 13 Tryd.f13 rfl rfl rfl rfl rfl rfl rfl ⟨rfl, rfl, rfl, rfl, rfl⟩ rfl rfl rfl rfl rfl (by kernel_rfl) Tryd.func13 (by kernel_rfl)
    (of_decide_eq_true (by kernel_rfl)) (by unfold Func.isWrapper; first | (rw [if_pos (by decide +kernel)]; kernel_rfl) | (rw [if_neg (by decide +kernel)]; exact ⟨rfl, rfl⟩))
    (fun os started H enc _ F => by rw [OpenClaim.pre_eq_preRow]; exact lifted os started H enc F)
theorem plain (f : FuncId) (fn : Func) (hf : Tryd.pinned.checked.prog.funcNamed Rows.inboxWaitsRow.func = some f) (hfn : Tryd.pinned.checked.prog.funcs[f]? = some fn) :
    false = Tryd.pinned.checked.prog.looks [] ∧ ∀ (j : Nat) t, fn.params[j]? = some t → Tryd.pinned.checked.prog.wantsStandIn t = false := by
  have e1 : Tryd.prog.funcNamed Rows.inboxWaitsRow.func = some 13 := by kernel_rfl
  obtain rfl : f = 13 := (Option.some.inj (e1.symm.trans hf)).symm
  obtain rfl : fn = Tryd.f13 := (Option.some.inj (Tryd.func13.symm.trans hfn)).symm
  refine ⟨by kernel_rfl, fun j t ht => ?_⟩
  rw [Tryd.params13] at ht
  have hs_entries : Tryd.prog.wantsStandIn 68 = false := by kernel_rfl
  have hs_call : Tryd.prog.wantsStandIn 72 = false := by kernel_rfl
  have hm := Array.mem_of_getElem? ht
  simp only [List.mem_toArray, List.mem_cons, List.not_mem_nil, or_false] at hm
  rcases hm with hm | hm | hm
  · rw [hm]; exact hs_entries
  · rw [hm]; exact hs_call
  · rw [hm]; exact hs_call
theorem card : Rows.InboxWaitsCardSaid :=
  Claim7.holds_tied_plain_at .later [] _ _ _ _ said (fun _ h => by cases h) (by kernel_rfl) (fun _ h => by cases h) inboxWaits_row_tie rfl ⟨rfl, rfl⟩ (by kernel_rfl) rfl plain (by kernel_rfl)
theorem proved : Rows.InboxWaitsCardSaid := card
end Go.Proofs.YtjeooegkfjlejaaDoor.inboxWaits
