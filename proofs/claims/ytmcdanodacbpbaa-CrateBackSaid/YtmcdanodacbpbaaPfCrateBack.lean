/- CrateBack: for every string and every int the law returns true, and both read as before. No conditions. -/
import Derived.Test.YtmcdanodacbpbaaLawEnd
import Derived.Test.YtmcdanodacbpbaaCrLaw
import Derived.SizedLaws
import Derived.ChangeMaps5
namespace Go.Proofs.Ytmcdanodacbpbaa.crateBack
open Go.ChangeShapes Go.WideShapes Go.ChangeAt Go.RowKit
open Go.ChangeMaps (open_string)
set_option linter.unusedVariables false

set_option maxRecDepth 100000 in
theorem lifted (os : Os) (started : os.Started) (H : Type) (enc : TypeId × Value → H) :
    ReturnsInHanded {} Try.checked os 5 .any (Rows.crateBackSpec.pre6 enc Try.prog Try.f5 Rows.crateBackRow.domain false) (Rows.crateBackSpec.post enc Try.prog Try.f5 false true false false) := by
  refine returnsInHanded_of_change_sized (C := Try.checked) Try.own started (by kernel_rfl) Try.func5
    (ChangeSpec.witness6 (enc := enc) (C := Try.checked) false ⟨#[], #[.string ⟨#[]⟩, .int .i64 0], []⟩ 8 (by kernel_rfl) (by kernel_rfl) (by kernel_rfl) (by kernel_rfl)) ?_
  intro W base args ds gs before hval hW _ hsz _
  have hW' := hW
  have hlt := hW.lt
  obtain ⟨p, q, hA0, hV, rfl, hfz, hnd⟩ := hW
  have hA : DataW.TrodAll enc Try.prog W 0 (fun _ => true) true Try.f5.params.toList args.toList ds p := hA0
  have hval' : ∀ (j : Nat) t v, Try.f5.params[j]? = some t → args[j]? = some v → Value.okWide Try.prog W .any base t v := hval
  rw [Try.params5] at hA hval' hsz
  obtain ⟨v0, vs0, d0, ds0, p0, q0, hargs, rfl, rfl, h0, r0⟩ := trodAll_cons hA
  obtain ⟨v1, vs1, d1, ds1, p1, q1, rfl, rfl, rfl, h1, r1⟩ := trodAll_cons r0
  obtain ⟨rfl, rfl, rfl⟩ := trodAll_nil r1
  obtain rfl : args = #[v0, v1] := by cases args; simp_all
  obtain ⟨rfl, rfl⟩ := trodVars_none hV
  obtain ⟨s, rfl, rfl, rfl, s_s⟩ := open_string Try.underlying9 (hval' 0 9 v0 rfl rfl) h0
  have z_s : s.size ≤ 140737488351232 := sized_string hsz (j := 0) (t := 9) (bytes := s.data.toList) rfl rfl
  obtain ⟨less, rfl, rfl, rfl, w_less⟩ := open_int Try.underlying3 (hval' 1 3 v1 rfl rfl) h1
  have b_less := bounds_i64 w_less
  refine (crateBack_any s less W z_s b_less.1 b_less.2).mono fun e W' ⟨he, hb⟩ => ⟨_, he, law_post rfl rfl (by rw [Try.params5]; decide) hW' hb rfl⟩

theorem over : Rows.crateBackRow.holds Try.pinned (OpenSpec.ofChange Rows.crateBackSpec) :=
  OpenClaim.holds_of_wide (p := Try.pinned) (s := Rows.crateBackSpec) (c := Rows.crateBackRow) 5 Try.f5 rfl rfl rfl rfl rfl rfl rfl ⟨rfl, rfl, rfl, rfl, rfl⟩ rfl rfl rfl rfl rfl (by kernel_rfl) Try.func5 (by kernel_rfl)
    (of_decide_eq_true (by kernel_rfl)) (by unfold Func.isWrapper; first | (rw [if_pos (by decide +kernel)]; kernel_rfl) | (rw [if_neg (by decide +kernel)]; exact ⟨rfl, rfl⟩))
    (fun os started H enc _ => lifted os started H enc)

theorem proved : Rows.CrateBackSaid := over
end Go.Proofs.Ytmcdanodacbpbaa.crateBack
