/- CratePacks: for every string the law returns true, and the string reads as before. No conditions. -/
import Derived.Test.YtmcdanodacbpbaaLawEnd
import Derived.Test.YtmcdanodacbpbaaCrLaw
import Derived.SizedLaws
import Derived.ChangeMaps5
namespace Go.Proofs.Ytmcdanodacbpbaa.cratePacks
open Go.ChangeShapes Go.WideShapes Go.ChangeAt Go.RowKit
open Go.ChangeMaps (open_string)
set_option linter.unusedVariables false

set_option maxRecDepth 100000 in
theorem lifted (os : Os) (started : os.Started) (H : Type) (enc : TypeId × Value → H) :
    ReturnsInHanded {} Try.checked os 3 .any (Rows.cratePacksSpec.pre6 enc Try.prog Try.f3 Rows.cratePacksRow.domain false) (Rows.cratePacksSpec.post enc Try.prog Try.f3 false true false false) := by
  refine returnsInHanded_of_change_sized (C := Try.checked) Try.own started (by kernel_rfl) Try.func3
    (ChangeSpec.witness6 (enc := enc) (C := Try.checked) false ⟨#[], #[.string ⟨#[]⟩], []⟩ 8 (by kernel_rfl) (by kernel_rfl) (by kernel_rfl) (by kernel_rfl)) ?_
  intro W base args ds gs before hval hW _ hsz _
  have hW' := hW
  have hlt := hW.lt
  obtain ⟨p, q, hA0, hV, rfl, hfz, hnd⟩ := hW
  have hA : DataW.TrodAll enc Try.prog W 0 (fun _ => true) true Try.f3.params.toList args.toList ds p := hA0
  have hval' : ∀ (j : Nat) t v, Try.f3.params[j]? = some t → args[j]? = some v → Value.okWide Try.prog W .any base t v := hval
  rw [Try.params3] at hA hval' hsz
  obtain ⟨v0, vs0, d0, ds0, p0, q0, hargs, rfl, rfl, h0, r0⟩ := trodAll_cons hA
  obtain ⟨rfl, rfl, rfl⟩ := trodAll_nil r0
  obtain rfl : args = #[v0] := by cases args; simp_all
  obtain ⟨rfl, rfl⟩ := trodVars_none hV
  obtain ⟨s, rfl, rfl, rfl, s_s⟩ := open_string Try.underlying9 (hval' 0 9 v0 rfl rfl) h0
  have z_s : s.size ≤ 140737488351232 := sized_string hsz (j := 0) (t := 9) (bytes := s.data.toList) rfl rfl
  refine (cratePacks_any s W z_s).mono fun e W' ⟨he, hb⟩ => ⟨_, he, law_post rfl rfl (by rw [Try.params3]; decide) hW' hb rfl⟩

theorem over : Rows.cratePacksRow.holds Try.pinned (OpenSpec.ofChange Rows.cratePacksSpec) :=
  OpenClaim.holds_of_wide (p := Try.pinned) (s := Rows.cratePacksSpec) (c := Rows.cratePacksRow) 3 Try.f3 rfl rfl rfl rfl rfl rfl rfl ⟨rfl, rfl, rfl, rfl, rfl⟩ rfl rfl rfl rfl rfl (by kernel_rfl) Try.func3 (by kernel_rfl)
    (of_decide_eq_true (by kernel_rfl)) (by unfold Func.isWrapper; first | (rw [if_pos (by decide +kernel)]; kernel_rfl) | (rw [if_neg (by decide +kernel)]; exact ⟨rfl, rfl⟩))
    (fun os started H enc _ => lifted os started H enc)

theorem proved : Rows.CratePacksSaid := over
end Go.Proofs.Ytmcdanodacbpbaa.cratePacks
