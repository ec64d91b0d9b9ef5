/- CrateOpens: for every string and every int the law returns true, and both read as before. No conditions. -/
import Derived.Test.YtmcdanodacbpbaaLawEnd
import Derived.Test.YtmcdanodacbpbaaCrLaw
import Derived.SizedLaws
import Derived.ChangeMaps5
namespace Go.Proofs.Ytmcdanodacbpbaa.crateOpens
open Go.ChangeShapes Go.WideShapes Go.ChangeAt Go.RowKit
open Go.ChangeMaps (open_string)
set_option linter.unusedVariables false

set_option maxRecDepth 100000 in
theorem lifted (os : Os) (started : os.Started) (H : Type) (enc : TypeId × Value → H) :
    ReturnsInHanded {} Try.checked os 4 .any (Rows.crateOpensSpec.pre6 enc Try.prog Try.f4 Rows.crateOpensRow.domain false) (Rows.crateOpensSpec.post enc Try.prog Try.f4 false true false false) := by
  refine returnsInHanded_of_change_sized (C := Try.checked) Try.own started (by kernel_rfl) Try.func4
    (ChangeSpec.witness6 (enc := enc) (C := Try.checked) false ⟨#[], #[.string ⟨#[]⟩, .int .i64 0], []⟩ 8 (by kernel_rfl) (by kernel_rfl) (by kernel_rfl) (by kernel_rfl)) ?_
  intro W base args ds gs before hval hW _ hsz _
  have hW' := hW
  have hlt := hW.lt
  obtain ⟨p, q, hA0, hV, rfl, hfz, hnd⟩ := hW
  have hA : DataW.TrodAll enc Try.prog W 0 (fun _ => true) true Try.f4.params.toList args.toList ds p := hA0
  have hval' : ∀ (j : Nat) t v, Try.f4.params[j]? = some t → args[j]? = some v → Value.okWide Try.prog W .any base t v := hval
  rw [Try.params4] at hA hval' hsz
  obtain ⟨v0, vs0, d0, ds0, p0, q0, hargs, rfl, rfl, h0, r0⟩ := trodAll_cons hA
  obtain ⟨v1, vs1, d1, ds1, p1, q1, rfl, rfl, rfl, h1, r1⟩ := trodAll_cons r0
  obtain ⟨rfl, rfl, rfl⟩ := trodAll_nil r1
  obtain rfl : args = #[v0, v1] := by cases args; simp_all
  obtain ⟨rfl, rfl⟩ := trodVars_none hV
  obtain ⟨s, rfl, rfl, rfl, s_s⟩ := open_string Try.underlying9 (hval' 0 9 v0 rfl rfl) h0
  have z_s : s.size ≤ 140737488351232 := sized_string hsz (j := 0) (t := 9) (bytes := s.data.toList) rfl rfl
  obtain ⟨most, rfl, rfl, rfl, w_most⟩ := open_int Try.underlying3 (hval' 1 3 v1 rfl rfl) h1
  have b_most := bounds_i64 w_most
  refine (crateOpens_any s most W z_s).mono fun e W' ⟨he, hb⟩ => ⟨_, he, law_post rfl rfl (by rw [Try.params4]; decide) hW' hb rfl⟩

theorem over : Rows.crateOpensRow.holds Try.pinned (OpenSpec.ofChange Rows.crateOpensSpec) :=
  OpenClaim.holds_of_wide (p := Try.pinned) (s := Rows.crateOpensSpec) (c := Rows.crateOpensRow) 4 Try.f4 rfl rfl rfl rfl rfl rfl rfl ⟨rfl, rfl, rfl, rfl, rfl⟩ rfl rfl rfl rfl rfl (by kernel_rfl) Try.func4 (by kernel_rfl)
    (of_decide_eq_true (by kernel_rfl)) (by unfold Func.isWrapper; first | (rw [if_pos (by decide +kernel)]; kernel_rfl) | (rw [if_neg (by decide +kernel)]; exact ⟨rfl, rfl⟩))
    (fun os started H enc _ => lifted os started H enc)

theorem proved : Rows.CrateOpensSaid := over
end Go.Proofs.Ytmcdanodacbpbaa.crateOpens
