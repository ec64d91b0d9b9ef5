/- CutFits: for every list of receipts and all rules the law returns true, and both read as before. No conditions. -/
import Derived.Test.YtncahgjmdeepeaaLawEnd
import Derived.Test.YtncahgjmdeepeaaCutLaw1
import Derived.Test.YtncahgjmdeepeaaCutOpen
import Derived.SizedLaws
import Derived.ChangeMaps5
namespace Go.Proofs.Ytncahgjmdeepeaa.cutFits
open Go.ChangeShapes Go.WideShapes Go.ChangeAt Go.RowKit
open Go.ChangeMaps (open_string)
set_option linter.unusedVariables false
set_option linter.unusedSimpArgs false

set_option maxRecDepth 100000 in
theorem lifted (os : Os) (started : os.Started) (H : Type) (enc : TypeId × Value → H) :
    ReturnsInHanded {} Try.checked os 3 .any (Rows.cutFitsSpec.pre6 enc Try.prog Try.f3 Rows.cutFitsRow.domain false) (Rows.cutFitsSpec.post enc Try.prog Try.f3 false true false false) := by
  refine returnsInHanded_of_change_sized (C := Try.checked) Try.own started (by kernel_rfl) Try.func3
    (ChangeSpec.witness6 (enc := enc) (C := Try.checked) false ⟨#[], #[.slice none 0 0, .agg #[.int .i64 0, .int .i64 0, .int .i64 0, .int .i64 0]], []⟩ 8 (by kernel_rfl) (by kernel_rfl) (by kernel_rfl) (by kernel_rfl)) ?_
  intro W base args ds gs before hval hW _ hsz _
  have hW' := hW
  have hlt := hW.lt
  obtain ⟨p, q, hA0, hV, rfl, hfz, hnd⟩ := hW
  have hA : DataW.TrodAll enc Try.prog W 0 (fun _ => true) true Try.f3.params.toList args.toList ds p := hA0
  have hval' : ∀ (j : Nat) t v, Try.f3.params[j]? = some t → args[j]? = some v → Value.okWide Try.prog W .any base t v := hval
  rw [Try.params3] at hA hval' hsz
  obtain ⟨v0, vs0, d0, ds0, p0, q0, hargs, rfl, rfl, h0, r0⟩ := trodAll_cons hA
  obtain ⟨v1, vs1, d1, ds1, p1, q1, rfl, rfl, rfl, h1, r1⟩ := trodAll_cons r0
  obtain ⟨rfl, rfl, rfl⟩ := trodAll_nil r1
  obtain rfl : args = #[v0, v1] := by cases args; simp_all
  obtain ⟨rfl, rfl⟩ := trodVars_none hV
  obtain ⟨A_l, c_l, l, rfl, r_l, z_l, k_l, m_l⟩ := open_rcs (hval' 0 22 v0 rfl rfl) h0 hsz (j := 0) rfl rfl
  obtain ⟨r, rfl⟩ := open_rules (hval' 1 24 v1 rfl rfl) h1
  refine (cutFitsLaw_any A_l c_l l r W r_l (by omega)).mono fun e W' ⟨he, hb⟩ => ⟨_, he, law_post rfl rfl (by rw [Try.params3]; decide) hW' hb rfl⟩

theorem over : Rows.cutFitsRow.holds Try.pinned (OpenSpec.ofChange Rows.cutFitsSpec) :=
  OpenClaim.holds_of_wide (p := Try.pinned) (s := Rows.cutFitsSpec) (c := Rows.cutFitsRow) 3 Try.f3 rfl rfl rfl rfl rfl rfl rfl ⟨rfl, rfl, rfl, rfl, rfl⟩ rfl rfl rfl rfl rfl (by kernel_rfl) Try.func3 (by kernel_rfl)
    (of_decide_eq_true (by kernel_rfl)) (by unfold Func.isWrapper; first | (rw [if_pos (by decide +kernel)]; kernel_rfl) | (rw [if_neg (by decide +kernel)]; exact ⟨rfl, rfl⟩))
    (fun os started H enc _ => lifted os started H enc)

theorem proved : Rows.CutFitsSaid := over
end Go.Proofs.Ytncahgjmdeepeaa.cutFits
