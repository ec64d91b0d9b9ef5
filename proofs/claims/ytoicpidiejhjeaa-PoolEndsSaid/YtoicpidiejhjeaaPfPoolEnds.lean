/- What is put comes out just once, or is taken out, or waits. -/
import Derived.Test.YtoicpidiejhjeaaSlD
import Derived.Test.YtoicpidiejhjeaaPlEnds
import Derived.Test.YtoicpidiejhjeaaPlOpen
import Derived.SizedLaws
import Derived.ChangeMaps5
namespace Go.Proofs.Ytoicpidiejhjeaa.poolEnds
open Go.ChangeShapes Go.WideShapes Go.ChangeAt Go.RowKit
open Go.ChangeMaps (open_string)
set_option linter.unusedVariables false

set_option maxRecDepth 100000 in
theorem lifted (os : Os) (started : os.Started) (H : Type) (enc : TypeId × Value → H) :
    ReturnsInHanded {} Try.checked os 5 .any (Rows.poolEndsSpec.pre6 enc Try.prog Try.f5 Rows.poolEndsRow.domain false) (Rows.poolEndsSpec.post enc Try.prog Try.f5 false true false false) := by
  refine returnsInHanded_of_change_sized (C := Try.checked) Try.own started (by kernel_rfl) Try.func5
    (ChangeSpec.witness6 (enc := enc) (C := Try.checked) false ⟨#[], #[.int .u8 0, .slice none 0 0], []⟩ 8 (by kernel_rfl) (by kernel_rfl) (by kernel_rfl) (by kernel_rfl)) ?_
  intro W base args ds gs before hval hW _ hsz _
  have hW' := hW
  have hlt := hW.lt
  obtain ⟨p, q, hA0, hV, rfl, hfz, hnd⟩ := hW
  have hA : DataW.TrodAll enc Try.prog W 0 (fun _ => true) true Try.f5.params.toList args.toList ds p := hA0
  have hval' : ∀ (j : Nat) t v, Try.f5.params[j]? = some t → args[j]? = some v → Value.okWide Try.prog W .any base t v := hval
  rw [Try.params5] at hA hval' hsz
  obtain ⟨v0, vs0, d0, ds0, p0, q0, hargs, rfl, rfl, h0, r0⟩ := trodAll_cons hA
  obtain ⟨v1, vs1, d1, ds1, p1, q1, rfl, rfl, rfl, h1, r1⟩ := trodAll_cons r0
  obtain ⟨rfl, rfl, rfl⟩ := trodAll_nil r1
  obtain rfl : args = #[v0, v1] := by cases args; simp_all
  obtain ⟨rfl, rfl⟩ := trodVars_none hV
  obtain ⟨z, rfl, rfl, rfl, w_z⟩ := open_int Try.underlying5 (hval' 0 5 v0 rfl rfl) h0
  have b_z := bounds_u8 w_z
  obtain ⟨A_l, c_l, l, rfl, q_l, k_l⟩ := open_Come18s (hval' 1 52 v1 rfl rfl) h1 hsz (j := 1) rfl rfl
  refine (poolEnds_any z b_z l A_l c_l W k_l).mono fun e W' ⟨he, hb⟩ => ⟨_, he, law_post rfl rfl (by rw [Try.params5]; decide) hW' hb rfl⟩

theorem over : Rows.poolEndsRow.holds Try.pinned (OpenSpec.ofChange Rows.poolEndsSpec) :=
  OpenClaim.holds_of_wide (p := Try.pinned) (s := Rows.poolEndsSpec) (c := Rows.poolEndsRow) 5 Try.f5 rfl rfl rfl rfl rfl rfl rfl ⟨rfl, rfl, rfl, rfl, rfl⟩ rfl rfl rfl rfl rfl (by kernel_rfl) Try.func5 (by kernel_rfl)
    (of_decide_eq_true (by kernel_rfl)) (by unfold Func.isWrapper; first | (rw [if_pos (by decide +kernel)]; kernel_rfl) | (rw [if_neg (by decide +kernel)]; exact ⟨rfl, rfl⟩))
    (fun os started H enc _ => lifted os started H enc)

theorem proved : Rows.PoolEndsSaid := over
end Go.Proofs.Ytoicpidiejhjeaa.poolEnds
