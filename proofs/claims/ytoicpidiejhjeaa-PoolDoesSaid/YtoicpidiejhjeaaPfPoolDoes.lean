/- Every call of a pool is answered as the document says. -/
import Derived.Test.YtoicpidiejhjeaaSlD
import Derived.Test.YtoicpidiejhjeaaPlDoesJ
import Derived.SizedLaws
import Derived.ChangeMaps5
namespace Go.Proofs.Ytoicpidiejhjeaa.poolDoes
open Go.ChangeShapes Go.WideShapes Go.ChangeAt Go.RowKit
open Go.ChangeMaps (open_string)
set_option linter.unusedVariables false

set_option maxRecDepth 100000 in
theorem lifted (os : Os) (started : os.Started) (H : Type) (enc : TypeId × Value → H) :
    ReturnsInHanded {} Try.checked os 3 .any (Rows.poolDoesSpec.pre6 enc Try.prog Try.f3 Rows.poolDoesRow.domain false) (Rows.poolDoesSpec.post enc Try.prog Try.f3 false true false false) := by
  refine returnsInHanded_of_change_sized (C := Try.checked) Try.own started (by kernel_rfl) Try.func3
    (ChangeSpec.witness6 (enc := enc) (C := Try.checked) false ⟨#[], #[.int .i64 0, .slice none 0 0, .slice none 0 0], []⟩ 8 (by kernel_rfl) (by kernel_rfl) (by kernel_rfl) (by kernel_rfl)) ?_
  intro W base args ds gs before hval hW _ hsz _
  have hW' := hW
  have hlt := hW.lt
  obtain ⟨p, q, hA0, hV, rfl, hfz, hnd⟩ := hW
  have hA : DataW.TrodAll enc Try.prog W 0 (fun _ => true) true Try.f3.params.toList args.toList ds p := hA0
  have hval' : ∀ (j : Nat) t v, Try.f3.params[j]? = some t → args[j]? = some v → Value.okWide Try.prog W .any base t v := hval
  rw [Try.params3] at hA hval' hsz
  obtain ⟨v0, vs0, d0, ds0, p0, q0, hargs, rfl, rfl, h0, r0⟩ := trodAll_cons hA
  obtain ⟨v1, vs1, d1, ds1, p1, q1, rfl, rfl, rfl, h1, r1⟩ := trodAll_cons r0
  obtain ⟨v2, vs2, d2, ds2, p2, q2, rfl, rfl, rfl, h2, r2⟩ := trodAll_cons r1
  obtain ⟨rfl, rfl, rfl⟩ := trodAll_nil r2
  obtain rfl : args = #[v0, v1, v2] := by cases args; simp_all
  obtain ⟨rfl, rfl⟩ := trodVars_none hV
  obtain ⟨size, rfl, rfl, rfl, w_size⟩ := open_int Try.underlying3 (hval' 0 3 v0 rfl rfl) h0
  have b_size := bounds_i64 w_size
  obtain ⟨A_l, c_l, l, rfl, q_l, k_l⟩ := open_Act18s (hval' 1 22 v1 rfl rfl) h1 hsz (j := 1) rfl rfl
  obtain ⟨A_zs, c_zs, zs, rfl, k_zs⟩ := open_ints18 (hval' 2 23 v2 rfl rfl) h2
  refine (poolDoes_any size l A_l c_l zs A_zs c_zs W k_l k_zs).mono fun e W' ⟨he, hb⟩ => ⟨_, he, law_post rfl rfl (by rw [Try.params3]; decide) hW' hb rfl⟩

theorem over : Rows.poolDoesRow.holds Try.pinned (OpenSpec.ofChange Rows.poolDoesSpec) :=
  OpenClaim.holds_of_wide (p := Try.pinned) (s := Rows.poolDoesSpec) (c := Rows.poolDoesRow) 3 Try.f3 rfl rfl rfl rfl rfl rfl rfl ⟨rfl, rfl, rfl, rfl, rfl⟩ rfl rfl rfl rfl rfl (by kernel_rfl) Try.func3 (by kernel_rfl)
    (of_decide_eq_true (by kernel_rfl)) (by unfold Func.isWrapper; first | (rw [if_pos (by decide +kernel)]; kernel_rfl) | (rw [if_neg (by decide +kernel)]; exact ⟨rfl, rfl⟩))
    (fun os started H enc _ => lifted os started H enc)

theorem proved : Rows.PoolDoesSaid := over
end Go.Proofs.Ytoicpidiejhjeaa.poolDoes
