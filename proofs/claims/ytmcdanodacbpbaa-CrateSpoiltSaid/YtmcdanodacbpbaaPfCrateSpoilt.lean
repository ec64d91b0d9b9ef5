/- CrateSpoilt: for every string, every int and every uint8 the law returns true, and all read as before. No conditions. -/
import Derived.Test.YtmcdanodacbpbaaLawEnd
import Derived.Test.YtmcdanodacbpbaaCrLaw
import Derived.SizedLaws
import Derived.ChangeMaps5
namespace Go.Proofs.Ytmcdanodacbpbaa.crateSpoilt
open Go.ChangeShapes Go.WideShapes Go.ChangeAt Go.RowKit
open Go.ChangeMaps (open_string)
set_option linter.unusedVariables false

set_option maxRecDepth 100000 in
theorem lifted (os : Os) (started : os.Started) (H : Type) (enc : TypeId × Value → H) :
    ReturnsInHanded {} Try.checked os 7 .any (Rows.crateSpoiltSpec.pre6 enc Try.prog Try.f7 Rows.crateSpoiltRow.domain false) (Rows.crateSpoiltSpec.post enc Try.prog Try.f7 false true false false) := by
  refine returnsInHanded_of_change_sized (C := Try.checked) Try.own started (by kernel_rfl) Try.func7
    (ChangeSpec.witness6 (enc := enc) (C := Try.checked) false ⟨#[], #[.string ⟨#[]⟩, .int .i64 0, .int .u8 0], []⟩ 8 (by kernel_rfl) (by kernel_rfl) (by kernel_rfl) (by kernel_rfl)) ?_
  intro W base args ds gs before hval hW _ hsz _
  have hW' := hW
  have hlt := hW.lt
  obtain ⟨p, q, hA0, hV, rfl, hfz, hnd⟩ := hW
  have hA : DataW.TrodAll enc Try.prog W 0 (fun _ => true) true Try.f7.params.toList args.toList ds p := hA0
  have hval' : ∀ (j : Nat) t v, Try.f7.params[j]? = some t → args[j]? = some v → Value.okWide Try.prog W .any base t v := hval
  rw [Try.params7] at hA hval' hsz
  obtain ⟨v0, vs0, d0, ds0, p0, q0, hargs, rfl, rfl, h0, r0⟩ := trodAll_cons hA
  obtain ⟨v1, vs1, d1, ds1, p1, q1, rfl, rfl, rfl, h1, r1⟩ := trodAll_cons r0
  obtain ⟨v2, vs2, d2, ds2, p2, q2, rfl, rfl, rfl, h2, r2⟩ := trodAll_cons r1
  obtain ⟨rfl, rfl, rfl⟩ := trodAll_nil r2
  obtain rfl : args = #[v0, v1, v2] := by cases args; simp_all
  obtain ⟨rfl, rfl⟩ := trodVars_none hV
  obtain ⟨s, rfl, rfl, rfl, s_s⟩ := open_string Try.underlying9 (hval' 0 9 v0 rfl rfl) h0
  have z_s : s.size ≤ 140737488351232 := sized_string hsz (j := 0) (t := 9) (bytes := s.data.toList) rfl rfl
  obtain ⟨at_, rfl, rfl, rfl, w_at_⟩ := open_int Try.underlying3 (hval' 1 3 v1 rfl rfl) h1
  have b_at_ := bounds_i64 w_at_
  obtain ⟨n, rfl, rfl, rfl, w_n⟩ := open_int Try.underlying5 (hval' 2 5 v2 rfl rfl) h2
  have b_n := bounds_u8 w_n
  refine (crateSpoilt_int s at_ n W z_s b_n.1 b_n.2 b_at_.1 b_at_.2).mono fun e W' ⟨he, hb⟩ => ⟨_, he, law_post rfl rfl (by rw [Try.params7]; decide) hW' hb rfl⟩

theorem over : Rows.crateSpoiltRow.holds Try.pinned (OpenSpec.ofChange Rows.crateSpoiltSpec) :=
  OpenClaim.holds_of_wide (p := Try.pinned) (s := Rows.crateSpoiltSpec) (c := Rows.crateSpoiltRow) 7 Try.f7 rfl rfl rfl rfl rfl rfl rfl ⟨rfl, rfl, rfl, rfl, rfl⟩ rfl rfl rfl rfl rfl (by kernel_rfl) Try.func7 (by kernel_rfl)
    (of_decide_eq_true (by kernel_rfl)) (by unfold Func.isWrapper; first | (rw [if_pos (by decide +kernel)]; kernel_rfl) | (rw [if_neg (by decide +kernel)]; exact ⟨rfl, rfl⟩))
    (fun os started H enc _ => lifted os started H enc)

theorem proved : Rows.CrateSpoiltSaid := over
end Go.Proofs.Ytmcdanodacbpbaa.crateSpoilt
