/- PostAgain: for every uint8, uint16 and uint8 the law returns true, and all three read as before. No conditions. -/
import Derived.Test.YtedncgidjllapaaLawEnd
import Derived.Test.YtedncgidjllapaaPostAgain
import Derived.Test.YtedncgidjllapaaPostOpen
import Derived.SizedLaws
import Derived.ChangeMaps5
namespace Go.Proofs.Ytedncgidjllapaa.postAgain
open Go.ChangeShapes Go.WideShapes Go.ChangeAt Go.RowKit
open Go.ChangeMaps (open_string)
set_option linter.unusedVariables false

set_option maxRecDepth 100000 in
theorem lifted (os : Os) (started : os.Started) (H : Type) (enc : TypeId × Value → H) :
    ReturnsInHanded {} Try.checked os 4 .any (Rows.postAgainSpec.pre6 enc Try.prog Try.f4 Rows.postAgainRow.domain false) (Rows.postAgainSpec.post enc Try.prog Try.f4 false true false false) := by
  refine returnsInHanded_of_change_sized (C := Try.checked) Try.own started (by kernel_rfl) Try.func4
    (ChangeSpec.witness6 (enc := enc) (C := Try.checked) false ⟨#[], #[.int .u8 0, .int .u16 0, .int .u8 0], []⟩ 8 (by kernel_rfl) (by kernel_rfl) (by kernel_rfl) (by kernel_rfl)) ?_
  intro W base args ds gs before hval hW _ hsz _
  have hW' := hW
  have hlt := hW.lt
  obtain ⟨p, q, hA0, hV, rfl, hfz, hnd⟩ := hW
  have hA : DataW.TrodAll enc Try.prog W 0 (fun _ => true) true Try.f4.params.toList args.toList ds p := hA0
  have hval' : ∀ (j : Nat) t v, Try.f4.params[j]? = some t → args[j]? = some v → Value.okWide Try.prog W .any base t v := hval
  rw [Try.params4] at hA hval' hsz
  obtain ⟨v0, vs0, d0, ds0, p0, q0, hargs, rfl, rfl, h0, r0⟩ := trodAll_cons hA
  obtain ⟨v1, vs1, d1, ds1, p1, q1, rfl, rfl, rfl, h1, r1⟩ := trodAll_cons r0
  obtain ⟨v2, vs2, d2, ds2, p2, q2, rfl, rfl, rfl, h2, r2⟩ := trodAll_cons r1
  obtain ⟨rfl, rfl, rfl⟩ := trodAll_nil r2
  obtain rfl : args = #[v0, v1, v2] := by cases args; simp_all
  obtain ⟨rfl, rfl⟩ := trodVars_none hV
  obtain ⟨pa, rfl, rfl, rfl, w_pa⟩ := open_int Try.underlying5 (hval' 0 5 v0 rfl rfl) h0
  have b_pa := bounds_u8 w_pa
  obtain ⟨hi, rfl, rfl, rfl, w_hi⟩ := open_int Try.underlying33 (hval' 1 33 v1 rfl rfl) h1
  have b_hi := bounds_u16_ w_hi
  obtain ⟨la, rfl, rfl, rfl, w_la⟩ := open_int Try.underlying5 (hval' 2 5 v2 rfl rfl) h2
  have b_la := bounds_u8 w_la
  refine (postAgain_any pa hi la W (by omega) (by omega) (by omega) (by omega) (by omega) (by omega)).mono fun e W' ⟨he, hb⟩ => ⟨_, he, law_post rfl rfl (by rw [Try.params4]; decide) hW' hb rfl⟩

theorem over : Rows.postAgainRow.holds Try.pinned (OpenSpec.ofChange Rows.postAgainSpec) :=
  OpenClaim.holds_of_wide (p := Try.pinned) (s := Rows.postAgainSpec) (c := Rows.postAgainRow) 4 Try.f4 rfl rfl rfl rfl rfl rfl rfl ⟨rfl, rfl, rfl, rfl, rfl⟩ rfl rfl rfl rfl rfl (by kernel_rfl) Try.func4 (by kernel_rfl)
    (of_decide_eq_true (by kernel_rfl)) (by unfold Func.isWrapper; first | (rw [if_pos (by decide +kernel)]; kernel_rfl) | (rw [if_neg (by decide +kernel)]; exact ⟨rfl, rfl⟩))
    (fun os started H enc _ => lifted os started H enc)

theorem proved : Rows.PostAgainSaid := over
end Go.Proofs.Ytedncgidjllapaa.postAgain
