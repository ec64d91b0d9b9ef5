/- The law DigestSums: what its function returns. -/
import Derived.Test.YtdifbndpgbdkbaaDoorShaAwk
import Derived.Test.YtdifbndpgbdkbaaDoorShaRef4
namespace Go.Proofs.YtdifbndpgbdkbaaDoor
open Go.RowKit
set_option linter.unusedVariables false
set_option linter.unusedSimpArgs false

theorem sums_any (hRS : RefSum) (s : ByteArray) (w : World) (hT : Tab w) (hs : s.size ≤ 140737488355000) :
    Calls Tryd.prog 3 #[.string s] w fun e w' => e = .returned (.bool true) ∧ Below w.heap.size w w' := by
  have HT := Lib.hid hT
  have hpos := hT.pos
  have HRS := Lib.hid hRS
  obtain ⟨R, hR⟩ : ∃ R, R = Sha.sum s.data.toList := ⟨_, rfl⟩
  have hR32 : R.length = 32 := by rw [hR, Sha.sum_len]
  have heq : ∀ W, (Op.equalIn 10000 24 (.agg (bRow R)) (.agg (bRow R))).run Tryd.prog W = .ok true W := fun W => (hash_eq W R R hR32 hR32).trans (by rw [decide_eq_true rfl])
  have HR := Lib.hid hR
  clear hT hRS hR hR32
  go_enter Tryd.func3, Tryd.ntmps3
  go_wp2_with fail
  refine (awake_any w HT.out).mono ?_
  rintro e w1 ⟨rfl, hb1⟩
  go_wp2_with fail
  refine (sum_any s w1 (HT.out.below hb1 hpos) (by omega)).mono ?_
  rw [← HR.out]
  rintro e w2 ⟨rfl, hb2⟩
  have hb2 := hb1.trans (hb2.mono hb1.size)
  go_wp2_with fail
  refine (HRS.out s w2 hs).mono ?_
  rw [← HR.out]
  rintro e w3 ⟨rfl, hb3⟩
  have hb3 := hb2.trans (hb3.mono hb2.size)
  go_wp2_with fail
  go_ret
  exact ⟨rfl, hb3⟩
end Go.Proofs.YtdifbndpgbdkbaaDoor
