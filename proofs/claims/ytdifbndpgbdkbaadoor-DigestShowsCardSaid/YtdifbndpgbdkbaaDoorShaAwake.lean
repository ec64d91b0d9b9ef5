/- What awake asks: digest.path and digest.Proves in a list of one. -/
import Derived.Test.YtdifbndpgbdkbaaDoorShaRoot
import Derived.Test.YtdifbndpgbdkbaaDoorHashEq
namespace Go.Proofs.YtdifbndpgbdkbaaDoor
open Go.RowKit
set_option linter.unusedVariables false
set_option linter.unusedSimpArgs false

theorem path_one (w : World) :
    Calls Tryd.prog 46 #[.int .i64 1, .int .i64 0] w fun e w' => e = .returned (.slice none 0 0) ∧ w' = w := by
  go_enter Tryd.func46, Tryd.ntmps46
  go_wp2_with fail
  go_loopw [0, 5] (fun i v wr => i = .int .i64 1 ∧ v = .slice none 0 0 ∧ wr = w) (fun _ _ _ => 0)
  case atStart => exact ⟨rfl, rfl, rfl⟩
  case round =>
    obtain ⟨rfl, rfl, rfl⟩ := hrel
    go_wp2_with fail
    go_ret
    exact ⟨rfl, rfl⟩
set_option maxHeartbeats 1000000 in
set_option maxRecDepth 100000 in
theorem proves_one (w : World) (l R : List UInt8) (hT : Tab w) (hR : R = Sha.sum (0 :: l)) (hl : l.length ≤ 1152921504606846000) :
    Calls Tryd.prog 24 #[.agg (bRow R), .int .i64 1, .int .i64 0, S l, .slice none 0 0] w fun e w' => e = .returned (.bool true) ∧ Below w.heap.size w w' := by
  have HT := Lib.hid hT
  have hpos := hT.pos
  have hbig : ¬ (9223372036854775807 < 1 + l.length) := by omega
  have HR := Lib.hid hR
  clear hT hR
  go_enter Tryd.func24, Tryd.ntmps24
  go_wp2_with fail
  refine calls_named ?_
  intro w1 hw1
  have hP : Holds w1 w.heap.size (bRow R) := by rw [hw1]; exact Holds.new _ _ _
  have hb1 : Below w.heap.size w w1 := by rw [hw1]; exact (Below.refl _ _).alloc (Nat.le_refl _) _
  clear hw1
  refine (path_one w1).mono ?_
  rintro e w2 ⟨rfl, rfl⟩
  have HP := Lib.hid hP
  clear hP
  go_wp2_with fail
  have hsz : ((⟨#[0]⟩ : ByteArray) ++ (⟨l.toArray⟩ : ByteArray)).size = 1 + l.length := by
    rw [ByteArray.size_append]; rfl
  have hdl : ((⟨#[0]⟩ : ByteArray) ++ (⟨l.toArray⟩ : ByteArray)).data.toList = 0 :: l := by rw [ByteArray.data_append]; simp
  have hc := sum_any ((⟨#[0]⟩ : ByteArray) ++ (⟨l.toArray⟩ : ByteArray)) w2 (HT.out.below hb1 hpos) (by rw [hsz]; omega)
  rw [hdl, ← HR.out] at hc
  refine hc.mono ?_
  rintro e w3 ⟨rfl, hb3⟩
  have hR32 : R.length = 32 := by rw [HR.out, Sha.sum_len]
  have hz := bRow_size R (by omega)
  have i24 : (Tryd.prog.info? 24).map (·.size) = some 32 := by kernel_rfl
  have I24 := Lib.hid (i24.trans (congrArg some hz.symm))
  have hP3 := HP.out.below hb3 HP.out.lt
  have hb30 := hb1.trans (hb3.mono hb1.size)
  have Hold := Lib.hid ((bRow_size [] (by simp)).trans hz.symm)
  have heq : ∀ W, (Op.equalIn 10000 24 (.agg (bRow R)) (.agg (bRow R))).run Tryd.prog W = .ok true W := fun W => (hash_eq W R R hR32 hR32).trans (by rw [decide_eq_true rfl])
  clear hc hdl hsz hz i24 hR32
  go_wp2_with (refine wpList_store_named rfl 24 (.tmp 12) (.tmp 32) rfl w3.heap.size (bRow R) rfl rfl (bRow []) (Holds.new2 rfl rfl) I24.out Hold.out (bRow_one _) ?_; intro w5 hw5; have Hw5 := Lib.hid hw5; clear hw5)
  have hO : Holds w5 w3.heap.size (bRow R) := by rw [Hw5.out]; exact (Holds.new _ _ _).row _
  have hP5 : Holds w5 w.heap.size (bRow R) := by rw [Hw5.out]; exact (hP3.alloc _).rowFar (by have := hP3.lt; omega) _
  have hb5 : Below w.heap.size w w5 := by rw [Hw5.out]; exact below_setRow (hb30.alloc hb30.size _) hb30.size _
  clear Hw5 hP3
  go_loopw [35] (fun i wr => i = .int .i64 0 ∧ wr = w5) (fun _ _ => 0)
  case atStart => exact ⟨rfl, rfl⟩
  case round =>
    obtain ⟨rfl, rfl⟩ := hrel
    obtain ⟨T1, hT1⟩ := hO
    obtain ⟨T2, hT2⟩ := hP5
    go_wp2_with (first
      | (refine wpList_load_row rfl 24 (.tmp 12) rfl w3.heap.size rfl T1 _ (0, 0) _ hT1 Tryd.underlying24 rfl I24.out ?_)
      | (refine wpList_load_row rfl 24 (.tmp 5) rfl w.heap.size rfl T2 _ (0, 0) _ hT2 Tryd.underlying24 rfl I24.out ?_))
    go_ret
    exact ⟨rfl, hb5⟩
end Go.Proofs.YtdifbndpgbdkbaaDoor
