/- cavalcadelaw02.awake: what it returns. -/
import Derived.Test.YtdifbndpgbdkbaaDoorShaAwake
namespace Go.Proofs.YtdifbndpgbdkbaaDoor
open Go.RowKit
set_option linter.unusedVariables false
set_option linter.unusedSimpArgs false

theorem abc_0 : (Sha.sum [97, 98, 99]).getD 0 0 = 186 := by decide +kernel
theorem abc_1 : (Sha.sum [97, 98, 99]).getD 1 0 = 120 := by decide +kernel
theorem abc_31 : (Sha.sum [97, 98, 99]).getD 31 0 = 173 := by decide +kernel
theorem row_byte (R : List UInt8) (hR : R.length = 32) (i : Nat) (hi : i < 32) : (bRow R)[i]? = some (.int .u8 ((R.getD i 0).toNat : Int)) := by
  rw [bRow_yRow R hR, yRow_at R i (by omega)]
  congr 2
  simp [List.getD, show i < R.length by omega]
set_option maxHeartbeats 1000000 in
set_option maxRecDepth 100000 in
theorem awake_any (w : World) (hT : Tab w) :
    Calls Tryd.prog 13 #[] w fun e w' => e = .returned (.bool true) ∧ Below w.heap.size w w' := by
  have HT := Lib.hid hT
  have hpos := hT.pos
  obtain ⟨R, hR⟩ : ∃ R, R = Sha.sum [97, 98, 99] := ⟨_, rfl⟩
  have hR32 : R.length = 32 := by rw [hR, Sha.sum_len]
  have r0 := row_byte R hR32 0 (by omega)
  have r1 := row_byte R hR32 1 (by omega)
  have r31 := row_byte R hR32 31 (by omega)
  rw [hR, abc_0, ← hR] at r0
  rw [hR, abc_1, ← hR] at r1
  rw [hR, abc_31, ← hR] at r31
  have R0 := Lib.hid r0
  have R1 := Lib.hid r1
  have R31 := Lib.hid r31
  have hz := bRow_size R (by omega)
  have i24 : (Tryd.prog.info? 24).map (·.size) = some 32 := by kernel_rfl
  have I24 := Lib.hid (i24.trans (congrArg some hz.symm))
  have Hold := Lib.hid ((bRow_size [] (by simp)).trans hz.symm)
  have hsum := sum_any ⟨#[97, 98, 99]⟩ w hT (by decide)
  change Calls _ _ _ _ (fun e w' => e = .returned (.agg (bRow (Sha.sum [97, 98, 99]))) ∧ _) at hsum
  rw [← hR] at hsum
  have Hsum := Lib.hid hsum
  clear hT r0 r1 r31 hz i24 hR hsum hR32
  go_enter Tryd.func13, Tryd.ntmps13
  go_wp2_with fail
  refine Hsum.out.mono ?_
  rintro e w1 ⟨rfl, hb1⟩
  go_wp2_with (refine wpList_store_named rfl 24 (.tmp 1) (.tmp 2) rfl w1.heap.size (bRow R) rfl rfl (bRow []) (Holds.new2 rfl rfl) I24.out Hold.out (bRow_one _) ?_
               intro w5 hw5
               have hO : Holds w5 w1.heap.size (bRow R) := by rw [hw5]; exact (Holds.new _ _ _).row _
               have hb5 : Below w.heap.size w w5 := by rw [hw5]; exact below_setRow (hb1.alloc hb1.size _) hb1.size _
               clear hw5
               have q0 : w5.cell? ⟨w1.heap.size, 0, none⟩ = some (.int .u8 186) := (hO.cell 0).trans R0.out
               have q1 : w5.cell? ⟨w1.heap.size, 1, none⟩ = some (.int .u8 120) := (hO.cell 1).trans R1.out
               have q31 : w5.cell? ⟨w1.heap.size, 31, none⟩ = some (.int .u8 173) := (hO.cell 31).trans R31.out
               clear hO)
  refine calls_named ?_
  intro w6 hw6
  have hL : Lies w6 w6.heap.size w5.heap.size 0 [[97]] := by
    refine ⟨by rw [hw6]; simp, fun i hi => ?_⟩
    have hi0 : i = 0 := by simp at hi; omega
    subst hi0
    rw [hw6]
    exact (Holds.new w5 _ _).cell 0
  have hb6 : Below w.heap.size w w6 := by rw [hw6]; exact hb5.alloc hb5.size _
  clear hw6 q0 q1 q31
  refine (root_1 [97] w5.heap.size 0 1 w6 (HT.out.below hb6 hpos) hL (by decide)).mono ?_
  rintro e w7 ⟨rfl, hb7⟩
  have hb7 := hb6.trans (hb7.mono hb6.size)
  have hpr := proves_one w7 [97] (Sha.root [[97]]) (HT.out.below hb7 hpos) (Sha.root_one [97]) (by decide)
  have Hpr := Lib.hid hpr
  clear hpr hL
  go_wp2_with fail
  refine Hpr.out.mono ?_
  rintro e w8 ⟨rfl, hb8⟩
  have hb8 := hb7.trans (hb8.mono hb7.size)
  go_wp2_with fail
  go_ret
  exact ⟨rfl, hb8⟩
end Go.Proofs.YtdifbndpgbdkbaaDoor
