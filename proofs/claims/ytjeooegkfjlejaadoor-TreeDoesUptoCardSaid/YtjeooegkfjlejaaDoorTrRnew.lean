/- What later texts need of the earlier layers. -/
import Derived.Test.YtjeooegkfjlejaaDoorEarO
import Derived.Test.YtjeooegkfjlejaaDoorEarS
import Derived.Test.YtjeooegkfjlejaaDoorEarT
import Derived.Test.YtjeooegkfjlejaaDoorEarC
import Derived.Test.YtjeooegkfjlejaaDoorEarA
import Derived.Test.YtjeooegkfjlejaaDoorEarB
import Derived.Test.YtjeooegkfjlejaaDoorIbA
import Derived.Test.YtjeooegkfjlejaaDoorTrMath
import Derived.Test.YtjeooegkfjlejaaDoorTrHash
import Derived.Test.YtjeooegkfjlejaaDoorTrMem
import Derived.Test.YtjeooegkfjlejaaDoorTrLv
import Derived.Test.YtjeooegkfjlejaaDoorTrLink
import Derived.Test.YtjeooegkfjlejaaDoorTrBeh
import Derived.Test.YtjeooegkfjlejaaDoorTrCh
import Derived.Test.YtjeooegkfjlejaaDoorTrAt
import Derived.Test.YtjeooegkfjlejaaDoorTrNew
import Derived.Test.YtjeooegkfjlejaaDoorTrMine
import Derived.Test.YtjeooegkfjlejaaDoorTrAll
import Derived.Test.YtjeooegkfjlejaaDoorTrFind
import Derived.Test.YtjeooegkfjlejaaDoorTrAwk
import Derived.Test.YtjeooegkfjlejaaDoorTrLaw2
import Derived.Test.YtjeooegkfjlejaaDoorTrRch
/- ---- TrRnew ---- -/
/- The reference's New. -/
namespace Go.Proofs.YtjeooegkfjlejaaDoor
open Go.RowKit
set_option linter.unusedVariables false
set_option linter.unusedSimpArgs false

theorem bk_info11 : (Tryd.prog.info? 45).map (fun i => (i.zero, i.size, i.bytes)) = some (some (.agg Bk.zeroC.toArray), 35, 72) := by kernel_rfl
theorem zeroB_fits : Bv.Fits ⟨Tr.zeroB, none, 0⟩ := ⟨rfl, by show Tx.fits 0; unfold Tx.fits; omega⟩
set_option maxRecDepth 20000 in
theorem rnew_no (d : Int) (w : World) (h : d < 0 ∨ 4096 < d) : Calls Tryd.prog 15 #[.int .i64 d] w fun e w' => e = .returned (.tuple #[.pointer none, .int .i64 2]) ∧ w = w' := by
  by_cases q : d < 0
  · have d0 : decide (d < 0) = true := by simpa using q
    clear h
    go_enter Tryd.func15, Tryd.ntmps15
    go_wp2_with fail
    go_ret2
    exact ⟨rfl, rfl⟩
  · have d0 : decide (d < 0) = false := by simpa using q
    have d1 : decide ((4096 : Int) < d) = true := by simp; omega
    clear h
    go_enter Tryd.func15, Tryd.ntmps15
    go_wp2_with fail
    go_ret2
    exact ⟨rfl, rfl⟩
set_option maxRecDepth 20000 in
set_option maxHeartbeats 1600000 in
theorem rnew_yes (d : Int) (w : World) (h0 : 0 ≤ d) (h1 : d ≤ 4096) : Calls Tryd.prog 15 #[.int .i64 d] w fun e w' => (∃ P, e = .returned (.tuple #[.pointer (some ⟨P, 0, none⟩), .int .i64 0]) ∧ RchAt w' w.heap.size w.heap.size P d 0 [⟨Tr.zeroB, none, 0⟩]) ∧ Below w.heap.size w w' := by
  have d0 : decide (d < 0) = false := by simpa using h0
  have d1 : decide ((4096 : Int) < d) = false := by simpa using h1
  obtain ⟨i0, hi0, hz0⟩ := Option.map_eq_some_iff.1 bk_info11
  simp only [Prod.mk.injEq] at hz0
  have Hi := Lib.hid hi0
  have Hz := Lib.hid hz0.1
  have Hsz := Lib.hid hz0.2.1
  have HBL := Lib.hid Bk.zeroC_len
  have hB := ((Below.refl w.heap.size w).alloc (Nat.le_refl _) (.cells Bk.zeroC.toArray 45)).alloc (by simp) (.cells #[.slice (some ⟨w.heap.size, 0, none⟩) 1 1, .int .i64 d, .int .i64 0] 38)
  have hR : Row ((w.alloc (.cells Bk.zeroC.toArray 45)).alloc (.cells #[.slice (some ⟨w.heap.size, 0, none⟩) 1 1, .int .i64 d, .int .i64 0] 38)) (w.heap.size + 1) 38 [.slice (some ⟨w.heap.size, 0, none⟩) 1 1, .int .i64 d, .int .i64 0] := by
    have := Row.new (w.alloc (.cells Bk.zeroC.toArray 45)) 38 [.slice (some ⟨w.heap.size, 0, none⟩) 1 1, .int .i64 d, .int .i64 0]
    rwa [World.size_alloc] at this
  have hO : (w.alloc (.cells Bk.zeroC.toArray 45)).ownsRow w.heap.size 45 35 (.slice (some ⟨w.heap.size, 0, none⟩) 1 1) 1 Bk.zeroC :=
    ⟨HBL.out, .inr ⟨w.heap.size, 1, Bk.zeroC.toArray, rfl, Nat.le_refl _, heap_alloc_new w _, Nat.le_refl _, by decide, by simpa using HBL.out, by rw [List.take_of_length_le (by rw [List.toList_toArray, HBL.out]; exact Nat.le_refl _)]⟩⟩
  have HO := Lib.hid (hO.alloc (.cells #[.slice (some ⟨w.heap.size, 0, none⟩) 1 1, .int .i64 d, .int .i64 0] 38))
  have HR := Lib.hid hR
  have HBe := Lib.hid hB
  have HFl : Hid (Bv.flat [⟨Tr.zeroB, none, 0⟩] = Bk.zeroC) := Lib.hid rfl
  have HB0 := Lib.hid block_built0
  clear hB hR hO hi0 hz0 h0 h1
  generalize Bk.zeroC = ZC at *
  go_enter Tryd.func15, Tryd.ntmps15
  go_wp2_with (first
  | ((with_reducible show wpList _ _ _ (⟨_, .build 45 _, _, _, _, _⟩ :: _) _ _); refine wpList_buildL rfl 45 [] rfl (some 10) rfl [] rfl ZC.toArray HB0.out ?_)
  | ((with_reducible show wpList _ _ _ (⟨_, .buildSlice 36 _ _, _, _, _, _⟩ :: _) _ _); refine wpList_buildSliceL rfl 36 45 1 [(0, .tmp 10)] rfl (some 11) rfl [(0, .agg ZC.toArray)] rfl ZC.toArray i0 (.agg ZC.toArray) 35 Tryd.underlying36 Hi.out Hz.out Hsz.out (by decide) (by decide) (fill_one 35 _ ZC HBL.out) ?_)
  | ((with_reducible show wpList _ _ _ (⟨_, .build 38 _, _, _, _, _⟩ :: _) _ _); refine wpList_buildL rfl 38 [(0, .tmp 11), (1, .tmp 12)] rfl (some 13) rfl [(0, .slice (some ⟨w.heap.size, 0, none⟩) 1 1), (1, .int .i64 d)] rfl #[.slice (some ⟨w.heap.size, 0, none⟩) 1 1, .int .i64 d, .int .i64 0] (by kernel_rfl) ?_))
  go_ret2
  refine ⟨⟨w.heap.size + 1, by simp, by simp, Nat.le_refl _, some ⟨w.heap.size, 0, none⟩, 1, HR.out, ?_, fun x hx => ?_⟩, HBe.out⟩
  · rw [HFl.out]; exact HO.out
  · rw [List.mem_singleton.1 hx]
    exact ⟨zeroB_fits, ⟨fun h => absurd rfl h, by show (0 : Nat) ≤ _; omega⟩, Nat.le_refl _⟩
end Go.Proofs.YtjeooegkfjlejaaDoor
