/- octets.number: what it returns. -/
import Derived.Test.YtpphljdnnlfjhaaDoorChecked
import Derived.Test.YtpphljdnnlfjhaaDoorOctMath
import Derived.WalkKit
import Derived.Below
import Derived.Lib.Hide
import Derived.LoopTactic
import Derived.Outline
import Derived.Laws.BytesString
import Derived.Laws.BytesArg
namespace Go.Proofs.YtpphljdnnlfjhaaDoor
open Go.RowKit
set_option linter.unusedVariables false
set_option linter.unusedSimpArgs false

def numCells (bk : List UInt8) : Array Value := ((List.replicate (9 - bk.length) (0 : UInt8) ++ bk).map fun b => Value.int .u8 b.toNat).toArray

theorem numCells_at (bk : List UInt8) (h : bk.length ≤ 8) : (numCells bk)[9 - bk.length - 1]? = some (Value.int .u8 0) := by
  unfold numCells
  have h1 : 9 - bk.length - 1 < 9 - bk.length := by omega
  simp [List.getElem?_append, h1]

theorem numCells_set (bk : List UInt8) (h : bk.length ≤ 8) (b : UInt8) (x : Int) (hx : x = b.toNat) : (numCells bk).setIfInBounds (9 - bk.length - 1) (Value.int .u8 x) = numCells (b :: bk) := by
  subst hx
  unfold numCells
  have e : 9 - bk.length = (9 - (bk.length + 1)) + 1 := by omega
  have e2 : 9 - bk.length - 1 = 9 - (bk.length + 1) := by omega
  rw [e2, e]
  simp only [List.length_cons, List.replicate_succ', List.setIfInBounds_toArray, List.map_append, List.map_replicate, List.map_cons, List.map_nil, List.append_assoc]
  rw [List.set_append_right _ _ (by simp)]
  simp

theorem numCells_cell (w : World) (T : TypeId) (bk : List UInt8) (i : Nat) (hi : i < bk.length) :
    (w.alloc (.cells (numCells bk) T)).cell? ⟨w.heap.size, 9 - bk.length + i, none⟩ = some (.int .u8 ((bk.map fun b => (b.toNat : Int)).getD i 0)) := by
  simp only [numCells, go_sem]
  simp [List.getD, hi]

theorem list_bytes (bk : List UInt8) : strOfNums (bk.map fun b => (b.toNat : Int)) = ⟨bk.toArray⟩ := by
  unfold strOfNums
  congr 2
  rw [List.map_map]
  conv => rhs; rw [← List.map_id bk]
  apply List.map_congr_left
  intro b _
  simp

set_option maxHeartbeats 400000 in
theorem number_any (n : Int) (w : World) (h0 : 0 ≤ n) (h1 : n ≤ 9223372036854775807) :
    Calls Tryd.prog 59 #[.int .i64 n] w fun e w' => e = .returned (.string ⟨(Oct.num n.toNat).toArray⟩) ∧ Below w.heap.size w w' := by
  go_enter Tryd.func59, Tryd.ntmps59
  go_wp2
  go_loopw [0, 4] (fun a b wr => ∃ (m : Nat) (bk : List UInt8), a = .int .i64 m ∧ b = .int .i64 (9 - (bk.length : Int)) ∧ bk.length ≤ 8 ∧ m < 256 ^ (8 - bk.length) ∧ (m : Int) ≤ 9223372036854775807 ∧ Oct.bigs 8 n.toNat = Oct.bigs (8 - bk.length) m ++ bk ∧ wr = w.alloc (.cells (numCells bk) 103)) (fun a _ _ => (intOf a).toNat)
  case atStart => exact ⟨n.toNat, [], by rw [Int.toNat_of_nonneg h0], rfl, by simp, by simp; omega, by omega, by simp, rfl⟩
  case round =>
    obtain ⟨m, bk, rfl, rfl, hk, hm, hm2, hb, rfl⟩ := hrel
    have Hm := Lib.hid hm; clear hm
    have Hb := Lib.hid hb; clear hb
    have hc := numCells_at bk hk
    by_cases hlt : 0 < m
    · have hl7 : bk.length ≤ 7 := by
        have := Hm.out
        rcases Nat.lt_or_ge bk.length 8 with h | h
        · omega
        · have e : bk.length = 8 := by omega
          rw [e] at this; simp at this; omega
      have hs := numCells_set bk hk (UInt8.ofNat (m % 256)) ((m : Int) % 256) (by simp)
      go_wp2
      have hms := Hm.out
      have hbs := Hb.out
      have e8 : 8 - bk.length = (8 - (bk.length + 1)) + 1 := by omega
      rw [e8] at hms hbs
      refine ⟨⟨m / 256, UInt8.ofNat (m % 256) :: bk, by simp, by simp; omega, by simp; omega, ?_, by omega, ?_, rfl⟩, ?_⟩
      · rw [Nat.div_lt_iff_lt_mul (by decide)]
        rw [Nat.pow_succ] at hms
        simpa using hms
      · rw [hbs, Oct.bigs, if_neg (by omega)]
        simp
      · simp [intOf]; omega
    · obtain rfl : m = 0 := by omega
      have hs := numCells_set bk hk (UInt8.ofNat bk.length) (8 - (9 - (bk.length : Int) - 1)) (by simp; omega)
      have hsl : ∀ w', (Instr.sliceAt 103 (.pointer (some ⟨w.heap.size, 0, none⟩)) (some (.int .i64 (9 - (bk.length : Int) - 1))) none none).run Tryd.prog w' = .ok (.slice (some ⟨w.heap.size, 8 - bk.length, none⟩) (bk.length + 1) (bk.length + 1)) w' := by
        intro w'
        have e9 : Tryd.prog.arrayLen 103 = 9 := by kernel_rfl
        rw [run_sliceAt_array_l w' 103 _ (by kernel_rfl) .i64 _ (by omega) (by rw [e9]; omega), e9]
        have es : (sizeOf (Tryd.prog.elem 103)).run Tryd.prog w' = .ok 1 w' := by kernel_rfl
        rw [es]
        have e0 : (9 - (bk.length : Int) - 1).toNat = 8 - bk.length := by omega
        simp only [Result.andThen, slicedAt, e0, Addr.add]
        rw [if_neg (by omega)]
        simp; omega
      have hcv : (convert 65 9 (.slice (some ⟨w.heap.size, 8 - bk.length, none⟩) (bk.length + 1) (bk.length + 1))).run Tryd.prog (w.alloc (.cells (numCells (UInt8.ofNat bk.length :: bk)) 103)) = .ok (.string ⟨(UInt8.ofNat bk.length :: bk).toArray⟩) (w.alloc (.cells (numCells (UInt8.ofNat bk.length :: bk)) 103)) := by
        rw [← list_bytes]
        exact run_convert_bytes_arg _ _ 5 Tryd.underlying65 Tryd.underlying5 _ _ _ _ _ (by simp) (fun i hi => by
          have := numCells_cell w 103 (UInt8.ofNat bk.length :: bk) i (by simpa using hi)
          rwa [show 9 - (UInt8.ofNat bk.length :: bk).length = 8 - bk.length from by simp] at this) _ Tryd.underlying9
      go_wp2
      go_ret
      have hbs := Hb.out
      have hnum : Oct.num n.toNat = UInt8.ofNat bk.length :: bk := by
        have e : Oct.bigs (8 - bk.length) 0 = [] := by cases (8 - bk.length) <;> simp [Oct.bigs]
        unfold Oct.num
        rw [hbs, e]; simp
      rw [hnum]
      exact ⟨rfl, (Below.refl _ _).alloc (Nat.le_refl _) _⟩
end Go.Proofs.YtpphljdnnlfjhaaDoor
