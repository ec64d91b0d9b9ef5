/- octets.join: what it returns. -/
import Derived.Test.YtkbgeafkdeddjaaChecked
import Derived.Test.YtkbgeafkdeddjaaOctSpec
import Derived.WalkKit
import Derived.Below
import Derived.Lib.Hide
import Derived.LoopTactic
import Derived.Outline
import Derived.BigQuiet
import Derived.Laws.MakeOwn
import Derived.Lib.BufferWrite
import Derived.Laws.CopyOwn
import Derived.Laws.BytesArg
namespace Go.Proofs.Ytkbgeafkdeddjaa
open Go.RowKit
set_option linter.unusedVariables false

abbrev S (l : List UInt8) : Value := .string ⟨l.toArray⟩
/-- the slice's first cells are these texts; they lie below block B -/
def Texts (w : World) (B : Nat) (A : Option Addr) (L : List (List UInt8)) : Prop :=
  L ≠ [] → ∃ b off, A = some ⟨b, off, none⟩ ∧ b < B ∧ ∀ i (h : i < L.length), w.cell? ⟨b, off + i, none⟩ = some (S L[i])
def sumTo (L : List (List UInt8)) (k : Nat) : Nat := ((L.take k).flatten).length

theorem take_flat (L : List (List UInt8)) (k : Nat) (h : k < L.length) : (L.take (k + 1)).flatten = (L.take k).flatten ++ L[k] := by
  rw [List.take_succ_eq_append_getElem h]; simp only [List.flatten_append, List.flatten_cons, List.flatten_nil, List.append_nil]
theorem sumTo_succ (L : List (List UInt8)) (k : Nat) (h : k < L.length) : sumTo L (k + 1) = sumTo L k + L[k].length := by
  unfold sumTo; rw [take_flat L k h]; simp
theorem sumTo_le (L : List (List UInt8)) (k : Nat) : sumTo L k ≤ L.flatten.length := by
  unfold sumTo
  have h : L.flatten = (L.take k).flatten ++ (L.drop k).flatten := by rw [← List.flatten_append, List.take_append_drop]
  rw [h]; simp
theorem sumTo_all (L : List (List UInt8)) (k : Nat) (h : L.length ≤ k) : sumTo L k = L.flatten.length := by
  unfold sumTo; rw [List.take_of_length_le h]
/-- a row of bytes, the first of which are known -/
def rowOf (l : List UInt8) (n : Nat) : Array Value := (Lib.byteCells (l ++ List.replicate (n - l.length) 0)).toArray
theorem rowOf_start (n : Nat) : madeCells (Value.int .u8 0).cells (n * 1) = rowOf [] n := by
  unfold rowOf madeCells
  apply Array.ext
  · simp [Lib.byteCells]
  · intro i h1 h2
    simp [Lib.byteCells, Value.cells, Nat.mod_one]
theorem rowOf_copy (l t : List UInt8) (n : Nat) (h : l.length + t.length ≤ n) :
    ((rowOf l n).toList.take l.length ++ Lib.byteCells t ++ (rowOf l n).toList.drop (l.length + t.length)).toArray = rowOf (l ++ t) n := by
  unfold rowOf
  congr 1
  simp only [Lib.byteCells, List.map_append, List.map_replicate]
  rw [List.take_append_of_le_length (by simp), List.take_of_length_le (by simp), List.drop_append, List.drop_of_length_le (by simp)]
  simp
  omega
theorem rowOf_size (l : List UInt8) (n : Nat) (h : l.length ≤ n) : (rowOf l n).size = n := by
  unfold rowOf; simp [Lib.byteCells]; omega
theorem rowOf_full (l : List UInt8) : rowOf l l.length = (Lib.byteCells l).toArray := by
  unfold rowOf; simp
theorem rowOf_cell (l : List UInt8) (i : Nat) (h : i < l.length) : (rowOf l l.length)[i]? = some (.int .u8 ((l.map fun b => (b.toNat : Int)).getD i 0)) := by
  rw [rowOf_full]
  simp [Lib.byteCells, List.getD, h]
theorem bytes_of (bk : List UInt8) : strOfNums (bk.map fun b => (b.toNat : Int)) = ⟨bk.toArray⟩ := by
  unfold strOfNums
  congr 2
  rw [List.map_map]
  conv => rhs; rw [← List.map_id bk]
  apply List.map_congr_left
  intro b _
  simp
theorem u8_info : (Try.prog.info? 5).map (fun i => (i.zero, i.size, i.bytes)) = some (some (.int .u8 0), 1, 1) := by kernel_rfl

set_option maxHeartbeats 400000 in
theorem join_any (A : Option Addr) (c : Nat) (L : List (List UInt8)) (w : World) (hr : Texts w w.heap.size A L) (hl : L.length ≤ 9223372036854775807) (ht : L.flatten.length ≤ 281474976710656) :
    Calls Try.prog 24 #[.slice A L.length c] w fun e w' => e = .returned (S L.flatten) ∧ Below w.heap.size w w' := by
  obtain ⟨i0, hi, hz0, hz1, hz2⟩ := info_parts u8_info
  have Hi := Lib.hid hi; clear hi
  have Hz0 := Lib.hid hz0; clear hz0
  have Hz1 := Lib.hid hz1; clear hz1
  have Hz2 := Lib.hid hz2; clear hz2
  go_enter Try.func24, Try.ntmps24
  go_wp2
  go_loop [3, 12] (fun n i => ∃ k : Nat, k ≤ L.length ∧ i = .int .i64 k ∧ n = .int .i64 (sumTo L k)) (fun _ i => L.length - (intOf i).toNat)
  case atStart => exact ⟨0, by omega, rfl, rfl⟩
  case round =>
    obtain ⟨k, hk, rfl, rfl⟩ := hrel
    by_cases hlt : k < L.length
    · obtain ⟨b, off, rfl, hb, hc⟩ := hr (by rintro rfl; simp at hlt)
      have hck := hc k hlt
      have hlk := sumTo_le L (k + 1)
      have hs := sumTo_succ L k hlt
      have hsum : (sumTo L k : Int) + (L[k].length : Int) ≤ 281474976710656 := by omega
      have Hs := Lib.hid hs
      clear hc hlk hs
      go_wp2
      go_round
      case rel => exact ⟨k + 1, by omega, by go_num, by rw [Hs.out]; go_num⟩
      case measure => simp [intOf]; omega
    · have hmk : ∀ W : World, (Instr.makeSlice 43 (.int .i64 (sumTo L k : Int)) (.int .i64 (sumTo L k : Int))).run Try.prog W = .ok (.slice (some ⟨W.heap.size, 0, none⟩) (sumTo L k) (sumTo L k)) (W.alloc (.cells (rowOf [] (sumTo L k)) 5)) := by
        intro W
        have h1 := sumTo_le L k
        have hr := run_make (P := Try.prog) W 43 5 i0 _ Try.underlying43 Hi.out Hz0.out .i64 .i64 (sumTo L k) (sumTo L k) (by omega) (by omega) (by rw [Hz2.out]; omega) (by omega)
        rw [Hz1.out, Int.toNat_natCast, rowOf_start] at hr
        exact hr
      obtain rfl : k = L.length := by omega
      go_wp2
      clear hmk
      obtain ⟨N, hN⟩ : ∃ N, N = sumTo L L.length := ⟨_, rfl⟩
      rw [← hN]
      rw [sumTo_all L L.length (Nat.le_refl _)] at hN
      have HN := Lib.hid hN
      clear hN
      go_loopw [7, 25] (fun at_ i wr => ∃ k : Nat, k ≤ L.length ∧ i = .int .i64 k ∧ at_ = .int .i64 (sumTo L k) ∧ wr.heap[w.heap.size]? = some (.cells (rowOf (L.take k).flatten N) 5 (0, 0)) ∧ Below w.heap.size w wr) (fun _ i _ => L.length - (intOf i).toNat)
      case atStart => exact ⟨0, by omega, rfl, rfl, by rw [List.take_zero]; exact heap_alloc_new w _, (Below.refl _ _).alloc (Nat.le_refl _) _⟩
      case round =>
        obtain ⟨k, hk, rfl, rfl, hg, hb⟩ := hrel
        by_cases hlt : k < L.length
        · obtain ⟨b, off, rfl, hbb, hc⟩ := hr (by rintro rfl; simp at hlt)
          have hck := (hb.cell (p := ⟨b, off + k, none⟩) hbb).trans (hc k hlt)
          clear hc
          have hlk1 := sumTo_le L k
          have hlk2 := sumTo_le L (k + 1)
          have hs := sumTo_succ L k hlt
          have hn := HN.out
          have hle1 : (sumTo L k : Int) ≤ N := by omega
          have hle2 : (sumTo L k : Int) + (L[k].length : Int) ≤ N := by omega
          have hle3 : (N : Int) ≤ 281474976710656 := by omega
          have Hs := Lib.hid hs
          have Hg := Lib.hid hg
          clear hs hn hg hlk1 hlk2
          by_cases hNk : N = sumTo L k
          · subst hNk
            have h0 : L[k].length = 0 := by omega
            have hcp : (Builtin.copy_ #[43, 9] 3 #[.slice (some ⟨w.heap.size, 0, none⟩) 0 0, S L[k]]).run Try.prog wr = .ok (.int .i64 0) wr :=
              Lib.run_copy_empty_string wr _ _ _ 5 _ _ _ _ Try.underlying43 (by kernel_rfl) (show L[k].length = 0 from h0)
            have Hn := Lib.hid h0
            clear h0
            go_wp2
            go_roundw
            case rel => exact ⟨k + 1, by omega, by go_num, by rw [Hs.out, Hn.out, Nat.add_zero], by rw [take_flat L k hlt, List.eq_nil_of_length_eq_zero Hn.out, List.append_nil]; exact Hg.out, hb⟩
            case measure => simp [intOf]; omega
          · have hcp : (Builtin.copy_ #[43, 9] 3 #[.slice (some ⟨w.heap.size, sumTo L k, none⟩) (N - sumTo L k) (N - sumTo L k), S L[k]]).run Try.prog wr = .ok (.int .i64 L[k].length) (wr.setRow w.heap.size (rowOf (L.take (k + 1)).flatten N)) := by
              have hsz : (⟨L[k].toArray⟩ : ByteArray).size = L[k].length := rfl
              have hc := Lib.run_copy_row_string (P := Try.prog) wr 43 9 3 5 w.heap.size (sumTo L k) (N - sumTo L k) (N - sumTo L k) ⟨L[k].toArray⟩ _ _ Try.underlying43 (by kernel_rfl) Hg.out (by rw [hsz]; omega) (by rw [hsz, rowOf_size _ _ (by show sumTo L k ≤ N; omega)]; omega)
              have e := rowOf_copy (L.take k).flatten L[k] N (by show sumTo L k + _ ≤ N; omega)
              rw [← take_flat L k hlt] at e
              rw [hsz] at hc
              rw [← e]
              exact hc
            have Hn := Lib.hid hNk
            go_wp2
            go_roundw
            case rel => exact ⟨k + 1, by omega, by go_num, by rw [Hs.out]; go_num, setRow_heap wr w.heap.size _ _ _ _ Hg.out, below_setRow hb (Nat.le_refl _) _⟩
            case measure => simp [intOf]; omega
        · obtain rfl : k = L.length := by omega
          have hn := HN.out
          have hcv : (convert 43 9 (.slice (some ⟨w.heap.size, 0, none⟩) N N)).run Try.prog wr = .ok (S L.flatten) wr := by
            rw [List.take_length, hn] at hg
            have := run_convert_bytes_arg (P := Try.prog) wr 43 5 Try.underlying43 Try.underlying5 w.heap.size 0 N N (L.flatten.map fun b => (b.toNat : Int)) (by rw [hn, List.length_map]) (fun i hi => by
              rw [hn] at hi
              rw [← rowOf_cell L.flatten i hi]
              simp [World.cell?, hg]) 9 Try.underlying9
            rw [bytes_of] at this
            exact this
          have hle3 : (N : Int) ≤ 281474976710656 := by omega
          clear hn hg
          go_wp2
          go_ret
          exact ⟨rfl, hb⟩
end Go.Proofs.Ytkbgeafkdeddjaa
