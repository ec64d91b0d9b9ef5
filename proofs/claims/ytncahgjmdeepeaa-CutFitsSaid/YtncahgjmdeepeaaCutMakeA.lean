/- cut: Make, where it makes. -/
import Derived.Test.YtncahgjmdeepeaaCutMake
namespace Go.Proofs.Ytncahgjmdeepeaa
open Go.RowKit
set_option linter.unusedVariables false
set_option linter.unusedSimpArgs false

theorem part_info : (Try.prog.info? 46).map (fun i => (i.zero, i.size, i.bytes)) = some (some (.agg #[.bool false, .string ByteArray.empty]), 2, 24) := by kernel_rfl
theorem Cut.blanks_succ' (n : Nat) : Cut.blanks (n + 1) = Cut.blanks n ++ [Value.bool false, Value.string ByteArray.empty] := by
  simp [Cut.blanks, List.replicate_succ']
theorem made_blanks (n : Nat) : madeCells (Value.agg #[.bool false, .string ByteArray.empty]).cells (n * 2) = (Cut.blanks n).toArray := by
  unfold madeCells
  rw [show (Value.agg #[.bool false, .string ByteArray.empty]).cells = #[Value.bool false, Value.string ByteArray.empty] from rfl]
  induction n with
  | zero => simp [Cut.blanks]
  | succ n ih =>
    rw [show (n + 1) * 2 = n * 2 + 1 + 1 by omega, Array.range_succ, Array.range_succ, Array.map_append, Array.map_append, ih, Cut.blanks_succ']
    have e0 : (n * 2) % 2 = 0 := by omega
    have e1 : (n * 2 + 1) % 2 = 1 := by omega
    simp [e0, e1]
theorem make_parts (n : Nat) (hn : n ≤ 8796093022208) (w : World) : (Instr.makeSlice 34 (.int .i64 (n : Int)) (.int .i64 (n : Int))).run Try.prog w = .ok (.slice (some ⟨w.heap.size, 0, none⟩) n n) (w.alloc (.cells (Cut.blanks n).toArray 46)) := by
  have h := part_info
  obtain ⟨i0, hi, h2⟩ := Option.map_eq_some_iff.1 h
  simp only [Prod.mk.injEq] at h2
  obtain ⟨hz, hs, hb⟩ := h2
  have hr := run_make (P := Try.prog) w 34 46 i0 _ Try.underlying34 hi hz .i64 .i64 n n (by omega) (by omega) (by rw [hb]; omega) (by omega)
  simp only [Int.toNat_natCast] at hr
  rw [hs, made_blanks] at hr
  exact hr
theorem Cut.store_tx2 (l : List Rc) (k m : Nat) (h : k < l.length) (hk : l[k].kind = 1) (hm : l.length - k = m + 1) : (Cut.parts (l.take k) ++ Cut.blanks (l.length - k)).set (k * 2 + 1) (.string l[k].body) = Cut.parts (l.take (k + 1)) ++ Cut.blanks (l.length - (k + 1)) := by
  rw [show l.length - (k + 1) = m by omega, hm, Nat.mul_comm k 2]
  exact Cut.store_tx l k m h hk
theorem Cut.store_del2 (l : List Rc) (k m : Nat) (h : k < l.length) (hk : l[k].kind ≠ 1) (hm : l.length - k = m + 1) : (Cut.parts (l.take k) ++ Cut.blanks (l.length - k)).set (k * 2) (.bool true) = Cut.parts (l.take (k + 1)) ++ Cut.blanks (l.length - (k + 1)) := by
  rw [show l.length - (k + 1) = m by omega, hm, Nat.mul_comm k 2]
  exact Cut.store_del l k m h hk
theorem Cut.parts_size (l : List Rc) (k : Nat) (h : k ≤ l.length) : (Cut.parts (l.take k) ++ Cut.blanks (l.length - k)).length = l.length * 2 := by
  rw [List.length_append, Cut.parts_length, Cut.blanks_length, List.length_take]; omega
theorem Cut.parts_all (l : List Rc) : Cut.parts (l.take l.length) ++ Cut.blanks (l.length - l.length) = Cut.parts l := by
  rw [List.take_length, Nat.sub_self]; simp [Cut.blanks]
theorem below_set {w0 W : World} {g i : Nat} {v : Value} (h : Below w0.heap.size w0 W) (hg : w0.heap.size ≤ g) : Below w0.heap.size w0 (W.setCell ⟨g, i, none⟩ v) :=
  h.grown (grownBy_set W g i v) h.size (fun k hk => by cases hk; exact hg)
theorem row_other {W : World} {B g i : Nat} {v : Value} {t : TypeId} {xs : List Value} (h : Row W B t xs) (hne : B ≠ g) : Row (W.setCell ⟨g, i, none⟩ v) B t xs := h.kept (grownBy_set W g i v) (by simpa using hne)
end Go.Proofs.Ytncahgjmdeepeaa
