/- copy between rows of wide cells. -/
import Derived.Laws.CopyRow
import Derived.Laws.CopyOwn
import Derived.Laws.AppendOwn
import Derived.Lib.AppendZerosOnto
import Derived.Lib.Overlaps
import Derived.RowKit
import Derived.Deep.DeepAppendWide
namespace Go.Proofs.Ytoicpidiejhjeaa
open Go.RowKit
set_option linter.unusedVariables false
set_option linter.unusedSimpArgs false

theorem run_copy_wide {P : Program} (w : World) (dT sT ty elem : TypeId) (m g o dLen dCap : Nat) (a : Addr) (sLen sCap n : Nat) (cur : List Value) (t : TypeId) (cs : List Value)
    (hu : P.underlying dT = some (.slice elem)) (hs : (P.info? elem).map (·.size) = some m)
    (hg : w.heap[g]? = some (.cells cur.toArray t (0, 0))) (hm : Nat.min sLen dLen = n) (hn : cs.length = n * m)
    (hsrc : ∀ j v, cs[j]? = some v → w.cell? (a.add j) = some v) (hfit : o + cs.length ≤ cur.length) (h1 : ∀ v ∈ cs, v.oneCell' = true) :
    (Builtin.copy_ #[dT, sT] ty #[.slice (some ⟨g, o, none⟩) dLen dCap, .slice (some a) sLen sCap]).run P w =
      .ok (goInt n) (w.setRow g (splice cur o cs).toArray) := by
  have hl := run_loadCells_list (P := P) w a cs hsrc
  have hst := run_storeCells_at P g o t cs 0 cur.toArray w hg (by simpa using hfit) h1
  rw [hn] at hl
  cases hq : P.info? elem with
  | none => simp [hq] at hs
  | some i =>
    have hi : i.size = m := by simpa [hq] using hs
    simp only [Nat.add_zero, List.append_assoc] at hst
    simp [Builtin.copy_, run_underlying hu, Builtin.lenOf, Builtin.firstCells, sizeOf, typeInfo, hq, hi, hm, hl, hst, splice]
theorem grown_setRow {w : World} {g : Nat} (cs : Array Value) : w.grownBy (w.setRow g cs) (some g) :=
  ⟨rfl, rfl, rfl, by simp [World.setRow], fun k hk hne => setRow_other w g k cs (by intro e; exact hne (by rw [e]))⟩
theorem wp_copy_wide {P : Program} {w : World} {o : Oper} {a : Act} {K : Act → World → Prop} {Q : Exit → Act → World → Prop} (d s : Operand) (dT sT : TypeId)
    (ho : o.op = .call { callee := .builtin .copy, args := #[d, s], argTypes := #[dT, sT] }) (elem : TypeId) (m : Nat) (hu : P.underlying dT = some (.slice elem)) (hsz : (P.info? elem).map (·.size) = some m)
    (g off dLen dCap : Nat) (ad : Addr) (sLen sCap n : Nat) (hd : a.eval d = .slice (some ⟨g, off, none⟩) dLen dCap) (hs : a.eval s = .slice (some ad) sLen sCap)
    (cur : List Value) (t : TypeId) (hg : w.heap[g]? = some (.cells cur.toArray t (0, 0))) (cs : List Value) (hm : Nat.min sLen dLen = n) (hn : cs.length = n * m)
    (hsrc : ∀ j v, cs[j]? = some v → w.cell? (ad.add j) = some v) (hfit : off + cs.length ≤ cur.length) (h1 : ∀ v ∈ cs, v.oneCell' = true)
    (h : ∀ w', w'.heap[g]? = some (.cells (splice cur off cs).toArray t (0, 0)) → w.grownBy w' (some g) → K (a.put o.dst (goInt n)) w') : o.wp P a w K Q := by
  have hrun := run_copy_wide (P := P) w dT sT o.type elem m g off dLen dCap ad sLen sCap n cur t cs hu hsz hg hm hn hsrc hfit h1
  unfold Oper.wp
  simp [execOp, ho, resolve, invoke, builtin, hd, hs, hrun, Result.andThen]
  exact h _ (setRow_heap w g _ _ t _ hg) (grown_setRow _)
theorem wpList_copy_wide {P : Program} {w : World} {ops : Array Oper} {rest : List Oper} {o : Oper} {a : Act} {Q : Exit → Act → World → Prop} (hgd : o.guard = none) (d s : Operand) (dT sT : TypeId)
    (ho : o.op = .call { callee := .builtin .copy, args := #[d, s], argTypes := #[dT, sT] }) (elem : TypeId) (m : Nat) (hu : P.underlying dT = some (.slice elem)) (hsz : (P.info? elem).map (·.size) = some m)
    (g off dLen dCap : Nat) (ad : Addr) (sLen sCap n : Nat) (hd : a.eval d = .slice (some ⟨g, off, none⟩) dLen dCap) (hs : a.eval s = .slice (some ad) sLen sCap)
    (cur : List Value) (t : TypeId) (hg : w.heap[g]? = some (.cells cur.toArray t (0, 0))) (cs : List Value) (hm : Nat.min sLen dLen = n) (hn : cs.length = n * m)
    (hsrc : ∀ j v, cs[j]? = some v → w.cell? (ad.add j) = some v) (hfit : off + cs.length ≤ cur.length) (h1 : ∀ v ∈ cs, v.oneCell' = true)
    (h : ∀ w', w'.heap[g]? = some (.cells (splice cur off cs).toArray t (0, 0)) → w.grownBy w' (some g) → wpList P ops Q rest (a.put o.dst (goInt n)) w') : wpList P ops Q (o :: rest) a w :=
  wpList_plain hgd fun _ hK => wp_copy_wide d s dT sT ho elem m hu hsz g off dLen dCap ad sLen sCap n hd hs cur t hg cs hm hn hsrc hfit h1 fun w' h2 h3 => hK _ _ (h w' h2 h3)
theorem step_copy_wide {P : Program} {ops : Array Oper} {o : Oper} {a : Act} {w : World} {K : Act → World → Prop} {Q : Exit → Act → World → Prop} {E : Prop} (hgd : o.guard = none) (d s : Operand) (dT sT : TypeId)
    (ho : o.op = .call { callee := .builtin .copy, args := #[d, s], argTypes := #[dT, sT] }) (elem : TypeId) (m : Nat) (hu : P.underlying dT = some (.slice elem)) (hsz : (P.info? elem).map (·.size) = some m)
    (g off dLen dCap : Nat) (ad : Addr) (sLen sCap n : Nat) (hd : a.eval d = .slice (some ⟨g, off, none⟩) dLen dCap) (hs : a.eval s = .slice (some ad) sLen sCap)
    (cur : List Value) (t : TypeId) (hg : w.heap[g]? = some (.cells cur.toArray t (0, 0))) (cs : List Value) (hm : Nat.min sLen dLen = n) (hn : cs.length = n * m)
    (hsrc : ∀ j v, cs[j]? = some v → w.cell? (ad.add j) = some v) (hfit : off + cs.length ≤ cur.length) (h1 : ∀ v ∈ cs, v.oneCell' = true)
    (h : ∀ w', w'.heap[g]? = some (.cells (splice cur off cs).toArray t (0, 0)) → w.grownBy w' (some g) → K (a.put o.dst (goInt n)) w') :
    if Region.wanted o (yielded ops a.tmps) = true then Oper.wp P o a w K Q else E := by
  have hw : Region.wanted o (yielded ops a.tmps) = true := by simp [Region.wanted, hgd]
  rw [if_pos hw]
  exact wp_copy_wide d s dT sT ho elem m hu hsz g off dLen dCap ad sLen sCap n hd hs cur t hg cs hm hn hsrc hfit h1 h
/-- what an insertion in place makes of the cells: first the tail is copied upwards, then the new one is laid -/
theorem splice_shift {m i n : Nat} {cur A X B : List Value} (hA : A.length = i * m) (hX : X.length = m) (hB : B.length = (n - i) * m) (hi : i ≤ n) (hc : (n + 1) * m ≤ cur.length) (h : cur.take (n * m) = A ++ B) :
    (splice (splice cur ((i + 1) * m) B) (i * m) X).length = cur.length ∧ (splice (splice cur ((i + 1) * m) B) (i * m) X).take ((n + 1) * m) = A ++ (X ++ B) := by
  have e0 : (n - i) * m = n * m - i * m := Nat.sub_mul _ _ _
  have e1 : (i + 1) * m = i * m + m := Nat.succ_mul _ _
  have e2 : (n + 1) * m = n * m + m := Nat.succ_mul _ _
  have e3 : i * m ≤ n * m := Nat.mul_le_mul_right m hi
  have l1 : (splice cur ((i + 1) * m) B).length = cur.length := length_splice _ _ _ (by omega)
  refine ⟨(length_splice _ _ _ (by rw [l1, hX]; omega)).trans l1, ?_⟩
  have hA' : cur.take (i * m) = A := by
    have := congrArg (List.take (i * m)) h
    rw [List.take_take, Nat.min_eq_left e3, List.take_append_of_le_length (by omega), List.take_of_length_le (l := A) (by omega)] at this
    exact this
  have t1 : (splice cur ((i + 1) * m) B).take (i * m) = A := by
    unfold splice
    rw [List.take_append_of_le_length (by rw [List.length_take]; omega), List.take_take, Nat.min_eq_left (by omega)]
    exact hA'
  have t2 : (splice cur ((i + 1) * m) B).drop (i * m + X.length) = B ++ cur.drop ((i + 1) * m + B.length) := by
    unfold splice
    rw [List.drop_append, List.length_take, List.drop_of_length_le (by rw [List.length_take]; omega)]
    rw [show i * m + X.length - min ((i + 1) * m) cur.length = 0 by omega]
    simp
  unfold splice at t1 t2 ⊢
  rw [t1, t2, ← List.append_assoc, ← List.append_assoc, List.take_append_of_le_length (by simp only [List.length_append]; omega), List.take_of_length_le (by simp only [List.length_append]; omega), List.append_assoc]
/-- .. and in a new row -/
theorem splice_fresh {m i n : Nat} {cur A X B : List Value} (hA : A.length = i * m) (hX : X.length = m) (hB : B.length = (n - i) * m) (hi : i ≤ n) (hc : (n + 1) * m ≤ cur.length) (h : cur.take (i * m) = A) :
    (splice (splice cur (i * m) X) ((i + 1) * m) B).length = cur.length ∧ (splice (splice cur (i * m) X) ((i + 1) * m) B).take ((n + 1) * m) = A ++ (X ++ B) := by
  have e0 : (n - i) * m = n * m - i * m := Nat.sub_mul _ _ _
  have e1 : (i + 1) * m = i * m + m := Nat.succ_mul _ _
  have e2 : (n + 1) * m = n * m + m := Nat.succ_mul _ _
  have e3 : i * m ≤ n * m := Nat.mul_le_mul_right m hi
  have l1 : (splice cur (i * m) X).length = cur.length := length_splice _ _ _ (by omega)
  refine ⟨(length_splice _ _ _ (by rw [l1, hB]; omega)).trans l1, ?_⟩
  have t1 : (splice cur (i * m) X).take ((i + 1) * m) = A ++ X := by
    unfold splice
    rw [h, ← List.append_assoc, List.take_append_of_le_length (by rw [List.length_append]; omega), List.take_of_length_le (by rw [List.length_append]; omega)]
  unfold splice at t1 ⊢
  rw [t1, ← List.append_assoc, List.take_append_of_le_length (by simp only [List.length_append]; omega), List.take_of_length_le (by simp only [List.length_append]; omega), List.append_assoc]
/-- append(s, make([]T, k)...) without room: a new row -/
theorem run_append_zeros_at {P : Program} (w : World) (t tn ty e : TypeId) (i : TypeInfo) (z : Value) (kq kn : IntKind) (size bytes : Nat) (ht : P.underlying t = some (.slice e)) (htn : P.underlying tn = some (.int kn)) (hi : P.info? e = some i) (hz : i.zero = some z)
    (hsize : i.size = size) (hby : i.bytes = bytes) (hzs : z.cells.size = size) (hsz : 0 < size)
    (A : Addr) (n c : Nat) (olds : List Value) (hl : olds.length = n * size) (holds : ∀ j v, olds[j]? = some v → w.cell? (A.add j) = some v)
    (k : Nat) (h0 : 0 < k) (hg : c < n + k) (h63 : n + k ≤ maxLen) (hbytes : ((n + k) + (n + k) / 4 + 192) * bytes ≤ 281474976710656) :
    ∃ cap w' cur, (Builtin.append_ #[t, tn] ty #[.slice (some A) n c, .int kq k]).run P w = .ok (.slice (some ⟨w.heap.size, 0, none⟩) (n + k) cap) w' ∧
      w'.heap[w.heap.size]? = some (.cells (List.toArray cur) e (0, 0)) ∧ cur.length = cap * size ∧ n + k ≤ cap ∧ cap ≤ maxLen ∧ cur.take (n * size) = olds ∧ Below w.heap.size w w' := by
  subst hsize
  subst hby
  have hold := run_firstCells_some (P := P) w.drew i.size n A n c olds hl holds
  have hr := Lib.run_append_grow_zeros (P := P) w t tn ty e i z kq kn ht htn hi hz (some A) n c olds hold k h0 hsz hg (by simp only [maxLen] at h63; omega) (Nat.le_trans (Nat.mul_le_mul_right _ (by omega)) hbytes) (growslice_fits_wide hg hbytes)
  have hge := grownCap_ge w (n + k) c e
  have hcm : grownCap w (n + k) c e ≤ maxLen := grownCap_le_maxLen w (n + k) c e h63
  refine ⟨_, _, olds ++ ((Builtin.zeroCells z.cells k).toList ++ (Builtin.zeroCells z.cells (grownCap w (n + k) c e - (n + k))).toList), hr, ?_, ?_, hge, hcm, ?_, ⟨rfl, rfl, rfl, by simp, fun j hj => heap_alloc_old w.drew _ j hj⟩⟩
  · have e1 : (olds ++ ((Builtin.zeroCells z.cells k).toList ++ (Builtin.zeroCells z.cells (grownCap w (n + k) c e - (n + k))).toList)).toArray = olds.toArray ++ Builtin.zeroCells z.cells k ++ Builtin.zeroCells z.cells (grownCap w (n + k) c e - (n + k)) := by
      rw [← Array.toList_inj]
      simp
    rw [e1]
    exact heap_alloc_new w.drew _
  · simp only [List.length_append, Array.length_toList, size_zeroCells, hzs, hl, ← Nat.add_mul]
    congr 1
    omega
  · rw [← hl]
    exact List.take_left
end Go.Proofs.Ytoicpidiejhjeaa
