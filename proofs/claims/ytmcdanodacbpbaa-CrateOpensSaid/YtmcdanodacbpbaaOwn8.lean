/- A slice of bytes that the call made itself (whatever its row's mark beyond the end is): what a conversion of a string leaves, and what an append of a string does to it. -/
import Derived.Test.YtmcdanodacbpbaaChecked
import Derived.Lib.AppendStr
import Derived.Lib.ConvBytes
import Derived.Laws.IdiomCopy
import Derived.Laws.BytesArg
import Derived.Below
import Derived.OwnWalk
import Derived.WalkKit
namespace Go.Proofs.Ytmcdanodacbpbaa
open Go.RowKit
set_option linter.unusedVariables false
set_option linter.unusedSimpArgs false

/-- v holds the bytes bs in a row of the call's own, from block 'base' on; all its places up to the capacity can be written -/
def Own8 (w : World) (base : Nat) (v : Value) (bs : List UInt8) : Prop :=
  ∃ g cap, v = .slice (some ⟨g, 0, none⟩) bs.length cap ∧ base ≤ g ∧ g < w.heap.size ∧ bs.length ≤ cap ∧ cap ≤ maxLen ∧
    (∀ i, i < cap → (w.cell? ⟨g, i, none⟩).isSome = true ∧ w.frozen? ⟨g, i, none⟩ = false) ∧
    ∀ i (h : i < bs.length), w.cell? ⟨g, i, none⟩ = some (.int .u8 (bs[i].toNat : Int))

theorem Own8.below {w w1 : World} {base : Nat} {v : Value} {bs : List UInt8} (h : Own8 w base v bs) (hb : Below w.heap.size w w1) : Own8 w1 base v bs := by
  obtain ⟨g, cap, rfl, hg, hgs, hn, hm, hw, hc⟩ := h
  refine ⟨g, cap, rfl, hg, Nat.lt_of_lt_of_le hgs hb.size, hn, hm, fun i hi => ?_, fun i hi => ?_⟩
  · rw [hb.cell (p := ⟨g, i, none⟩) hgs, hb.frozen (p := ⟨g, i, none⟩) hgs]; exact hw i hi
  · rw [hb.cell (p := ⟨g, i, none⟩) hgs]; exact hc i hi

theorem below_bytes (w : World) (e : TypeId) (s : ByteArray) : Below w.heap.size w (Lib.bytesWorld w e s) :=
  ⟨rfl, rfl, rfl, by rw [Lib.bytesWorld_size]; omega, fun k hk => Lib.bytesWorld_at_old w e s k hk⟩

theorem Own8.of_string (w : World) (e : TypeId) (s : ByteArray) (hs : s.size ≤ maxLen) :
    Own8 (Lib.bytesWorld w e s) w.heap.size (.slice (some ⟨w.heap.size, 0, none⟩) s.size (grownCap w s.size 0 e)) s.data.toList := by
  have hge := grownCap_ge w s.size 0 e
  have hcs : (Lib.bytesCells w e s).size = grownCap w s.size 0 e := by
    unfold Lib.bytesCells
    have : s.data.size = s.size := rfl
    simp [this]; omega
  refine ⟨w.heap.size, _, rfl, Nat.le_refl _, by rw [Lib.bytesWorld_size]; omega, hge, grownCap_le_maxLen w s.size 0 e hs, fun i hi => ⟨?_, ?_⟩, fun i hi => ?_⟩
  · have h1 := Lib.bytesWorld_at_new w e s
    have h2 : i < (Lib.bytesCells w e s).size := by omega
    simp [World.cell?, h1, h2]
  · have h1 := Lib.bytesWorld_at_new w e s
    simp [World.frozen?, h1]
    intro h; omega
  · rw [Lib.bytesWorld_cell w e s i hi]
    simp [List.getD, List.getElem?_eq_getElem hi]

theorem below_cells {B b : Nat} (hb : B ≤ b) {a : World} : ∀ (vs : List Value) (o : Nat) {w : World}, Below B a w → Below B a (w.setCells b o vs)
  | [], _, _, h => h
  | v :: r, o, _, h => below_cells hb r (o + 1) (h.setCell (p := ⟨b, o, none⟩) hb v)
theorem cells_size (b : Nat) : ∀ (vs : List Value) (o : Nat) (w : World), (w.setCells b o vs).heap.size = w.heap.size
  | [], _, _ => rfl
  | v :: r, o, w => by rw [World.setCells, cells_size b r]; simp [World.setCell]

theorem isSome_of_lt (c : Array Value) (j : Nat) (h : j < c.size) : (c[j]?).isSome = true := by rw [Array.getElem?_eq_getElem h]; rfl
theorem Own8.append {P : Program} {w : World} {base : Nat} {v : Value} {bs : List UInt8} (h : Own8 w base v bs) (t u ty e : TypeId) (i : TypeInfo)
    (ht : P.underlying t = some (.slice e)) (hu : P.underlying u = some .string) (hi : P.info? e = some i) (hz : i.zero = some (.int .u8 0)) (hsize : i.size = 1) (hby : i.bytes = 1)
    (s : ByteArray) (hbytes : bs.length + s.size ≤ 140737488355328) (hbase : base ≤ w.heap.size) :
    ∃ v' w', (Builtin.append_ #[t, u] ty #[v, .string s]).run P w = .ok v' w' ∧ Own8 w' base v' (bs ++ s.data.toList) ∧ Below base w w' := by
  obtain ⟨g, cap, rfl, hg, hgs, hn, hm, hw, hc⟩ := h
  have hsl : s.data.toList.length = s.size := rfl
  by_cases hroom : bs.length + s.size ≤ cap
  · have hf := Lib.run_firstCells_string (P := P) w 1 s
    have hst := run_storeCells_cells (P := P) g bs.length (Lib.strCells s) 0 w (fun j hj => by rw [Lib.strCells_length] at hj; exact (hw _ (by omega)).1)
      (fun j hj => by rw [Lib.strCells_length] at hj; exact (hw _ (by omega)).2) (Lib.strCells_oneCell s)
    have hrun : (Builtin.append_ #[t, u] ty #[.slice (some ⟨g, 0, none⟩) bs.length cap, .string s]).run P w =
        .ok (.slice (some ⟨g, 0, none⟩) (bs.length + s.size) cap) (w.setCells g bs.length (Lib.strCells s)) := by
      simp only [Nat.add_zero] at hst
      simp [Builtin.append_, run_underlying ht, run_underlying hu, sizeOf, typeInfo, hi, hsize, Builtin.lenOf, hroom, hf, Addr.add_lit, hst]
    refine ⟨_, _, hrun, ⟨g, cap, by rw [List.length_append, hsl], hg, by rw [cells_size]; exact hgs, by rw [List.length_append, hsl]; exact hroom, hm, fun j hj => ⟨?_, ?_⟩, fun j hj => ?_⟩, below_cells hg _ _ (Below.refl _ _)⟩
    · by_cases h1 : bs.length ≤ j ∧ j < bs.length + s.size
      · obtain ⟨d, rfl⟩ : ∃ d, j = bs.length + d := ⟨j - bs.length, by omega⟩
        rw [World.cell?_setCells_in g (Lib.strCells s) bs.length w (fun k hk => by rw [Lib.strCells_length] at hk; exact (hw _ (by omega)).1) d (by rw [Lib.strCells_length]; omega)]
        rfl
      · rw [World.cell?_setCells_out g (Lib.strCells s) bs.length w _ (fun _ _ => by rw [Lib.strCells_length]; show j < _ ∨ _ ≤ j; omega)]
        exact (hw j hj).1
    · rw [World.frozen?_setCells]; exact (hw j hj).2
    · rw [List.length_append, hsl] at hj
      by_cases h1 : j < bs.length
      · rw [World.cell?_setCells_out g (Lib.strCells s) bs.length w _ (fun _ _ => Or.inl h1), List.getElem_append_left h1]
        exact hc j h1
      · obtain ⟨d, rfl⟩ : ∃ d, j = bs.length + d := ⟨j - bs.length, by omega⟩
        rw [World.cell?_setCells_in g (Lib.strCells s) bs.length w (fun k hk => by rw [Lib.strCells_length] at hk; exact (hw _ (by omega)).1) d (by rw [Lib.strCells_length]; omega)]
        simp [Lib.strCells, List.getElem_append_right]
  · have holds : ∀ j v, (bs.map fun b => Value.int .u8 (b.toNat : Int))[j]? = some v → w.cell? ((⟨g, 0, none⟩ : Addr).add j) = some v := by
      intro j v hj
      have hl : j < bs.length := by have := (List.getElem?_eq_some_iff.1 hj).1; simpa using this
      have e : (⟨g, 0, none⟩ : Addr).add j = ⟨g, j, none⟩ := by unfold Addr.add; split <;> simp_all
      rw [e, hc j hl]
      rw [← hj]; simp [hl]
    have hcap63 : bs.length + s.size ≤ maxLen := by unfold maxLen; omega
    have hfit : Builtin.nextslicecap (bs.length + s.size) cap * i.bytes ≤ 281474976710656 := by
      rw [hby, Nat.mul_one]
      have := nextslicecap_le (need := bs.length + s.size) (old := cap) (by omega)
      omega
    have hrun := Lib.run_append_grow_string (P := P) w t u ty e i _ ht hu hi hz ⟨g, 0, none⟩ bs.length cap (bs.map fun b => Value.int .u8 (b.toNat : Int)) (by rw [hsize]; simp) holds s (by omega) (by omega) hfit
    have hge := grownCap_ge w (bs.length + s.size) cap e
    have hcm := grownCap_le_maxLen w (bs.length + s.size) cap e hcap63
    refine ⟨_, _, hrun, ⟨w.heap.size, _, by rw [List.length_append, hsl], hbase, by simp, by rw [List.length_append, hsl]; exact hge, hcm, fun j hj => ⟨?_, ?_⟩, fun j hj => ?_⟩, (Below.refl _ _).drew.alloc hbase _⟩
    · rw [World.cell?_alloc_at _ _ _ _ (show w.heap.size = w.drew.heap.size from rfl)]
      refine isSome_of_lt _ _ ?_
      have hsz : (Value.int IntKind.u8 0).cells.size = 1 := rfl
      simp only [Array.size_append, List.size_toArray, size_zeroCells, hsz, Lib.strCells_length, List.length_map]
      omega
    · exact World.frozen?_alloc_at _ _ _ _ (show w.heap.size = w.drew.heap.size from rfl)
    · rw [World.cell?_alloc_at _ _ _ _ (show w.heap.size = w.drew.heap.size from rfl)]
      have hjl := hj
      rw [List.length_append, hsl] at hjl
      rw [Array.getElem?_append_left (by simp [Lib.strCells_length]; omega)]
      by_cases h1 : j < bs.length
      · rw [Array.getElem?_append_left (by simp; omega)]
        simp [h1]
      · obtain ⟨d, rfl⟩ : ∃ d, j = bs.length + d := ⟨j - bs.length, by omega⟩
        rw [Array.getElem?_append_right (by simp)]
        simp only [List.size_toArray, List.length_map, Nat.add_sub_cancel_left, List.getElem?_toArray]
        rw [List.getElem?_eq_getElem (by rw [Lib.strCells_length]; omega)]
        simp [Lib.strCells, List.getElem_append_right]
/-- string(b) of such a slice -/
theorem Own8.text {P : Program} {w : World} {base : Nat} {v : Value} {bs : List UInt8} (h : Own8 w base v bs) (src e : TypeId) (hs : P.underlying src = some (.slice e)) (he : P.underlying e = some (.int .u8))
    (dst : TypeId) (hd : P.underlying dst = some .string) : (convert src dst v).run P w = .ok (.string ⟨bs.toArray⟩) w := by
  obtain ⟨g, cap, rfl, hg, hgs, hn, hm, hw, hc⟩ := h
  have hr := run_convert_bytes_arg (P := P) w src e hs he g 0 bs.length cap (bs.map fun b => (b.toNat : Int)) (by simp) (fun i hi => by
    rw [Nat.zero_add, hc i hi]; simp [List.getD, hi]) dst hd
  rw [hr]
  congr 2
  unfold strOfNums
  congr 2
  rw [List.map_map]
  conv => rhs; rw [← List.map_id bs]
  apply List.map_congr_left
  intro b _
  simp
/-- the operation append, where its run is known -/
theorem wpList_app_run {P : Program} (w : World) {ops : Array Oper} {rest : List Oper} {o : Oper} {a : Act} {Q : Exit → Act → World → Prop} (hgd : o.guard = none) (s x : Operand) (t t' : TypeId)
    (ho : o.op = .call { callee := .builtin .append, args := #[s, x], argTypes := #[t, t'] }) (v u : Value) (hs : a.eval s = v) (hx : a.eval x = u) {v' : Value} {w' : World}
    (hr : (Builtin.append_ #[t, t'] o.type #[v, u]).run P w = .ok v' w') (h : wpList P ops Q rest (a.put o.dst v') w') : wpList P ops Q (o :: rest) a w := by
  refine wpList_plain hgd fun K hK => ?_
  unfold Oper.wp execOp
  simp only [ho, resolve, invoke, builtin, Sem.run_bind, Sem.run_pure, Result.andThen_ok, List.map_toArray, List.map_cons, List.map_nil, hs, hx, hr]
  exact hK _ _ h
end Go.Proofs.Ytmcdanodacbpbaa
