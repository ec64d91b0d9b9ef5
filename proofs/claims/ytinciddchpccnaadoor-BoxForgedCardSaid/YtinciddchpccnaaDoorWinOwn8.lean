/- What later texts need of the earlier layers. -/
import Derived.Test.YtinciddchpccnaaDoorBxO
import Derived.Test.YtinciddchpccnaaDoorWinMath
import Derived.Test.YtinciddchpccnaaDoorWinNum
import Derived.Test.YtinciddchpccnaaDoorOwnApp
import Derived.Test.YtinciddchpccnaaDoorWinOwn
import Derived.Lib.SlBytesConst
set_option maxRecDepth 100000
/- ---- WinOwn8 ---- -/
/- Layer 7: a slice of bytes that the call made (whatever its row's mark is): what an append of bytes from anywhere does to it; a constant's bytes; string(b[k:]). -/
namespace Go.Proofs.YtinciddchpccnaaDoor
open Go.RowKit
set_option linter.unusedVariables false
set_option linter.unusedSimpArgs false

theorem Own8.app {P : Program} {w : World} {base : Nat} {v : Value} {bs : List UInt8} (h : Own8 w base v bs) (t tx ty e : TypeId) (i : TypeInfo)
    (ht : P.underlying t = some (.slice e)) (hi : P.info? e = some i) (hz : i.zero = some (.int .u8 0)) (hsize : i.size = 1) (hby : i.bytes = 1)
    (x : Value) (m : Nat) (nb : List UInt8) (hm : m = nb.length) (hs : Src P 1 tx x m (bytesV nb) w) (hbytes : bs.length + m ≤ 225179981368371) (hbase : base ≤ w.heap.size) :
    ∃ v' w', (Builtin.append_ #[t, tx] ty #[v, x]).run P w = .ok v' w' ∧ Own8 w' base v' (bs ++ nb) ∧ Below base w w' := by
  subst hm
  obtain ⟨g, cap, rfl, hg, hgs, hn, hm, hw, hc⟩ := h
  have hbl : (bytesV nb).length = nb.length := by simp [bytesV]
  have hs' : Src P i.size tx x nb.length (bytesV nb) w := by rw [hsize]; exact hs
  by_cases hroom : bs.length + nb.length ≤ cap
  · have hst := run_storeCells_cells (P := P) g bs.length (bytesV nb) 0 w (fun j hj => by rw [hbl] at hj; exact (hw _ (by omega)).1)
      (fun j hj => by rw [hbl] at hj; exact (hw _ (by omega)).2) hs.one
    have hrun : (Builtin.append_ #[t, tx] ty #[.slice (some ⟨g, 0, none⟩) bs.length cap, x]).run P w =
        .ok (.slice (some ⟨g, 0, none⟩) (bs.length + nb.length) cap) (w.setCells g bs.length (bytesV nb)) := by
      simp only [Nat.add_zero] at hst
      rcases hs'.kind with ⟨e', hk⟩ | hk <;> simp [Builtin.append_, run_underlying ht, run_underlying hk, sizeOf, typeInfo, hi, hsize, hs.len, hroom, hs.cells, Addr.add_lit, hst]
    refine ⟨_, _, hrun, ⟨g, cap, by rw [List.length_append], hg, by rw [cells_size]; exact hgs, by rw [List.length_append]; exact hroom, hm, fun j hj => ⟨?_, ?_⟩, fun j hj => ?_⟩, below_cells8 hg _ _ (Below.refl _ _)⟩
    · by_cases h1 : bs.length ≤ j ∧ j < bs.length + nb.length
      · obtain ⟨d, rfl⟩ : ∃ d, j = bs.length + d := ⟨j - bs.length, by omega⟩
        rw [World.cell?_setCells_in g (bytesV nb) bs.length w (fun k hk => by rw [hbl] at hk; exact (hw _ (by omega)).1) d (by rw [hbl]; omega)]
        rfl
      · rw [World.cell?_setCells_out g (bytesV nb) bs.length w _ (fun _ _ => by rw [hbl]; show j < _ ∨ _ ≤ j; omega)]
        exact (hw j hj).1
    · rw [World.frozen?_setCells]; exact (hw j hj).2
    · rw [List.length_append] at hj
      by_cases h1 : j < bs.length
      · rw [World.cell?_setCells_out g (bytesV nb) bs.length w _ (fun _ _ => Or.inl h1), List.getElem_append_left h1]
        exact hc j h1
      · obtain ⟨d, rfl⟩ : ∃ d, j = bs.length + d := ⟨j - bs.length, by omega⟩
        rw [World.cell?_setCells_in g (bytesV nb) bs.length w (fun k hk => by rw [hbl] at hk; exact (hw _ (by omega)).1) d (by rw [hbl]; omega)]
        simp [bytesV, List.getElem_append_right]
  · have holds : ∀ j u, (bytesV bs)[j]? = some u → w.cell? ((⟨g, 0, none⟩ : Addr).add j) = some u := by
      intro j u hj
      have hl : j < bs.length := by have := (List.getElem?_eq_some_iff.1 hj).1; simpa using this
      have e : (⟨g, 0, none⟩ : Addr).add j = ⟨g, j, none⟩ := by unfold Addr.add; split <;> simp_all
      rw [e, hc j hl]
      rw [← hj]; simp [bytesV, hl]
    have hcap63 : bs.length + nb.length ≤ maxLen := by unfold maxLen; omega
    have hrun := run_append_grow_src (P := P) w t tx ty e i (.int .u8 0) ht hi hz (some ⟨g, 0, none⟩) bs.length cap (bytesV bs)
      (run_firstCells_some w.drew i.size bs.length ⟨g, 0, none⟩ bs.length cap (bytesV bs) (by rw [hsize]; simp [bytesV]) (by simpa using holds)) x nb.length (bytesV nb) hs' (by omega) (by omega) (by
        have := nextslicecap_le_wide (need := bs.length + nb.length) (old := cap) (by omega)
        rw [hby]; omega)
    have hge := grownCap_ge w (bs.length + nb.length) cap e
    have hcm := grownCap_le_maxLen w (bs.length + nb.length) cap e hcap63
    refine ⟨_, _, hrun, ⟨w.heap.size, _, by rw [List.length_append], hbase, by simp, by rw [List.length_append]; exact hge, hcm, fun j hj => ⟨?_, ?_⟩, fun j hj => ?_⟩, (Below.refl _ _).drew.alloc hbase _⟩
    · rw [World.cell?_alloc_at _ _ _ _ (show w.heap.size = w.drew.heap.size from rfl)]
      refine isSome_of_lt _ _ ?_
      have hsz : (Value.int IntKind.u8 0).cells.size = 1 := rfl
      simp only [Array.size_append, List.size_toArray, size_zeroCells, hsz, List.length_append, hbl, bytesV, List.length_map]
      omega
    · exact World.frozen?_alloc_at _ _ _ _ (show w.heap.size = w.drew.heap.size from rfl)
    · rw [World.cell?_alloc_at _ _ _ _ (show w.heap.size = w.drew.heap.size from rfl)]
      rw [← bytesV_app, Array.getElem?_append_left (by simpa [bytesV] using hj)]
      simp only [bytesV, List.getElem?_toArray, List.getElem?_map, List.getElem?_eq_getElem hj, Option.map_some]
/-- at the operation -/
theorem wpList_app8 {P : Program} (w : World) {ops : Array Oper} {rest : List Oper} {o : Oper} {a : Act} {Q : Exit → Act → World → Prop} (hgd : o.guard = none) (sl x : Operand) (t tx : TypeId)
    (ho : o.op = .call { callee := .builtin .append, args := #[sl, x], argTypes := #[t, tx] }) (base : Nat) (e : TypeId) (i : TypeInfo) (ht : P.underlying t = some (.slice e)) (hi : P.info? e = some i) (hz : i.zero = some (.int .u8 0)) (hsize : i.size = 1) (hby : i.bytes = 1)
    (v : Value) (bs : List UInt8) (hv : a.eval sl = v) (hown : Own8 w base v bs) (u : Value) (m : Nat) (nb : List UInt8) (hm : m = nb.length) (hx : a.eval x = u) (hs : Src P 1 tx u m (bytesV nb) w)
    (hbytes : bs.length + m ≤ 225179981368371) (hbase : base ≤ w.heap.size)
    (h : ∀ v' w', Own8 w' base v' (bs ++ nb) → Below base w w' → wpList P ops Q rest (a.put o.dst v') w') : wpList P ops Q (o :: rest) a w := by
  obtain ⟨v', w', hr, h2, h3⟩ := hown.app (P := P) t tx o.type e i ht hi hz hsize hby u m nb hm hs hbytes hbase
  exact wpList_app_run w hgd sl x t tx ho v u hv hx hr (h v' w' h2 h3)
theorem Own8.const (w : World) (e : TypeId) (bs : List UInt8) (hl : bs.length ≤ maxLen) (n : Nat) (hn : n = bs.length) :
    Own8 (w.alloc (.cells (bytesV bs).toArray e (n, n + 1))) w.heap.size (.slice (some ⟨w.heap.size, 0, none⟩) n n) bs := by
  subst hn
  have hb : (w.alloc (.cells (bytesV bs).toArray e (bs.length, bs.length + 1))).heap[w.heap.size]? = some (.cells (bytesV bs).toArray e (bs.length, bs.length + 1)) := heap_alloc_new _ _
  have hsz : w.heap.size < (w.alloc (.cells (bytesV bs).toArray e (bs.length, bs.length + 1))).heap.size := by simp
  generalize w.alloc (.cells (bytesV bs).toArray e (bs.length, bs.length + 1)) = W1 at *
  refine ⟨w.heap.size, bs.length, rfl, Nat.le_refl _, hsz, Nat.le_refl _, hl, fun i hi => ⟨?_, ?_⟩, fun i hi => ?_⟩
  · simp [World.cell?, hb, bytesV, hi]
  · simp [World.frozen?, hb]; omega
  · simp [World.cell?, hb, bytesV, hi]
theorem Own8.form {w : World} {base : Nat} {v : Value} {bs : List UInt8} (h : Own8 w base v bs) : ∃ g cap, v = .slice (some ⟨g, 0, none⟩) bs.length cap ∧ bs.length ≤ cap ∧ cap ≤ maxLen := by
  obtain ⟨g, cap, rfl, _, _, h1, h2, _⟩ := h
  exact ⟨g, cap, rfl, h1, h2⟩
theorem Own8.at_ {w : World} {base g cap n : Nat} {bs : List UInt8} (h : Own8 w base (.slice (some ⟨g, 0, none⟩) n cap) bs) (q : Nat) (hq : q < bs.length) : w.cell? ⟨g, q, none⟩ = some (.int .u8 (bs[q].toNat : Int)) := by
  obtain ⟨g', cap', e, _, _, _, _, _, hc⟩ := h
  injection e with e1 e2 e3
  injection e1 with e1
  injection e1 with e1
  subst e1
  exact hc q hq
theorem Own8.from_ {P : Program} {w : World} {base k g cap n : Nat} {bs : List UInt8} (h : Own8 w base (.slice (some ⟨g, 0, none⟩) n cap) bs) (hn : n = bs.length) (hk : k ≤ n) (c2 : Nat) (src e : TypeId) (hs : P.underlying src = some (.slice e)) (he : P.underlying e = some (.int .u8))
    (dst : TypeId) (hd : P.underlying dst = some .string) : (convert src dst (.slice (some ⟨g, k, none⟩) (n - k) c2)).run P w = .ok (S (bs.drop k)) w := by
  subst hn
  have hr := run_convert_bytes_arg (P := P) w src e hs he g k (bs.length - k) c2 ((bs.drop k).map fun b => (b.toNat : Int)) (by simp) (fun i hi => by
    have hi' : k + i < bs.length := by omega
    have h1 := h.at_ (k + i) hi'
    rw [h1]; simp [List.getD, hi']) dst hd
  rw [hr]
  congr 2
  unfold strOfNums
  congr 2
  rw [List.map_map]
  conv => rhs; rw [← List.map_id (bs.drop k)]
  apply List.map_congr_left
  intro b _
  simp
end Go.Proofs.YtinciddchpccnaaDoor
