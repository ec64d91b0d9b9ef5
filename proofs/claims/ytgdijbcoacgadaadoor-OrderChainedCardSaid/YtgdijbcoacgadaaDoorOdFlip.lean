/- A receipt turned in one place. -/
import Derived.Test.YtgdijbcoacgadaaDoorOdSame
namespace Go.Proofs.YtgdijbcoacgadaaDoor
open Go.RowKit Go.Op
set_option linter.unusedVariables false
set_option linter.unusedSimpArgs false
set_option maxRecDepth 100000

theorem flip1_all : ∀ x : Fin 256, 0 ≤ bits .xor .u8 (x.1 : Int) 1 ∧ bits .xor .u8 (x.1 : Int) 1 < 256 ∧ bits .xor .u8 (x.1 : Int) 1 ≠ (x.1 : Int) := by decide +kernel
theorem flip128_all : ∀ x : Fin 256, 0 ≤ bits .xor .u8 (x.1 : Int) 128 ∧ bits .xor .u8 (x.1 : Int) 128 < 256 ∧ bits .xor .u8 (x.1 : Int) 128 ≠ (x.1 : Int) := by decide +kernel
theorem flip_of {x : UInt8} {v : Int} (h0 : 0 ≤ v) (h1 : v < 256) (hn : v ≠ (x.toNat : Int)) : ∃ y : UInt8, v = (y.toNat : Int) ∧ y ≠ x := by
  refine ⟨UInt8.ofNat v.toNat, ?_, ?_⟩
  · rw [UInt8.toNat_ofNat', Nat.mod_eq_of_lt (by omega)]; omega
  · intro e
    apply hn
    rw [← e, UInt8.toNat_ofNat', Nat.mod_eq_of_lt (by omega)]
    omega
theorem flip1 (x : UInt8) : ∃ y : UInt8, bits .xor .u8 (x.toNat : Int) 1 = (y.toNat : Int) ∧ y ≠ x := by
  obtain ⟨h0, h1, h2⟩ := flip1_all ⟨x.toNat, x.toNat_lt⟩
  exact flip_of h0 h1 h2
theorem flip128 (x : UInt8) : ∃ y : UInt8, bits .xor .u8 (x.toNat : Int) 128 = (y.toNat : Int) ∧ y ≠ x := by
  obtain ⟨h0, h1, h2⟩ := flip128_all ⟨x.toNat, x.toNat_lt⟩
  exact flip_of h0 h1 h2
theorem bRow_full (H : List UInt8) (h : H.length = 32) : (bRow H).toList = H.map (fun b => Value.int .u8 (b.toNat : Int)) := by unfold bRow; rw [h]; simp
theorem bRow_setL (H : List UInt8) (h : H.length = 32) (i : Nat) (y : UInt8) : (bRow H).toList.set i (.int .u8 (y.toNat : Int)) = (bRow (H.set i y)).toList := by
  rw [bRow_full H h, bRow_full (H.set i y) (by rw [List.length_set]; exact h), List.map_set]
theorem Rp.set_index (r : Rp) (z : Int) : r.cells.set 0 (.int .i64 z) = Rp.cells { r with index := z } := rfl
theorem Rp.set_kind (r : Rp) (z : Int) : r.cells.set 1 (.int .i64 z) = Rp.cells { r with kind := z } := rfl
theorem Rp.set_time (r : Rp) (z : Int) : r.cells.set 2 (.int .i64 z) = Rp.cells { r with time := z } := rfl
theorem Rp.set_prev {r : Rp} (hf : r.Fits) (y : UInt8) : r.cells.set 35 (.int .u8 (y.toNat : Int)) = Rp.cells { r with prev := r.prev.set 31 y } := by
  unfold Rp.cells
  rw [List.set_append, if_neg (by simp), List.set_append, if_pos (by rw [Tx.bRow_len _ hf.prev]; simp)]
  simp only [List.length_cons, List.length_nil]
  rw [bRow_setL _ hf.prev]
theorem Rp.set_hash {r : Rp} (hf : r.Fits) (y : UInt8) : r.cells.set 36 (.int .u8 (y.toNat : Int)) = Rp.cells { r with hash := r.hash.set 0 y } := by
  unfold Rp.cells
  rw [List.set_append, if_neg (by simp), List.set_append, if_neg (by rw [Tx.bRow_len _ hf.prev]; simp)]
  rw [Tx.bRow_len _ hf.prev]
  simp only [List.length_cons, List.length_nil]
  rw [bRow_setL _ hf.hash]
theorem Rp.at_prev31 {W : World} {g o : Nat} {r : Rp} (hf : r.Fits) (h : W.rangeAt g o r.cells) : W.cell? ⟨g, o + 35, none⟩ = some (.int .u8 ((r.prev[31]'(by rw [hf.prev]; decide)).toNat : Int)) := by
  refine h 35 _ ?_
  unfold Rp.cells
  rw [List.getElem?_append_right (by simp), List.getElem?_append_left (by rw [Tx.bRow_len _ hf.prev]; simp), bRow_full _ hf.prev, List.getElem?_map]
  simp only [List.length_cons, List.length_nil]
  rw [List.getElem?_eq_getElem (by rw [hf.prev]; decide)]
  rfl
theorem Rp.at_hash0 {W : World} {g o : Nat} {r : Rp} (hf : r.Fits) (h : W.rangeAt g o r.cells) : W.cell? ⟨g, o + 36, none⟩ = some (.int .u8 ((r.hash[0]'(by rw [hf.hash]; decide)).toNat : Int)) := by
  refine h 36 _ ?_
  unfold Rp.cells
  rw [List.getElem?_append_right (by simp), List.getElem?_append_right (by rw [Tx.bRow_len _ hf.prev]; simp), Tx.bRow_len _ hf.prev, bRow_full _ hf.hash, List.getElem?_map]
  simp only [List.length_cons, List.length_nil]
  rw [List.getElem?_eq_getElem (by rw [hf.hash]; decide)]
  rfl
/-- what can be loaded is what is linked -/
theorem Od.fitsIn_link {a : List Rp} {r : Rp} (h : Od.fitsIn a r) : Rp.linkE ⟨r.index, r.kind, r.time, r.body, r.prev, Tx.zero⟩ = (r, 0) := by
  have ht := Od.mk_took (Od.fitsIn_took h)
  have e : (⟨r.index, r.kind, r.time, r.body, r.prev, Tx.zero⟩ : Rp) = Od.raw a r.kind r.body r.time := by
    unfold Od.raw
    rw [ht.index, ht.prev]
  rw [e]
  unfold Rp.linkE
  rw [if_pos ht.ok, ← ht.r]
theorem Od.Good.noindex {rs : List Rp} {k : Nat} (hk : k < rs.length) (h : Od.Good rs) {r : Rp} (hr : r.index ≠ rs[k].index) : ¬ Od.fitsIn (rs.take k) r := by
  intro hf
  have h1 := (Od.mk_took (Od.fitsIn_took hf)).index
  rw [(h.took k hk).index] at hr
  exact hr h1
theorem Od.Good.noprev {rs : List Rp} {k : Nat} (hk : k < rs.length) (h : Od.Good rs) {r : Rp} (hr : r.prev ≠ rs[k].prev) : ¬ Od.fitsIn (rs.take k) r := by
  intro hf
  have h1 := (Od.mk_took (Od.fitsIn_took hf)).prev
  rw [(h.took k hk).prev] at hr
  exact hr h1
theorem Od.Good.nohash {rs : List Rp} {k : Nat} (hk : k < rs.length) (h : Od.Good rs) {r : Rp} (e1 : r.kind = rs[k].kind) (e2 : r.body = rs[k].body) (e3 : r.time = rs[k].time) (hr : r.hash ≠ rs[k].hash) : ¬ Od.fitsIn (rs.take k) r := by
  intro hf
  have h1 := (Od.mk_took (Od.fitsIn_took hf)).r
  have h2 := (h.took k hk).r
  rw [e1, e2, e3, ← h2] at h1
  exact hr (by rw [h1])
theorem set_ne {l : List UInt8} {i : Nat} (hi : i < l.length) {y : UInt8} (hy : y ≠ l[i]) : l.set i y ≠ l := by
  intro e
  apply hy
  have : (l.set i y)[i]'(by rw [List.length_set]; exact hi) = l[i] := by congr 1
  rw [List.getElem_set_self] at this
  exact this
theorem Od.Good.ranges {rs : List Rp} (h : Od.Good rs) (k : Nat) (hk : k < rs.length) : rs[k].index = k ∧ (rs[k].kind = 1 ∨ rs[k].kind = 2) ∧ 0 ≤ rs[k].time ∧ rs[k].time ≤ 1099511627776 := by
  have := (h.took k hk).rok
  rw [Rp.ok_iff] at this
  exact ⟨h.index k hk, this.1, this.2.2.1.1, this.2.2.1.2⟩
end Go.Proofs.YtgdijbcoacgadaaDoor
