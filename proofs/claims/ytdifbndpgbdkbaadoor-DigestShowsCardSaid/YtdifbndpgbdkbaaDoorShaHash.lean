/- digest.start, (state).hash: what they return. -/
import Derived.Test.YtdifbndpgbdkbaaDoorShaStep
namespace Go.Proofs.YtdifbndpgbdkbaaDoor
open Go.RowKit
set_option linter.unusedVariables false
set_option linter.unusedSimpArgs false

/-- a row of 32 bytes, the first of which are known -/
def bRow (bs : List UInt8) : Array Value := ((bs ++ List.replicate (32 - bs.length) (0 : UInt8)).map fun (b : UInt8) => Value.int .u8 (b.toNat : Int)).toArray
theorem bRow_size (bs : List UInt8) (h : bs.length ≤ 32) : (bRow bs).size = 32 := by unfold bRow; simp; omega
theorem bRow_free (bs : List UInt8) (h : bs.length < 32) : (bRow bs)[bs.length]? = some (.int .u8 0) := by
  unfold bRow
  simp [List.getElem?_append, List.getElem?_replicate, h]
  omega
theorem bRow_one (bs : List UInt8) : (bRow bs).all (·.oneCell') = true := by unfold bRow; simp [Value.oneCell']
theorem bRow_set (bs : List UInt8) (h : bs.length < 32) (b : UInt8) (x : Int) (hx : x = b.toNat) : (bRow bs).setIfInBounds bs.length (Value.int .u8 x) = bRow (bs ++ [b]) := by
  subst hx
  unfold bRow
  have e : 32 - bs.length = (32 - (bs.length + 1)) + 1 := by omega
  simp only [List.length_append, List.length_singleton]
  rw [e]
  simp only [List.replicate_succ, List.setIfInBounds_toArray, List.map_append, List.map_cons]
  rw [List.set_append_right _ _ (by simp)]
  simp
theorem st8_at (s : Sha.St) (j : Nat) (h : j < 8) : (st8 s)[j]? = some (.int .u32 (Sha.at_ s j : Nat)) := by
  have : j = 0 ∨ j = 1 ∨ j = 2 ∨ j = 3 ∨ j = 4 ∨ j = 5 ∨ j = 6 ∨ j = 7 := by omega
  rcases this with rfl | rfl | rfl | rfl | rfl | rfl | rfl | rfl <;> rfl
theorem at_lt {s : Sha.St} (h : s.ok) (j : Nat) : Sha.at_ s j < 4294967296 := by
  obtain ⟨h0, h1, h2, h3, h4, h5, h6, h7⟩ := h
  match j with
  | 0 => exact h0
  | 1 => exact h1
  | 2 => exact h2
  | 3 => exact h3
  | 4 => exact h4
  | 5 => exact h5
  | 6 => exact h6
  | n + 7 => exact h7
/-- the first bytes of a state -/
def firsts (s : Sha.St) (n : Nat) : List UInt8 := (List.range n).map fun i => UInt8.ofNat (Sha.at_ s (i / 4) / 2 ^ (24 - 8 * (i % 4)) % 256)
theorem firsts_len (s : Sha.St) (n : Nat) : (firsts s n).length = n := by simp [firsts]
theorem firsts_succ (s : Sha.St) (n : Nat) : firsts s (n + 1) = firsts s n ++ [UInt8.ofNat (Sha.at_ s (n / 4) / 2 ^ (24 - 8 * (n % 4)) % 256)] := by
  simp [firsts, List.range_succ]

theorem start_any (w : World) :
    Calls Tryd.prog 33 #[] w fun e w' => e = .returned (.agg (st8 Sha.start)) ∧ Below w.heap.size w w' := by
  have i58 : (Tryd.prog.info? 58).map (·.size) = some 8 := by kernel_rfl
  have I58 := Lib.hid i58
  clear i58
  go_enter Tryd.func33, Tryd.ntmps33
  go_wp2_with (refine wpList_store_named rfl 58 (.tmp 0) (.tmp 1) rfl w.heap.size (st8 Sha.start) rfl rfl (st8 ⟨0, 0, 0, 0, 0, 0, 0, 0⟩) (Holds.new2 rfl rfl) I58.out rfl (st8_one _) ?_; intro w5 hw5)
  obtain ⟨T5, hT5⟩ := (show Holds w5 w.heap.size (st8 Sha.start) from by rw [hw5]; exact (Holds.new _ _ _).row _)
  exact bodyPost_ret (results_cell_row rfl _ _ w.heap.size T5 _ (0, 0) _ rfl hT5 Tryd.underlying58 rfl I58.out) rfl ⟨rfl, by rw [hw5]; exact below_setRow ((Below.refl _ _).alloc (Nat.le_refl _) _) (Nat.le_refl _) _⟩

set_option maxHeartbeats 1000000 in
set_option maxRecDepth 100000 in
theorem hash_any (st : Sha.St) (w : World) (hok : st.ok) :
    Calls Tryd.prog 36 #[.agg (st8 st)] w fun e w' => e = .returned (.agg (bRow (Sha.bytes st))) ∧ Below w.heap.size w w' := by
  go_enter Tryd.func36, Tryd.ntmps36
  go_wp2_with fail
  go_loopw [5] (fun i wr => ∃ t : Nat, t ≤ 32 ∧ i = .int .i64 t ∧ Holds wr w.heap.size (st8 st) ∧ Holds wr (w.heap.size + 1) (bRow []) ∧ Holds wr (w.heap.size + 2) (bRow (firsts st t)) ∧ Below w.heap.size w wr) (fun i _ => 32 - (intOf i).toNat)
  case atStart => exact ⟨0, by omega, rfl, ((Holds.new _ _ _).alloc _).alloc _, (Holds.new2 (by simp) rfl).alloc _, Holds.new2 (by simp) rfl, (((Below.refl _ _).alloc (Nat.le_refl _) _).alloc (by simp) _).alloc (by simp; omega) _⟩
  case round =>
    obtain ⟨t, ht, rfl, hS, hR, hB, hb⟩ := hrel
    by_cases hlt : t < 32
    · have hx := hS.cell (t / 4)
      rw [st8_at st (t / 4) (by omega)] at hx
      have hlt32 := at_lt hok (t / 4)
      have hcell : wr.cell? ⟨w.heap.size + 2, t, none⟩ = some (.int .u8 0) := by
        have := hB.cell (firsts st t).length
        rw [bRow_free _ (by rw [firsts_len]; exact hlt), firsts_len] at this
        exact this
      have hfree := hB.free t
      have hp0 : (t : Int) / 4 < 8 := by omega
      have hp1 : (0 : Int) ≤ (t : Int) / 4 := by omega
      have HS := Lib.hid hS
      have HR := Lib.hid hR
      have HB := Lib.hid hB
      clear hS hR hB
      go_wp2_with fail
      have hval : ((Sha.at_ st (t / 4) : Nat) : Int) / 2 ^ (24 - 8 * (t % 4)) % 256 = ((UInt8.ofNat (Sha.at_ st (t / 4) / 2 ^ (24 - 8 * (t % 4)) % 256)).toNat : Int) := by
        rw [UInt8.toNat_ofNat']
        simp
      have hset := HB.out.set_ (firsts st t).length (Value.int .u8 (((Sha.at_ st (t / 4) : Nat) : Int) / 2 ^ (24 - 8 * (t % 4)) % 256))
      rw [bRow_set _ (by rw [firsts_len]; exact hlt) _ _ hval, firsts_len, ← firsts_succ] at hset
      exact ⟨⟨t + 1, by omega, by go_num, HS.out.far (by simp; omega) _, HR.out.far (by simp) _, hset, hb.setCell (by simp; omega) _⟩, by simp [intOf]; omega⟩
    · have e32 : t = 32 := by omega
      have hfin : bRow (firsts st t) = bRow (Sha.bytes st) := by rw [e32]; rfl
      have i24 : (Tryd.prog.info? 24).map (·.size) = some 32 := by kernel_rfl
      have hz := bRow_size (firsts st t) (by rw [firsts_len]; exact ht)
      have hz0 := bRow_size [] (by simp)
      have I24 := Lib.hid (i24.trans (congrArg some hz.symm))
      have Hold := Lib.hid (hz0.trans hz.symm)
      have Hfin := Lib.hid hfin
      obtain ⟨T3, hT3⟩ := hB
      have G3 := Lib.hid hT3
      have HR := Lib.hid hR
      clear hS hR hT3 e32 hfin i24 hz hz0
      go_wp2_with (first
        | (refine wpList_load_row rfl 24 (.tmp 3) rfl (w.heap.size + 2) rfl T3 _ (0, 0) _ G3.out Tryd.underlying24 rfl I24.out ?_)
        | (refine wpList_store_named rfl 24 (.tmp 2) (.tmp 21) rfl (w.heap.size + 1) (bRow (firsts st t)) rfl rfl _ HR.out I24.out Hold.out (bRow_one _) ?_; intro w5 hw5))
      obtain ⟨T5, hT5⟩ := (show Holds w5 (w.heap.size + 1) (bRow (firsts st t)) from by rw [hw5]; exact HR.out.row _)
      rw [← Hfin.out]
      exact bodyPost_ret (results_cell_row rfl _ _ (w.heap.size + 1) T5 _ (0, 0) _ rfl hT5 Tryd.underlying24 rfl I24.out) rfl ⟨rfl, by rw [hw5]; exact below_setRow hb (by omega) _⟩
end Go.Proofs.YtdifbndpgbdkbaaDoor
