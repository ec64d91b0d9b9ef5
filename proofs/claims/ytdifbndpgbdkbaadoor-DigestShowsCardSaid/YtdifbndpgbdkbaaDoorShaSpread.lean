/- digest.spread: what it returns. -/
import Derived.Test.YtdifbndpgbdkbaaDoorShaRot
import Derived.Test.YtdifbndpgbdkbaaDoorBlk
import Derived.StillTailTactics
import Derived.Deep.QuietTactic
import Derived.BigQuiet
import Derived.Laws.Rows
import Derived.Laws.CopyOwn
import Derived.IntWalk
namespace Go.Proofs.YtdifbndpgbdkbaaDoor
open Go.RowKit
set_option linter.unusedVariables false
set_option linter.unusedSimpArgs false

def u32s (ws : List Nat) : List Value := ws.map fun (x : Nat) => Value.int .u32 (x : Int)
/-- a row of 64 words, the first of which are known -/
def wRow (ws : List Nat) : Array Value := (u32s ws ++ List.replicate (64 - ws.length) (Value.int .u32 0)).toArray
theorem wRow_at (ws : List Nat) (i : Nat) (h : i < ws.length) : (wRow ws)[i]? = some (.int .u32 (ws.getD i 0 : Nat)) := by
  unfold wRow u32s
  simp [List.getElem?_append, h]
theorem wRow_free (ws : List Nat) (h : ws.length < 64) : (wRow ws)[ws.length]? = some (.int .u32 0) := by
  unfold wRow u32s
  simp [List.getElem?_append, List.getElem?_replicate, h]
  omega
theorem wRow_size (ws : List Nat) (h : ws.length ≤ 64) : (wRow ws).size = 64 := by
  unfold wRow u32s
  simp; omega
theorem wRow_one (ws : List Nat) : (wRow ws).all (·.oneCell') = true := by
  unfold wRow u32s
  simp [Value.oneCell']
theorem wRow_set (ws : List Nat) (h : ws.length < 64) (x : Nat) : (wRow ws).setIfInBounds ws.length (Value.int .u32 (x : Int)) = wRow (ws ++ [x]) := by
  unfold wRow u32s
  have e : 64 - ws.length = (64 - (ws.length + 1)) + 1 := by omega
  simp only [List.length_append, List.length_singleton]
  rw [e]
  simp only [List.replicate_succ, List.setIfInBounds_toArray]
  rw [List.set_append_right _ _ (by simp)]
  simp

theorem getD_byte (s : ByteArray) (p : Nat) (h : p < s.size) : s.data.toList.getD p 0 = s[p] := by
  have h' : p < s.data.toList.length := by simpa using h
  rw [List.getD_eq_getElem?_getD, List.getElem?_eq_getElem h', Option.getD_some]; rfl
theorem or_disj (x y k : Nat) (h : y < 2 ^ k) : x * 2 ^ k ||| y = x * 2 ^ k + y := by
  rw [← Nat.shiftLeft_eq, ← Nat.shiftLeft_add_eq_or_of_lt h]
theorem word_or1 (a b : Nat) (ha : a < 256) (hb : b < 256) : bits .or .u32 ((a : Int) * 16777216) ((b : Int) * 65536) = (a : Int) * 16777216 + (b : Int) * 65536 := by
  have h := or_disj a (b * 65536) 24 (by omega)
  have e1 : (a : Int) * 16777216 = ((a * 2 ^ 24 : Nat) : Int) := by omega
  have e2 : (b : Int) * 65536 = ((b * 65536 : Nat) : Int) := by omega
  rw [e1, e2, or32 (by omega) (by omega), h]; omega
theorem word_or2 (a b c : Nat) (ha : a < 256) (hb : b < 256) (hc : c < 256) : bits .or .u32 ((a : Int) * 16777216 + (b : Int) * 65536) ((c : Int) * 256) = (a : Int) * 16777216 + (b : Int) * 65536 + (c : Int) * 256 := by
  have h := or_disj (a * 256 + b) (c * 256) 16 (by omega)
  have e1 : (a : Int) * 16777216 + (b : Int) * 65536 = (((a * 256 + b) * 2 ^ 16 : Nat) : Int) := by omega
  have e2 : (c : Int) * 256 = ((c * 256 : Nat) : Int) := by omega
  rw [e1, e2, or32 (by omega) (by omega), h]; omega
theorem word_or3 (a b c d : Nat) (ha : a < 256) (hb : b < 256) (hc : c < 256) (hd : d < 256) :
    bits .or .u32 ((a : Int) * 16777216 + (b : Int) * 65536 + (c : Int) * 256) (d : Int) = (a : Int) * 16777216 + (b : Int) * 65536 + (c : Int) * 256 + (d : Int) := by
  have h := or_disj ((a * 256 + b) * 256 + c) d 8 (by omega)
  have e1 : (a : Int) * 16777216 + (b : Int) * 65536 + (c : Int) * 256 = ((((a * 256 + b) * 256 + c) * 2 ^ 8 : Nat) : Int) := by omega
  rw [e1, or32 (by omega) (by omega), h]; omega
theorem u32_in (n : Int) (h : 0 ≤ n) (h2 : n < 4294967296) : IntKind.u32.wrap n = n := IntWalk.u32_in n ⟨h, by omega⟩

theorem turned_still (x n : Nat) (w : World) (hx : x < 4294967296) (h1 : 1 ≤ n) (h2 : n ≤ 31) :
    Calls Tryd.prog 51 #[.int .u32 x, .int .i64 n] w fun e w' => e = .returned (.int .u32 (Sha.rot n x)) ∧ w' = w :=
  (turned_any x n w hx h1 h2).mono fun _ _ ⟨he, hw⟩ => ⟨he, hw.symm⟩
theorem xor32' {a b : Nat} (c : Nat) (ha : a < 4294967296) (hb : b < 4294967296) (hc : c = a ^^^ b) : bits .xor .u32 (a : Int) (b : Int) = (c : Int) := by rw [hc, xor32 ha hb]
theorem add32 (a b : Nat) : IntKind.u32.wrap ((a : Int) + (b : Int)) = ((Sha.add a b : Nat) : Int) := by
  rw [IntKind.wrap_u32]; unfold Sha.add; omega
theorem lit1_xor (Y : Nat) (hY : Y < 4294967296) : bits .xor .u32 ((Sha.rot 17 Y ^^^ Sha.rot 19 Y : Nat) : Int) ((Y : Int) / 1024) = ((Sha.lit1 Y : Nat) : Int) := by
  have e : (Y : Int) / 1024 = ((Y / 1024 : Nat) : Int) := by omega
  rw [e, xor32 (Sha.xor_lt (Sha.rot_lt 17 Y (by omega) (by omega) hY) (Sha.rot_lt 19 Y (by omega) (by omega) hY)) (by omega)]
  rfl
theorem lit0_xor (X : Nat) (hX : X < 4294967296) : bits .xor .u32 ((Sha.rot 7 X ^^^ Sha.rot 18 X : Nat) : Int) ((X : Int) / 8) = ((Sha.lit0 X : Nat) : Int) := by
  have e : (X : Int) / 8 = ((X / 8 : Nat) : Int) := by omega
  rw [e, xor32 (Sha.xor_lt (Sha.rot_lt 7 X (by omega) (by omega) hX) (Sha.rot_lt 18 X (by omega) (by omega) hX)) (by omega)]
  rfl

set_option maxHeartbeats 1000000 in
theorem spread_any (s : ByteArray) (w : World) (hs : s.size = 64) :
    Calls Tryd.prog 50 #[.string s] w fun e w' => e = .returned (.agg (wRow (Sha.words s.data.toList 64))) ∧ Below w.heap.size w w' := by
  have Hs := Lib.hid hs
  have hs1 : s.size ≤ 64 := by omega
  have hs2 : 64 ≤ s.size := by omega
  clear hs
  go_enter Tryd.func50, Tryd.ntmps50
  go_wp2_with fail
  go_loopw [8] (fun i wr => ∃ t : Nat, t ≤ 16 ∧ i = .int .i64 t ∧ Holds wr w.heap.size (wRow []) ∧ Holds wr (w.heap.size + 1) (wRow (Sha.words s.data.toList t)) ∧ Below w.heap.size w wr) (fun i _ => 16 - (intOf i).toNat)
  case atStart => exact ⟨0, by omega, rfl, (Holds.new2 rfl (by rfl)).alloc _, Holds.new2 (by simp) (by rfl), ((Below.refl _ _).alloc (Nat.le_refl _) _).alloc (by simp) _⟩
  case round =>
    obtain ⟨t, ht, rfl, h0, h1, hb⟩ := hrel
    by_cases hlt : t < 16
    · have hcell : wr.cell? ⟨w.heap.size + 1, t, none⟩ = some (.int .u32 0) := by
        have hlen := Sha.words_len s.data.toList t
        have := h1.cell (Sha.words s.data.toList t).length
        rw [wRow_free _ (by omega), hlen] at this
        exact this
      have hfree := h1.free t
      have hs3 : 4 * t + 3 < s.size := by omega
      have hj0 : 4 * (t : Int) < (s.size : Int) := by omega
      have hj1 : 4 * (t : Int) + 1 < (s.size : Int) := by omega
      have hj2 : 4 * (t : Int) + 2 < (s.size : Int) := by omega
      have hj3 : 4 * (t : Int) + 3 < (s.size : Int) := by omega
      have hw0 : IntKind.i64.wrap (4 * (t : Int)) = 4 * (t : Int) := IntWalk.i64_in _ (by omega)
      have hw1 : IntKind.i64.wrap (4 * (t : Int) + 1) = 4 * (t : Int) + 1 := IntWalk.i64_in _ (by omega)
      have hw2 : IntKind.i64.wrap (4 * (t : Int) + 2) = 4 * (t : Int) + 2 := IntWalk.i64_in _ (by omega)
      have hw3 : IntKind.i64.wrap (4 * (t : Int) + 3) = 4 * (t : Int) + 3 := IntWalk.i64_in _ (by omega)
      have hp0 : (0 : Int) ≤ 4 * (t : Int) := by omega
      have hp1 : (0 : Int) ≤ 4 * (t : Int) + 1 := by omega
      have hp2 : (0 : Int) ≤ 4 * (t : Int) + 2 := by omega
      have hp3 : (0 : Int) ≤ 4 * (t : Int) + 3 := by omega
      have hn0 : (4 * (t : Int)).toNat = 4 * t := by omega
      have hn1 : (4 * (t : Int) + 1).toNat = 4 * t + 1 := by omega
      have hn2 : (4 * (t : Int) + 2).toNat = 4 * t + 2 := by omega
      have hn3 : (4 * (t : Int) + 3).toNat = 4 * t + 3 := by omega
      have hp4 : (0 : Int) ≤ (t : Int) := by omega
      have hp5 : (t : Int) < 64 := by omega
      have hp6 : t < 64 := by omega
      have hb0 := s[4 * t].toNat_lt
      have hb1 := s[4 * t + 1].toNat_lt
      have hb2 := s[4 * t + 2].toNat_lt
      have hb3 := s[4 * t + 3].toNat_lt
      have hu0 : IntKind.u32.wrap ((s[4 * t].toNat : Nat) : Int) = (s[4 * t].toNat : Int) := u32_in _ (by omega) (by omega)
      have hu1 : IntKind.u32.wrap ((s[4 * t + 1].toNat : Nat) : Int) = (s[4 * t + 1].toNat : Int) := u32_in _ (by omega) (by omega)
      have hu2 : IntKind.u32.wrap ((s[4 * t + 2].toNat : Nat) : Int) = (s[4 * t + 2].toNat : Int) := u32_in _ (by omega) (by omega)
      have hu3 : IntKind.u32.wrap ((s[4 * t + 3].toNat : Nat) : Int) = (s[4 * t + 3].toNat : Int) := u32_in _ (by omega) (by omega)
      have hv0 : IntKind.u32.wrap ((s[4 * t].toNat : Int) * 16777216) = (s[4 * t].toNat : Int) * 16777216 := u32_in _ (by omega) (by omega)
      have hv1 : IntKind.u32.wrap ((s[4 * t + 1].toNat : Int) * 65536) = (s[4 * t + 1].toNat : Int) * 65536 := u32_in _ (by omega) (by omega)
      have hv2 : IntKind.u32.wrap ((s[4 * t + 2].toNat : Int) * 256) = (s[4 * t + 2].toNat : Int) * 256 := u32_in _ (by omega) (by omega)
      have ho1 := word_or1 _ _ hb0 hb1
      have ho2 := word_or2 _ _ _ hb0 hb1 hb2
      have ho3 := word_or3 _ _ _ _ hb0 hb1 hb2 hb3
      have hwd : (s[4 * t].toNat : Int) * 16777216 + (s[4 * t + 1].toNat : Int) * 65536 + (s[4 * t + 2].toNat : Int) * 256 + (s[4 * t + 3].toNat : Int) = ((Sha.word s.data.toList t : Nat) : Int) := by
        unfold Sha.word
        rw [getD_byte s (4 * t) (by omega), getD_byte s (4 * t + 1) (by omega), getD_byte s (4 * t + 2) (by omega), getD_byte s (4 * t + 3) (by omega)]
        omega
      have Hwd := Lib.hid hwd
      clear hwd
      have H0 := Lib.hid h0
      have H1 := Lib.hid h1
      clear h0 h1
      go_wp2_with fail
      go_still_tail 31, (by kernel_rfl)
      change wpList _ _ _ _ _ wr.drew
      obtain ⟨w2, hw2'⟩ : ∃ w2, w2 = wr.drew := ⟨_, rfl⟩
      rw [← hw2']
      have hcell2 : w2.cell? ⟨w.heap.size + 1, t, none⟩ = some (.int .u32 0) := by rw [hw2']; exact hcell
      have hfree2 : w2.frozen? ⟨w.heap.size + 1, t, none⟩ = false := by rw [hw2']; exact hfree
      have HW2 := Lib.hid hw2'
      clear hw2' hcell hfree
      go_wp2
      rw [Hwd.out]
      have hh0 : Holds w2 w.heap.size (wRow []) := by rw [HW2.out]; exact H0.out.drew
      have hh1 : Holds w2 (w.heap.size + 1) (wRow (Sha.words s.data.toList t)) := by rw [HW2.out]; exact H1.out.drew
      have hbb : Below w.heap.size w w2 := by rw [HW2.out]; exact hb.drew
      refine ⟨⟨t + 1, by omega, by go_num, hh0.far (by simp) _, ?_, hbb.setCell (by simp) _⟩, by simp [intOf]; omega⟩
      have hset := hh1.set_ t (.int .u32 (Sha.word s.data.toList t : Nat))
      have hlen := Sha.words_len s.data.toList t
      have hrow := wRow_set (Sha.words s.data.toList t) (by omega) (Sha.word s.data.toList t)
      rw [hlen] at hrow
      rw [hrow] at hset
      rw [Sha.words, if_pos hlt]
      exact hset
    · have ht16 : 16 ≤ t := by omega
      have H0 := Lib.hid h0
      have H1 := Lib.hid h1
      clear h0 h1
      go_wp2_with fail
      go_loopw [5] (fun i wr => ∃ t : Nat, 16 ≤ t ∧ t ≤ 64 ∧ i = .int .i64 t ∧ Holds wr w.heap.size (wRow []) ∧ Holds wr (w.heap.size + 1) (wRow (Sha.words s.data.toList t)) ∧ Below w.heap.size w wr) (fun i _ => 64 - (intOf i).toNat)
      case atStart => exact ⟨16, by omega, by omega, rfl, H0.out, (show 16 = t by omega) ▸ H1.out, hb⟩
      case round =>
        clear hb H0 H1 ht16
        obtain ⟨t, ht16, ht, rfl, h0, h1, hb⟩ := hrel
        by_cases hlt : t < 64
        · have hat : ∀ k, 1 ≤ k → k ≤ 16 → ∃ X : Nat, X < 4294967296 ∧ wr.cell? ⟨w.heap.size + 1, t - k, none⟩ = some (.int .u32 (X : Nat)) ∧ X = (Sha.words s.data.toList t).getD (t - k) 0 := by
            intro k hk1 hk2
            have hlen := Sha.words_len s.data.toList t
            have h := h1.cell (t - k)
            rw [wRow_at _ _ (by rw [hlen]; omega)] at h
            refine ⟨_, ?_, h, rfl⟩
            have hlt2 : t - k < (Sha.words s.data.toList t).length := by rw [hlen]; omega
            rw [List.getD_eq_getElem?_getD, List.getElem?_eq_getElem hlt2, Option.getD_some]
            exact Sha.words_lt _ _ _ (List.getElem_mem hlt2)
          obtain ⟨X, hX, cX, eX⟩ := hat 15 (by omega) (by omega)
          obtain ⟨Y, hY, cY, eY⟩ := hat 2 (by omega) (by omega)
          obtain ⟨A, hA, cA, eA⟩ := hat 7 (by omega) (by omega)
          obtain ⟨C, hC, cC, eC⟩ := hat 16 (by omega) (by omega)
          have hnext : Sha.next (Sha.words s.data.toList t) = Sha.add (Sha.add (Sha.add (Sha.lit1 Y) A) (Sha.lit0 X)) C := by
            unfold Sha.next
            rw [Sha.words_len, ← eX, ← eY, ← eA, ← eC]
          have Hnext := Lib.hid hnext
          have hcell : wr.cell? ⟨w.heap.size + 1, t, none⟩ = some (.int .u32 0) := by
            have hlen := Sha.words_len s.data.toList t
            have := h1.cell (Sha.words s.data.toList t).length
            rw [wRow_free _ (by omega), hlen] at this
            exact this
          have hfree := h1.free t
          clear hat eX eY eA eC hnext
          have hw15 : IntKind.i64.wrap ((t : Int) - 15) = (t : Int) - 15 := IntWalk.i64_in _ (by omega)
          have hw2 : IntKind.i64.wrap ((t : Int) - 2) = (t : Int) - 2 := IntWalk.i64_in _ (by omega)
          have hw7 : IntKind.i64.wrap ((t : Int) - 7) = (t : Int) - 7 := IntWalk.i64_in _ (by omega)
          have hw16 : IntKind.i64.wrap ((t : Int) - 16) = (t : Int) - 16 := IntWalk.i64_in _ (by omega)
          have hp15 : (0 : Int) ≤ (t : Int) - 15 := by omega
          have hp2 : (0 : Int) ≤ (t : Int) - 2 := by omega
          have hp7 : (0 : Int) ≤ (t : Int) - 7 := by omega
          have hp16 : (0 : Int) ≤ (t : Int) - 16 := by omega
          have hq15 : (t : Int) - 15 < 64 := by omega
          have hq2 : (t : Int) - 2 < 64 := by omega
          have hq7 : (t : Int) - 7 < 64 := by omega
          have hq16 : (t : Int) - 16 < 64 := by omega
          have hn15 : ((t : Int) - 15).toNat = t - 15 := by omega
          have hn2 : ((t : Int) - 2).toNat = t - 2 := by omega
          have hn7 : ((t : Int) - 7).toNat = t - 7 := by omega
          have hn16 : ((t : Int) - 16).toNat = t - 16 := by omega
          have hp : (0 : Int) ≤ (t : Int) := by omega
          have hr15 : (15 : Int) ≤ (t : Int) := by omega
          have hr2 : (2 : Int) ≤ (t : Int) := by omega
          have hr7 : (7 : Int) ≤ (t : Int) := by omega
          have hr16 : (16 : Int) ≤ (t : Int) := by omega
          have hq : (t : Int) < 64 := by omega
          have H0 := Lib.hid h0
          have H1 := Lib.hid h1
          clear h0 h1
          go_wp2_with fail
          go_quiet (fail)
          obtain ⟨wq, hwq⟩ : ∃ wq, wq = wr.drewN nq := ⟨_, rfl⟩
          rw [← hwq]
          have cX := (show wq.cell? ⟨w.heap.size + 1, t - 15, none⟩ = some (.int .u32 (X : Nat)) from by rw [hwq]; exact cX)
          have cA := (show wq.cell? ⟨w.heap.size + 1, t - 7, none⟩ = some (.int .u32 (A : Nat)) from by rw [hwq]; exact cA)
          have cC := (show wq.cell? ⟨w.heap.size + 1, t - 16, none⟩ = some (.int .u32 (C : Nat)) from by rw [hwq]; exact cC)
          have hcell := (show wq.cell? ⟨w.heap.size + 1, t, none⟩ = some (.int .u32 0) from by rw [hwq]; exact hcell)
          have hfree := (show wq.frozen? ⟨w.heap.size + 1, t, none⟩ = false from by rw [hwq]; exact hfree)
          have H0 := (show Holds wq _ _ from by rw [hwq]; exact H0.out)
          have H1 := (show Holds wq _ _ from by rw [hwq]; exact H1.out)
          have hb := (show Below w.heap.size w wq from by rw [hwq]; exact below_drewN_ hb _)
          have H0 := Lib.hid H0
          have H1 := Lib.hid H1
          clear hwq
          have t17 := turned_still Y 17 wq.drew hY (by omega) (by omega)
          have t19 := turned_still Y 19 wq.drew hY (by omega) (by omega)
          have t7 := turned_still X 7 wq.drew hX (by omega) (by omega)
          have t18 := turned_still X 18 wq.drew hX (by omega) (by omega)
          have T17 := Lib.hid t17
          have T19 := Lib.hid t19
          have T7 := Lib.hid t7
          have T18 := Lib.hid t18
          clear t17 t19 t7 t18
          have hx1 := xor32 (Sha.rot_lt 17 Y (by omega) (by omega) hY) (Sha.rot_lt 19 Y (by omega) (by omega) hY)
          have hx2 := lit1_xor Y hY
          have hx3 := xor32 (Sha.rot_lt 7 X (by omega) (by omega) hX) (Sha.rot_lt 18 X (by omega) (by omega) hX)
          have hx4 := lit0_xor X hX
          have ha1 := add32 (Sha.lit1 Y) A
          have ha2 := add32 (Sha.add (Sha.lit1 Y) A) (Sha.lit0 X)
          have ha3 := add32 (Sha.add (Sha.add (Sha.lit1 Y) A) (Sha.lit0 X)) C
          go_wp2_with fail
          refine wp_region_still_tail 29 (by kernel_rfl) (by kernel_rfl) ?_
          simp only [List.take_succ_cons, List.take_zero, List.drop_succ_cons, List.drop_zero]
          repeat still_step
          still_call T17.out
          repeat still_step
          still_call T19.out
          repeat still_step
          still_call T7.out
          repeat still_step
          still_call T18.out
          repeat still_step
          refine wpStill_nil ?_
          change wpList _ _ _ _ _ wq.drew
          obtain ⟨w2, hww⟩ : ∃ w2, w2 = wq.drew := ⟨_, rfl⟩
          rw [← hww]
          have hcell2 : w2.cell? ⟨w.heap.size + 1, t, none⟩ = some (.int .u32 0) := by rw [hww]; exact hcell
          have hfree2 : w2.frozen? ⟨w.heap.size + 1, t, none⟩ = false := by rw [hww]; exact hfree
          have HW2 := Lib.hid hww
          clear hww hcell hfree
          go_wp2
          have hh0 : Holds w2 w.heap.size (wRow []) := by rw [HW2.out]; exact H0.out.drew
          have hh1 : Holds w2 (w.heap.size + 1) (wRow (Sha.words s.data.toList t)) := by rw [HW2.out]; exact H1.out.drew
          have hbb : Below w.heap.size w w2 := by rw [HW2.out]; exact hb.drew
          refine ⟨⟨t + 1, by omega, by omega, by go_num, hh0.far (by simp) _, ?_, hbb.setCell (by simp) _⟩, by simp [intOf]; omega⟩
          have hset := hh1.set_ t (.int .u32 (Sha.next (Sha.words s.data.toList t) : Nat))
          have hlen := Sha.words_len s.data.toList t
          have hrow := wRow_set (Sha.words s.data.toList t) (by omega) (Sha.next (Sha.words s.data.toList t))
          rw [hlen] at hrow
          rw [hrow] at hset
          rw [Sha.words, if_neg (by omega)]
          rw [Hnext.out] at hset
          rw [Hnext.out]
          exact hset
        · have ht64 : 64 ≤ t := by omega
          have hlen := Sha.words_len s.data.toList t
          obtain ⟨T0, hg0⟩ := h0
          obtain ⟨T1, hg1⟩ := h1
          have hz0 := wRow_size [] (by simp)
          have hz1 := wRow_size (Sha.words s.data.toList t) (by omega)
          have e64 : t = 64 := by omega
          have i78 : (Tryd.prog.info? 78).map (·.size) = some 64 := by kernel_rfl
          have I0 := Lib.hid (i78.trans (congrArg some hz0.symm))
          have I1 := Lib.hid (i78.trans (congrArg some hz1.symm))
          have G0 := Lib.hid hg0
          have G1 := Lib.hid hg1
          have E64 := Lib.hid e64
          have Hold := Lib.hid (hz0.trans hz1.symm)
          have hbr : Below w.heap.size w (wr.setRow w.heap.size (wRow (Sha.words s.data.toList t))) := below_setRow hb (Nat.le_refl _) _
          have Hrow := Lib.hid (setRow_heap wr w.heap.size _ (wRow (Sha.words s.data.toList t)) T0 (0, 0) hg0)
          clear hg0 hg1 hz0 hz1 e64 i78 hlen
          go_wp2_with (first
            | (refine wpList_load_row rfl 78 (.tmp 3) rfl (w.heap.size + 1) rfl T1 _ (0, 0) _ G1.out Tryd.underlying78 rfl I1.out ?_)
            | (refine wpList_store_row rfl 78 (.tmp 2) (.tmp 84) rfl w.heap.size _ rfl rfl T0 _ G0.out I1.out Hold.out (wRow_one _) ?_))
          rw [← E64.out]
          exact bodyPost_ret (results_cell_row rfl _ _ w.heap.size T0 _ (0, 0) _ rfl Hrow.out Tryd.underlying78 rfl I1.out) rfl ⟨rfl, hbr⟩
end Go.Proofs.YtdifbndpgbdkbaaDoor
