/- Contracts of the reference of layer 1. -/
import Derived.Test.YtdekcicgiflnbaaDoorMOctA
import Derived.Test.YtdekcicgiflnbaaDoorChecked
import Derived.Lib.AppendStr
import Derived.Lib.ConvBytes
import Derived.Laws.IdiomCopy
import Derived.Laws.BytesArg
import Derived.Below
import Derived.OwnWalk
import Derived.WalkKit
import Derived.Deep.QuietTactic
import Derived.BigQuiet
/- ---- OctRef ---- -/
namespace Go.Proofs.YtdekcicgiflnbaaDoor
open Go.RowKit
set_option linter.unusedVariables false
set_option linter.unusedSimpArgs false

theorem one_byte (T : TypeId) (W : World) (x : Int) : (convert 81 9 (.slice (some ⟨W.heap.size, 0, none⟩) 1 1)).run Tryd.prog (W.alloc (.cells #[.int .u8 x] T)) = .ok (S [UInt8.ofNat x.toNat]) (W.alloc (.cells #[.int .u8 x] T)) := by
  have := run_convert_bytes_arg (P := Tryd.prog) (W.alloc (.cells #[.int .u8 x] T)) 81 5 Tryd.underlying81 Tryd.underlying5 W.heap.size 0 1 1 [x] rfl (fun i hi => by
    obtain rfl : i = 0 := by omega
    simp [go_sem]) 9 Tryd.underlying9
  exact this
theorem append_list (a b : List UInt8) : (⟨a.toArray⟩ : ByteArray) ++ ⟨b.toArray⟩ = ⟨(a ++ b).toArray⟩ := by
  apply ByteArray.ext; simp

set_option maxRecDepth 20000 in
set_option maxHeartbeats 400000 in
theorem refNumber_any (n : Int) (w : World) (h1 : n ≤ 9223372036854775807) :
    Calls Tryd.prog 96 #[.int .i64 n] w fun e w' => e = .returned (two (Oct.numE n).1 (Oct.numE n).2) ∧ Below w.heap.size w w' := by
  by_cases h0 : n < 0
  · have e : Oct.numE n = ([], 2) := by unfold Oct.numE; rw [if_pos h0]
    rw [e]
    go_enter Tryd.func96, Tryd.ntmps96
    go_wp2_with fail
    go_ret2
    exact ⟨rfl, Below.refl _ _⟩
  · have e : Oct.numE n = (Oct.num n.toNat, 0) := by unfold Oct.numE; rw [if_neg h0]
    rw [e]
    clear e
    go_enter Tryd.func96, Tryd.ntmps96
    go_wp2_with fail
    go_loopw [0, 4, 5] (fun a b c wr => ∃ (m : Nat) (bk : List UInt8), a = .int .i64 m ∧ b = S bk ∧ c = .int .i64 bk.length ∧ bk.length ≤ 8 ∧ m < 256 ^ (8 - bk.length) ∧ (m : Int) ≤ 9223372036854775807 ∧ Oct.bigs 8 n.toNat = Oct.bigs (8 - bk.length) m ++ bk ∧ Below w.heap.size w wr) (fun a _ _ _ => (intOf a).toNat)
    case atStart => exact ⟨n.toNat, [], by rw [Int.toNat_of_nonneg (by omega)], rfl, rfl, by simp, by simp; omega, by omega, by simp, Below.refl _ _⟩
    case round =>
      obtain ⟨m, bk, rfl, rfl, rfl, hk, hm, hm2, hb, hbel⟩ := hrel
      have Hm := Lib.hid hm; clear hm
      have Hb := Lib.hid hb; clear hb
      by_cases hlt : 0 < m
      · have hl7 : bk.length ≤ 7 := by
          have := Hm.out
          rcases Nat.lt_or_ge bk.length 8 with h | h
          · omega
          · have e : bk.length = 8 := by omega
            rw [e] at this; simp at this; omega
        have hcv := one_byte 5 wr ((m : Int) % 256)
        go_wp2_with fail
        have hms := Hm.out
        have hbs := Hb.out
        have e8 : 8 - bk.length = (8 - (bk.length + 1)) + 1 := by omega
        rw [e8] at hms hbs
        refine ⟨⟨m / 256, UInt8.ofNat (m % 256) :: bk, by simp, ?_, by simp, by simp; omega, ?_, by omega, ?_, hbel.alloc hbel.size _⟩, ?_⟩
        · exact congrArg Value.string (append_list [UInt8.ofNat (m % 256)] bk)
        · rw [Nat.div_lt_iff_lt_mul (by decide)]
          rw [Nat.pow_succ] at hms
          simpa using hms
        · rw [hbs, Oct.bigs, if_neg (by omega)]
          simp
        · simp [intOf]; omega
      · obtain rfl : m = 0 := by omega
        have hcv := one_byte 5 wr (bk.length : Int)
        go_wp2_with fail
        go_ret2
        have hbs := Hb.out
        have hnum : Oct.num n.toNat = UInt8.ofNat bk.length :: bk := by
          have e : Oct.bigs (8 - bk.length) 0 = [] := by cases (8 - bk.length) <;> simp [Oct.bigs]
          unfold Oct.num
          rw [hbs, e]; simp
        rw [hnum]
        refine ⟨?_, hbel.alloc hbel.size _⟩
        exact congrArg (fun x => Ending.returned (Value.tuple #[Value.string x, .int .i64 0])) (append_list [UInt8.ofNat bk.length] bk)

set_option maxRecDepth 20000 in
set_option maxHeartbeats 400000 in
theorem refText_any (s : ByteArray) (w : World) :
    Calls Tryd.prog 97 #[.string s] w fun e w' => e = .returned (two (Oct.textE s.data.toList).1 (Oct.textE s.data.toList).2) ∧ Below w.heap.size w w' := by
  by_cases h0 : 65536 < s.size
  · have e : Oct.textE s.data.toList = ([], 3) := by unfold Oct.textE; rw [Oct.bytes_len, if_pos h0]
    rw [e]
    clear e
    go_enter Tryd.func97, Tryd.ntmps97
    go_wp2_with fail
    go_ret2
    exact ⟨rfl, Below.refl _ _⟩
  · have e : Oct.textE s.data.toList = (Oct.text s.data.toList, 0) := by unfold Oct.textE; rw [Oct.bytes_len, if_neg h0]
    rw [e]
    clear e
    have en : Oct.numE (s.size : Int) = (Oct.num s.size, 0) := by unfold Oct.numE; rw [if_neg (by omega), Int.toNat_natCast]
    have En := Lib.hid en
    clear en
    go_enter Tryd.func97, Tryd.ntmps97
    go_wp2_with fail
    refine (refNumber_any _ _ (by omega)).mono ?_
    rintro e w1 ⟨rfl, hb1⟩
    rw [En.out]
    unfold two
    have hcat := Oct.num_length_le s.size
    go_wp2_with fail
    go_ret2
    refine ⟨?_, hb1⟩
    exact congrArg (fun x => Ending.returned (Value.tuple #[Value.string x, .int .i64 0])) (append_list (Oct.num s.size) s.data.toList)

theorem refReadNumber_out (s : ByteArray) (p : Int) (w : World) (h : p < 0 ∨ (s.size : Int) < p) :
    Calls Tryd.prog 120 #[.string s, .int .i64 p] w fun e w' => e = .returned (three 0 0 4) ∧ w = w' := by
  by_cases h0 : p < 0
  · have hd : decide (p < 0) = true := by simpa using h0
    go_enter Tryd.func120, Tryd.ntmps120
    go_wp2
    go_ret3
    exact ⟨rfl, rfl⟩
  · have hd : decide (p < 0) = false := by simpa using h0
    have h1 : (s.size : Int) < p := by omega
    have hd1 : decide ((s.size : Int) < p) = true := by simpa using h1
    go_enter Tryd.func120, Tryd.ntmps120
    go_wp2
    go_ret3
    exact ⟨rfl, rfl⟩
theorem refReadNumber_end (s : ByteArray) (w : World) :
    Calls Tryd.prog 120 #[.string s, .int .i64 s.size] w fun e w' => e = .returned (three 0 0 5) ∧ w = w' := by
  go_enter Tryd.func120, Tryd.ntmps120
  go_wp2
  go_ret3
  exact ⟨rfl, rfl⟩
theorem refReadNumber_big (s : ByteArray) (p : Nat) (w : World) (hs : s.size ≤ 140737488351232) (hp : p < s.size) (hk : 8 < s[p].toNat) :
    Calls Tryd.prog 120 #[.string s, .int .i64 p] w fun e w' => e = .returned (three 0 0 6) ∧ w = w' := by
  have hd : decide ((p : Int) < 0) = false := by simp
  have hd1 : decide (s.size < p) = false := by simp; omega
  have hd2 : ((p : Int) == (s.size : Int)) = false := by simp; omega
  have hb := byte_le s[p]
  have hd3 : decide ((8 : Int) < (s[p].toNat : Int)) = true := by simp; omega
  go_enter Tryd.func120, Tryd.ntmps120
  go_wp2
  go_ret3
  exact ⟨rfl, rfl⟩
theorem refReadNumber_short (s : ByteArray) (p : Nat) (w : World) (hs : s.size ≤ 140737488351232) (hp : p < s.size) (hk : s[p].toNat ≤ 8) (hk2 : s.size < p + 1 + s[p].toNat) :
    Calls Tryd.prog 120 #[.string s, .int .i64 p] w fun e w' => e = .returned (three 0 0 5) ∧ w = w' := by
  have hd : decide ((p : Int) < 0) = false := by simp
  have hd1 : decide (s.size < p) = false := by simp; omega
  have hd2 : ((p : Int) == (s.size : Int)) = false := by simp; omega
  have hb := byte_le s[p]
  have hd3 : decide ((8 : Int) < (s[p].toNat : Int)) = false := by simp; omega
  have hd4 : decide ((s.size : Int) < (p : Int) + 1 + (s[p].toNat : Int)) = true := by simp; omega
  go_enter Tryd.func120, Tryd.ntmps120
  go_wp2
  go_ret3
  exact ⟨rfl, rfl⟩
set_option maxRecDepth 20000 in
set_option maxHeartbeats 800000 in
theorem refReadNumber_loop (s : ByteArray) (p : Nat) (w : World) (hs : s.size ≤ 140737488351232) (hp : p < s.size) (hk : s[p].toNat ≤ 8) (hk2 : p + 1 + s[p].toNat ≤ s.size) :
    Calls Tryd.prog 120 #[.string s, .int .i64 p] w fun e w' => e = .returned (rdNumV s p) ∧ w = w' := by
  have hd : decide ((p : Int) < 0) = false := by simp
  have hd1 : decide (s.size < p) = false := by simp; omega
  have hd2 : ((p : Int) == (s.size : Int)) = false := by simp; omega
  have hb := byte_le s[p]
  have hd3 : decide ((8 : Int) < (s[p].toNat : Int)) = false := by simp; omega
  have hd4 : decide ((s.size : Int) < (p : Int) + 1 + (s[p].toNat : Int)) = false := by simp; omega
  go_enter Tryd.func120, Tryd.ntmps120
  go_wp2
  go_loop [8, 9] (fun n c => ∃ j : Nat, j ≤ s[p].toNat ∧ c = .int .i64 ((p + 1 + j : Nat) : Int) ∧ n = .int .u64 (Oct.val (Oct.own s p j))) (fun _ c => p + 1 + s[p].toNat - (intOf c).toNat)
  case atStart => exact ⟨0, by omega, by go_num, rfl⟩
  case round =>
    obtain ⟨j, hj, rfl, rfl⟩ := hrel
    by_cases hlt : j < s[p].toNat
    · have hsn := Oct.own_snoc s p j (by omega)
      have hvs : Oct.val (Oct.own s p (j + 1)) = Oct.val (Oct.own s p j) * 256 + (s[p + 1 + j]'(by omega)).toNat := by rw [hsn, Oct.val_snoc]
      have hvl : (Oct.val (Oct.own s p j) : Int) ≤ 72057594037927935 := by
        have h1 := Oct.val_lt (Oct.own s p j)
        rw [Oct.own_len s p j (by omega)] at h1
        have h2 : 256 ^ j ≤ 256 ^ 7 := Nat.pow_le_pow_right (by decide) (by omega)
        have h3 : (256 : Nat) ^ 7 = 72057594037927936 := by decide
        omega
      have hb2 := byte_le (s[p + 1 + j]'(by omega))
      have Hvs := Lib.hid hvs
      clear hvs hsn
      go_wp2
      go_round
      case rel => exact ⟨j + 1, by omega, by go_num, by rw [Hvs.out]; go_num⟩
      case measure => simp [intOf]; omega
    · obtain rfl : j = s[p].toNat := by omega
      have Hfine := fun h => Lib.hid (Oct.rdNum_fine s p hp hk hk2 h)
      have Hbad := fun h => Lib.hid (Oct.rdNum_bad s p hp hk hk2 h)
      by_cases hk0 : 0 < s[p].toNat
      · have hp1 : p + 1 < s.size := by omega
        have hp2 : (p : Int) + 1 < s.size := by omega
        have hd5 : decide ((0 : Int) < (s[p].toNat : Int)) = true := by simp; omega
        have hd6 : decide (0 < s[p].toNat) = true := by simp; omega
        by_cases hz : s[p + 1].toNat = 0
        · have hd7 : ((s[p + 1].toNat : Int) == 0) = true := by simp [hz]
          have Hres := Hbad (.inl ((Oct.head_zero s p _ hk2 hk0).2 hz))
          have Hz := Lib.hid hz
          clear hz Hfine Hbad
          go_wp2
          go_ret3
          unfold rdNumV
          rw [Hres.out]
          exact ⟨rfl, rfl⟩
        · have hd7 : ((s[p + 1].toNat : Int) == 0) = false := by simp; omega
          by_cases hv : 2 ^ 63 ≤ Oct.val (Oct.own s p s[p].toNat)
          · have hd8 : decide ((9223372036854775807 : Int) < (Oct.val (Oct.own s p s[p].toNat) : Int)) = true := by simp; omega
            have Hres := Hbad (.inr hv)
            clear hv Hfine Hbad
            go_wp2
            go_ret3
            unfold rdNumV
            rw [Hres.out]
            exact ⟨rfl, rfl⟩
          · have hd8 : decide ((9223372036854775807 : Int) < (Oct.val (Oct.own s p s[p].toNat) : Int)) = false := by simp; omega
            have Hres := Hfine (by
              rintro (h | h)
              · exact hz ((Oct.head_zero s p _ hk2 hk0).1 h)
              · exact hv h)
            have hv2 : (Oct.val (Oct.own s p s[p].toNat) : Int) ≤ 9223372036854775807 := by omega
            clear hv Hfine Hbad
            go_wp2
            go_ret3
            unfold rdNumV
            rw [Hres.out]
            exact ⟨rfl, rfl⟩
      · have hk00 : s[p].toNat ≤ 0 := by omega
        have hd5 : decide ((0 : Int) < (s[p].toNat : Int)) = false := by simp; omega
        have hd6 : decide (0 < s[p].toNat) = false := by simp; omega
        have hv : ¬ 2 ^ 63 ≤ Oct.val (Oct.own s p s[p].toNat) := by
          have h1 := Oct.val_small s p s[p].toNat (by omega) hk2
          omega
        have hd8 : decide ((9223372036854775807 : Int) < (Oct.val (Oct.own s p s[p].toNat) : Int)) = false := by simp; omega
        have Hres := Hfine (by
          rintro (h | h)
          · have e0 : s[p].toNat = 0 := by omega
            rw [e0, Oct.own_zero] at h; simp at h
          · exact hv h)
        have hv2 : (Oct.val (Oct.own s p s[p].toNat) : Int) ≤ 9223372036854775807 := by omega
        clear hv Hfine Hbad
        go_wp2
        go_ret3
        unfold rdNumV
        rw [Hres.out]
        exact ⟨rfl, rfl⟩
theorem refReadNumber_any (s : ByteArray) (p : Int) (w : World) (hs : s.size ≤ 140737488351232) :
    Calls Tryd.prog 120 #[.string s, .int .i64 p] w fun e w' => e = .returned (rdNumV s p) ∧ w = w' := by
  have hl := Oct.bytes_len s
  by_cases h0 : p < 0 ∨ (s.size : Int) < p
  · unfold rdNumV
    rw [Oct.rdNum_neg _ _ (by rw [hl]; exact h0)]
    exact refReadNumber_out s p w h0
  obtain ⟨k, rfl⟩ := Int.eq_ofNat_of_zero_le (show 0 ≤ p by omega)
  by_cases h1 : k = s.size
  · subst h1
    unfold rdNumV
    rw [Oct.rdNum_end]
    exact refReadNumber_end s w
  have hp : k < s.size := by omega
  by_cases h2 : 8 < s[k].toNat
  · unfold rdNumV
    rw [Oct.rdNum_big s k hp h2]
    exact refReadNumber_big s k w hs hp h2
  by_cases h3 : s.size < k + 1 + s[k].toNat
  · unfold rdNumV
    rw [Oct.rdNum_short s k hp (by omega) h3]
    exact refReadNumber_short s k w hs hp (by omega) h3
  exact refReadNumber_loop s k w hs hp (by omega) (by omega)
end Go.Proofs.YtdekcicgiflnbaaDoor

/- ---- Own8 ---- -/
namespace Go.Proofs.YtdekcicgiflnbaaDoor
open Go.RowKit
set_option linter.unusedVariables false
set_option linter.unusedSimpArgs false

/-- v holds the bytes bs in a row of the call's own, from block 'base' on; all its places up to the capacity can be written -/
def Own8 (w : World) (base : Nat) (v : Value) (bs : List UInt8) : Prop :=
  ∃ g cap, v = .slice (some ⟨g, 0, none⟩) bs.length cap ∧ base ≤ g ∧ g < w.heap.size ∧ bs.length ≤ cap ∧ cap ≤ maxLen ∧
    (∀ i, i < cap → (w.cell? ⟨g, i, none⟩).isSome = true ∧ w.frozen? ⟨g, i, none⟩ = false) ∧
    ∀ i (h : i < bs.length), w.cell? ⟨g, i, none⟩ = some (.int .u8 (bs[i].toNat : Int))

theorem Own8.below {w w1 : World} {base : Nat} {v : Value} {bs : List UInt8} (h : Own8 w base v bs) (hb : Below w.heap.size w w1) : Own8 w1 base v bs := by
  obtain ⟨g, cap, rfl, hg, hgs, hn, hm, hw, hc⟩ := h
  refine ⟨g, cap, rfl, hg, Nat.lt_of_lt_of_le hgs hb.size, hn, hm, fun i hi => ?_, fun i hi => ?_⟩
  · rw [hb.cell (p := ⟨g, i, none⟩) hgs, hb.frozen (p := ⟨g, i, none⟩) hgs]; exact hw i hi
  · rw [hb.cell (p := ⟨g, i, none⟩) hgs]; exact hc i hi

theorem below_bytes (w : World) (e : TypeId) (s : ByteArray) : Below w.heap.size w (Lib.bytesWorld w e s) :=
  ⟨rfl, rfl, rfl, by rw [Lib.bytesWorld_size]; omega, fun k hk => Lib.bytesWorld_at_old w e s k hk⟩

theorem Own8.of_string (w : World) (e : TypeId) (s : ByteArray) (hs : s.size ≤ maxLen) :
    Own8 (Lib.bytesWorld w e s) w.heap.size (.slice (some ⟨w.heap.size, 0, none⟩) s.size (grownCap w s.size 0 e)) s.data.toList := by
  have hge := grownCap_ge w s.size 0 e
  have hcs : (Lib.bytesCells w e s).size = grownCap w s.size 0 e := by
    unfold Lib.bytesCells
    have : s.data.size = s.size := rfl
    simp [this]; omega
  refine ⟨w.heap.size, _, rfl, Nat.le_refl _, by rw [Lib.bytesWorld_size]; omega, hge, grownCap_le_maxLen w s.size 0 e hs, fun i hi => ⟨?_, ?_⟩, fun i hi => ?_⟩
  · have h1 := Lib.bytesWorld_at_new w e s
    have h2 : i < (Lib.bytesCells w e s).size := by omega
    simp [World.cell?, h1, h2]
  · have h1 := Lib.bytesWorld_at_new w e s
    simp [World.frozen?, h1]
    intro h; omega
  · rw [Lib.bytesWorld_cell w e s i hi]
    simp [List.getD, List.getElem?_eq_getElem hi]

theorem below_cells8 {B b : Nat} (hb : B ≤ b) {a : World} : ∀ (vs : List Value) (o : Nat) {w : World}, Below B a w → Below B a (w.setCells b o vs)
  | [], _, _, h => h
  | v :: r, o, _, h => below_cells8 hb r (o + 1) (h.setCell (p := ⟨b, o, none⟩) hb v)
theorem cells_size (b : Nat) : ∀ (vs : List Value) (o : Nat) (w : World), (w.setCells b o vs).heap.size = w.heap.size
  | [], _, _ => rfl
  | v :: r, o, w => by rw [World.setCells, cells_size b r]; simp [World.setCell]

theorem isSome_of_lt (c : Array Value) (j : Nat) (h : j < c.size) : (c[j]?).isSome = true := by rw [Array.getElem?_eq_getElem h]; rfl
theorem Own8.append {P : Program} {w : World} {base : Nat} {v : Value} {bs : List UInt8} (h : Own8 w base v bs) (t u ty e : TypeId) (i : TypeInfo)
    (ht : P.underlying t = some (.slice e)) (hu : P.underlying u = some .string) (hi : P.info? e = some i) (hz : i.zero = some (.int .u8 0)) (hsize : i.size = 1) (hby : i.bytes = 1)
    (s : ByteArray) (hbytes : bs.length + s.size ≤ 140737488355328) (hbase : base ≤ w.heap.size) :
    ∃ v' w', (Builtin.append_ #[t, u] ty #[v, .string s]).run P w = .ok v' w' ∧ Own8 w' base v' (bs ++ s.data.toList) ∧ Below base w w' := by
  obtain ⟨g, cap, rfl, hg, hgs, hn, hm, hw, hc⟩ := h
  have hsl : s.data.toList.length = s.size := rfl
  by_cases hroom : bs.length + s.size ≤ cap
  · have hf := Lib.run_firstCells_string (P := P) w 1 s
    have hst := run_storeCells_cells (P := P) g bs.length (Lib.strCells s) 0 w (fun j hj => by rw [Lib.strCells_length] at hj; exact (hw _ (by omega)).1)
      (fun j hj => by rw [Lib.strCells_length] at hj; exact (hw _ (by omega)).2) (Lib.strCells_oneCell s)
    have hrun : (Builtin.append_ #[t, u] ty #[.slice (some ⟨g, 0, none⟩) bs.length cap, .string s]).run P w =
        .ok (.slice (some ⟨g, 0, none⟩) (bs.length + s.size) cap) (w.setCells g bs.length (Lib.strCells s)) := by
      simp only [Nat.add_zero] at hst
      simp [Builtin.append_, run_underlying ht, run_underlying hu, sizeOf, typeInfo, hi, hsize, Builtin.lenOf, hroom, hf, Addr.add_lit, hst]
    refine ⟨_, _, hrun, ⟨g, cap, by rw [List.length_append, hsl], hg, by rw [cells_size]; exact hgs, by rw [List.length_append, hsl]; exact hroom, hm, fun j hj => ⟨?_, ?_⟩, fun j hj => ?_⟩, below_cells8 hg _ _ (Below.refl _ _)⟩
    · by_cases h1 : bs.length ≤ j ∧ j < bs.length + s.size
      · obtain ⟨d, rfl⟩ : ∃ d, j = bs.length + d := ⟨j - bs.length, by omega⟩
        rw [World.cell?_setCells_in g (Lib.strCells s) bs.length w (fun k hk => by rw [Lib.strCells_length] at hk; exact (hw _ (by omega)).1) d (by rw [Lib.strCells_length]; omega)]
        rfl
      · rw [World.cell?_setCells_out g (Lib.strCells s) bs.length w _ (fun _ _ => by rw [Lib.strCells_length]; show j < _ ∨ _ ≤ j; omega)]
        exact (hw j hj).1
    · rw [World.frozen?_setCells]; exact (hw j hj).2
    · rw [List.length_append, hsl] at hj
      by_cases h1 : j < bs.length
      · rw [World.cell?_setCells_out g (Lib.strCells s) bs.length w _ (fun _ _ => Or.inl h1), List.getElem_append_left h1]
        exact hc j h1
      · obtain ⟨d, rfl⟩ : ∃ d, j = bs.length + d := ⟨j - bs.length, by omega⟩
        rw [World.cell?_setCells_in g (Lib.strCells s) bs.length w (fun k hk => by rw [Lib.strCells_length] at hk; exact (hw _ (by omega)).1) d (by rw [Lib.strCells_length]; omega)]
        simp [Lib.strCells, List.getElem_append_right]
  · have holds : ∀ j v, (bs.map fun b => Value.int .u8 (b.toNat : Int))[j]? = some v → w.cell? ((⟨g, 0, none⟩ : Addr).add j) = some v := by
      intro j v hj
      have hl : j < bs.length := by have := (List.getElem?_eq_some_iff.1 hj).1; simpa using this
      have e : (⟨g, 0, none⟩ : Addr).add j = ⟨g, j, none⟩ := by unfold Addr.add; split <;> simp_all
      rw [e, hc j hl]
      rw [← hj]; simp [hl]
    have hcap63 : bs.length + s.size ≤ maxLen := by unfold maxLen; omega
    have hfit : Builtin.nextslicecap (bs.length + s.size) cap * i.bytes ≤ 281474976710656 := by
      rw [hby, Nat.mul_one]
      have := nextslicecap_le (need := bs.length + s.size) (old := cap) (by omega)
      omega
    have hrun := Lib.run_append_grow_string (P := P) w t u ty e i _ ht hu hi hz ⟨g, 0, none⟩ bs.length cap (bs.map fun b => Value.int .u8 (b.toNat : Int)) (by rw [hsize]; simp) holds s (by omega) (by omega) hfit
    have hge := grownCap_ge w (bs.length + s.size) cap e
    have hcm := grownCap_le_maxLen w (bs.length + s.size) cap e hcap63
    refine ⟨_, _, hrun, ⟨w.heap.size, _, by rw [List.length_append, hsl], hbase, by simp, by rw [List.length_append, hsl]; exact hge, hcm, fun j hj => ⟨?_, ?_⟩, fun j hj => ?_⟩, (Below.refl _ _).drew.alloc hbase _⟩
    · rw [World.cell?_alloc_at _ _ _ _ (show w.heap.size = w.drew.heap.size from rfl)]
      refine isSome_of_lt _ _ ?_
      have hsz : (Value.int IntKind.u8 0).cells.size = 1 := rfl
      simp only [Array.size_append, List.size_toArray, size_zeroCells, hsz, Lib.strCells_length, List.length_map]
      omega
    · exact World.frozen?_alloc_at _ _ _ _ (show w.heap.size = w.drew.heap.size from rfl)
    · rw [World.cell?_alloc_at _ _ _ _ (show w.heap.size = w.drew.heap.size from rfl)]
      have hjl := hj
      rw [List.length_append, hsl] at hjl
      rw [Array.getElem?_append_left (by simp [Lib.strCells_length]; omega)]
      by_cases h1 : j < bs.length
      · rw [Array.getElem?_append_left (by simp; omega)]
        simp [h1]
      · obtain ⟨d, rfl⟩ : ∃ d, j = bs.length + d := ⟨j - bs.length, by omega⟩
        rw [Array.getElem?_append_right (by simp)]
        simp only [List.size_toArray, List.length_map, Nat.add_sub_cancel_left, List.getElem?_toArray]
        rw [List.getElem?_eq_getElem (by rw [Lib.strCells_length]; omega)]
        simp [Lib.strCells, List.getElem_append_right]
/-- string(b) of such a slice -/
theorem Own8.text {P : Program} {w : World} {base : Nat} {v : Value} {bs : List UInt8} (h : Own8 w base v bs) (src e : TypeId) (hs : P.underlying src = some (.slice e)) (he : P.underlying e = some (.int .u8))
    (dst : TypeId) (hd : P.underlying dst = some .string) : (convert src dst v).run P w = .ok (.string ⟨bs.toArray⟩) w := by
  obtain ⟨g, cap, rfl, hg, hgs, hn, hm, hw, hc⟩ := h
  have hr := run_convert_bytes_arg (P := P) w src e hs he g 0 bs.length cap (bs.map fun b => (b.toNat : Int)) (by simp) (fun i hi => by
    rw [Nat.zero_add, hc i hi]; simp [List.getD, hi]) dst hd
  rw [hr]
  congr 2
  unfold strOfNums
  congr 2
  rw [List.map_map]
  conv => rhs; rw [← List.map_id bs]
  apply List.map_congr_left
  intro b _
  simp
/-- the operation append, where its run is known -/
theorem wpList_app_run {P : Program} (w : World) {ops : Array Oper} {rest : List Oper} {o : Oper} {a : Act} {Q : Exit → Act → World → Prop} (hgd : o.guard = none) (s x : Operand) (t t' : TypeId)
    (ho : o.op = .call { callee := .builtin .append, args := #[s, x], argTypes := #[t, t'] }) (v u : Value) (hs : a.eval s = v) (hx : a.eval x = u) {v' : Value} {w' : World}
    (hr : (Builtin.append_ #[t, t'] o.type #[v, u]).run P w = .ok v' w') (h : wpList P ops Q rest (a.put o.dst v') w') : wpList P ops Q (o :: rest) a w := by
  refine wpList_plain hgd fun K hK => ?_
  unfold Oper.wp execOp
  simp only [ho, resolve, invoke, builtin, Sem.run_bind, Sem.run_pure, Result.andThen_ok, List.map_toArray, List.map_cons, List.map_nil, hs, hx, hr]
  exact hK _ _ h
end Go.Proofs.YtdekcicgiflnbaaDoor

/- ---- OctRef2 ---- -/
namespace Go.Proofs.YtdekcicgiflnbaaDoor
open Go.RowKit
set_option linter.unusedVariables false
set_option linter.unusedSimpArgs false

set_option maxRecDepth 20000 in
set_option maxHeartbeats 400000 in
theorem refReadText_any (s : ByteArray) (p : Int) (w : World) (hs : s.size ≤ 140737488351232) :
    Calls Tryd.prog 121 #[.string s, .int .i64 p] w fun e w' =>
      e = .returned (.tuple #[S (Oct.rdText s.data.toList p).1, .int .i64 (Oct.rdText s.data.toList p).2.1, .int .i64 (Oct.rdText s.data.toList p).2.2]) ∧ w = w' := by
  rcases hn : Oct.rdNum s.data.toList p with ⟨n, q, e⟩
  have hok := Oct.rdNum_ok hn
  have hv : rdNumV s p = three n q e := by unfold rdNumV; rw [hn]
  by_cases he : e ≠ 0
  · have hr : Oct.rdText s.data.toList p = ([], 0, e) := by unfold Oct.rdText; rw [hn]; simp only; rw [if_pos he]
    rw [hr]
    have hd : (e != 0) = true := by rw [bne_iff_ne]; exact he
    clear he hr hok
    have Hv := Lib.hid hv; clear hv hn
    go_enter Tryd.func121, Tryd.ntmps121
    go_wp2_with fail
    refine (refReadNumber_any s p _ hs).mono ?_
    rintro e w1 ⟨rfl, rfl⟩
    rw [Hv.out]
    unfold three
    go_wp2
    go_ret3
    exact ⟨rfl, rfl⟩
  · obtain rfl : e = 0 := by omega
    rcases hok with h | ⟨_, hp, hn0, hn1, hpq, hq, _⟩
    · exact absurd h.1 he
    have hlen := Oct.bytes_len s
    by_cases h6 : 65536 < n
    · have hr : Oct.rdText s.data.toList p = ([], 0, 3) := by unfold Oct.rdText; rw [hn]; simp only; rw [if_neg he, if_pos h6]
      rw [hr]
      have hd : decide (65536 < n) = true := by simpa using h6
      clear he hr
      have Hv := Lib.hid hv; clear hv hn
      go_enter Tryd.func121, Tryd.ntmps121
      go_wp2_with fail
      refine (refReadNumber_any s p _ hs).mono ?_
      rintro e w1 ⟨rfl, rfl⟩
      rw [Hv.out]
      unfold three
      go_wp2
      go_ret3
      exact ⟨rfl, rfl⟩
    have hd : decide (65536 < n) = false := by simpa using h6
    rw [hlen] at hq
    by_cases h7 : (s.size : Int) - q < n
    · have hr : Oct.rdText s.data.toList p = ([], 0, 5) := by unfold Oct.rdText; rw [hn]; simp only; rw [if_neg he, if_neg h6, hlen, if_pos h7]
      rw [hr]
      have hd2 : decide ((s.size : Int) < q + n) = true := by simp; omega
      clear he hr
      have Hv := Lib.hid hv; clear hv hn
      go_enter Tryd.func121, Tryd.ntmps121
      go_wp2_with fail
      refine (refReadNumber_any s p _ hs).mono ?_
      rintro e w1 ⟨rfl, rfl⟩
      rw [Hv.out]
      unfold three
      go_wp2
      go_ret3
      exact ⟨rfl, rfl⟩
    · have hr : Oct.rdText s.data.toList p = ((s.data.toList.drop q.toNat).take n.toNat, q + n, 0) := by unfold Oct.rdText; rw [hn]; simp only; rw [if_neg he, if_neg h6, hlen, if_neg h7]
      rw [hr]
      have hd2 : decide ((s.size : Int) < q + n) = false := by simp; omega
      have hq0 : 0 ≤ q := by omega
      obtain ⟨k, rfl⟩ := Int.eq_ofNat_of_zero_le hq0
      obtain ⟨m, rfl⟩ := Int.eq_ofNat_of_zero_le hn0
      clear he hr
      have Hv := Lib.hid hv; clear hv hn
      have hsl := cut_run (P := Tryd.prog) 9 Tryd.underlying9 s k m (by omega)
      go_enter Tryd.func121, Tryd.ntmps121
      go_wp2_with fail
      refine (refReadNumber_any s p _ hs).mono ?_
      rintro e w1 ⟨rfl, rfl⟩
      rw [Hv.out]
      unfold three
      go_wp2
      go_ret3
      exact ⟨rfl, rfl⟩

set_option maxRecDepth 20000 in
set_option maxHeartbeats 400000 in
theorem refReadList_any (s : ByteArray) (p : Int) (w : World) (hs : s.size ≤ 140737488351232) :
    Calls Tryd.prog 115 #[.string s, .int .i64 p] w (ListEnds w s.data.toList p) := by
  obtain ⟨i0, hi, hz0, hz1, hz2⟩ := info_parts str_info
  have Hi := Lib.hid hi; clear hi
  have Hz0 := Lib.hid hz0; clear hz0
  have Hz1 := Lib.hid hz1; clear hz1
  have Hz2 := Lib.hid hz2; clear hz2
  rcases hn : Oct.rdNum s.data.toList p with ⟨n, q, e⟩
  have hok := Oct.rdNum_ok hn
  have hv : rdNumV s p = three n q e := by unfold rdNumV; rw [hn]
  have hnil : ∀ W : World, TextsV W (.slice none 0 0) [] := fun W => ⟨none, 0, rfl, fun h => absurd rfl h⟩
  by_cases he : e ≠ 0
  · have hr : Oct.rdList s.data.toList p = ([], 0, e) := by unfold Oct.rdList; rw [hn]; simp only; rw [if_pos he]
    unfold ListEnds
    rw [hr]
    have hd : (e != 0) = true := by rw [bne_iff_ne]; exact he
    clear he hr hok
    have Hv := Lib.hid hv; clear hv hn
    go_enter Tryd.func115, Tryd.ntmps115
    go_wp2_with fail
    refine (refReadNumber_any s p _ hs).mono ?_
    rintro e w1 ⟨rfl, rfl⟩
    rw [Hv.out]
    unfold three
    go_wp2
    go_ret3
    exact ⟨_, rfl, hnil _, Below.refl _ _⟩
  · obtain rfl : e = 0 := by omega
    rcases hok with h | ⟨_, hp, hn0, hn1, hpq, hq, _⟩
    · exact absurd h.1 he
    by_cases h6 : 1024 < n
    · have hr : Oct.rdList s.data.toList p = ([], 0, 3) := by unfold Oct.rdList; rw [hn]; simp only; rw [if_neg he, if_pos h6]
      unfold ListEnds
      rw [hr]
      have hd : decide (1024 < n) = true := by simpa using h6
      clear he hr
      have Hv := Lib.hid hv; clear hv hn
      go_enter Tryd.func115, Tryd.ntmps115
      go_wp2_with fail
      refine (refReadNumber_any s p _ hs).mono ?_
      rintro e w1 ⟨rfl, rfl⟩
      rw [Hv.out]
      unfold three
      go_wp2
      go_ret3
      exact ⟨_, rfl, hnil _, Below.refl _ _⟩
    have hd : decide (1024 < n) = false := by simpa using h6
    obtain ⟨m, rfl⟩ := Int.eq_ofNat_of_zero_le hn0
    have hr : Oct.rdList s.data.toList p = finish (Oct.rdGo s.data.toList m 65536 q) := by
      unfold Oct.rdList; rw [hn]; simp only; rw [if_neg he, if_neg h6, Int.toNat_natCast]
      cases Oct.rdGo s.data.toList m 65536 q <;> rfl
    have hlen := Oct.bytes_len s
    rw [hlen] at hq
    have Hr := Lib.hid hr
    have Hv := Lib.hid hv
    clear hv hn he hr hlen
    go_enter Tryd.func115, Tryd.ntmps115
    go_wp2_with fail
    refine (refReadNumber_any s p _ hs).mono ?_
    rintro e w1 ⟨rfl, rfl⟩
    rw [Hv.out]
    unfold three
    go_wp2_with fail
    go_loopw [8, 11, 10, 12] (fun at_ sum v i wr => ∃ (k : Nat) (acc : List (List UInt8)) (lf : Nat) (b : Int), k ≤ m ∧ acc.length = k ∧ lf ≤ 65536 ∧ 0 ≤ b ∧ b ≤ s.size ∧ i = .int .i64 k ∧ at_ = .int .i64 b ∧ sum = .int .i64 (65536 - (lf : Int)) ∧
        wr.ownsRow w.heap.size 9 1 v acc.length (acc.map S) ∧ Below w.heap.size w wr ∧ Oct.rdGo s.data.toList m 65536 q = more acc (Oct.rdGo s.data.toList (m - k) lf b)) (fun _ _ _ i _ => m - (intOf i).toNat)
    case atStart => exact ⟨0, [], 65536, q, by omega, rfl, by omega, by omega, hq, rfl, rfl, rfl, World.ownsRow_nil _ _ _ _, Below.refl _ _, by rw [more_nil, Nat.sub_zero]⟩
    case round =>
      obtain ⟨k, acc, lf, b, hk, hacc, hlf, hb0, hb1, rfl, rfl, rfl, hown, hbel, hrem⟩ := hrel
      have Hacc := Lib.hid hacc
      have Hrem := Lib.hid hrem
      clear hacc hrem
      by_cases hlt : k < m
      · rcases ht : Oct.rdText s.data.toList b with ⟨t, b2, e2⟩
        have hok := Oct.rdText_ok ht
        have Ht := Lib.hid ht
        clear ht
        obtain ⟨j, hj⟩ : ∃ j, m - k = j + 1 := ⟨m - k - 1, by omega⟩
        have hrem := Hrem.out
        rw [hj] at hrem
        by_cases he2 : e2 ≠ 0
        · have hfin : Oct.rdList s.data.toList p = ([], 0, e2) := by rw [Hr.out, hrem, more_err Ht.out he2]; rfl
          have Hfin := Lib.hid hfin
          have hd : (e2 != 0) = true := by rw [bne_iff_ne]; exact he2
          clear hfin hrem hj hok he2
          go_wp2_with fail
          refine (refReadText_any s b _ hs).mono ?_
          rintro e w1 ⟨rfl, rfl⟩
          rw [Ht.out]
          go_wp2_with fail
          go_ret3
          unfold ListEnds
          rw [Hfin.out]
          exact ⟨_, rfl, hnil _, hbel⟩
        obtain rfl : e2 = 0 := by omega
        rcases hok with h | ⟨_, _, ht64, hbb, hb2s, _⟩
        · exact absurd h.1 he2
        rw [Oct.bytes_len] at hb2s
        by_cases hbig : lf < t.length
        · have hfin : Oct.rdList s.data.toList p = ([], 0, 3) := by rw [Hr.out, hrem, more_big Ht.out hbig]; rfl
          have Hfin := Lib.hid hfin
          have hd1 : decide ((65536 : Int) < 65536 - (lf : Int) + (t.length : Int)) = true := by simp; omega
          clear hfin hrem hj he2
          go_wp2_with fail
          refine (refReadText_any s b _ hs).mono ?_
          rintro e w1 ⟨rfl, rfl⟩
          rw [Ht.out]
          go_wp2_with fail
          go_ret3
          unfold ListEnds
          rw [Hfin.out]
          exact ⟨_, rfl, hnil _, hbel⟩
        · rw [more_step Ht.out hbig] at hrem
          have hj' : j = m - (k + 1) := by omega
          subst hj'
          have Hrem2 := Lib.hid hrem
          have hd1 : decide ((65536 : Int) < 65536 - (lf : Int) + (t.length : Int)) = false := by simp; omega
          clear hrem hj he2
          go_wp2_with fail
          refine (refReadText_any s b _ hs).mono ?_
          rintro e w1 ⟨rfl, rfl⟩
          rw [Ht.out]
          have hown1 := hown.alloc (.cells #[S t] 9)
          have hal := Hacc.out
          have hbel1 := hbel.alloc hbel.size (.cells #[S t] 9)
          have hsz := hbel1.size
          have c3 : acc.length + 1 ≤ maxLen := by unfold maxLen; omega
          have c4 : (acc.length + 1) * 16 ≤ 140737488355328 := by omega
          have hc1 := one_at wr 9 (S t)
          have Hown1 := Lib.hid hown1
          have Hc1 := Lib.hid hc1
          clear hown hown1 hc1 hal
          go_wp2_with (at_builtin; refine wpList_append_own _ rfl (.tmp 49) (.tmp 51) _ rfl w.heap.size 9 i0 _ 1 16 Tryd.underlying73 Hi.out Hz0.out Hz1.out Hz2.out rfl (by decide) u10 acc.length (acc.map S) rfl Hown1.out ⟨wr.heap.size, 0, none⟩ 1 1 [S t] rfl rfl Hc1.out (by simp [Value.oneCell']) c3 c4 hsz ?_; intro v2 w2 hown2 hgr2 _)
          refine ⟨⟨k + 1, acc ++ [t], lf - t.length, b2, by omega, by rw [List.length_append, Hacc.out]; rfl, by omega, by omega, hb2s, by go_num, rfl, ?_, ?_, hbel1.grown hgr2 hsz (fun g hg => (Hown1.out.lt g hg).1), Hrem2.out⟩, by simp [intOf]; omega⟩
          · congr 1; omega
          · simpa using hown2
      · obtain rfl : k = m := by omega
        have hfin : Oct.rdList s.data.toList p = (acc, b, 0) := by rw [Hr.out, Hrem.out, Nat.sub_self]; simp [Oct.rdGo, more, finish]
        have Hfin := Lib.hid hfin
        have Hown := Lib.hid hown
        clear hfin hown
        go_wp2_with fail
        go_ret3
        unfold ListEnds
        rw [Hfin.out]
        exact ⟨_, rfl, texts_own Hown.out, hbel⟩
end Go.Proofs.YtdekcicgiflnbaaDoor

/- ---- OctRef3 ---- -/
namespace Go.Proofs.YtdekcicgiflnbaaDoor
open Go.RowKit
set_option linter.unusedVariables false
set_option linter.unusedSimpArgs false

set_option maxRecDepth 20000 in
set_option maxHeartbeats 400000 in
theorem refList_any (A : Option Addr) (c : Nat) (L : List (List UInt8)) (w : World) (hr : Texts w w.heap.size A L) :
    Calls Tryd.prog 58 #[.slice A L.length c] w fun e w' => e = .returned (two (Oct.listE L).1 (Oct.listE L).2) ∧ Below w.heap.size w w' := by
  obtain ⟨i0, hi, hz0, hz1, hz2⟩ := info_parts u8_info
  have Hi := Lib.hid hi; clear hi
  have Hz0 := Lib.hid hz0; clear hz0
  have Hz1 := Lib.hid hz1; clear hz1
  have Hz2 := Lib.hid hz2; clear hz2
  by_cases hbig : 1024 < L.length
  · have e : Oct.listE L = ([], 3) := by unfold Oct.listE; rw [if_pos hbig]
    rw [e]
    have hd : decide ((1024 : Int) < (L.length : Int)) = true := by simp; omega
    have hd2 : decide (1024 < L.length) = true := by simp; omega
    clear e
    go_enter Tryd.func58, Tryd.ntmps58
    go_wp2_with fail
    go_ret2
    exact ⟨rfl, Below.refl _ _⟩
  · have hlist : Oct.listE L = laid (Oct.num L.length) (Oct.listGo 65536 L) := by
      unfold Oct.listE; rw [if_neg hbig]
      cases Oct.listGo 65536 L <;> rfl
    have hd : decide ((1024 : Int) < (L.length : Int)) = false := by simp; omega
    have hd2 : decide (1024 < L.length) = false := by simp; omega
    have Hlist := Lib.hid hlist
    clear hlist
    have en : Oct.numE (L.length : Int) = (Oct.num L.length, 0) := by unfold Oct.numE; rw [if_neg (by omega), Int.toNat_natCast]
    have En := Lib.hid en
    clear en
    go_enter Tryd.func58, Tryd.ntmps58
    go_wp2_with fail
    refine (refNumber_any _ _ (by omega)).mono ?_
    rintro e w1 ⟨rfl, hb1⟩
    rw [En.out]
    unfold two
    have hcv := Lib.run_convert_string_bytes (P := Tryd.prog) w1 9 81 5 ⟨(Oct.num L.length).toArray⟩ Tryd.underlying9 Tryd.underlying81 Tryd.underlying5
    have ho := Own8.of_string w1 5 ⟨(Oct.num L.length).toArray⟩ (by have := Oct.num_length_le L.length; show (Oct.num L.length).length ≤ maxLen; unfold maxLen; omega)
    have hb2 := hb1.trans ((below_bytes w1 5 ⟨(Oct.num L.length).toArray⟩).mono hb1.size)
    have ho2 : Own8 (Lib.bytesWorld w1 5 ⟨(Oct.num L.length).toArray⟩) w.heap.size (.slice (some ⟨w1.heap.size, 0, none⟩) (⟨(Oct.num L.length).toArray⟩ : ByteArray).size (grownCap w1 (⟨(Oct.num L.length).toArray⟩ : ByteArray).size 0 5)) (Oct.num L.length ++ []) := by
      obtain ⟨g, cap, h1, h2, h3⟩ := ho
      rw [List.append_nil]
      exact ⟨g, cap, h1, Nat.le_trans hb1.size h2, h3⟩
    have Ho2 := Lib.hid ho2
    clear ho ho2
    go_wp2_with fail
    go_loopw [7, 6, 8] (fun sum v i wr => ∃ (k lf : Nat) (a : List UInt8), k ≤ L.length ∧ lf ≤ 65536 ∧ i = .int .i64 k ∧ sum = .int .i64 (65536 - (lf : Int)) ∧
        Own8 wr w.heap.size v (Oct.num L.length ++ a) ∧ Below w.heap.size w wr ∧ Oct.listGo 65536 L = inFront a (Oct.listGo lf (L.drop k)) ∧ (Oct.num L.length ++ a).length + lf ≤ 9 + 9 * k + 65536) (fun _ _ i _ => L.length - (intOf i).toNat)
    case atStart =>
      refine ⟨0, 65536, [], by omega, by omega, rfl, rfl, Ho2.out, hb2, ?_, ?_⟩
      · rw [List.drop_zero]; unfold inFront; cases Oct.listGo 65536 L <;> simp
      · have := Oct.num_length_le L.length
        simp; omega
    case round =>
      obtain ⟨k, lf, a, hk, hlf, rfl, rfl, hown, hbel, hrem, hlen⟩ := hrel
      have Hrem := Lib.hid hrem
      have Hown := Lib.hid hown
      have Hlen := Lib.hid hlen
      clear hrem hown hlen hcv hb2
      by_cases hlt : k < L.length
      · obtain ⟨b, off, rfl, hbb, hc⟩ := hr (by rintro rfl; simp at hlt)
        have hck := (hbel.cell (p := ⟨b, off + k, none⟩) hbb).trans (hc k hlt)
        clear hc
        by_cases hbg : lf < L[k].length
        · have hfin : Oct.listE L = ([], 3) := by rw [Hlist.out, Hrem.out, inFront_none hlt hbg]; rfl
          have Hfin := Lib.hid hfin
          have hd3 : decide ((65536 : Int) - (65536 - (lf : Int)) < (L[k].length : Int)) = true := by simp; omega
          clear hfin
          go_wp2_with fail
          go_ret2
          rw [Hfin.out]
          exact ⟨rfl, hbel⟩
        · have hrem2 := Hrem.out
          rw [inFront_step hlt hbg] at hrem2
          have Hrem2 := Lib.hid hrem2
          have hd3 : decide ((65536 : Int) - (65536 - (lf : Int)) < (L[k].length : Int)) = false := by simp; omega
          have hsub : (L[k].length : Int) ≤ lf := by omega
          have htE : Oct.textE L[k] = (Oct.text L[k], 0) := by unfold Oct.textE; rw [if_neg (by omega)]
          have HtE := Lib.hid htE
          clear hrem2 htE
          go_wp2_with fail
          refine (refText_any _ _).mono ?_
          rintro e w3 ⟨rfl, hb3⟩
          rw [show (⟨L[k].toArray⟩ : ByteArray).data.toList = L[k] from rfl, HtE.out]
          unfold two
          have hbel3 := hbel.trans (hb3.mono hbel.size)
          have htl : (Oct.text L[k]).length ≤ 9 + L[k].length := by unfold Oct.text; have := Oct.num_length_le L[k].length; rw [List.length_append]; omega
          have hl1 := Hlen.out
          obtain ⟨v4, w4, hrun, hown4, hb4⟩ := (Hown.out.below hb3).append (P := Tryd.prog) 81 9 81 5 i0 Tryd.underlying81 Tryd.underlying9 Hi.out Hz0.out Hz1.out Hz2.out ⟨(Oct.text L[k]).toArray⟩ (by show (Oct.num L.length ++ a).length + (Oct.text L[k]).length ≤ _; omega) hbel3.size
          have Hown4 := Lib.hid hown4
          have Htl := Lib.hid htl
          have Hrun := Lib.hid hrun
          clear hown4 htl hl1 hrun
          go_wp2_with (at_builtin; refine wpList_app_run _ rfl (.tmp 51) (.tmp 52) _ _ rfl _ _ rfl rfl Hrun.out ?_)
          refine ⟨⟨k + 1, lf - L[k].length, a ++ Oct.text L[k], by omega, by omega, by go_num, ?_, ?_, hbel3.trans hb4, Hrem2.out, ?_⟩, by simp [intOf]; omega⟩
          · congr 1; omega
          · have := Hown4.out
            rwa [List.append_assoc] at this
          · have h1 := Hlen.out
            have h2 := Htl.out
            rw [List.length_append] at h1 ⊢
            rw [List.length_append]
            omega
      · obtain rfl : k = L.length := by omega
        have hfin : Oct.listE L = (Oct.num L.length ++ a, 0) := by
          rw [Hlist.out, Hrem.out, List.drop_length]
          simp [Oct.listGo, inFront, laid]
        have Hfin := Lib.hid hfin
        have hcv2 := Hown.out.text (P := Tryd.prog) 81 5 Tryd.underlying81 Tryd.underlying5 9 Tryd.underlying9
        clear hfin
        go_wp2_with fail
        go_ret2
        rw [Hfin.out]
        exact ⟨rfl, hbel⟩

end Go.Proofs.YtdekcicgiflnbaaDoor
