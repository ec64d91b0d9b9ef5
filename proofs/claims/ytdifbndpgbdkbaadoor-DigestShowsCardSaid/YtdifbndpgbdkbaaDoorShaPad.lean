/- digest.padded: what it returns. -/
import Derived.Test.YtdifbndpgbdkbaaDoorShaHash
import Derived.Laws.MakeOwn
import Derived.Lib.BufferWrite
import Derived.Laws.BytesArg
import Derived.OwnWalk
namespace Go.Proofs.YtdifbndpgbdkbaaDoor
open Go.RowKit
set_option linter.unusedVariables false
set_option linter.unusedSimpArgs false

def yRow (l : List UInt8) : Array Value := (l.map fun (b : UInt8) => Value.int .u8 (b.toNat : Int)).toArray
/-- zeros, closed to the walk -/
def zs (n : Nat) : List UInt8 := List.replicate n 0
theorem zs_len (n : Nat) : (zs n).length = n := by simp [zs]
theorem zs_succ (n : Nat) : zs (n + 1) = 0 :: zs n := rfl
theorem zs_snoc (n : Nat) : zs (n + 1) = zs n ++ [0] := by simp [zs, List.replicate_succ']
theorem zs_add (n m : Nat) : zs (n + m) = zs n ++ zs m := by simp [zs]
theorem yRow_size (l : List UInt8) : (yRow l).size = l.length := by unfold yRow; simp
theorem yRow_at (l : List UInt8) (i : Nat) (h : i < l.length) : (yRow l)[i]? = some (.int .u8 ((l.map fun b => (b.toNat : Int)).getD i 0)) := by
  unfold yRow; simp [List.getD, h]
theorem yRow_set (a c : List UInt8) (b d : UInt8) (x : Int) (hx : x = d.toNat) : (yRow (a ++ b :: c)).setIfInBounds a.length (Value.int .u8 x) = yRow (a ++ d :: c) := by
  subst hx
  unfold yRow
  simp only [List.setIfInBounds_toArray, List.map_append, List.map_cons]
  rw [List.set_append_right _ _ (by simp)]
  simp
theorem bytes_of_ (bk : List UInt8) : strOfNums (bk.map fun b => (b.toNat : Int)) = ⟨bk.toArray⟩ := by
  unfold strOfNums
  congr 2
  rw [List.map_map]
  conv => rhs; rw [← List.map_id bk]
  apply List.map_congr_left
  intro b _
  simp
abbrev S (l : List UInt8) : Value := .string ⟨l.toArray⟩
/-- the last k of a length's bytes -/
def lasts (n : Nat) : Nat → List UInt8
  | 0 => []
  | k + 1 => UInt8.ofNat (n * 8 / 2 ^ (8 * k) % 256) :: lasts n k
theorem lasts_len (n k : Nat) : (lasts n k).length = k := by
  induction k with
  | zero => rfl
  | succ k ih => simp [lasts, ih]
theorem lasts_8 (n : Nat) (h : n ≤ 1152921504606846975) : lasts n 8 = Sha.len8 n := by
  have e : n * 8 % 18446744073709551616 = n * 8 := Nat.mod_eq_of_lt (by omega)
  unfold Sha.len8
  rw [e]
  rfl
/-- what is behind a text's last bytes -/
def padded (r : List UInt8) (n : Nat) : List UInt8 := r ++ 128 :: (List.replicate ((if r.length + 9 > 64 then 128 else 64) - r.length - 9) 0 ++ Sha.len8 n)

/-- a text copied into a row's head; the world behind it by a name -/
theorem wpList_copy_head {P : Program} {w w0 : World} {B : Nat} {ops : Array Oper} {rest : List Oper} {o : Oper} {a : Act} {Q : Exit → Act → World → Prop} (hgd : o.guard = none) (d s : Operand) (dT sT elem : TypeId)
    (ho : o.op = .call { callee := .builtin .copy, args := #[d, s], argTypes := #[dT, sT] }) (hu : P.underlying dT = some (.slice elem)) (hz : (P.info? elem).map (·.size) = some 1)
    (g dLen dCap : Nat) (t : ByteArray) (z : List UInt8) (hd : a.eval d = .slice (some ⟨g, 0, none⟩) dLen dCap) (hs : a.eval s = .string t)
    (hg : Holds w g (yRow z)) (hb : Below B w0 w) (hB : B ≤ g) (hle : t.size ≤ dLen) (hfit : t.size ≤ z.length)
    (h : ∀ w', Holds w' g (yRow (t.data.toList ++ z.drop t.size)) → Below B w0 w' → wpList P ops Q rest (a.put o.dst (goInt t.size)) w') : wpList P ops Q (o :: rest) a w := by
  obtain ⟨T, hT⟩ := hg
  have hr := Lib.run_copy_row_string (P := P) w dT sT o.type elem g 0 dLen dCap t _ T hu hz hT hle (by rw [yRow_size]; omega)
  refine wpList_plain hgd fun K hK => ?_
  unfold Oper.wp execOp
  simp only [ho, resolve, invoke, builtin, Sem.run_bind, Sem.run_pure, Result.andThen_ok, List.map_toArray, List.map_cons, List.map_nil, hd, hs, hr]
  refine hK _ _ (h _ ?_ (below_setRow hb hB _))
  have e : ((yRow z).toList.take 0 ++ Lib.byteCells t.data.toList ++ (yRow z).toList.drop (0 + t.size)).toArray = yRow (t.data.toList ++ z.drop t.size) := by
    unfold yRow Lib.byteCells
    simp
  rw [e]
  exact ⟨T, setRow_heap w g _ _ T _ hT⟩
theorem u8_info : (Tryd.prog.info? 5).map (fun i => (i.zero, i.size, i.bytes)) = some (some (.int .u8 0), 1, 1) := by kernel_rfl
theorem made_zs (n : Nat) : madeCells (Value.int .u8 0).cells (n * 1) = yRow (zs n) := by
  unfold yRow zs madeCells
  apply Array.ext
  · simp
  · intro i h1 h2
    simp [Value.cells, Nat.mod_one]
theorem make128 (W : World) : (Instr.makeSlice 28 (.int .i64 128) (.int .i64 128)).run Tryd.prog W = .ok (.slice (some ⟨W.heap.size, 0, none⟩) 128 128) (W.alloc (.cells (yRow (zs 128)) 5)) := by
  obtain ⟨i0, hi, hz0, hz1, hz2⟩ := info_parts u8_info
  have hr := run_make (P := Tryd.prog) W 28 5 i0 _ Tryd.underlying28 hi hz0 .i64 .i64 128 128 (by omega) (by omega) (by rw [hz2]; omega) (by omega)
  rw [hz1, show (128 : Int).toNat = 128 from rfl, made_zs] at hr
  exact hr

theorem pad_free (r : ByteArray) (hr : r.size < 64) : (yRow (r.data.toList ++ (zs 128).drop r.size))[r.size]? = some (.int .u8 0) := by
  have e : r.data.toList.length = r.size := rfl
  unfold yRow
  rw [List.getElem?_toArray, List.getElem?_map, List.getElem?_append_right (by omega), e, Nat.sub_self, List.getElem?_drop]
  unfold zs
  rw [List.getElem?_replicate, if_pos (by omega)]
  rfl
/-- the row behind k rounds -/
def padRow (r : ByteArray) (n E k : Nat) : List UInt8 := (r.data.toList ++ 128 :: zs (E - r.size - 1 - k)) ++ (lasts n k ++ zs (128 - E))
theorem padRow_len (r : ByteArray) (n E k : Nat) (hE : r.size + 9 ≤ E) (hE2 : E ≤ 128) (hk : k ≤ 8) : (padRow r n E k).length = 128 := by
  have e : r.data.toList.length = r.size := rfl
  unfold padRow
  simp only [List.length_append, List.length_cons, zs_len, lasts_len, e]
  omega
theorem padRow_start (r : ByteArray) (n E : Nat) (hE : r.size + 9 ≤ E) (hE2 : E ≤ 128) :
    (yRow (r.data.toList ++ (zs 128).drop r.size)).setIfInBounds r.size (Value.int .u8 128) = yRow (padRow r n E 0) := by
  have e : r.data.toList.length = r.size := rfl
  have h1 : (zs 128).drop r.size = 0 :: zs (127 - r.size) := by
    unfold zs
    rw [List.drop_replicate, ← List.replicate_succ]
    congr 1; omega
  have h2 : zs (127 - r.size) = zs (E - r.size - 1) ++ zs (128 - E) := by
    rw [← zs_add]; congr 1; omega
  have h := yRow_set r.data.toList (zs (127 - r.size)) 0 128 128 (by rfl)
  rw [e] at h
  rw [h1, h, h2]
  unfold padRow
  simp [lasts]
theorem padRow_split (r : ByteArray) (n E k : Nat) (hE : r.size + 9 ≤ E) (hk : k < 8) :
    padRow r n E k = (r.data.toList ++ 128 :: zs (E - r.size - 2 - k)) ++ 0 :: (lasts n k ++ zs (128 - E)) := by
  unfold padRow
  have e : E - r.size - 1 - k = (E - r.size - 2 - k) + 1 := by omega
  rw [e, zs_snoc]
  simp
theorem padRow_pre (r : ByteArray) (E k : Nat) (hE : r.size + 9 ≤ E) (hk : k < 8) : (r.data.toList ++ 128 :: zs (E - r.size - 2 - k)).length = E - 1 - k := by
  have e : r.data.toList.length = r.size := rfl
  simp only [List.length_append, List.length_cons, zs_len, e]
  omega
theorem padRow_free (r : ByteArray) (n E k : Nat) (hE : r.size + 9 ≤ E) (hk : k < 8) : (yRow (padRow r n E k))[E - 1 - k]? = some (.int .u8 0) := by
  rw [padRow_split r n E k hE hk, ← padRow_pre r E k hE hk]
  unfold yRow
  simp
theorem padRow_next (r : ByteArray) (n E k : Nat) (hE : r.size + 9 ≤ E) (hk : k < 8) :
    (yRow (padRow r n E k)).setIfInBounds (E - 1 - k) (Value.int .u8 ((n : Int) * 8 / 2 ^ (8 * k) % 256)) = yRow (padRow r n E (k + 1)) := by
  rw [padRow_split r n E k hE hk, ← padRow_pre r E k hE hk, yRow_set _ _ _ (UInt8.ofNat (n * 8 / 2 ^ (8 * k) % 256))]
  · unfold padRow
    have e : E - r.size - 1 - (k + 1) = E - r.size - 2 - k := by omega
    rw [e]
    simp [lasts]
  · rw [UInt8.toNat_ofNat']; simp
theorem padRow_end (r : ByteArray) (n E : Nat) (hE : r.size + 9 ≤ E) (hE2 : E ≤ 128) (hn : n ≤ 1152921504606846975) (hc : E = if r.size + 9 > 64 then 128 else 64) :
    padRow r n E 8 = padded r.data.toList n ++ zs (128 - E) ∧ (padded r.data.toList n).length = E := by
  have e : r.data.toList.length = r.size := rfl
  have h : padRow r n E 8 = padded r.data.toList n ++ zs (128 - E) := by
    unfold padRow padded
    rw [lasts_8 n hn, e, ← hc, show E - r.size - 1 - 8 = E - r.size - 9 from by omega]
    simp [zs]
  refine ⟨h, ?_⟩
  have hl := padRow_len r n E 8 hE hE2 (by omega)
  rw [h, List.length_append, zs_len] at hl
  omega
set_option maxHeartbeats 1000000 in
set_option maxRecDepth 100000 in
theorem padded_any (r : ByteArray) (n : Nat) (w : World) (hr : r.size < 64) (hn : n ≤ 1152921504606846975) :
    Calls Tryd.prog 35 #[.string r, .int .i64 n] w fun e w' => e = .returned (S (padded r.data.toList n)) ∧ Below w.heap.size w w' := by
  have hmk := make128 w
  have hlr : r.data.toList.length = r.size := rfl
  have Hlr := Lib.hid hlr
  have i5 : (Tryd.prog.info? 5).map (·.size) = some 1 := by kernel_rfl
  have I5 := Lib.hid i5
  have Hle := Lib.hid (show r.size ≤ 128 by omega)
  have Hfit := Lib.hid (show r.size ≤ (zs 128).length by rw [zs_len]; omega)
  clear hlr i5
  by_cases hbig : 64 < r.size + 9
  · have hE : r.size + 9 ≤ 128 := by omega
    have hEc : 128 = if r.size + 9 > 64 then 128 else 64 := by rw [if_pos (by omega)]
    have hd1 : decide ((64 : Int) < (r.size : Int) + 9) = true := by simp; omega
    have hr1 : (r.size : Int) < 128 := by omega
    have hr2 : (0 : Int) ≤ (r.size : Int) := by omega
    have HEc := Lib.hid hEc
    clear hEc
    go_enter Tryd.func35, Tryd.ntmps35
    go_wp2_with (
      refine wpList_copy_head (w0 := w) (B := w.heap.size) rfl (.tmp 9) (.tmp 10) _ _ 5 rfl Tryd.underlying28 I5.out w.heap.size 128 128 r (zs 128) rfl rfl (Holds.new _ _ _) ((Below.refl _ _).alloc (Nat.le_refl _) _) (Nat.le_refl _) Hle.out Hfit.out ?_
      intro wA hA hbA
      have hcA : wA.cell? ⟨w.heap.size, r.size, none⟩ = some (.int .u8 0) := (hA.cell r.size).trans (pad_free r hr)
      have hfA := hA.free r.size
      have HA := Lib.hid hA
      clear hA)
    have hA2 := HA.out.set_ r.size (Value.int .u8 128)
    rw [padRow_start r n 128 hE (by omega)] at hA2
    go_loopw [20] (fun i wr => ∃ k : Nat, k ≤ 8 ∧ i = .int .i64 k ∧ Holds wr w.heap.size (yRow (padRow r n 128 k)) ∧ Below w.heap.size w wr) (fun i _ => 8 - (intOf i).toNat)
    case atStart => exact ⟨0, by omega, rfl, hA2, hbA.setCell (by simp) _⟩
    case round =>
      clear hA2 HA hcA hfA hbA
      obtain ⟨k, hk, rfl, hH, hb⟩ := hrel
      by_cases hlt : k < 8
      · have hcell := (hH.cell (128 - 1 - k)).trans (padRow_free r n 128 k hE hlt)
        have hfree := hH.free (128 - 1 - k)
        rw [show 128 - 1 - k = 127 - k from by omega] at hcell hfree
        have hp0 : (0 : Int) ≤ 127 - (k : Int) := by omega
        have hp1 : (127 : Int) - (k : Int) < 128 := by omega
        have hp2 : (0 : Int) ≤ 8 * (k : Int) := by omega
        have hnn : (n : Int) ≤ 1152921504606846975 := by omega
        have hn0 : (0 : Int) ≤ (n : Int) := by omega
        have HH := Lib.hid hH
        clear hH
        go_wp2_with fail
        have hset := HH.out.set_ (128 - 1 - k) (Value.int .u8 ((n : Int) * 8 / 2 ^ (8 * k) % 256))
        rw [padRow_next r n 128 k hE hlt, show 128 - 1 - k = 127 - k from by omega] at hset
        exact ⟨⟨k + 1, by omega, by go_num, hset, hb.setCell (by simp) _⟩, by simp [intOf]; omega⟩
      · obtain ⟨hend, hlen⟩ := padRow_end r n 128 hE (by omega) hn HEc.out
        have e8 : k = 8 := by omega
        rw [e8, hend] at hH
        have hcv := run_convert_bytes_arg (P := Tryd.prog) wr 28 5 Tryd.underlying28 Tryd.underlying5 w.heap.size 0 128 128 ((padded r.data.toList n).map fun b => (b.toNat : Int)) (by rw [List.length_map, hlen]) (fun i hi => by
          rw [Nat.zero_add, hH.cell i]
          unfold yRow
          have hi2 : i < (padded r.data.toList n).length := by omega
          simp [List.getElem?_append, List.getD, hi2]) 9 Tryd.underlying9
        rw [bytes_of_] at hcv
        have HH := Lib.hid hH
        clear hH hend hlen e8
        go_wp2_with fail
        go_ret
        exact ⟨rfl, hb⟩
  · have hE : r.size + 9 ≤ 64 := by omega
    have hEc : 64 = if r.size + 9 > 64 then 128 else 64 := by rw [if_neg (by omega)]
    have hd1 : decide ((64 : Int) < (r.size : Int) + 9) = false := by simp; omega
    have hr1 : (r.size : Int) < 128 := by omega
    have hr2 : (0 : Int) ≤ (r.size : Int) := by omega
    have HEc := Lib.hid hEc
    clear hEc
    go_enter Tryd.func35, Tryd.ntmps35
    go_wp2_with (
      refine wpList_copy_head (w0 := w) (B := w.heap.size) rfl (.tmp 9) (.tmp 10) _ _ 5 rfl Tryd.underlying28 I5.out w.heap.size 128 128 r (zs 128) rfl rfl (Holds.new _ _ _) ((Below.refl _ _).alloc (Nat.le_refl _) _) (Nat.le_refl _) Hle.out Hfit.out ?_
      intro wA hA hbA
      have hcA : wA.cell? ⟨w.heap.size, r.size, none⟩ = some (.int .u8 0) := (hA.cell r.size).trans (pad_free r hr)
      have hfA := hA.free r.size
      have HA := Lib.hid hA
      clear hA)
    have hA2 := HA.out.set_ r.size (Value.int .u8 128)
    rw [padRow_start r n 64 hE (by omega)] at hA2
    go_loopw [20] (fun i wr => ∃ k : Nat, k ≤ 8 ∧ i = .int .i64 k ∧ Holds wr w.heap.size (yRow (padRow r n 64 k)) ∧ Below w.heap.size w wr) (fun i _ => 8 - (intOf i).toNat)
    case atStart => exact ⟨0, by omega, rfl, hA2, hbA.setCell (by simp) _⟩
    case round =>
      clear hA2 HA hcA hfA hbA
      obtain ⟨k, hk, rfl, hH, hb⟩ := hrel
      by_cases hlt : k < 8
      · have hcell := (hH.cell (64 - 1 - k)).trans (padRow_free r n 64 k hE hlt)
        have hfree := hH.free (64 - 1 - k)
        rw [show 64 - 1 - k = 63 - k from by omega] at hcell hfree
        have hp0 : (0 : Int) ≤ 63 - (k : Int) := by omega
        have hp1 : (63 : Int) - (k : Int) < 128 := by omega
        have hp2 : (0 : Int) ≤ 8 * (k : Int) := by omega
        have hnn : (n : Int) ≤ 1152921504606846975 := by omega
        have hn0 : (0 : Int) ≤ (n : Int) := by omega
        have HH := Lib.hid hH
        clear hH
        go_wp2_with fail
        have hset := HH.out.set_ (64 - 1 - k) (Value.int .u8 ((n : Int) * 8 / 2 ^ (8 * k) % 256))
        rw [padRow_next r n 64 k hE hlt, show 64 - 1 - k = 63 - k from by omega] at hset
        exact ⟨⟨k + 1, by omega, by go_num, hset, hb.setCell (by simp) _⟩, by simp [intOf]; omega⟩
      · obtain ⟨hend, hlen⟩ := padRow_end r n 64 hE (by omega) hn HEc.out
        have e8 : k = 8 := by omega
        rw [e8, hend] at hH
        have hcv := run_convert_bytes_arg (P := Tryd.prog) wr 28 5 Tryd.underlying28 Tryd.underlying5 w.heap.size 0 64 128 ((padded r.data.toList n).map fun b => (b.toNat : Int)) (by rw [List.length_map, hlen]) (fun i hi => by
          rw [Nat.zero_add, hH.cell i]
          unfold yRow
          have hi2 : i < (padded r.data.toList n).length := by omega
          simp [List.getElem?_append, List.getD, hi2]) 9 Tryd.underlying9
        rw [bytes_of_] at hcv
        have HH := Lib.hid hH
        clear hH hend hlen e8
        go_wp2_with fail
        go_ret
        exact ⟨rfl, hb⟩
end Go.Proofs.YtdifbndpgbdkbaaDoor
