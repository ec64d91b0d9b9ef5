/- The law SealTurned: what its function returns. -/
import Derived.Test.YtdifbndpgbdkbaaDoorSealLaw2
namespace Go.Proofs.YtdifbndpgbdkbaaDoor
open Go.RowKit
set_option linter.unusedVariables false
set_option linter.unusedSimpArgs false

namespace Seal
theorem tag_err (who dom : Int) (body : List UInt8) (h : (tag who dom body).2 ≠ 0) : (tag who dom body).1 = hz := by
  unfold tag at h ⊢
  split
  · rfl
  · next h1 =>
    rw [if_neg h1] at h
    split
    · rfl
    · next h2 => rw [if_neg h2] at h; simp at h
theorem check2_same (who dom : Int) (body : List UInt8) (h : (tag who dom body).2 = 0) : check2 who dom body (tag who dom body).1 = 0 := by
  unfold check2
  rw [if_neg (by simpa using h), if_neg (by simp)]
theorem check2_other (who dom : Int) (body u : List UInt8) (h : (tag who dom body).2 = 0) (hu : u ≠ (tag who dom body).1) : check2 who dom body u = 21 := by
  unfold check2
  rw [if_neg (by simpa using h), if_pos (Ne.symm hu)]
end Seal
theorem bRow_at (R : List UInt8) (hR : R.length = 32) (i : Nat) (hi : i < 32) : (bRow R)[i]? = some (.int .u8 ((R.getD i 0).toNat : Int)) := by
  rw [bRow_yRow R hR, yRow_at R i (by omega)]
  congr 2
  simp [List.getD, show i < R.length by omega]
theorem flip_all : ∀ (x : Fin 256) (k : Fin 8), 0 ≤ bits .xor .u8 (x.1 : Int) (2 ^ k.1 % 256) ∧ bits .xor .u8 (x.1 : Int) (2 ^ k.1 % 256) < 256 ∧ bits .xor .u8 (x.1 : Int) (2 ^ k.1 % 256) ≠ (x.1 : Int) := by decide +kernel
theorem flip_any (x : UInt8) (k : Nat) (hk : k < 8) : ∃ y : UInt8, bits .xor .u8 (x.toNat : Int) (2 ^ k % 256) = (y.toNat : Int) ∧ y ≠ x := by
  obtain ⟨h0, h1, h2⟩ := flip_all ⟨x.toNat, x.toNat_lt⟩ ⟨k, hk⟩
  simp only at h0 h1 h2
  refine ⟨UInt8.ofNat (bits .xor .u8 (x.toNat : Int) (2 ^ k % 256)).toNat, ?_, ?_⟩
  · rw [UInt8.toNat_ofNat']; omega
  · intro h
    apply h2
    have h3 := congrArg UInt8.toNat h
    rw [UInt8.toNat_ofNat'] at h3
    omega
theorem bRow_put (R : List UInt8) (hR : R.length = 32) (k : Nat) (y : UInt8) : (bRow R).setIfInBounds k (.int .u8 (y.toNat : Int)) = bRow (R.set k y) := by
  rw [bRow_yRow R hR, bRow_yRow _ (by rw [List.length_set, hR])]
  unfold yRow
  rw [List.setIfInBounds_toArray, List.map_set]
theorem set_ne (R : List UInt8) (k : Nat) (y : UInt8) (hk : k < R.length) (hy : y ≠ R.getD k 0) : R.set k y ≠ R := by
  intro h
  have := congrArg (fun l : List UInt8 => l.getD k 0) h
  simp [List.getD, hk] at this
  apply hy
  simp [List.getD, hk, this]
theorem said_0 (who dom : Int) (body : ByteArray) (t : List UInt8) : (saidRow who dom body t)[0]? = some (.int .i64 who) := rfl
theorem said_1 (who dom : Int) (body : ByteArray) (t : List UInt8) : (saidRow who dom body t)[1]? = some (.int .i64 dom) := rfl
theorem said_2 (who dom : Int) (body : ByteArray) (t : List UInt8) : (saidRow who dom body t)[2]? = some (.string body) := rfl
set_option maxHeartbeats 4000000 in
set_option maxRecDepth 100000 in
theorem sealTurned_err (who dom : Int) (body : ByteArray) (t : List UInt8) (bit : Int) (w : World) (hT : Tab w) (hs : body.size ≤ 140737488354900) (he : (Seal.tag who dom body.data.toList).2 ≠ 0) :
    Calls Tryd.prog 12 #[.agg (saidRow who dom body t), .int .u8 bit] w fun e w' => e = .returned (.bool true) ∧ Below w.heap.size w w' := by
  have HT := Lib.hid hT
  have hpos := hT.pos
  have htag := fun (w1 : World) (hb : Below w.heap.size w w1) => Tag_any who dom body w1 (hT.below hb hpos) (by omega)
  rw [Seal.tag_err who dom body.data.toList he] at htag
  simp only [HN_hz] at htag
  generalize (Seal.tag who dom body.data.toList).2 = e0 at *
  have HTAG := Lib.hid htag
  have hb1 : (e0 != 0) = true := by simpa using he
  have hzz : bRow Seal.hz = bRow [] := bRow_hz
  have heqs : ∀ W, (Op.equalIn 10000 24 (.agg (bRow Seal.hz)) (.agg (bRow Seal.hz))).run Tryd.prog W = .ok true W := fun W => (hash_eq W Seal.hz Seal.hz Seal.hz_len Seal.hz_len).trans (by rw [decide_eq_true rfl])
  rw [hzz] at heqs
  have I24 := Lib.hid (i24_any [] (by simp))
  have HZZ := Lib.hid hzz
  have HEQ := Lib.hid heqs
  clear hT htag he hzz heqs
  go_enter Tryd.func12, Tryd.ntmps12
  have hcell : ∀ i, (w.alloc (.cells (saidRow who dom body t) 52)).cell? ⟨w.heap.size, i, none⟩ = (saidRow who dom body t)[i]? := fun i => (Holds.new _ _ _).cell i
  have q0 := (hcell 0).trans (said_0 who dom body t)
  have q1 := (hcell 1).trans (said_1 who dom body t)
  have q2 := (hcell 2).trans (said_2 who dom body t)
  clear hcell
  go_wp2_with fail
  clear q0 q1 q2
  refine calls_named ?_
  intro w1 hw1
  have hbw1 : Below w.heap.size w w1 := by rw [hw1]; exact (Below.refl _ _).alloc (Nat.le_refl _) _
  clear hw1
  refine (HTAG.out w1 hbw1).mono ?_
  rintro e w2 ⟨rfl, hb2⟩
  have hb2 := hbw1.trans (hb2.mono hbw1.size)
  go_wp2_with (refine wpList_store_named rfl 24 (.tmp 5) (.tmp 16) rfl w2.heap.size (bRow []) rfl rfl (bRow []) (Holds.new2 rfl rfl) I24.out rfl (bRow_one _) ?_; intro w5 hw5
               have H5 := Lib.hid (show Holds w5 w2.heap.size (bRow []) by rw [hw5]; exact (Holds.new2 rfl rfl).row _)
               have hb5 := (show Below w.heap.size w w5 by rw [hw5]; exact below_setRow (hb2.alloc hb2.size _) hb2.size _)
               clear hw5)
  refine (awake3_any w5 (HT.out.below hb5 hpos)).mono ?_
  rintro e w6 ⟨rfl, hb6⟩
  have H6 := Lib.hid (H5.out.below hb6 H5.out.lt)
  have hb6 := hb5.trans (hb6.mono hb5.size)
  go_wp2_with fail
  refine (awake3_any w6 (HT.out.below hb6 hpos)).mono ?_
  rintro e w7 ⟨rfl, hb7⟩
  obtain ⟨T7, hT7⟩ := H6.out.below hb7 H6.out.lt
  have G7 := Lib.hid hT7
  have hb7 := hb6.trans (hb7.mono hb6.size)
  have heqz : ∀ W, (Op.equalIn 10000 24 (.agg (bRow [])) (.agg #[.int .u8 0, .int .u8 0, .int .u8 0, .int .u8 0, .int .u8 0, .int .u8 0, .int .u8 0, .int .u8 0, .int .u8 0, .int .u8 0, .int .u8 0, .int .u8 0, .int .u8 0, .int .u8 0, .int .u8 0, .int .u8 0, .int .u8 0, .int .u8 0, .int .u8 0, .int .u8 0, .int .u8 0, .int .u8 0, .int .u8 0, .int .u8 0, .int .u8 0, .int .u8 0, .int .u8 0, .int .u8 0, .int .u8 0, .int .u8 0, .int .u8 0, .int .u8 0])).run Tryd.prog W = .ok true W := HEQ.out
  clear hT7
  go_wp2_with (refine wpList_load_wanted rfl 24 (.tmp 5) rfl w2.heap.size rfl T7 _ (0, 0) _ G7.out Tryd.underlying24 rfl I24.out ?_)
  go_ret
  exact ⟨rfl, hb7⟩
set_option maxHeartbeats 4000000 in
set_option maxRecDepth 100000 in
theorem sealTurned_ok (who dom : Int) (body : ByteArray) (t : List UInt8) (bit : Int) (w : World) (hT : Tab w) (hbit0 : 0 ≤ bit) (hbit1 : bit ≤ 255) (hs : body.size ≤ 140737488354900) (he : (Seal.tag who dom body.data.toList).2 = 0) :
    Calls Tryd.prog 12 #[.agg (saidRow who dom body t), .int .u8 bit] w fun e w' => e = .returned (.bool true) ∧ Below w.heap.size w w' := by
  have HT := Lib.hid hT
  have hpos := hT.pos
  have htag := fun (w1 : World) (hb : Below w.heap.size w w1) => Tag_any who dom body w1 (hT.below hb hpos) (by omega)
  have hlen := Seal.tag_len who dom body.data.toList
  have c1 := fun (w1 : World) (hb : Below w.heap.size w w1) => Check_any who dom body (Seal.tag who dom body.data.toList).1 w1 (hT.below hb hpos) hlen hs
  rw [Seal.check2_same who dom body.data.toList he] at c1
  have c2 := fun (U : List UInt8) (hU : U ≠ (Seal.tag who dom body.data.toList).1) (hUl : U.length = 32) (w1 : World) (hb : Below w.heap.size w w1) => Seal.check2_other who dom body.data.toList U he hU ▸ Check_any who dom body U w1 (hT.below hb hpos) hUl hs
  rw [he] at htag
  generalize (Seal.tag who dom body.data.toList).1 = R at *
  have HTAG := Lib.hid htag
  have C1 := Lib.hid c1
  have C2 := Lib.hid c2
  have HL := Lib.hid hlen
  have I24 := Lib.hid (i24_any R (by omega))
  have Hold := Lib.hid (bRow_same [] R (by simp) (by omega))
  clear hT htag he c1 c2 hlen
  go_enter Tryd.func12, Tryd.ntmps12
  have hcell : ∀ i, (w.alloc (.cells (saidRow who dom body t) 52)).cell? ⟨w.heap.size, i, none⟩ = (saidRow who dom body t)[i]? := fun i => (Holds.new _ _ _).cell i
  have q0 := (hcell 0).trans (said_0 who dom body t)
  have q1 := (hcell 1).trans (said_1 who dom body t)
  have q2 := (hcell 2).trans (said_2 who dom body t)
  clear hcell
  go_wp2_with fail
  clear q0 q1 q2
  refine calls_named ?_
  intro w1 hw1
  have hk1 : KeptB w w.heap.size (saidRow who dom body t) w1 := by rw [hw1]; exact ⟨(Below.refl _ _).alloc (Nat.le_refl _) _, Holds.new _ _ _⟩
  clear hw1
  refine (HTAG.out w1 hk1.1).mono ?_
  rintro e w2 ⟨rfl, hb2⟩
  have hk2 := hk1.step hb2
  have hlt2 := hk2.2.lt
  clear hk1
  go_wp2_with (refine wpList_store_named rfl 24 (.tmp 5) (.tmp 16) rfl w2.heap.size (bRow R) rfl rfl (bRow []) (Holds.new2 rfl rfl) I24.out Hold.out (bRow_one _) ?_; intro w5 hw5
               have H5 := Lib.hid (show Holds w5 w2.heap.size (bRow R) by rw [hw5]; exact (Holds.new2 rfl rfl).row _)
               have hk5 := (show KeptB w w.heap.size (saidRow who dom body t) w5 by rw [hw5]; exact ⟨below_setRow (hk2.1.alloc hk2.1.size _) hk2.1.size _, (hk2.2.alloc _).rowFar (by omega) _⟩)
               clear hw5)
  refine (awake3_any w5 (HT.out.below hk5.1 hpos)).mono ?_
  rintro e w6 ⟨rfl, hb6⟩
  have H6 := Lib.hid (H5.out.below hb6 H5.out.lt)
  have hk6 := hk5.step hb6
  obtain ⟨T6, hT6⟩ := H6.out
  have G6 := Lib.hid hT6
  have hlt6 := H6.out.lt
  clear hT6 hk5
  go_wp2_with (first
    | (refine wpList_load_row rfl 24 (.tmp 5) rfl w2.heap.size rfl T6 _ (0, 0) _ G6.out Tryd.underlying24 rfl I24.out ?_)
    | (refine wpList_store_named rfl 24 (.tmp 7) (.tmp 30) rfl w6.heap.size (bRow R) rfl rfl (bRow []) (Holds.new2 rfl rfl) I24.out Hold.out (bRow_one _) ?_; intro w7 hw7
       have H7 := Lib.hid (show Holds w7 w2.heap.size (bRow R) by rw [hw7]; exact (H6.out.alloc _).rowFar (by omega) _)
       have H7u := Lib.hid (show Holds w7 w6.heap.size (bRow R) by rw [hw7]; exact (Holds.new2 rfl rfl).row _)
       have hk7 := (show KeptB w w.heap.size (saidRow who dom body t) w7 by rw [hw7]; exact ⟨below_setRow (hk6.1.alloc hk6.1.size _) hk6.1.size _, (hk6.2.alloc _).rowFar (by omega) _⟩)
       have qx := (H7u.out.cell (bit / 8).toNat).trans (bRow_at R HL.out (bit / 8).toNat (by omega))
       have qf := H7u.out.free (bit / 8).toNat
       have hk0 : bit / 8 < 32 := by omega
       have hk1 : 0 ≤ bit / 8 := by omega
       obtain ⟨y, hy, hyne⟩ := flip_any (R.getD (bit / 8).toNat 0) (bit % 8).toNat (by omega)
       have hUR := set_ne R (bit / 8).toNat y (by rw [HL.out]; omega) hyne
       have hUl : (R.set (bit / 8).toNat y).length = 32 := by rw [List.length_set, HL.out]
       have h8u := H7u.out.set_ (bit / 8).toNat (.int .u8 (y.toNat : Int))
       rw [bRow_put R HL.out] at h8u
       have H8u := Lib.hid h8u
       have hne6 : w2.heap.size ≠ w6.heap.size := by omega
       have H8 := Lib.hid (H7.out.far (p := ⟨w6.heap.size, (bit / 8).toNat, none⟩) hne6 (.int .u8 (y.toNat : Int)))
       have hk8 : KeptB w w.heap.size (saidRow who dom body t) (w7.setCell ⟨w6.heap.size, (bit / 8).toNat, none⟩ (.int .u8 (y.toNat : Int))) :=
         ⟨hk7.1.setCell (by show w.heap.size ≤ w6.heap.size; omega) _, hk7.2.far (by show w.heap.size ≠ w6.heap.size; omega) _⟩
       have q0 := (hk8.2.cell 0).trans (said_0 who dom body t)
       have q1 := (hk8.2.cell 1).trans (said_1 who dom body t)
       have q2 := (hk8.2.cell 2).trans (said_2 who dom body t)
       obtain ⟨T8, hT8⟩ := H8.out
       have G8 := Lib.hid hT8
       have HUR := Lib.hid hUR
       have HUl := Lib.hid hUl
       clear hw7 hyne h8u hne6 hT8 hUR hUl
       generalize (R.getD (bit / 8).toNat 0) = x0 at *)
    | (refine wpList_load_row rfl 24 (.tmp 5) rfl w2.heap.size rfl T8 _ (0, 0) _ G8.out Tryd.underlying24 rfl I24.out ?_))
  clear q0 q1 q2 qx qf hy hk0 hk1
  refine calls_named ?_
  intro w8 hw8
  have hk9 : KeptB w w.heap.size (saidRow who dom body t) w8 := by rw [hw8]; exact hk8
  have H9u := Lib.hid (show Holds w8 w6.heap.size (bRow (R.set (bit / 8).toNat y)) by rw [hw8]; exact H8u.out)
  clear hw8 hk8 G8 H8 H8u
  refine (C1.out w8 hk9.1).mono ?_
  rintro e w9 ⟨rfl, hb9⟩
  have hk10 := hk9.step hb9
  obtain ⟨T9, hT9⟩ := H9u.out.below hb9 H9u.out.lt
  have G9 := Lib.hid hT9
  have I24u := Lib.hid (i24_any (R.set (bit / 8).toNat y) (by rw [HUl.out]; omega))
  have q0 := (hk10.2.cell 0).trans (said_0 who dom body t)
  have q1 := (hk10.2.cell 1).trans (said_1 who dom body t)
  have q2 := (hk10.2.cell 2).trans (said_2 who dom body t)
  clear hT9
  go_wp2_with (refine wpList_load_wanted rfl 24 (.tmp 7) rfl w6.heap.size rfl T9 _ (0, 0) _ G9.out Tryd.underlying24 rfl I24u.out ?_)
  refine (C2.out _ HUR.out HUl.out w9 hk10.1).mono ?_
  rintro e w10 ⟨rfl, hb10⟩
  have hk11 := (hk10.step hb10).1
  clear q0 q1 q2
  go_wp2_with fail
  go_ret
  exact ⟨rfl, hk11⟩
end Go.Proofs.YtdifbndpgbdkbaaDoor
