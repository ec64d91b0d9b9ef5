/- cavalcaderef02.padded: what it returns. -/
import Derived.Test.YtdifbndpgbdkbaaDoorShaRef2
namespace Go.Proofs.YtdifbndpgbdkbaaDoor
open Go.RowKit
set_option linter.unusedVariables false
set_option linter.unusedSimpArgs false

theorem below_text (w : World) (e : TypeId) (s : ByteArray) : Below w.heap.size w (Lib.bytesWorld w e s) :=
  ⟨rfl, rfl, rfl, by rw [Lib.bytesWorld_size]; omega, fun k hk => Lib.bytesWorld_at_old w e s k hk⟩
theorem Own1.of_string (w : World) (e : TypeId) (s : ByteArray) (hs : s.size ≤ maxLen) :
    Own1 (Lib.bytesWorld w e s) w.heap.size (.slice (some ⟨w.heap.size, 0, none⟩) s.size (grownCap w s.size 0 e)) (u8s s.data.toList) := by
  have hge := grownCap_ge w s.size 0 e
  have hl : s.data.toList.length = s.size := rfl
  have hcs : (Lib.bytesCells w e s).size = grownCap w s.size 0 e := by
    unfold Lib.bytesCells
    have : s.data.size = s.size := rfl
    simp [this]; omega
  refine ⟨w.heap.size, _, by rw [u8s_len, hl], Nat.le_refl _, by rw [Lib.bytesWorld_size]; omega, by rw [u8s_len, hl]; exact hge, grownCap_le_maxLen w s.size 0 e hs, fun i hi => ⟨?_, ?_⟩, fun i x hx => ?_⟩
  · have h1 := Lib.bytesWorld_at_new w e s
    have h2 : i < (Lib.bytesCells w e s).size := by omega
    simp [World.cell?, h1, h2]
  · have h1 := Lib.bytesWorld_at_new w e s
    simp [World.frozen?, h1]
    intro h; omega
  · have hi : i < s.data.toList.length := by have := (List.getElem?_eq_some_iff.1 hx).1; rw [u8s_len] at this; exact this
    rw [Lib.bytesWorld_cell w e s i hi, ← hx, u8s_at _ i hi]
/-- what stands in a slice's length -/
def vlen : Value → Nat
  | .slice _ n _ => n
  | _ => 0
/-- how many zeros a padding takes -/
def zn (n : Nat) : Nat := (119 - n % 64) % 64
theorem zn_test (n k : Nat) (hk : k ≤ zn n) : (n + 1 + k) % 64 = 56 ↔ k = zn n := by unfold zn at *; omega
theorem len8_next (n r : Nat) (h : r < 8) : (Sha.len8 n).take (8 - (r + 1)) ++ [UInt8.ofNat (n * 8 % 18446744073709551616 / 2 ^ (8 * r) % 256)] = (Sha.len8 n).take (8 - r) := by
  have : r = 0 ∨ r = 1 ∨ r = 2 ∨ r = 3 ∨ r = 4 ∨ r = 5 ∨ r = 6 ∨ r = 7 := by omega
  rcases this with rfl | rfl | rfl | rfl | rfl | rfl | rfl | rfl <;> rfl
set_option maxHeartbeats 1000000 in
set_option maxRecDepth 100000 in
theorem refPadded_any (s : ByteArray) (w : World) (hs : s.size ≤ 140737488355000) :
    Calls Tryd.prog 37 #[.string s] w fun e w' => ∃ v, e = .returned v ∧ Own1 w' w.heap.size v (u8s (Sha.pad s.data.toList)) ∧ Below w.heap.size w w' := by
  have hl : s.data.toList.length = s.size := rfl
  have hcv := Lib.run_convert_string_bytes (P := Tryd.prog) w 9 28 5 s Tryd.underlying9 Tryd.underlying28 Tryd.underlying5
  have ho := Own1.of_string w 5 s (by unfold maxLen; omega)
  have hb0 := below_text w 5 s
  generalize Lib.bytesWorld w 5 s = w0 at *
  generalize grownCap w s.size 0 5 = cap at *
  obtain ⟨v1, w1, hrun, ho1, hb1⟩ := ho.byte 128 128 rfl (by rw [hl]; omega) hb0.size
  have hb1 := hb0.trans hb1
  have Hrun := Lib.hid hrun
  have Ho1 := Lib.hid ho1
  have HL := Lib.hid hl
  clear ho hrun ho1 hl hb0
  go_enter Tryd.func37, Tryd.ntmps37
  go_wp2_with (at_builtin; refine wpList_push_run _ rfl (.tmp 8) (.tmp 9) _ _ rfl _ _ rfl rfl Hrun.out ?_)
  obtain ⟨l, hll⟩ : ∃ l, l = s.data.toList := ⟨_, rfl⟩
  have HL2 := HL.out
  have ho1 := Ho1.out
  rw [← hll] at HL2 ho1
  have HLL := Lib.hid hll
  have HL3 := Lib.hid HL2
  clear Hrun hcv HL HL2 hll Ho1
  go_loopw [3] (fun v wr => ∃ k : Nat, k ≤ zn s.size ∧ Own1 wr w.heap.size v (u8s (l ++ 128 :: zs k)) ∧ Below w.heap.size w wr) (fun v _ => s.size + 70 - vlen v)
  case atStart => exact ⟨0, by omega, ho1, hb1⟩
  case round =>
    clear ho1 hb1
    obtain ⟨k, hk, hown, hb⟩ := hrel
    have hlen : (l ++ 128 :: zs k).length = s.size + 1 + k := by simp [zs_len, HL3.out]; omega
    obtain ⟨g, c, hg, _⟩ := id hown
    rw [u8s_len, hlen] at hg
    subst hg
    have hz := zn_test s.size k hk
    have hzn : zn s.size ≤ 63 := by unfold zn; omega
    by_cases hlt : k < zn s.size
    · have ht2 : (((s.size : Int) + 1 + (k : Int)) % 64 != 56) = true := by simp; omega
      obtain ⟨v', w', hrun, hown', hb'⟩ := hown.byte 0 0 rfl (by rw [hlen]; omega) hb.size
      rw [List.append_assoc, List.cons_append, ← zs_snoc] at hown'
      have Hrun := Lib.hid hrun
      have Hown := Lib.hid hown'
      clear hrun hown' hown hz
      go_wp2_with (at_builtin; refine wpList_push_run _ rfl (.tmp 15) (.tmp 16) _ _ rfl _ _ rfl rfl Hrun.out ?_)
      have hlen2 : (l ++ 128 :: zs (k + 1)).length = s.size + 1 + (k + 1) := by simp [zs_len, HL3.out]; omega
      obtain ⟨g2, c2, hg2, _⟩ := id Hown.out
      rw [u8s_len, hlen2] at hg2
      refine ⟨⟨k + 1, by omega, Hown.out, hb.trans hb'⟩, ?_⟩
      show s.size + 70 - vlen v' < s.size + 70 - (s.size + 1 + k)
      rw [hg2]
      show s.size + 70 - (s.size + 1 + (k + 1)) < s.size + 70 - (s.size + 1 + k)
      omega
    · have ht2 : (((s.size : Int) + 1 + (k : Int)) % 64 != 56) = false := by simp; omega
      have EK := Lib.hid (show k = zn s.size by omega)
      have Hown := Lib.hid hown
      have hw1 : IntKind.u64.wrap (s.size : Int) = (s.size : Int) := by rw [IntKind.wrap_u64]; omega
      have hw2 : IntKind.u64.wrap ((s.size : Int) * 8) = (s.size : Int) * 8 := by rw [IntKind.wrap_u64]; omega
      clear hown hz
      go_wp2_with fail
      have Hown2 := Lib.hid (show Own1 wr w.heap.size (.slice (some ⟨g, 0, none⟩) (s.size + 1 + k) c) (u8s ((l ++ 128 :: zs (zn s.size)) ++ (Sha.len8 s.size).take (8 - 8))) by rw [← EK.out, Nat.sub_self, List.take_zero, List.append_nil]; exact Hown.out)
      clear Hown hw1 hw2 ht2
      go_loopw [3, 5] (fun v i wr => ∃ q : Nat, q ≤ 8 ∧ i = .int .i64 ((q : Int) - 1) ∧ Own1 wr w.heap.size v (u8s ((l ++ 128 :: zs (zn s.size)) ++ (Sha.len8 s.size).take (8 - q))) ∧ Below w.heap.size w wr) (fun _ i _ => (intOf i + 1).toNat)
      case atStart => exact ⟨8, by omega, rfl, Hown2.out, hb⟩
      case round =>
        clear Hown2 hb
        obtain ⟨q, hq, rfl, hown, hb⟩ := hrel
        match q, hq, hown with
        | 0, _, hown =>
          have Hown := Lib.hid hown
          clear hown
          go_wp2_with fail
          go_ret
          refine ⟨_, rfl, ?_, hb⟩
          have e : (l ++ 128 :: zs (zn s.size)) ++ (Sha.len8 s.size).take (8 - 0) = Sha.pad s.data.toList := by
            rw [List.take_of_length_le (by rw [Sha.len8_len]; omega), HLL.out]
            unfold Sha.pad zs zn
            have : s.data.toList.length = s.size := rfl
            rw [this]
            simp
          have := Hown.out
          rw [e] at this
          exact this
        | r + 1, hq, hown =>
          have ei : (((r + 1 : Nat) : Int) - 1) = (r : Int) := by omega
          rw [ei]
          have hr0 : (0 : Int) ≤ (r : Int) := by omega
          have hr1 : (0 : Int) ≤ 8 * (r : Int) := by omega
          have hlen : (l ++ 128 :: zs (zn s.size) ++ (Sha.len8 s.size).take (8 - (r + 1))).length ≤ s.size + 100 := by
            simp only [List.length_append, List.length_cons, zs_len, HL3.out, List.length_take, Sha.len8_len]; omega
          have hval : (s.size : Int) * 8 / 2 ^ (8 * r) % 256 = ((UInt8.ofNat (s.size * 8 % 18446744073709551616 / 2 ^ (8 * r) % 256)).toNat : Int) := by
            rw [UInt8.toNat_ofNat', Nat.mod_eq_of_lt (show s.size * 8 < 18446744073709551616 by omega)]
            simp
          obtain ⟨v', w', hrun, hown', hb'⟩ := hown.byte (UInt8.ofNat (s.size * 8 % 18446744073709551616 / 2 ^ (8 * r) % 256)) _ hval (by omega) hb.size
          rw [List.append_assoc, len8_next s.size r (by omega)] at hown'
          have Hrun := Lib.hid hrun
          have Hown := Lib.hid hown'
          clear hrun hown' hown hval hlen
          go_wp2_with (at_builtin; refine wpList_push_run _ rfl (.tmp 26) (.tmp 32) _ _ rfl _ _ rfl rfl Hrun.out ?_)
          exact ⟨⟨r, by omega, rfl, Hown.out, hb.trans hb'⟩, by simp [intOf]⟩
end Go.Proofs.YtdifbndpgbdkbaaDoor
