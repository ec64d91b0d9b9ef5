/- The reference's List and Same: what they return. -/
import Derived.Test.YtkbgeafkdeddjaaOctRef2
import Derived.Deep.QuietTactic
import Derived.BigQuiet
namespace Go.Proofs.Ytkbgeafkdeddjaa
open Go.RowKit
set_option linter.unusedVariables false

set_option maxHeartbeats 400000 in
theorem refList_any (A : Option Addr) (c : Nat) (L : List (List UInt8)) (w : World) (hr : Texts w w.heap.size A L) :
    Calls Try.prog 15 #[.slice A L.length c] w fun e w' => e = .returned (two (Oct.listE L).1 (Oct.listE L).2) ∧ Below w.heap.size w w' := by
  obtain ⟨i0, hi, hz0, hz1, hz2⟩ := info_parts u8_info
  have Hi := Lib.hid hi; clear hi
  have Hz0 := Lib.hid hz0; clear hz0
  have Hz1 := Lib.hid hz1; clear hz1
  have Hz2 := Lib.hid hz2; clear hz2
  by_cases hbig : 1024 < L.length
  · have e : Oct.listE L = ([], 3) := by unfold Oct.listE; rw [if_pos hbig]
    rw [e]
    have hd : decide ((1024 : Int) < (L.length : Int)) = true := by simp; omega
    have hd2 : decide (1024 < L.length) = true := by simp; omega
    clear e
    go_enter Try.func15, Try.ntmps15
    go_wp2_with fail
    go_ret2
    exact ⟨rfl, Below.refl _ _⟩
  · have hlist : Oct.listE L = laid (Oct.num L.length) (Oct.listGo 65536 L) := by
      unfold Oct.listE; rw [if_neg hbig]
      cases Oct.listGo 65536 L <;> rfl
    have hd : decide ((1024 : Int) < (L.length : Int)) = false := by simp; omega
    have hd2 : decide (1024 < L.length) = false := by simp; omega
    have Hlist := Lib.hid hlist
    clear hlist
    have en : Oct.numE (L.length : Int) = (Oct.num L.length, 0) := by unfold Oct.numE; rw [if_neg (by omega), Int.toNat_natCast]
    have En := Lib.hid en
    clear en
    go_enter Try.func15, Try.ntmps15
    go_wp2_with fail
    refine (refNumber_any _ _ (by omega)).mono ?_
    rintro e w1 ⟨rfl, hb1⟩
    rw [En.out]
    unfold two
    have hcv := Lib.run_convert_string_bytes (P := Try.prog) w1 9 43 5 ⟨(Oct.num L.length).toArray⟩ Try.underlying9 Try.underlying43 Try.underlying5
    have ho := Own8.of_string w1 5 ⟨(Oct.num L.length).toArray⟩ (by have := Oct.num_length_le L.length; show (Oct.num L.length).length ≤ maxLen; unfold maxLen; omega)
    have hb2 := hb1.trans ((below_bytes w1 5 ⟨(Oct.num L.length).toArray⟩).mono hb1.size)
    have ho2 : Own8 (Lib.bytesWorld w1 5 ⟨(Oct.num L.length).toArray⟩) w.heap.size (.slice (some ⟨w1.heap.size, 0, none⟩) (⟨(Oct.num L.length).toArray⟩ : ByteArray).size (grownCap w1 (⟨(Oct.num L.length).toArray⟩ : ByteArray).size 0 5)) (Oct.num L.length ++ []) := by
      obtain ⟨g, cap, h1, h2, h3⟩ := ho
      rw [List.append_nil]
      exact ⟨g, cap, h1, Nat.le_trans hb1.size h2, h3⟩
    have Ho2 := Lib.hid ho2
    clear ho ho2
    go_wp2_with fail
    go_loopw [7, 6, 8] (fun sum v i wr => ∃ (k lf : Nat) (a : List UInt8), k ≤ L.length ∧ lf ≤ 65536 ∧ i = .int .i64 k ∧ sum = .int .i64 (65536 - (lf : Int)) ∧
        Own8 wr w.heap.size v (Oct.num L.length ++ a) ∧ Below w.heap.size w wr ∧ Oct.listGo 65536 L = inFront a (Oct.listGo lf (L.drop k)) ∧ (Oct.num L.length ++ a).length + lf ≤ 9 + 9 * k + 65536) (fun _ _ i _ => L.length - (intOf i).toNat)
    case atStart =>
      refine ⟨0, 65536, [], by omega, by omega, rfl, rfl, Ho2.out, hb2, ?_, ?_⟩
      · rw [List.drop_zero]; unfold inFront; cases Oct.listGo 65536 L <;> simp
      · have := Oct.num_length_le L.length
        simp; omega
    case round =>
      obtain ⟨k, lf, a, hk, hlf, rfl, rfl, hown, hbel, hrem, hlen⟩ := hrel
      have Hrem := Lib.hid hrem
      have Hown := Lib.hid hown
      have Hlen := Lib.hid hlen
      clear hrem hown hlen hcv hb2
      by_cases hlt : k < L.length
      · obtain ⟨b, off, rfl, hbb, hc⟩ := hr (by rintro rfl; simp at hlt)
        have hck := (hbel.cell (p := ⟨b, off + k, none⟩) hbb).trans (hc k hlt)
        clear hc
        by_cases hbg : lf < L[k].length
        · have hfin : Oct.listE L = ([], 3) := by rw [Hlist.out, Hrem.out, inFront_none hlt hbg]; rfl
          have Hfin := Lib.hid hfin
          have hd3 : decide ((65536 : Int) - (65536 - (lf : Int)) < (L[k].length : Int)) = true := by simp; omega
          clear hfin
          go_wp2_with fail
          go_ret2
          rw [Hfin.out]
          exact ⟨rfl, hbel⟩
        · have hrem2 := Hrem.out
          rw [inFront_step hlt hbg] at hrem2
          have Hrem2 := Lib.hid hrem2
          have hd3 : decide ((65536 : Int) - (65536 - (lf : Int)) < (L[k].length : Int)) = false := by simp; omega
          have hsub : (L[k].length : Int) ≤ lf := by omega
          have htE : Oct.textE L[k] = (Oct.text L[k], 0) := by unfold Oct.textE; rw [if_neg (by omega)]
          have HtE := Lib.hid htE
          clear hrem2 htE
          go_wp2_with fail
          refine (refText_any _ _).mono ?_
          rintro e w3 ⟨rfl, hb3⟩
          rw [show (⟨L[k].toArray⟩ : ByteArray).data.toList = L[k] from rfl, HtE.out]
          unfold two
          have hbel3 := hbel.trans (hb3.mono hbel.size)
          have htl : (Oct.text L[k]).length ≤ 9 + L[k].length := by unfold Oct.text; have := Oct.num_length_le L[k].length; rw [List.length_append]; omega
          have hl1 := Hlen.out
          obtain ⟨v4, w4, hrun, hown4, hb4⟩ := (Hown.out.below hb3).append (P := Try.prog) 43 9 43 5 i0 Try.underlying43 Try.underlying9 Hi.out Hz0.out Hz1.out Hz2.out ⟨(Oct.text L[k]).toArray⟩ (by show (Oct.num L.length ++ a).length + (Oct.text L[k]).length ≤ _; omega) hbel3.size
          have Hown4 := Lib.hid hown4
          have Htl := Lib.hid htl
          have Hrun := Lib.hid hrun
          clear hown4 htl hl1 hrun
          go_wp2_with (at_builtin; refine wpList_app_run _ rfl (.tmp 51) (.tmp 52) _ _ rfl _ _ rfl rfl Hrun.out ?_)
          refine ⟨⟨k + 1, lf - L[k].length, a ++ Oct.text L[k], by omega, by omega, by go_num, ?_, ?_, hbel3.trans hb4, Hrem2.out, ?_⟩, by simp [intOf]; omega⟩
          · congr 1; omega
          · have := Hown4.out
            rwa [List.append_assoc] at this
          · have h1 := Hlen.out
            have h2 := Htl.out
            rw [List.length_append] at h1 ⊢
            rw [List.length_append]
            omega
      · obtain rfl : k = L.length := by omega
        have hfin : Oct.listE L = (Oct.num L.length ++ a, 0) := by
          rw [Hlist.out, Hrem.out, List.drop_length]
          simp [Oct.listGo, inFront, laid]
        have Hfin := Lib.hid hfin
        have hcv2 := Hown.out.text (P := Try.prog) 43 5 Try.underlying43 Try.underlying5 9 Try.underlying9
        clear hfin
        go_wp2_with fail
        go_ret2
        rw [Hfin.out]
        exact ⟨rfl, hbel⟩

/-- the same texts? -/
theorem refSame_any (A1 A2 : Option Addr) (c1 c2 : Nat) (L1 L2 : List (List UInt8)) (w : World) (B1 B2 : Nat) (h1 : Texts w B1 A1 L1) (h2 : Texts w B2 A2 L2) (hl1 : L1.length ≤ 9223372036854775807) (hl2 : L2.length ≤ 9223372036854775807) :
    Calls Try.prog 22 #[.slice A1 L1.length c1, .slice A2 L2.length c2] w fun e w' => e = .returned (.bool (decide (L1 = L2))) ∧ ∃ n, w' = w.drewN n := by
  by_cases hlen : L1.length = L2.length
  · have hd : ((L1.length : Int) != (L2.length : Int)) = false := by simp [hlen]
    have hd2 : (L1.length != L2.length) = false := by simp [hlen]
    have Hlen := Lib.hid hlen
    clear hlen
    go_enter Try.func22, Try.ntmps22
    go_wp2_with fail
    go_loopw [5] (fun i wr => ∃ (k n : Nat), k ≤ L1.length ∧ i = .int .i64 k ∧ wr = w.drewN n ∧ L1.take k = L2.take k) (fun i _ => L1.length - (intOf i).toNat)
    case atStart => exact ⟨0, 0, by omega, rfl, rfl, rfl⟩
    case round =>
      obtain ⟨k, n, hk, rfl, rfl, heq⟩ := hrel
      have Heq := Lib.hid heq
      clear heq
      by_cases hlt : k < L1.length
      · have hlt2 : k < L2.length := by have := Hlen.out; omega
        obtain ⟨b1, o1, rfl, hb1, hc1⟩ := h1 (by rintro rfl; simp at hlt)
        obtain ⟨b2, o2, rfl, hb2, hc2⟩ := h2 (by rintro rfl; simp at hlt2)
        have hk1 := hc1 k hlt
        have hk2 := hc2 k hlt2
        clear hc1 hc2
        go_wp2_with fail
        by_cases hek : L1[k] = L2[k]
        · have hd3 : (!(L1[k] == L2[k])) = false := by simp [hek]
          have Hek := Lib.hid hek
          clear hek
          go_quiet (fail)
          go_wp2_with fail
          refine ⟨⟨k + 1, _, by omega, by go_num, rfl, ?_⟩, by simp [intOf]; omega⟩
          rw [List.take_succ_eq_append_getElem hlt, List.take_succ_eq_append_getElem hlt2, Heq.out, Hek.out]
        · have hd3 : (!(L1[k] == L2[k])) = true := by simp [hek]
          have hne : decide (L1 = L2) = false := by simp; rintro rfl; exact hek rfl
          have Hne := Lib.hid hne
          clear hek hne
          go_quiet (fail)
          go_wp2_with fail
          go_ret
          rw [Hne.out]
          exact ⟨rfl, _, World.drewN_drewN _ _ _⟩
      · have he : decide (L1 = L2) = true := by
          have h1 := Heq.out
          have h2 := Hlen.out
          rw [List.take_of_length_le (by omega), List.take_of_length_le (by omega)] at h1
          simpa using h1
        have He := Lib.hid he
        clear he
        go_wp2_with fail
        go_ret
        rw [He.out]
        exact ⟨rfl, _, rfl⟩
  · have hd : ((L1.length : Int) != (L2.length : Int)) = true := by simp; omega
    have hd2 : (L1.length != L2.length) = true := by simp [hlen]
    have hne : decide (L1 = L2) = false := by simp; rintro rfl; exact hlen rfl
    have Hne := Lib.hid hne
    clear hne hlen
    go_enter Try.func22, Try.ntmps22
    go_wp2_with fail
    go_ret
    rw [Hne.out]
    exact ⟨rfl, 0, rfl⟩
end Go.Proofs.Ytkbgeafkdeddjaa
