/- What later texts need of the earlier layers. -/
import Derived.Test.YtinciddchpccnaaDoorOwnApp
import Derived.Test.YtinciddchpccnaaDoorRunsMath
import Derived.Test.YtinciddchpccnaaDoorRunsNum
import Derived.Test.YtinciddchpccnaaDoorRunsES
import Derived.Test.YtinciddchpccnaaDoorRunsPut
import Derived.Test.YtinciddchpccnaaDoorRunsPk
import Derived.Test.YtinciddchpccnaaDoorRunsRR
import Derived.Test.YtinciddchpccnaaDoorRunsUU
import Derived.Test.YtinciddchpccnaaDoorChecked
set_option maxRecDepth 100000
/- ---- RunsR3 ---- -/
/- The reference of layer 6: Unpack. -/
namespace Go.Proofs.YtinciddchpccnaaDoor.Rn
open Go.RowKit
set_option linter.unusedVariables false
set_option linter.unusedSimpArgs false

set_option maxRecDepth 20000 in
set_option maxHeartbeats 1600000 in
theorem refUnpack_pos (s : ByteArray) (M : Nat) (w : World) (hs : s.size ≤ 140737488351232) (hM : (M : Int) ≤ 9223372036854775807) (hroom : M ≤ 225179981368371 ∨ 65 * s.size ≤ 225179981368371) :
    Calls Tryd.prog 74 #[.string s, .int .i64 (M : Int)] w fun e w' => e = .returned (upV s.data.toList M) ∧ Below w.heap.size w w' := by
  obtain ⟨i0, hi, hz0, hz1, hz2⟩ := info_parts r8_info
  have Hi := Lib.hid hi; clear hi
  have Hz0 := Lib.hid hz0; clear hz0
  have Hz1 := Lib.hid hz1; clear hz1
  have Hz2 := Lib.hid hz2; clear hz2
  have hlen : s.data.toList.length = s.size := rfl
  have hd0 : decide ((M : Int) < 0) = false := by simp
  go_enter Tryd.func74, Tryd.ntmps74
  go_wp2_with fail
  go_loopw [6, 7] (fun v i wr => ∃ (k : Nat) (bs : List UInt8), i = .int .i64 k ∧ Soon s.data.toList M k bs ∧ wr.ownsRow w.heap.size 5 1 v bs.length (bytesV bs) ∧ Below w.heap.size w wr) (fun _ i _ => s.size - (intOf i).toNat)
  case atStart => exact ⟨0, [], rfl, Soon.start _ _, own_empty _ _, (Below.refl _ _).alloc (Nat.le_refl _) _⟩
  case round =>
    obtain ⟨k, bs, rfl, hso, hown, hbel⟩ := hrel
    have hk := hso.1
    have hbM := hso.2.1
    have hb65 := hso.2.2.1
    rw [hlen] at hk
    obtain ⟨av, cv, hv⟩ : ∃ a c, u6 = .slice a bs.length c := by
      rcases hown.2 with ⟨rfl, h0⟩ | ⟨g, cap, cur, rfl, _⟩
      · exact ⟨none, 0, by rw [h0]⟩
      · exact ⟨_, _, rfl⟩
    subst hv
    have Hown := Lib.hid hown
    have Hbel := Lib.hid hbel
    have Hso := Lib.hid hso
    clear hown hbel hso
    by_cases hlt : k < s.size
    · have hx : s.data.toList.drop k = s[k] :: s.data.toList.drop (k + 1) := List.drop_eq_getElem_cons (by rw [hlen]; exact hlt)
      have hrl : (s.data.toList.drop (k + 1)).length = s.size - (k + 1) := by rw [List.length_drop, hlen]
      have hc256 := (s[k]).toNat_lt
      by_cases hc : s[k].toNat < 128
      · have hd1 : decide ((s[k].toNat : Int) < 128) = true := by simp only [decide_eq_true_eq]; omega
        have hd1' : decide (s[k].toNat < 128) = true := by simp only [decide_eq_true_eq]; omega
        by_cases h1 : s.size - (k + 1) < s[k].toNat + 1
        · have hr := upV_err _ _ _ (Hso.out.litShort hx hc (by rw [hrl]; exact h1))
          have Hr := Lib.hid hr
          have hd2 : decide ((s.size : Int) < (k : Int) + 1 + (s[k].toNat : Int) + 1) = true := by simp only [decide_eq_true_eq]; omega
          clear hr hx hrl
          go_wp2_with fail
          go_ret2
          rw [Hr.out]
          exact ⟨rfl, Hbel.out⟩
        · have hd2 : decide ((s.size : Int) < (k : Int) + 1 + (s[k].toNat : Int) + 1) = false := by simp only [decide_eq_false_iff_not]; omega
          by_cases h2 : M - bs.length < s[k].toNat + 1
          · have hr := upV_err _ _ _ (Hso.out.litBig hx hc (by rw [hrl]; exact h1) h2)
            have Hr := Lib.hid hr
            have hd3 : decide ((M : Int) < (bs.length : Int) + (s[k].toNat : Int) + 1) = true := by simp only [decide_eq_true_eq]; omega
            clear hr hx hrl
            go_wp2_with fail
            go_ret2
            rw [Hr.out]
            exact ⟨rfl, Hbel.out⟩
          · have hso2 := Hso.out.lit hx hc (by rw [hrl]; exact h1) h2
            have hd3 : decide ((M : Int) < (bs.length : Int) + (s[k].toNat : Int) + 1) = false := by simp only [decide_eq_false_iff_not]; omega
            have ht : ((s.data.toList.drop (k + 1)).take (s[k].toNat + 1)).length = s[k].toNat + 1 := by rw [List.length_take, hrl]; omega
            have hb1 := hso2.2.1
            have hb2 := hso2.2.2.1
            rw [List.length_append, ht] at hb1 hb2
            have hcut : ∀ W : World, (Instr.slice 9 (.string s) (some (.int .i64 ((k : Int) + 1))) (some (.int .i64 ((k : Int) + (s[k].toNat : Int) + 2))) none).run Tryd.prog W = .ok (S ((s.data.toList.drop (k + 1)).take (s[k].toNat + 1))) W := by
              intro W
              rw [run_slice_string W 9 s .i64 .i64 _ _ (by kernel_rfl) (by omega) (by omega) (by omega)]
              have e1 : ((k : Int) + 1).toNat = k + 1 := by omega
              have e2 : ((k : Int) + (s[k].toNat : Int) + 2).toNat = (k + 1) + (s[k].toNat + 1) := by omega
              rw [e1, e2, extract_list]
            generalize (s.data.toList.drop (k + 1)).take (s[k].toNat + 1) = tk at *
            have hS : ∀ W : World, Src Tryd.prog 1 9 (S tk) tk.length (bytesV tk) W := fun W => Src.ofString W (by kernel_rfl) ⟨tk.toArray⟩
            have hwb := Hbel.out.size
            have Hso2 := Lib.hid hso2
            have Ht := Lib.hid ht
            clear hso2 hx hrl ht
            go_wp2_with (at_builtin; refine wpList_own_src _ rfl (.tmp 38) (.tmp 46) 48 9 rfl w.heap.size 5 i0 Tryd.underlying48 Hi.out Hz0.out Hz1.out Hz2.out _ _ _ rfl Hown.out (S tk) tk.length (bytesV tk) rfl (hS _) ?l1 ?l2 ?_)
            case l1 => rw [Ht.out]; omega
            case l2 => exact hwb
            intro v3 w3 hown3 hgrow3
            have hbel3 := Hbel.out.grown hgrow3 hwb (fun j hj => (Hown.out.lt j hj).1)
            rw [← bytesV_app, ← List.length_append] at hown3
            have Hown3 := Lib.hid hown3
            have Hbel3 := Lib.hid hbel3
            clear hown3 hgrow3 hbel3 hcut hS
            go_wp2_with fail
            refine ⟨⟨_, _, ?_, Hso2.out, Hown3.out, Hbel3.out⟩, by simp [intOf]; omega⟩
            go_num
      · have hd1 : decide ((s[k].toNat : Int) < 128) = false := by simp only [decide_eq_false_iff_not]; omega
        have hd1' : decide (s[k].toNat < 128) = false := by simp only [decide_eq_false_iff_not]; omega
        by_cases h1 : k + 1 < s.size
        · have hd2 : decide ((s.size : Int) ≤ (k : Int) + 1) = false := by simp only [decide_eq_false_iff_not]; omega
          have h1l : k + 1 < s.data.toList.length := by rw [hlen]; exact h1
          obtain ⟨r2, hx1⟩ : ∃ r2, s.data.toList.drop (k + 1) = s.data.toList[k + 1] :: r2 := ⟨_, List.drop_eq_getElem_cons h1l⟩
          have hxe : s.data.toList[k + 1] = s[k + 1] := rfl
          rw [hxe] at hx1
          clear hxe
          rw [hx1] at hx
          by_cases h2 : M - bs.length < s[k].toNat - 125
          · have hr := upV_err _ _ _ (Hso.out.runBig hx hc h2)
            have Hr := Lib.hid hr
            have hd3 : decide ((M : Int) < (bs.length : Int) + (s[k].toNat : Int) - 125) = true := by simp only [decide_eq_true_eq]; omega
            clear hr hx hrl hx1
            go_wp2_with fail
            go_ret2
            rw [Hr.out]
            exact ⟨rfl, Hbel.out⟩
          · have hso2 := Hso.out.run hx hc h2
            have hd3 : decide ((M : Int) < (bs.length : Int) + (s[k].toNat : Int) - 125) = false := by simp only [decide_eq_false_iff_not]; omega
            have hb1 := hso2.2.1
            have hb2 := hso2.2.2.1
            rw [List.length_append, List.length_replicate] at hb1 hb2
            generalize hN : (s[k]'hlt).toNat - 125 = N at hb1 hb2 hso2
            have hNi : (s[k].toNat : Int) - 125 = (N : Int) := by omega
            have HNi := Lib.hid hNi
            have Hso2 := Lib.hid hso2
            have h1' : (k : Int) + 1 < s.size := by omega
            have hwb := Hbel.out.size
            clear hso2 hx hrl hx1 hNi
            go_wp2_with fail
            have Hc := Lib.hid hN
            clear hN
            generalize wr = wo at *
            go_loopw [6, 9] (fun v j wr => ∃ q : Nat, q ≤ N ∧ j = .int .i64 q ∧ wr.ownsRow w.heap.size 5 1 v (bs.length + q) (bytesV (bs ++ List.replicate q (s[k + 1]'h1))) ∧ Below w.heap.size w wr) (fun _ j _ => N - (intOf j).toNat)
            case atStart => exact ⟨0, Nat.zero_le _, rfl, by simpa using Hown.out, Hbel.out⟩
            case round =>
              obtain ⟨q, hq, rfl, hown2, hbel2⟩ := hrel
              have hwb2 := hbel2.size
              by_cases hqN : q < N
              · have hqi : (q : Int) < (s[k].toNat : Int) - 125 := by have := HNi.out; omega
                have hbound : bs.length + q + 1 ≤ 225179981368371 := by omega
                have hq8 : (q : Int) + 1 ≤ 131 := by have := Hc.out; omega
                have Hbound := Lib.hid hbound
                have Hq := Lib.hid hq
                have Hs := Lib.hid hs
                have hcb : (s[k].toNat : Int) < 256 := by have := hc256; omega
                have hsk : (s.size : Int) ≤ 140737488351232 := by omega
                clear hbound hroom hb1 hb2 hM hbM hb65 h2 hc256 hd1 hd1' hd2 hd3 hc hd0 hk hs hq hlen
                go_wp2_with (at_builtin; refine wpList_append_own_wide _ rfl (.tmp 70) (.tmp 75) 48 rfl w.heap.size 5 i0 (.int .u8 0) 1 1 Tryd.underlying48 Hi.out Hz0.out Hz1.out Hz2.out rfl (by decide) _ _ _ rfl (hown2.alloc _) ⟨wr.heap.size, 0, none⟩ 1 1 [.int .u8 ((s[k + 1]'h1).toNat : Int)] rfl rfl ?c1 ?c2 ?c3 ?c4 ?c5 ?_)
                case c1 => exact cell_one wr _ _
                case c2 => first | rfl | (intro u hu; simp at hu; subst hu; rfl)
                case c3 => have := Hbound.out; unfold maxLen; omega
                case c4 => have := Hbound.out; omega
                case c5 => simp; omega
                intro v1 w1 hown1 hgrow1 _
                have hbel1 := (hbel2.alloc hwb2 (.cells #[.int .u8 ((s[k + 1]'h1).toNat : Int)] 5)).grown hgrow1 (by simp; omega) (fun j hj => (hown2.lt j hj).1)
                have eb : List.map (fun b : UInt8 => Value.int .u8 (b.toNat : Int)) bs ++ (List.replicate q (Value.int .u8 ((s[k + 1]'h1).toNat : Int)) ++ [Value.int .u8 ((s[k + 1]'h1).toNat : Int)]) = bytesV (bs ++ List.replicate (q + 1) (s[k + 1]'h1)) := by
                  rw [List.replicate_succ', bytesV_app, bytesV_app]
                  simp [bytesV]
                have hown1 : w1.ownsRow w.heap.size 5 1 v1 (bs.length + (q + 1)) (bytesV (bs ++ List.replicate (q + 1) (s[k + 1]'h1))) := by rw [← eb]; exact hown1
                have Hown1 := Lib.hid hown1
                have Hbel1 := Lib.hid hbel1
                clear hown1 hgrow1 hown2 hbel2 eb hbel1
                go_wp2_with fail
                refine ⟨⟨q + 1, by omega, by go_num, Hown1.out, Hbel1.out⟩, by simp [intOf]; omega⟩
              · obtain rfl : q = N := by omega
                have hqi : (s[k].toNat : Int) - 125 ≤ (q : Int) := by have := HNi.out; omega
                have Hown2 := Lib.hid hown2
                have Hbel2 := Lib.hid hbel2
                clear hown2 hbel2
                go_wp2_with fail
                have el : (bs ++ List.replicate q (s[k + 1]'h1)).length = bs.length + q := by rw [List.length_append, List.length_replicate]
                refine ⟨⟨k + 2, _, by go_num, Hso2.out, ?_, Hbel2.out⟩, by simp [intOf]; omega⟩
                rw [el]
                exact Hown2.out
        · have hx1 : s.data.toList.drop (k + 1) = [] := List.drop_of_length_le (by rw [hlen]; omega)
          rw [hx1] at hx
          have hr := upV_err _ _ _ (Hso.out.runShort hx hc)
          have Hr := Lib.hid hr
          have hd2 : decide ((s.size : Int) ≤ (k : Int) + 1) = true := by simp only [decide_eq_true_eq]; omega
          clear hr hx hrl hx1
          go_wp2_with fail
          go_ret2
          rw [Hr.out]
          exact ⟨rfl, Hbel.out⟩
    · have hfin := upV_ok _ _ _ (Hso.out.stop (by rw [hlen]; omega))
      have hcv := own_text (P := Tryd.prog) Hown.out rfl 48 Tryd.underlying48 (by kernel_rfl) 9 (by kernel_rfl)
      have Hfin := Lib.hid hfin
      clear hfin
      go_wp2_with fail
      go_ret2
      rw [Hfin.out]
      exact ⟨rfl, Hbel.out⟩
end Go.Proofs.YtinciddchpccnaaDoor.Rn
