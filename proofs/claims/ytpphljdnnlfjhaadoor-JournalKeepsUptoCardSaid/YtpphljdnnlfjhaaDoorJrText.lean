/- A list of texts in memory; the reference's Same. -/
import Derived.Test.YtpphljdnnlfjhaaDoorJrOwn
import Derived.Deep.QuietTactic
import Derived.BigQuiet
namespace Go.Proofs.YtpphljdnnlfjhaaDoor
open Go.RowKit
set_option linter.unusedVariables false
set_option linter.unusedSimpArgs false

/-- the slice's first cells are these texts; they lie below block B -/
def Texts (w : World) (B : Nat) (A : Option Addr) (L : List (List UInt8)) : Prop :=
  L ≠ [] → ∃ b off, A = some ⟨b, off, none⟩ ∧ b < B ∧ ∀ i (h : i < L.length), w.cell? ⟨b, off + i, none⟩ = some (S L[i])
/-- the same texts? -/
theorem refSame_any (A1 A2 : Option Addr) (c1 c2 : Nat) (L1 L2 : List (List UInt8)) (w : World) (B1 B2 : Nat) (h1 : Texts w B1 A1 L1) (h2 : Texts w B2 A2 L2) (hl1 : L1.length ≤ 9223372036854775807) (hl2 : L2.length ≤ 9223372036854775807) :
    Calls Tryd.prog 11 #[.slice A1 L1.length c1, .slice A2 L2.length c2] w fun e w' => e = .returned (.bool (decide (L1 = L2))) ∧ ∃ n, w' = w.drewN n := by
  by_cases hlen : L1.length = L2.length
  · have hd : ((L1.length : Int) != (L2.length : Int)) = false := by simp [hlen]
    have hd2 : (L1.length != L2.length) = false := by simp [hlen]
    have Hlen := Lib.hid hlen
    clear hlen
    go_enter Tryd.func11, Tryd.ntmps11
    go_wp2_with fail
    go_loopw [5] (fun i wr => ∃ (k n : Nat), k ≤ L1.length ∧ i = .int .i64 k ∧ wr = w.drewN n ∧ L1.take k = L2.take k) (fun i _ => L1.length - (intOf i).toNat)
    case atStart => exact ⟨0, 0, by omega, rfl, rfl, rfl⟩
    case round =>
      obtain ⟨k, n, hk, rfl, rfl, heq⟩ := hrel
      have Heq := Lib.hid heq
      clear heq
      by_cases hlt : k < L1.length
      · have hlt2 : k < L2.length := by have := Hlen.out; omega
        obtain ⟨b1, o1, rfl, hb1, hc1⟩ := h1 (by rintro rfl; simp at hlt)
        obtain ⟨b2, o2, rfl, hb2, hc2⟩ := h2 (by rintro rfl; simp at hlt2)
        have hk1 := hc1 k hlt
        have hk2 := hc2 k hlt2
        clear hc1 hc2
        go_wp2_with fail
        by_cases hek : L1[k] = L2[k]
        · have hd3 : (!(L1[k] == L2[k])) = false := by simp [hek]
          have Hek := Lib.hid hek
          clear hek
          go_quiet (fail)
          go_wp2_with fail
          refine ⟨⟨k + 1, _, by omega, by go_num, rfl, ?_⟩, by simp [intOf]; omega⟩
          rw [List.take_succ_eq_append_getElem hlt, List.take_succ_eq_append_getElem hlt2, Heq.out, Hek.out]
        · have hd3 : (!(L1[k] == L2[k])) = true := by simp [hek]
          have hne : decide (L1 = L2) = false := by simp; rintro rfl; exact hek rfl
          have Hne := Lib.hid hne
          clear hek hne
          go_quiet (fail)
          go_wp2_with fail
          go_ret
          rw [Hne.out]
          exact ⟨rfl, _, World.drewN_drewN _ _ _⟩
      · have he : decide (L1 = L2) = true := by
          have h1 := Heq.out
          have h2 := Hlen.out
          rw [List.take_of_length_le (by omega), List.take_of_length_le (by omega)] at h1
          simpa using h1
        have He := Lib.hid he
        clear he
        go_wp2_with fail
        go_ret
        rw [He.out]
        exact ⟨rfl, _, rfl⟩
  · have hd : ((L1.length : Int) != (L2.length : Int)) = true := by simp; omega
    have hd2 : (L1.length != L2.length) = true := by simp [hlen]
    have hne : decide (L1 = L2) = false := by simp; rintro rfl; exact hlen rfl
    have Hne := Lib.hid hne
    clear hne hlen
    go_enter Tryd.func11, Tryd.ntmps11
    go_wp2_with fail
    go_ret
    rw [Hne.out]
    exact ⟨rfl, 0, rfl⟩
end Go.Proofs.YtpphljdnnlfjhaaDoor
