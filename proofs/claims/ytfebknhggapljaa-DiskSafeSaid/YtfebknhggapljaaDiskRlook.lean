/- The reference of layer 9: New, Look, Names. -/
import Derived.Test.YtfebknhggapljaaDiskRapp
namespace Go.Proofs.Ytfebknhggapljaa
open Go.RowKit
set_option linter.unusedVariables false
set_option linter.unusedSimpArgs false

theorem rnew9 (w : World) (B : Nat) (hB : B ≤ w.heap.size) : Calls Try.prog 9 #[] w fun e w' => e = .returned (.pointer (some ⟨w.heap.size, 0, none⟩)) ∧ RefIn w' B w.heap.size (.slice none 0 0) [] (-1) ∧ Below w.heap.size w w' ∧ w'.heap.size = w.heap.size + 1 := by
  go_enter Try.func9, Try.ntmps9
  go_wp2_with fail
  go_ret
  exact ⟨rfl, ⟨Row.new w 56 [.slice none 0 0, .int .i64 (-1)], World.ownsRow_nil _ _ _ _, List.Pairwise.nil, by simp, fun f hf => (by cases hf), hB, by omega⟩, (Below.refl _ _).alloc (Nat.le_refl _) _, by simp⟩
set_option maxRecDepth 20000 in
set_option maxHeartbeats 800000 in
theorem rlook9 {w : World} {B g : Nat} {v : Value} {l : List Fl} {r : Int} (nm : Fl.Nm) (hd : RefIn w B g v l r) :
    Calls Try.prog 19 #[.pointer (some ⟨g, 0, none⟩), Sb nm] w fun e w' => e = .returned (.tuple #[Sb (bytesR l r nm), .int .i64 (safeR l r nm), .int .i64 (codeR l r nm)]) ∧ Below w.heap.size w w' := by
  have HW := Lib.hid (rdown9 hd)
  have HT := Lib.hid (rat9 nm hd)
  obtain ⟨R1, hR1⟩ : ∃ R, R = bytesR l r nm := ⟨_, rfl⟩
  obtain ⟨R2, hR2⟩ : ∃ R, R = safeR l r nm := ⟨_, rfl⟩
  obtain ⟨R3, hR3⟩ : ∃ R, R = codeR l r nm := ⟨_, rfl⟩
  rw [← hR1, ← hR2, ← hR3]
  unfold bytesR at hR1
  unfold safeR at hR2
  unfold codeR at hR3
  rcases hd.found nm with h0 | ⟨h0, hf, ha⟩ | ⟨h0, i, b, c, n, f, hf, ha, hnm, hok, rfl, hn, hin, hb, c0, c1, c2, c3⟩
  · rw [if_pos h0] at hR1 hR2 hR3
    subst hR1; subst hR2; subst hR3; subst h0
    clear hd
    go_enter Try.func19, Try.ntmps19
    go_wp2_with fail
    refine HW.out.mono ?_
    rintro _ w1 ⟨rfl, rfl⟩
    go_wp2_with fail
    go_ret3
    exact ⟨rfl, Below.refl _ _⟩
  · rw [if_neg h0, hf] at hR1 hR2 hR3
    simp only at hR1 hR2 hR3
    rw [ha] at HT
    have h0b : (r == 0) = false := by simpa using h0
    simp at hR3
    subst hR1; subst hR2; subst hR3
    clear hd h0 hf ha
    go_enter Try.func19, Try.ntmps19
    go_wp2_with fail
    refine HW.out.mono ?_
    rintro _ w1 ⟨rfl, rfl⟩
    go_wp2_with fail
    refine HT.out.mono ?_
    rintro _ w1 ⟨rfl, rfl⟩
    go_wp2_with fail
    go_ret3
    exact ⟨rfl, Below.refl _ _⟩
  · rw [if_neg h0, hf] at hR1 hR2 hR3
    simp only at hR1 hR2 hR3
    rw [ha] at HT
    have h0b : (r == 0) = false := by simpa using h0
    have hnn : ¬ ((i : Int) < 0) := by omega
    have hil : (i : Int) < (n : Int) := by omega
    simp at hR3
    generalize f.b = fb at *
    generalize f.safe = fs at *
    subst hR1; subst hR2; subst hR3
    have Hn := Lib.hid hn
    clear hd h0 hf ha hn hok
    go_enter Try.func19, Try.ntmps19
    go_wp2_with fail
    refine HW.out.mono ?_
    rintro _ w1 ⟨rfl, rfl⟩
    go_wp2_with fail
    refine HT.out.mono ?_
    rintro _ w1 ⟨rfl, rfl⟩
    go_wp2_with fail
    go_quiet (fail)
    go_wp2_with fail
    go_ret3
    exact ⟨rfl, below_drewN' (Below.refl _ _) _⟩
set_option maxRecDepth 20000 in
set_option maxHeartbeats 1600000 in
theorem rnames9 {w : World} {B g : Nat} {v : Value} {l : List Fl} {r : Int} (hd : RefIn w B g v l r) :
    Calls Try.prog 16 #[.pointer (some ⟨g, 0, none⟩)] w fun e w' => ∃ v, e = .returned v ∧ w'.ownsRow w.heap.size 9 1 v (namesR l r).length ((namesR l r).map encStr) ∧ Below w.heap.size w w' := by
  obtain ⟨i0, hi, hz0, hz1, hz2⟩ := parts9 strInfo
  have Hi := Lib.hid hi; clear hi
  have Hz0 := Lib.hid hz0; clear hz0
  have Hz1 := Lib.hid hz1; clear hz1
  have Hz2 := Lib.hid hz2; clear hz2
  obtain ⟨L, hL⟩ : ∃ L, L = namesR l r := ⟨_, rfl⟩
  rw [← hL]
  have HW : Hid (∀ W : World, Below w.heap.size w W → Calls Try.prog 13 #[.pointer (some ⟨g, 0, none⟩)] W fun e w' => e = .returned (.bool (r == 0)) ∧ W = w') := Lib.hid fun W hb => rdown_at (Row.below hd.row hb)
  obtain ⟨A, c, rfl⟩ := hd.files.form
  have HF := Lib.hid hd.files
  have hgl : g < w.heap.size := Row.lt hd.row
  have hc0 : w.cell? ⟨g, 0, none⟩ = some (.slice A l.length c) := Row.cell hd.row 0 (by simp)
  obtain ⟨n, hn⟩ : ∃ n, n = l.length := ⟨_, rfl⟩
  have hn8 : n ≤ 8 := by rw [hn]; exact hd.len
  rw [← hn] at hc0
  have HC := Lib.hid hc0
  have HN := Lib.hid hn
  have HL := Lib.hid hL
  clear hc0 hn hL hd
  go_enter Try.func16, Try.ntmps16
  go_wp2_with fail
  go_loopw [3, 4] (fun u i wr => ∃ k : Nat, k ≤ n ∧ i = .int .i64 k ∧ (r = 0 → k = 0) ∧ wr.ownsRow w.heap.size 9 1 u k (((Fl.names l).take k).map encStr) ∧ Below w.heap.size w wr) (fun _ i _ => n - (intOf i).toNat)
  case atStart => exact ⟨0, Nat.zero_le _, rfl, fun _ => rfl, World.ownsRow_nil _ _ _ _, Below.refl _ _⟩
  case round =>
    obtain ⟨k, hk, rfl, hr0, hown, hbr⟩ := hrel
    have c0 := (hbr.cell (p := ⟨g, 0, none⟩) hgl).trans HC.out
    have Hown := Lib.hid hown
    have Hbr := Lib.hid hbr
    have Hr0 := Lib.hid hr0
    clear hown hbr hr0
    by_cases hkn : k < n
    · have hki : (k : Int) < (n : Int) := by omega
      go_wp2_with fail
      refine (HW.out _ Hbr.out).mono ?_
      rintro _ w3 ⟨rfl, rfl⟩
      by_cases h0 : r = 0
      · have h0b : (r == 0) = true := by simpa using h0
        have hk0 := Hr0.out h0
        subst hk0
        have hLe : L = [] := by rw [HL.out]; unfold namesR; rw [if_pos h0]
        subst hLe
        have ho := Hown.out
        rw [List.take_zero] at ho
        have Ho := Lib.hid ho
        clear ho h0 HL
        rw [h0b]
        go_wp2_with fail
        go_ret
        exact ⟨_, rfl, Ho.out, Hbr.out⟩
      · have h0b : (r == 0) = false := by simpa using h0
        have hkl : k < l.length := by rw [← HN.out]; exact hkn
        obtain ⟨b, rfl, _, hb, c1, c2, c3⟩ := HF.out.at k hkl
        have c1 := (Hbr.out.cell (p := ⟨b, k * 3, none⟩) hb).trans c1
        have htk : ((Fl.names l).take (k + 1)).map encStr = ((Fl.names l).take k).map encStr ++ [encStr (l[k]).name] := by
          have hkm : k < (Fl.names l).length := by simpa [Fl.names] using hkl
          rw [List.take_succ_eq_append_getElem hkm, List.map_append]
          simp [Fl.names]
        have Htk := Lib.hid htk
        have H0 := Lib.hid h0
        generalize (l[k]).name = x at *
        have hq63 : k + 1 ≤ maxLen := by unfold maxLen; omega
        have hsz2 : w.heap.size ≤ (wr.alloc (.cells #[encStr x] 9)).heap.size := by have := Hbr.out.size; simp; omega
        have Hown2 := Lib.hid (Hown.out.alloc (.cells #[encStr x] 9))
        have Hone := Lib.hid (one_new9 wr (encStr x) 9)
        clear htk h0
        rw [h0b]
        go_wp2_with (first
          | (at_builtin; refine wpList_append_own _ rfl _ _ 33 rfl w.heap.size 9 i0 (.string ⟨#[]⟩) 1 16 Try.underlying33 Hi.out Hz0.out Hz1.out Hz2.out rfl (by decide) _ _ _ rfl Hown2.out ⟨wr.heap.size, 0, none⟩ 1 1 [encStr x] rfl rfl Hone.out (by simp [Value.oneCell', encStr]) hq63 (by omega) hsz2 ?_; intro v' w3 hown' hg3 hnil3
             have hb3 := (Hbr.out.alloc Hbr.out.size (.cells #[encStr x] 9)).grown hg3 hsz2 (fun j hj => (Hown2.out.lt j hj).1)
             obtain ⟨A3, c3, rfl⟩ := own_form9 hown'
             have Hown' := Lib.hid hown'
             have Hb3 := Lib.hid hb3
             clear hown' hg3 hnil3 hb3)
          | fail)
        exact ⟨⟨k + 1, hkn, by go_num, fun e => absurd e H0.out, by rw [Htk.out]; exact Hown'.out, Hb3.out⟩, by simp [intOf]; omega⟩
    · obtain rfl : k = n := by omega
      have hki : (k : Int) ≤ (k : Int) := by omega
      have hLn : L = (Fl.names l).take k := by
        rw [HL.out]
        unfold namesR
        by_cases h0 : r = 0
        · rw [if_pos h0, Hr0.out h0, List.take_zero]
        · rw [if_neg h0, List.take_of_length_le (by simp [Fl.names, HN.out])]
      have hlen : L.length = k := by rw [hLn]; simp [Fl.names, HN.out]
      have HLn := Lib.hid hLn
      have Hlen := Lib.hid hlen
      clear hLn hlen HL
      go_wp2_with fail
      go_ret
      exact ⟨_, rfl, by rw [Hlen.out, HLn.out]; exact Hown.out, Hbr.out⟩
end Go.Proofs.Ytfebknhggapljaa
