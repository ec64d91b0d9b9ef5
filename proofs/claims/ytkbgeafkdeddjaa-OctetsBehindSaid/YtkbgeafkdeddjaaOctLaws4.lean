/- Layer 1's laws on what is read: what they return. -/
import Derived.Test.YtkbgeafkdeddjaaOctLaws3
namespace Go.Proofs.Ytkbgeafkdeddjaa
open Go.RowKit
set_option linter.unusedVariables false

theorem slice_run {P : Program} (t : TypeId) (ht : P.underlying t = some .string) (s : ByteArray) (p q : Int) (h0 : 0 ≤ p) (h1 : p ≤ q) (h2 : q ≤ s.size) (W : World) :
    (Instr.slice t (.string s) (some (.int .i64 p)) (some (.int .i64 q)) none).run P W = .ok (S ((s.data.toList.drop p.toNat).take (q - p).toNat)) W := by
  rw [run_slice_string W t s .i64 .i64 _ _ ht h0 h1 h2]
  have e : q.toNat = p.toNat + (q - p).toNat := by omega
  rw [e, extract_list]

set_option maxHeartbeats 800000 in
set_option maxRecDepth 100000 in
theorem octetsOnce_any (s : ByteArray) (p : Int) (w : World) (hs : s.size ≤ 140737488351232) :
    Calls Try.prog 7 #[.string s, .int .i64 p] w fun e w' => e = .returned (.bool true) ∧ Below w.heap.size w w' := by
  have hs2 : s.size ≤ 9223372036854775807 := by omega
  rcases hx : Oct.rdNum s.data.toList p with ⟨n, q, e⟩
  have hokn := Oct.rdNum_ok hx
  have hx2 : rdNumV s p = three n q e := by unfold rdNumV; rw [hx]
  rcases hz : Oct.rdList s.data.toList p with ⟨l, q3, e3⟩
  have hokl := Oct.rdList_ok hz
  have Hx := Lib.hid hx2
  have Hz := Lib.hid hz
  clear hx hx2 hz
  go_enter Try.func7, Try.ntmps7
  go_wp2_with fail
  refine (readNumber_any s p _ hs2).mono ?_
  rintro e w1 ⟨rfl, rfl⟩
  rw [Hx.out]
  unfold three
  go_wp2_with fail
  refine (ReadList_any s p _ hs2).mono ?_
  rintro e w2 ⟨v2, rfl, ht2, hb2⟩
  rw [Hz.out] at ht2 ⊢
  go_wp2_with fail
  refine (awake1_any _).mono ?_
  rintro e w3 ⟨rfl, hb3⟩
  have h3 := hb2.trans (hb3.mono hb2.size)
  by_cases he : e = 0
  · subst he
    rcases hokn with h | ⟨_, hp0, hn0, hn1, hpq, hq1, hnum⟩
    · exact absurd rfl h.1
    rw [Oct.bytes_len] at hq1
    have hsl := slice_run (P := Try.prog) 9 Try.underlying9 s p q hp0 (by omega) hq1
    rw [hnum] at hsl
    have hE : Oct.numE n = (Oct.num n.toNat, 0) := by unfold Oct.numE; rw [if_neg (by omega)]
    have hd1 : decide (q ≤ p) = false := by simp; omega
    have HE := Lib.hid hE
    have Hsl := Lib.hid hsl
    clear hE hsl hnum
    go_wp2_with fail
    refine (Number_any _ _ (by omega)).mono ?_
    rintro e w4 ⟨rfl, hb4'⟩
    rw [HE.out]
    unfold two
    have h4 := h3.trans (hb4'.mono h3.size)
    have hb3 := hb3.trans (hb4'.mono hb3.size)
    have hsl := Hsl.out
    by_cases hf : e3 = 0
    · subst hf
      rcases hokl with h | ⟨_, hp0, hq0, hq1, hlist⟩
      · exact absurd rfl h.1
      rw [Oct.bytes_len] at hq1
      have hsl2 := slice_run (P := Try.prog) 9 Try.underlying9 s p q3 hp0 hq0 hq1
      have Hlist := Lib.hid hlist
      have Hsl2 := Lib.hid hsl2
      clear hlist hsl2
      go_wp2_with fail
      refine (list_v (ht2.below hb3)).mono ?_
      rintro e w5 ⟨rfl, hb5⟩
      rw [Hlist.out]
      unfold two
      have hsl3 := Hsl2.out
      go_wp2_with fail
      go_ret
      exact ⟨rfl, h4.trans (hb5.mono h4.size)⟩
    · rcases hokl with ⟨_, rfl, rfl⟩ | h
      · have hd2 : (e3 != 0) = true := by rw [bne_iff_ne]; exact hf
        obtain ⟨A2, c2, rfl, _⟩ := ht2
        go_wp2_with fail
        go_ret
        exact ⟨rfl, h4⟩
      · exact absurd h.1 hf
  · have hd1 : (e == 0) = false := by simpa using he
    have h4 := h3
    by_cases hf : e3 = 0
    · subst hf
      rcases hokl with h | ⟨_, hp0, hq0, hq1, hlist⟩
      · exact absurd rfl h.1
      rw [Oct.bytes_len] at hq1
      have hsl2 := slice_run (P := Try.prog) 9 Try.underlying9 s p q3 hp0 hq0 hq1
      have Hlist := Lib.hid hlist
      have Hsl2 := Lib.hid hsl2
      clear hlist hsl2
      go_wp2_with fail
      refine (list_v (ht2.below hb3)).mono ?_
      rintro e w5 ⟨rfl, hb5⟩
      rw [Hlist.out]
      unfold two
      have hsl3 := Hsl2.out
      go_wp2_with fail
      go_ret
      exact ⟨rfl, h4.trans (hb5.mono h4.size)⟩
    · rcases hokl with ⟨_, rfl, rfl⟩ | h
      · have hd2 : (e3 != 0) = true := by rw [bne_iff_ne]; exact hf
        obtain ⟨A2, c2, rfl, _⟩ := ht2
        go_wp2_with fail
        go_ret
        exact ⟨rfl, h4⟩
      · exact absurd h.1 hf

set_option maxHeartbeats 800000 in
set_option maxRecDepth 100000 in
theorem octetsBehind_any (s : ByteArray) (p : Int) (m : ByteArray) (w : World) (hs : s.size ≤ 140737488351232) (hm : m.size ≤ 140737488351232) :
    Calls Try.prog 8 #[.string s, .int .i64 p, .string m] w fun e w' => e = .returned (.bool true) ∧ Below w.heap.size w w' := by
  have hs2 : s.size ≤ 9223372036854775807 := by omega
  rcases hz : Oct.rdList s.data.toList p with ⟨l, q, e⟩
  have hl : l.length ≤ 1024 := by have h := rdList_len s.data.toList p; rw [hz] at h; exact h
  have hsz : (s ++ m : ByteArray).size ≤ 9223372036854775807 := by
    have : (s ++ m : ByteArray).size = s.size + m.size := by simp
    omega
  rcases hz2 : Oct.rdList (s ++ m : ByteArray).data.toList p with ⟨l2, q2, e2⟩
  have hl2 : l2.length ≤ 1024 := by have h := rdList_len (s ++ m : ByteArray).data.toList p; rw [hz2] at h; exact h
  have hsame : e ≠ 5 → e ≠ 4 → l2 = l ∧ q2 = q ∧ e2 = e := by
    intro h5 h4
    have hb := Oct.rdList_behind s.data.toList m.data.toList p (by rw [hz]; exact ⟨h5, h4⟩)
    rw [show (s ++ m : ByteArray).data.toList = s.data.toList ++ m.data.toList from by simp, hb, hz] at hz2
    simp only [Prod.mk.injEq] at hz2
    exact ⟨hz2.1.symm, hz2.2.1.symm, hz2.2.2.symm⟩
  have Hz := Lib.hid hz
  have Hz2 := Lib.hid hz2
  have Hsame := Lib.hid hsame
  clear hz hz2 hsame
  go_enter Try.func8, Try.ntmps8
  go_wp2_with fail
  refine (ReadList_any s p _ hs2).mono ?_
  rintro e' w2 ⟨v2, rfl, ht2, hb2⟩
  rw [Hz.out] at ht2 ⊢
  go_wp2_with fail
  refine (ReadList_any _ _ _ (by exact hsz)).mono ?_
  rintro e' w3 ⟨v3, rfl, ht3, hb3⟩
  rw [Hz2.out] at ht3 ⊢
  go_wp2_with fail
  refine (awake1_any _).mono ?_
  rintro e' w4 ⟨rfl, hb4⟩
  have h3 := hb2.trans (hb3.mono hb2.size)
  have h4 := h3.trans (hb4.mono h3.size)
  by_cases h5 : e = 5
  · have hd : (e == 5) = true := by simpa using h5
    have H5 := Lib.hid h5
    clear h5
    go_wp2_with fail
    refine (awake1_any _).mono ?_
    rintro e' w5 ⟨rfl, hb5⟩
    go_wp2_with fail
    go_ret
    exact ⟨rfl, h4.trans (hb5.mono h4.size)⟩
  have hd5 : (e == 5) = false := by simpa using h5
  by_cases h4e : e = 4
  · have hd : (e == 4) = true := by simpa using h4e
    have H5 := Lib.hid h4e
    clear h4e
    go_wp2_with fail
    refine (awake1_any _).mono ?_
    rintro e' w5 ⟨rfl, hb5⟩
    go_wp2_with fail
    go_ret
    exact ⟨rfl, h4.trans (hb5.mono h4.size)⟩
  have hd4 : (e == 4) = false := by simpa using h4e
  obtain ⟨rfl, rfl, rfl⟩ := Hsame.out h5 h4e
  go_wp2_with fail
  refine (same_v ((ht2.below hb3).below hb4) (ht3.below hb4) (by omega) (by omega)).mono ?_
  rintro e' w5 ⟨rfl, nn, rfl⟩
  go_wp2_with fail
  go_ret
  exact ⟨by simp, below_drewN h4 _⟩
end Go.Proofs.Ytkbgeafkdeddjaa
