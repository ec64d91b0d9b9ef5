/- Layer 9's law DiskDoes: what it returns. -/
import Derived.Test.YtfebknhggapljaaDiskApart
namespace Go.Proofs.Ytfebknhggapljaa
open Go.RowKit Go.Maps
set_option linter.unusedVariables false
set_option linter.unusedSimpArgs false

theorem own_str9 {w : World} {B n c : Nat} {A : Option Addr} {L : List Fl.Nm} (h : w.ownsRow B 9 1 (.slice A n c) n (L.map encStr)) {k : Nat} (hk : k < n) (hkl : k < L.length) : ∃ b, A = some ⟨b, 0, none⟩ ∧ b < w.heap.size ∧ w.cell? ⟨b, k, none⟩ = some (Sb L[k]) := by
  rcases h.2 with ⟨hv, h0⟩ | ⟨q, cap, cur, hv, hb, hh, _⟩
  · omega
  · injection hv with e1 e2 e3
    subst e1
    have hc := h.cells (g := q) rfl k (Sb L[k]) (by simp [hkl, encStr])
    have e9 : (⟨q, 0, none⟩ : Addr).add k = ⟨q, k, none⟩ := by unfold Addr.add; split <;> simp_all
    rw [e9] at hc
    exact ⟨q, rfl, lt_of_block hh, hc⟩
set_option maxRecDepth 20000 in
set_option maxHeartbeats 800000 in
theorem same9 {w : World} {B1 B2 n c1 c2 : Nat} {A1 A2 : Option Addr} {L : List Fl.Nm} (h1 : w.ownsRow B1 9 1 (.slice A1 n c1) n (L.map encStr)) (h2 : w.ownsRow B2 9 1 (.slice A2 n c2) n (L.map encStr)) (hn : n ≤ 1000) :
    Calls Try.prog 14 #[.slice A1 n c1, .slice A2 n c2] w fun e w' => e = .returned (.bool true) ∧ ∃ m, w' = w.drewN m := by
  have hlen : L.length = n := by have := h1.1; simpa using this
  have H1 := Lib.hid h1
  have H2 := Lib.hid h2
  have Hlen := Lib.hid hlen
  clear h1 h2 hlen
  go_enter Try.func14, Try.ntmps14
  go_wp2_with fail
  go_loopw [5] (fun i wr => ∃ (k m : Nat), k ≤ n ∧ i = .int .i64 k ∧ wr = w.drewN m) (fun i _ => n - (intOf i).toNat)
  case atStart => exact ⟨0, 0, by omega, rfl, rfl⟩
  case round =>
    obtain ⟨k, m, hk, rfl, rfl⟩ := hrel
    by_cases hlt : k < n
    · have hkl : k < L.length := by rw [Hlen.out]; exact hlt
      obtain ⟨b1, rfl, hb1, hc1⟩ := own_str9 H1.out hlt hkl
      obtain ⟨b2, rfl, hb2, hc2⟩ := own_str9 H2.out hlt hkl
      have hki : (k : Int) < (n : Int) := by omega
      generalize L[k] = x at *
      go_wp2_with fail
      go_quiet (fail)
      go_wp2_with fail
      exact ⟨⟨k + 1, _, by omega, by go_num, rfl⟩, by simp [intOf]; omega⟩
    · have hki : (n : Int) ≤ (k : Int) := by omega
      go_wp2_with fail
      go_ret
      exact ⟨rfl, _, rfl⟩
/-- a disk and its reference, alike -/
def Pair (w W : World) (g xg : Nat) (st : List Fl × Int) : Prop := ∃ (S T : Nat → Prop) (v : Value), DiskS W w.heap.size S g st.1 st.2 ∧ (∀ k, T k → w.heap.size ≤ k ∧ k < W.heap.size) ∧ RefIn W w.heap.size xg v st.1 st.2 ∧ (∀ k, RefOwn xg v k → T k) ∧ (∀ k, S k → ¬ T k) ∧ Below w.heap.size w W
theorem pair_do {w W : World} {g xg : Nat} {st : List Fl × Int} {x : Act9} (hx : x.Fits w) (h : Pair w W g xg st) :
    Calls Try.prog 11 #[.pointer (some ⟨g, 0, none⟩), .pointer (some ⟨xg, 0, none⟩), x.v] W fun e w' => e = .returned (.bool true) ∧ Pair w w' g xg (act9 x st).1 := by
  obtain ⟨S, T, v, hd, hz, hr, ho, hxx, hb⟩ := h
  refine (do9_any x (hx.below hb) (BothS.start (b := st) hd hz hr ho hxx) (fun k hk => hk.elim (fun h => (hd.1 k h).2) (fun h => (hz k h).2)) (fun bb off n c e hp hk => ?_)).mono ?_
  · obtain ⟨A, c9, e9, hc⟩ := hx.2.2.2.2
    rw [e] at e9
    injection e9 with e1 e2 e3
    obtain ⟨b9, o9, e4, hb9, _⟩ := hc (by intro h; rw [h] at e2; simp at e2; omega)
    rw [← e1] at e4
    injection e4 with e4
    injection e4 with e4
    subst e4
    have : w.heap.size ≤ bb := hk.elim (fun h => (hd.1 bb h).1) (fun h => (hz bb h).1)
    omega
  · rintro e w' ⟨res, rfl, hres, S', T', v', hd', hz', hr', ho', hx', hc', _, _⟩
    rw [hres rfl]
    exact ⟨rfl, S', T', v', hd', hz', hr', ho', hx', hb.trans (hc'.below hb.size (fun k hk => hk.elim (fun h => (hd.1 k h).1) (fun h => (hz k h).1)))⟩
theorem Pair.below {w W W' : World} {g xg : Nat} {st : List Fl × Int} (h : Pair w W g xg st) (hb : Below W.heap.size W W') : Pair w W' g xg st := by
  obtain ⟨S, T, v, hd, hz, hr, ho, hxx, hb0⟩ := h
  exact ⟨S, T, v, hd.below hb, fun k hk => ⟨(hz k hk).1, Nat.lt_of_lt_of_le (hz k hk).2 hb.size⟩, hr.below hb, ho, hxx, hb0.trans (hb.mono hb0.size)⟩
section
variable {w W : World} {g xg : Nat} {st : List Fl × Int}
theorem pair_down (h : Pair w W g xg st) : Calls Try.prog 12 #[.pointer (some ⟨g, 0, none⟩)] W fun e w' => e = .returned (.bool (decide (st.2 = 0))) ∧ W = w' := by
  obtain ⟨S, T, v, hd, _⟩ := h
  exact down_S hd
theorem pair_rdown (h : Pair w W g xg st) : Calls Try.prog 13 #[.pointer (some ⟨xg, 0, none⟩)] W fun e w' => e = .returned (.bool (decide (st.2 = 0))) ∧ W = w' := by
  obtain ⟨S, T, v, hd, hz, hr, _⟩ := h
  have := rdown9 hr
  rw [show (st.2 == 0) = decide (st.2 = 0) by by_cases e : st.2 = 0 <;> simp [e]] at this
  exact this
theorem pair_names (h : Pair w W g xg st) : Calls Try.prog 15 #[.pointer (some ⟨g, 0, none⟩)] W fun e w' => ∃ v, e = .returned v ∧ w'.ownsRow W.heap.size 9 1 v (namesR st.1 st.2).length ((namesR st.1 st.2).map encStr) ∧ Below W.heap.size W w' := by
  obtain ⟨S, T, v, hd, _⟩ := h
  exact names_S hd
theorem pair_rnames (h : Pair w W g xg st) : Calls Try.prog 16 #[.pointer (some ⟨xg, 0, none⟩)] W fun e w' => ∃ v, e = .returned v ∧ w'.ownsRow W.heap.size 9 1 v (namesR st.1 st.2).length ((namesR st.1 st.2).map encStr) ∧ Below W.heap.size W w' := by
  obtain ⟨S, T, v, hd, hz, hr, _⟩ := h
  exact rnames9 hr
theorem pair_read (nm : Fl.Nm) (hn : nm.length ≤ maxLen) (h : Pair w W g xg st) : Calls Try.prog 17 #[.pointer (some ⟨g, 0, none⟩), Sb nm] W fun e w' => e = .returned (.tuple #[Sb (bytesR st.1 st.2 nm), .int .i64 (codeR st.1 st.2 nm)]) ∧ Below W.heap.size W w' := by
  obtain ⟨S, T, v, hd, _⟩ := h
  exact read_S nm hd hn
theorem pair_safe (nm : Fl.Nm) (hn : nm.length ≤ maxLen) (h : Pair w W g xg st) : Calls Try.prog 18 #[.pointer (some ⟨g, 0, none⟩), Sb nm] W fun e w' => e = .returned (.tuple #[.int .i64 (safeR st.1 st.2 nm), .int .i64 (codeR st.1 st.2 nm)]) ∧ Below W.heap.size W w' := by
  obtain ⟨S, T, v, hd, _⟩ := h
  exact safe_S nm hd hn
theorem pair_look (nm : Fl.Nm) (h : Pair w W g xg st) : Calls Try.prog 19 #[.pointer (some ⟨xg, 0, none⟩), Sb nm] W fun e w' => e = .returned (.tuple #[Sb (bytesR st.1 st.2 nm), .int .i64 (safeR st.1 st.2 nm), .int .i64 (codeR st.1 st.2 nm)]) ∧ Below W.heap.size W w' := by
  obtain ⟨S, T, v, hd, hz, hr, _⟩ := h
  exact rlook9 nm hr
theorem pair_len (h : Pair w W g xg st) : (namesR st.1 st.2).length ≤ 1000 := by
  obtain ⟨S, T, v, hd, _⟩ := h
  have := hd.len8
  unfold namesR
  split
  · simp
  · simp [Fl.names]; omega
end
set_option maxRecDepth 20000 in
set_option maxHeartbeats 3200000 in
theorem diskDoes_any (v : Value) (l : List Act9) (w : World) (hl : ActsV w v l) (hlen : l.length ≤ 9223372036854775807) :
    Calls Try.prog 3 #[v] w fun e w' => e = .returned (.bool true) ∧ Below w.heap.size w w' := by
  obtain ⟨A, c, rfl, hfit, hL⟩ := hl
  have HL := Lib.hid hL
  have HFit := Lib.hid hfit
  obtain ⟨n, hn⟩ : ∃ n, n = l.length := ⟨_, rfl⟩
  rw [← hn] at hlen ⊢
  have Hn := Lib.hid hn
  clear hL hfit hn
  go_enter Try.func3, Try.ntmps3
  go_wp2_with fail
  refine (new9 w w.heap.size (Nat.le_refl _)).mono ?_
  rintro _ w1 ⟨rfl, hd1, hb1, hs1⟩
  obtain ⟨g, hg⟩ : ∃ g, g = w.heap.size + 1 := ⟨_, rfl⟩
  rw [← hg] at hd1 ⊢
  have Hd1 := Lib.hid hd1
  have Hb1 := Lib.hid hb1
  clear hd1 hb1 hs1 hg
  go_wp2_with fail
  refine (new_ready Hd1.out Hb1.out).mono ?_
  rintro _ w2 ⟨xg, rfl, hB, hz, hb2⟩
  have hpair : Pair w w2 g xg ([], -1) := by
    obtain ⟨S, T, v, hd, hz', hr, ho, hx, _, _, _⟩ := hB
    exact ⟨S, T, v, hd, hz', hr, ho, hx, hb2⟩
  have Hp2 := Lib.hid hpair
  clear hB hz hb2 hpair
  go_wp2_with fail
  refine (awake9 _).mono ?_
  rintro _ w3 ⟨rfl, hb⟩
  have hp3 : ∃ st, Pair w w3 g xg st := ⟨_, Hp2.out.below hb⟩
  have Hp3 := Lib.hid hp3
  clear hb hp3
  go_wp2_with fail
  go_loopw [5] (fun i wr => ∃ k : Nat, k ≤ n ∧ k ≤ 60 ∧ i = .int .i64 k ∧ ∃ st, Pair w wr g xg st) (fun i _ => 60 - (intOf i).toNat)
  case atStart => exact ⟨0, Nat.zero_le _, Nat.zero_le _, rfl, Hp3.out⟩
  case round =>
    obtain ⟨k, hk, hk60, rfl, st, hp⟩ := hrel
    have Hp := Lib.hid hp
    clear hp Hp3
    by_cases hlt : k < n ∧ k < 60
    · obtain ⟨hlt, hlt2⟩ := hlt
      have hki : (k : Int) < (n : Int) := by omega
      have hki2 : (k : Int) < 60 := by omega
      have hkl : k < l.length := by rw [← Hn.out]; exact hlt
      obtain ⟨b, off, rfl, hbl, hc⟩ := HL.out (by intro e; rw [e] at hkl; simp at hkl)
      have hcs := fun W (h : Below w.heap.size w W) => acts_at (v := .int .i64 0) (A := none) (c := 0) hc hbl h hkl
      have hfx := HFit.out _ (List.getElem_mem hkl)
      generalize hx : l[k] = x at *
      have hbelow : ∀ W st, Pair w W g xg st → Below w.heap.size w W := fun W st h => by obtain ⟨_, _, _, _, _, _, _, _, hb⟩ := h; exact hb
      have Hbelow := Lib.hid hbelow
      have Hcs := Lib.hid hcs
      obtain ⟨q0, q1, q2, q3, q4, q5⟩ := hcs _ (hbelow _ _ Hp.out)
      have hD : Hid (∀ W, Pair w W g xg st → Calls Try.prog 11 #[.pointer (some ⟨g, 0, none⟩), .pointer (some ⟨xg, 0, none⟩), .agg #[.int .i64 x.a.kind, Sb x.a.name, Sb x.a.to, Sb x.a.s, .int .i64 x.a.n, .slice x.kA x.ks.length x.kc]] W fun e w' => e = .returned (.bool true) ∧ Pair w w' g xg (act9 x st).1) := Lib.hid fun W h => pair_do hfx h
      have Hnl : Hid (x.a.name.length ≤ maxLen) := Lib.hid (by have := hfx.1; unfold maxLen; omega)
      obtain ⟨R, hR⟩ : ∃ R, R = (act9 x st).1 := ⟨_, rfl⟩
      rw [← hR] at hD
      have hF : Hid (∀ W, Below w.heap.size w W → W.cell? ⟨b, off + k * 6 + 1, none⟩ = some (Sb x.a.name)) := Lib.hid fun W h => (Hcs.out W h).2.1
      clear hR hc hcs hfx hx hbelow Hcs
      generalize x.a.kind = ak at *
      generalize x.a.name = an at *
      generalize x.a.to = at_ at *
      generalize x.a.s = as_ at *
      generalize x.a.n = am at *
      generalize x.kA = kA at *
      generalize x.kc = kc at *
      obtain ⟨kn, hkn⟩ : ∃ kn, kn = x.ks.length := ⟨_, rfl⟩
      rw [← hkn] at hD q5
      clear hkn
      have hRd := fun (W : World) (h : Pair w W g xg R) => pair_read an Hnl.out h
      have hSf := fun (W : World) (h : Pair w W g xg R) => pair_safe an Hnl.out h
      have hLk := fun (W : World) (h : Pair w W g xg R) => pair_look an h
      have hDn := fun (W : World) (h : Pair w W g xg R) => pair_down h
      have hRdn := fun (W : World) (h : Pair w W g xg R) => pair_rdown h
      generalize bytesR R.1 R.2 an = bs at *
      generalize codeR R.1 R.2 an = cd at *
      generalize safeR R.1 R.2 an = sf at *
      generalize decide (R.2 = 0) = dn at *
      have HRd := Lib.hid hRd
      have HSf := Lib.hid hSf
      have HLk := Lib.hid hLk
      have HDn := Lib.hid hDn
      have HRdn := Lib.hid hRdn
      clear hRd hSf hLk hDn hRdn
      go_wp2_with fail
      refine (hD.out _ Hp.out).mono ?_
      rintro _ w4 ⟨rfl, hp4⟩
      have Hp4 := Lib.hid hp4
      clear hp4 q0 q1 q2 q3 q4 q5
      go_wp2_with fail
      refine (HDn.out _ Hp4.out).mono ?_
      rintro _ w5 ⟨rfl, rfl⟩
      go_wp2_with fail
      refine (HRdn.out _ Hp4.out).mono ?_
      rintro _ w5 ⟨rfl, rfl⟩
      go_wp2_with fail
      refine (pair_names Hp4.out).mono ?_
      rintro _ w6 ⟨v6, rfl, ho6, hb6⟩
      have hp6 := Hp4.out.below hb6
      obtain ⟨A6, c6, rfl⟩ := own_form9 ho6
      have Hp6 := Lib.hid hp6
      have Ho6 := Lib.hid ho6
      clear hp6 ho6 hb6
      go_wp2_with fail
      refine (pair_rnames Hp6.out).mono ?_
      rintro _ w7 ⟨v7, rfl, ho7, hb7⟩
      have hp7 := Hp6.out.below hb7
      have ho67 := Ho6.out.kept (grownBy_of_below hb7 none) (by cases A6 <;> simp [Value.ownBlock])
      obtain ⟨A7, c7, rfl⟩ := own_form9 ho7
      have hsm := same9 ho67 ho7 (pair_len Hp6.out)
      have Hp7 := Lib.hid hp7
      have Hsm := Lib.hid hsm
      clear hp7 ho67 ho7 hb7 hsm
      generalize (namesR R.1 R.2).length = ln at *
      go_wp2_with fail
      refine Hsm.out.mono ?_
      rintro _ w8 ⟨rfl, m8, rfl⟩
      have Hp8 := Lib.hid (Hp7.out.below (below_drewN' (Below.refl _ _) m8))
      generalize w7.drewN m8 = w8 at *
      have q1 := hF.out _ (Hbelow.out _ _ Hp8.out)
      go_wp2_with fail
      refine (HRd.out _ Hp8.out).mono ?_
      rintro _ w9 ⟨rfl, hb9⟩
      have Hp9 := Lib.hid (Hp8.out.below hb9)
      have q1 := hF.out _ (Hbelow.out _ _ Hp9.out)
      clear hb9
      go_wp2_with fail
      refine (HSf.out _ Hp9.out).mono ?_
      rintro _ wa ⟨rfl, hba⟩
      have Hpa := Lib.hid (Hp9.out.below hba)
      have q1 := hF.out _ (Hbelow.out _ _ Hpa.out)
      clear hba
      go_wp2_with fail
      refine (HLk.out _ Hpa.out).mono ?_
      rintro _ wb ⟨rfl, hbb⟩
      have Hpb := Lib.hid (Hpa.out.below hbb)
      clear hbb q1
      go_wp2_with fail
      exact ⟨⟨k + 1, hlt, hlt2, by go_num, R, Hpb.out⟩, by simp [intOf]; omega⟩
    · have hsel : (n : Int) ≤ (k : Int) ∨ ((k : Int) < (n : Int) ∧ (60 : Int) ≤ (k : Int)) := by omega
      have Hbr : Hid (Below w.heap.size w wr) := Lib.hid (by obtain ⟨_, _, _, _, _, _, _, _, hb⟩ := Hp.out; exact hb)
      clear hlt
      rcases hsel with hki | ⟨hki, hki2⟩
      all_goals
        go_wp2_with fail
        go_ret
        exact ⟨rfl, Hbr.out⟩
end Go.Proofs.Ytfebknhggapljaa
