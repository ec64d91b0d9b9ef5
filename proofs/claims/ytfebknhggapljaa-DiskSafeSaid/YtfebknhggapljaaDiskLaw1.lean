/- Layer 9's laws DiskNone, DiskArmed: what they return. -/
import Derived.Test.YtfebknhggapljaaDiskZ
namespace Go.Proofs.Ytfebknhggapljaa
open Go.RowKit Go.Maps
set_option linter.unusedVariables false
set_option linter.unusedSimpArgs false

/-- a call, as the laws have it -/
structure A9 where
  kind : Int
  name : List UInt8
  to : List UInt8
  s : List UInt8
  n : Int
def A9.cells (a : A9) (k : Value) : List Value := [.int .i64 a.kind, Sb a.name, Sb a.to, Sb a.s, .int .i64 a.n, k]
abbrev A9.v (a : A9) (k : Value) : Value := .agg #[.int .i64 a.kind, Sb a.name, Sb a.to, Sb a.s, .int .i64 a.n, k]
set_option maxRecDepth 20000 in
set_option maxHeartbeats 1600000 in
theorem diskNone_any (a : A9) (KA : Option Addr) (kn kc : Nat) (w : World) (hn : a.name.length ≤ maxLen) : Calls Try.prog 7 #[a.v (.slice KA kn kc)] w fun e w' => e = .returned (.bool true) ∧ Below w.heap.size w w' := by
  obtain ⟨ak, an, at_, as_, am⟩ := a
  unfold A9.v
  simp only
  have hrow0 := Row.new w 31 [.int .i64 ak, Sb an, Sb at_, Sb as_, .int .i64 am, .slice KA kn kc]
  have hb0 : Below w.heap.size w (w.alloc (.cells #[.int .i64 ak, Sb an, Sb at_, Sb as_, .int .i64 am, .slice KA kn kc] 31)) := (Below.refl _ _).alloc (Nat.le_refl _) _
  have Hrow0 := Lib.hid hrow0
  have Hb0 := Lib.hid hb0
  clear hrow0 hb0 hn
  go_enter Try.func7, Try.ntmps7
  go_wp2_with fail
  refine (read_nil9 _ _).mono ?_
  rintro _ w1 ⟨rfl, hb⟩
  have hrow1 := Hrow0.out.below hb
  have Hb1 := Lib.hid (Hb0.out.trans (hb.mono Hb0.out.size))
  have q1 := hrow1.cell 1 (by simp)
  have q3 := hrow1.cell 3 (by simp)
  simp only [List.getElem_cons_zero, List.getElem_cons_succ] at q1 q3
  have Hrow1 := Lib.hid hrow1
  clear hb hrow1
  go_wp2_with fail
  refine (safe_nil9 _ _).mono ?_
  rintro _ w2 ⟨rfl, hb⟩
  have hrow2 := Hrow1.out.below hb
  have Hb2 := Lib.hid (Hb1.out.trans (hb.mono Hb1.out.size))
  have Hrow2 := Lib.hid hrow2
  clear hb hrow2 q1 q3
  go_wp2_with fail
  refine (awake9 _).mono ?_
  rintro _ w3 ⟨rfl, hb⟩
  have hrow3 := Hrow2.out.below hb
  have Hb3 := Lib.hid (Hb2.out.trans (hb.mono Hb2.out.size))
  have q1 := hrow3.cell 1 (by simp)
  have q3 := hrow3.cell 3 (by simp)
  simp only [List.getElem_cons_zero, List.getElem_cons_succ] at q1 q3
  have Hrow3 := Lib.hid hrow3
  clear hb hrow3
  go_wp2_with fail
  refine (append_nil9 _ _ _).mono ?_
  rintro _ w4 ⟨rfl, hb⟩
  have hrow4 := Hrow3.out.below hb
  have Hb4 := Lib.hid (Hb3.out.trans (hb.mono Hb3.out.size))
  have q1 := hrow4.cell 1 (by simp)
  simp only [List.getElem_cons_zero, List.getElem_cons_succ] at q1
  have Hrow4 := Lib.hid hrow4
  clear hb hrow4 q3
  go_wp2_with fail
  refine (sync_nil9 _ _).mono ?_
  rintro _ w5 ⟨rfl, hb⟩
  have hrow5 := Hrow4.out.below hb
  have Hb5 := Lib.hid (Hb4.out.trans (hb.mono Hb4.out.size))
  have q1 := hrow5.cell 1 (by simp)
  have q2 := hrow5.cell 2 (by simp)
  simp only [List.getElem_cons_zero, List.getElem_cons_succ] at q1 q2
  have Hrow5 := Lib.hid hrow5
  clear hb hrow5
  go_wp2_with fail
  refine (rename_nil9 _ _ _).mono ?_
  rintro _ w6 ⟨rfl, hb⟩
  have hrow6 := Hrow5.out.below hb
  have Hb6 := Lib.hid (Hb5.out.trans (hb.mono Hb5.out.size))
  have q1 := hrow6.cell 1 (by simp)
  simp only [List.getElem_cons_zero, List.getElem_cons_succ] at q1
  have Hrow6 := Lib.hid hrow6
  clear hb hrow6 q2
  go_wp2_with fail
  refine (remove_nil9 _ _).mono ?_
  rintro _ w7 ⟨rfl, hb⟩
  have hrow7 := Hrow6.out.below hb
  have Hb7 := Lib.hid (Hb6.out.trans (hb.mono Hb6.out.size))
  have q4 := hrow7.cell 4 (by simp)
  have q5 := hrow7.cell 5 (by simp)
  simp only [List.getElem_cons_zero, List.getElem_cons_succ] at q4 q5
  clear hb hrow7
  go_wp2_with fail
  refine (arm_nil _ _).mono ?_
  rintro _ w8 ⟨rfl, rfl⟩
  go_wp2_with fail
  refine (crash_nil9 _ _).mono ?_
  rintro _ w8 ⟨rfl, rfl⟩
  go_wp2_with fail
  refine (down_nil _).mono ?_
  rintro _ w8 ⟨rfl, rfl⟩
  go_wp2_with fail
  refine (Names_nil9 _).mono ?_
  rintro _ w8 ⟨rfl, rfl⟩
  go_wp2_with fail
  go_ret
  exact ⟨rfl, Hb7.out⟩
/-- the files while a disk is filled until it goes down -/
def Few (l : List Fl) (i : Nat) : Prop := l = [] ∨ ∃ b, l = [⟨[97], b, 0⟩] ∧ b.length ≤ 1000 * i
theorem few_step {l : List Fl} {i : Nat} (h : Few l i) (s : List UInt8) (hs : s.length ≤ 1000) (hi : i < 40) (r : Int) (hr : 0 < r) : ∃ l', appendR l r [97] s = (l', r - 1, 0) ∧ Few l' (i + 1) := by
  have hw : Disk.word [97] = true := by rfl
  unfold appendR
  rw [if_neg (by omega), if_neg (by rw [hw]; simp)]
  rcases h with rfl | ⟨b, rfl, hb⟩
  · have e1 : bytesR [] r [97] = [] := by unfold bytesR; rw [if_neg (by omega)]; rfl
    rw [e1]
    rw [if_neg (by simp; omega), if_neg (by simp)]
    have e2 : safeR [] r [97] = 0 := by unfold safeR; rw [if_neg (by omega)]; rfl
    rw [e2]
    refine ⟨[⟨[97], s, 0⟩], ?_, .inr ⟨s, rfl, by omega⟩⟩
    unfold oneR
    rw [if_pos hr]
    rfl
  · have hf : Fl.find [⟨[97], b, 0⟩] [97] = some ⟨[97], b, 0⟩ := by rfl
    have e1 : bytesR [⟨[97], b, 0⟩] r [97] = b := by unfold bytesR; rw [if_neg (by omega), hf]
    have e2 : safeR [⟨[97], b, 0⟩] r [97] = 0 := by unfold safeR; rw [if_neg (by omega), hf]
    rw [e1, e2, hf]
    rw [if_neg (by omega), if_neg (by simp)]
    refine ⟨_, by unfold oneR; rw [if_pos hr], .inr ⟨b ++ s, ?_, by rw [List.length_append]; omega⟩⟩
    unfold Fl.put
    rw [if_neg (Fl.nm_irrefl _), if_pos rfl]
theorem few_end {l : List Fl} {i : Nat} (h : Few l i) (s : List UInt8) (hs : s.length ≤ 1000) (ks : List Int) : (appendR (Fl.crashL l ks) (-1) [98] s).2.2 = 0 := by
  have hw : Disk.word [98] = true := by rfl
  have hlen : (Fl.crashL l ks).length ≤ 1 := by
    unfold Fl.crashL
    rcases h with rfl | ⟨b, rfl, hb⟩ <;> simp
  have hf : Fl.find (Fl.crashL l ks) [98] = none := by
    refine Fl.find_none.2 fun f hf => ?_
    unfold Fl.crashL at hf
    rcases h with rfl | ⟨b, rfl, hb⟩
    · simp at hf
    · simp at hf
      rw [hf]
      show ([97] : List UInt8) ≠ [98]
      decide
  have e1 : bytesR (Fl.crashL l ks) (-1) [98] = [] := by unfold bytesR; rw [if_neg (by omega), hf]
  unfold appendR
  rw [if_neg (by omega), if_neg (by rw [hw]; simp), e1, if_neg (by simp; omega), if_neg (by intro h; omega)]
set_option maxRecDepth 20000 in
set_option maxHeartbeats 1600000 in
theorem diskArmed_any (n : Int) (s : List UInt8) (w : World) (hn0 : 0 ≤ n) (hn1 : n ≤ 255) (hs : s.length ≤ 140737488351232) : Calls Try.prog 5 #[.int .u8 n, Sb s] w fun e w' => e = .returned (.bool true) ∧ Below w.heap.size w w' := by
  obtain ⟨k, hk⟩ : ∃ k : Nat, n % 40 = (k : Int) := ⟨(n % 40).toNat, by omega⟩
  have hk40 : k < 40 := by omega
  by_cases hbig : 1000 < s.length
  · have d1 : decide ((1000 : Int) < (s.length : Int)) = true := by rw [decide_eq_true_eq]; omega
    go_enter Try.func5, Try.ntmps5
    go_wp2_with fail
    refine (new9 w w.heap.size (Nat.le_refl _)).mono ?_
    rintro _ w1 ⟨rfl, hd1, hb1, hs1⟩
    have Hb1 := Lib.hid hb1
    clear hd1 hb1 hs1
    go_wp2_with fail
    refine (awake9 _).mono ?_
    rintro _ w2 ⟨rfl, hb⟩
    have Hb2 := Lib.hid (Hb1.out.trans (hb.mono Hb1.out.size))
    clear hb
    go_wp2_with fail
    refine (awake9 _).mono ?_
    rintro _ w3 ⟨rfl, hb⟩
    have Hb3 := Lib.hid (Hb2.out.trans (hb.mono Hb2.out.size))
    clear hb
    go_wp2_with fail
    go_ret
    exact ⟨rfl, Hb3.out⟩
  · have d1 : decide ((1000 : Int) < (s.length : Int)) = false := by rw [decide_eq_false_iff_not]; omega
    have Hs : Hid (s.length ≤ 1000) := Lib.hid (by omega)
    have Hss := Lib.hid hs
    have Hk := Lib.hid hk40
    have hrem : Int.tmod n 40 = (k : Int) := by rw [Int.tmod_eq_emod_of_nonneg hn0]; exact hk
    have hw8 : IntKind.u8.wrap (k : Int) = (k : Int) := by rw [IntKind.wrap_u8]; omega
    have hw64 : IntKind.i64.wrap (k : Int) = (k : Int) := IntWalk.i64_in _ (by omega)
    have hw2 : IntKind.i64.wrap (2 * (s.length : Int)) = 2 * (s.length : Int) := IntWalk.i64_in _ (by omega)
    clear hbig hs hk hk40
    go_enter Try.func5, Try.ntmps5
    go_wp2_with fail
    refine (new9 w w.heap.size (Nat.le_refl _)).mono ?_
    rintro _ w1 ⟨rfl, hd1, hb1, hs1⟩
    obtain ⟨g, hg⟩ : ∃ g, g = w.heap.size + 1 := ⟨_, rfl⟩
    rw [← hg] at hd1 ⊢
    have Hd1 := Lib.hid hd1
    have Hb1 := Lib.hid hb1
    clear hd1 hb1 hs1 hg
    go_wp2_with fail
    refine (awake9 _).mono ?_
    rintro _ w2 ⟨rfl, hb⟩
    have Hd2 := Lib.hid (Hd1.out.below hb)
    have Hb2 := Lib.hid (Hb1.out.trans (hb.mono Hb1.out.size))
    clear hb
    go_wp2_with fail
    have harm : armR (-1) (k : Int) = ((k : Int), 0) := by unfold armR; rw [if_neg (by omega), if_neg (by omega)]
    refine (arm_S (k : Int) Hd2.out (by have := Hk.out; omega)).mono ?_
    rintro _ w3 ⟨rfl, hd3, hc3⟩
    rw [harm] at hd3 ⊢
    have hz3 : ∃ S, DiskS w3 w.heap.size S g [] (k : Int) := ⟨_, hd3⟩
    have Hz3 := Lib.hid hz3
    have Hb3 := Lib.hid (Hb2.out.trans (hc3.below Hd2.out.Ble (fun k hk => (Hd2.out.1 k hk).1)))
    clear hd3 hc3 hz3 harm
    go_wp2_with fail
    go_loopw [7] (fun i wr => ∃ (j : Nat) (l : List Fl), j ≤ k ∧ i = .int .i64 j ∧ Few l j ∧ (∃ S, DiskS wr w.heap.size S g l ((k : Int) - (j : Int))) ∧ Below w.heap.size w wr) (fun i _ => k - (intOf i).toNat)
    case atStart => exact ⟨0, [], Nat.zero_le _, rfl, .inl rfl, by simpa using Hz3.out, Hb3.out⟩
    case round =>
      obtain ⟨j, l, hj, rfl, hfew, ⟨S, hd⟩, hbr⟩ := hrel
      have Hd := Lib.hid hd
      have Hbr := Lib.hid hbr
      have Hfew := Lib.hid hfew
      clear hd hbr hfew Hz3
      by_cases hjk : j < k
      · have hki : (j : Int) < (k : Int) := by omega
        have hj40 : j < 40 := by have := Hk.out; omega
        clear hw64 hw8 hrem
        obtain ⟨l', happ, hfew'⟩ := few_step Hfew.out s Hs.out (by have := Hk.out; omega) ((k : Int) - (j : Int)) (by omega)
        have Happ := Lib.hid happ
        have Hfew' := Lib.hid hfew'
        have hdn : decide ((k : Int) - (j : Int) = 0) = false := by rw [decide_eq_false_iff_not]; omega
        clear happ hfew'
        go_wp2_with fail
        refine (down_S Hd.out).mono ?_
        rintro _ w4 ⟨rfl, rfl⟩
        rw [hdn]
        go_wp2_with fail
        refine (append_S [97] s Hd.out (by simp) Hss.out).mono ?_
        rintro _ w5 ⟨rfl, hd5, hc5⟩
        rw [Happ.out] at hd5 ⊢
        have hz5 : ∃ S, DiskS w5 w.heap.size S g l' ((k : Int) - ((j + 1 : Nat) : Int)) := ⟨_, by rw [show (k : Int) - ((j + 1 : Nat) : Int) = (k : Int) - (j : Int) - 1 by omega]; exact hd5⟩
        have Hz5 := Lib.hid hz5
        have Hb5 := Lib.hid (Hbr.out.trans (hc5.below Hd.out.Ble (fun k hk => (Hd.out.1 k hk).1)))
        clear hd5 hc5 hz5 hdn
        go_wp2_with fail
        exact ⟨⟨j + 1, l', hjk, by go_num, Hfew'.out, Hz5.out, Hb5.out⟩, by simp [intOf]; omega⟩
      · obtain rfl : j = k := by omega
        have hki : (j : Int) ≤ (j : Int) := by omega
        have hd0 := Hd.out
        rw [Int.sub_self] at hd0
        have Hd0 := Lib.hid hd0
        clear hd0 hjk Hd
        have e1 : appendR l 0 [97] s = (l, 0, 8) := by unfold appendR; rw [if_pos rfl]
        have e2 : syncR l 0 [97] = (l, 0, 8) := by unfold syncR; rw [if_pos rfl]
        have e3 : namesR l 0 = [] := by unfold namesR; rw [if_pos rfl]
        have E1 := Lib.hid e1
        have E2 := Lib.hid e2
        have E3 := Lib.hid e3
        clear e1 e2 e3
        go_wp2_with fail
        refine (down_S Hd0.out).mono ?_
        rintro _ w4 ⟨rfl, rfl⟩
        go_wp2_with fail
        refine (append_S [97] s Hd0.out (by simp) Hss.out).mono ?_
        rintro _ w5 ⟨rfl, hd5, hc5⟩
        rw [E1.out] at hd5 ⊢
        have Hd5 := Lib.hid hd5
        have Hb5 := Lib.hid (Hbr.out.trans (hc5.below Hd0.out.Ble (fun k hk => (Hd0.out.1 k hk).1)))
        clear hd5 hc5
        go_wp2_with fail
        refine (sync_S [97] Hd5.out (by unfold maxLen; simp)).mono ?_
        rintro _ w6 ⟨rfl, hd6, hc6⟩
        rw [E2.out] at hd6 ⊢
        have Hd6 := Lib.hid hd6
        have Hb6 := Lib.hid (Hb5.out.trans (hc6.below Hd5.out.Ble (fun k hk => (Hd5.out.1 k hk).1)))
        clear hd6 hc6
        go_wp2_with fail
        refine (names_S Hd6.out).mono ?_
        rintro _ w7 ⟨v, rfl, hown, hb7⟩
        rw [E3.out] at hown
        obtain ⟨A7, c7, rfl⟩ := own_form9 hown
        simp only [List.length_nil]
        have hd7 := Hd6.out.below hb7
        have hb7' := Hb6.out.trans (hb7.mono Hb6.out.size)
        have hd8 := hd7.below (Below.alloc (Below.refl _ _) (Nat.le_refl _) (.cells #[.int .i64 (2 * (s.length : Int))] 3))
        have hkv : KeepV (w7.alloc (.cells #[.int .i64 (2 * (s.length : Int))] 3)) (.slice (some ⟨w7.heap.size, 0, none⟩) 1 1) [2 * (s.length : Int)] := ⟨_, 1, rfl, fun _ => ⟨_, _, rfl, by simp, fun i hi => by
          have hi0 : i = 0 := by simpa using hi
          subst hi0
          exact Row.cell (Row.new w7 3 [.int .i64 (2 * (s.length : Int))]) 0 (by simp)⟩⟩
        have hka : KeepA (.slice (some ⟨w7.heap.size, 0, none⟩) 1 1) (Plus (Plus S wr w5) w5 w6) := by
          intro b off n c e hp hb
          injection e with e1
          injection e1 with e1
          injection e1 with e1
          subst e1
          have := (hd7.1 _ hb).2
          omega
        have HC := Lib.hid (crash_S _ _ hd8 hkv hka)
        have Hd8 := Lib.hid hd8
        have Hb8 := Lib.hid (hb7'.alloc hb7'.size (.cells #[.int .i64 (2 * (s.length : Int))] 3))
        clear hown hb7 hd7 hb7' hd8 hkv hka
        go_wp2_with fail
        refine HC.out.mono ?_
        rintro _ w9 ⟨rfl, hd9, hc9⟩
        have Hd9 := Lib.hid hd9
        have Hb9 := Lib.hid (Hb8.out.trans (hc9.below Hd8.out.Ble (fun k hk => (Hd8.out.1 k hk).1)))
        clear hd9 hc9
        go_wp2_with fail
        refine (down_S Hd9.out).mono ?_
        rintro _ wa ⟨rfl, rfl⟩
        go_wp2_with fail
        refine (append_S [98] s Hd9.out (by simp) Hss.out).mono ?_
        rintro _ wb ⟨rfl, hdb, hcb⟩
        rw [few_end Hfew.out s Hs.out]
        have Hbb := Lib.hid (Hb9.out.trans (hcb.below Hd9.out.Ble (fun k hk => (Hd9.out.1 k hk).1)))
        clear hdb hcb
        go_wp2_with fail
        go_ret
        exact ⟨rfl, Hbb.out⟩
end Go.Proofs.Ytfebknhggapljaa
