/- The reference's lane: Set, Give, Check, Take. -/
import Derived.Test.YtlapmdgkcidhnaaDoorLnRop
import Derived.Test.YtlapmdgkcidhnaaDoorLnCheck
namespace Go.Proofs.YtlapmdgkcidhnaaDoor
open Go.RowKit Go.Maps
set_option linter.unusedVariables false
set_option linter.unusedSimpArgs false
set_option maxRecDepth 100000

def RLnTo (w w' : World) (base B : Nat) (v : Value) (len : Int) (L : List Ln.H) (n : Nat) : Prop := ∃ v', RLaneAt w' base B v' len L n ∧ Chg (RLnS B v) w w'
theorem RLnTo.same {w w' : World} {base B n : Nat} {v : Value} {len : Int} {L : List Ln.H} (h : RLaneAt w base B v len L n) (hb : Below w.heap.size w w') : RLnTo w w' base B v len L (n + 1) :=
  ⟨v, (h.below hb).mono (by omega), Chg.of_below hb⟩
theorem RLnTo.drew {w : World} {base B n : Nat} {v : Value} {len : Int} {L : List Ln.H} (h : RLaneAt w base B v len L n) (k : Nat) : RLnTo w (w.drewN k) base B v len L (n + 1) :=
  RLnTo.same h (below_drewN' (Below.refl _ _) k)
theorem held_news (W : World) (r a t : Int) : ∀ j u, [Value.int .i64 r, .int .i64 a, .int .i64 t][j]? = some u → (W.alloc (.cells #[.int .i64 r, .int .i64 a, .int .i64 t] 82)).cell? ((⟨W.heap.size, 0, none⟩ : Addr).add j) = some u := by
  intro j u hu
  have hr := Row.new W 82 [.int .i64 r, .int .i64 a, .int .i64 t]
  obtain ⟨hlt, he⟩ := List.getElem?_eq_some_iff.1 hu
  have e : (⟨W.heap.size, 0, none⟩ : Addr).add j = ⟨W.heap.size, j, none⟩ := by unfold Addr.add; split <;> simp_all
  rw [e]
  have := hr.cell j hlt
  rw [he] at this
  exact this
set_option maxHeartbeats 1600000 in
theorem rset16_any {w : World} {base B n : Nat} {v : Value} {len : Int} {L : List Ln.H} (r a : Int) (h : RLaneAt w base B v len L n) (hr : Ln.fits r) (hn : n ≤ 900) (hbs : base ≤ w.heap.size) :
    Calls Tryd.prog 63 #[.pointer (some ⟨B, 0, none⟩), .int .i64 r, .int .i64 a] w fun e w' => e = .returned (.int .i64 (Ln.setE L r a)) ∧ RLnTo w w' base B v len (Ln.set L r a) (n + 1) := by
  obtain ⟨i0, hi, h2⟩ := Option.map_eq_some_iff.1 held_info
  simp only [Prod.mk.injEq] at h2
  obtain ⟨hz, hs, hby⟩ := h2
  have Hi := Lib.hid hi
  have Hz := Lib.hid hz
  have Hs := Lib.hid hs
  have Hby := Lib.hid hby
  have HH := Lib.hid h
  have hA : Hid (Calls Tryd.prog 39 #[.pointer (some ⟨B, 0, none⟩), .int .i64 r] w fun e w' => e = .returned (.int .i64 (Ln.atI L r)) ∧ w = w') := Lib.hid (rat_any r h (by omega))
  have hW : Hid (∀ x, Calls Tryd.prog 87 #[.int .i64 a] x fun e w' => e = .returned (.bool (Ln.okW a)) ∧ x = w') := Lib.hid (fun x => rwho16 a x)
  obtain ⟨R, hR⟩ : ∃ R, Ln.setE L r a = R := ⟨_, rfl⟩
  obtain ⟨T, hT⟩ : ∃ T, Ln.set L r a = T := ⟨_, rfl⟩
  have hS : R ≠ 0 → T = L := fun h => by rw [← hT]; unfold Ln.set; rw [hR, if_neg h]
  have hS0 : R = 0 → T = Ln.upd L r a 0 := fun h => by rw [← hT]; unfold Ln.set; rw [hR, if_pos h]
  have hc0 := Ln.setE_cases L r a
  rw [hR] at hc0
  rw [hR, hT]
  unfold Ln.setE at hR
  have HR := Lib.hid hR
  have HS := Lib.hid hS
  have HS0 := Lib.hid hS0
  have HC0 := Lib.hid hc0
  have c1 := h.c1
  clear hi hz hs hby h hR hT hS hS0 hc0
  by_cases h0 : r < 0
  · have d0 : decide (r < 0) = true := by simpa using h0
    have hR2 : R = 2 := by have := HR.out; rw [if_pos h0] at this; exact this.symm
    subst hR2
    rw [HS.out (by decide)]
    clear HS HS0 HC0 HR h0
    go_enter Tryd.func63, Tryd.ntmps63
    go_wp2_with fail
    go_ret
    exact ⟨rfl, RLnTo.same HH.out (Below.refl _ _)⟩
  have d0 : decide (r < 0) = false := by simpa using h0
  rcases Bool.eq_false_or_eq_true (Ln.okW a) with hw | hw
  rotate_left
  · have hR2 : R = 20 := by have := HR.out; rw [if_neg h0, if_pos hw] at this; exact this.symm
    subst hR2
    rw [HS.out (by decide)]
    rw [hw] at hW
    clear HS HS0 HC0 HR h0 hw
    go_enter Tryd.func63, Tryd.ntmps63
    go_wp2_with fail
    refine (hW.out _).mono ?_
    rintro _ w2 ⟨rfl, rfl⟩
    go_wp2_with fail
    go_ret
    exact ⟨rfl, RLnTo.same HH.out (Below.refl _ _)⟩
  rw [hw] at hW
  rcases hk : Ln.look L r with _ | x
  rotate_left
  · have hR2 : R = 23 := by have := HR.out; rw [if_neg h0, if_neg (by rw [hw]; simp), hk, if_pos (by rfl)] at this; exact this.symm
    subst hR2
    rw [HS.out (by decide)]
    obtain ⟨k, hk1, _, _⟩ := Ln.atI_pos hk
    rw [hk1] at hA
    have hk0 : (0 : Int) ≤ (k : Int) := by omega
    clear HS HS0 HC0 HR h0 hw hk hk1
    go_enter Tryd.func63, Tryd.ntmps63
    go_wp2_with fail
    refine (hW.out _).mono ?_
    rintro _ w2 ⟨rfl, rfl⟩
    go_wp2_with fail
    refine hA.out.mono ?_
    rintro _ w2 ⟨rfl, rfl⟩
    go_wp2_with fail
    go_ret
    exact ⟨rfl, RLnTo.same HH.out (Below.refl _ _)⟩
  · have hR2 : R = 0 := by have := HR.out; rw [if_neg h0, if_neg (by rw [hw]; simp), hk, if_neg (by simp)] at this; exact this.symm
    subst hR2
    have hTe : T = L ++ [⟨r, a, 0⟩] := by rw [HS0.out rfl, Ln.upd_none hk]
    rw [hTe]
    rw [Ln.atI_neg hk] at hA
    have hww := Ln.okW_iff.1 hw
    have Hww := Lib.hid hww
    have hr0 : 0 ≤ r := by omega
    have hl := HH.out.ok.1
    obtain ⟨m, hm⟩ : ∃ m, m = L.length := ⟨_, rfl⟩
    have hown := (HH.out.own.own).alloc (.cells #[.int .i64 r, .int .i64 a, .int .i64 0] 82)
    rw [← hm] at hl hown
    have HM := Lib.hid hm
    have Hown := Lib.hid hown
    have Hnew := Lib.hid (held_news w r a 0)
    have hk63 : m + 1 ≤ maxLen := by unfold maxLen; omega
    have hk48 : ((m + 1) + (m + 1) / 4 + 192) * 24 ≤ 281474976710656 := by omega
    have hbs2 : base ≤ (w.alloc (.cells #[.int .i64 r, .int .i64 a, .int .i64 0] 82)).heap.size := by simp; omega
    have HNone := Lib.hid hk
    clear HS HS0 HC0 HR h0 hw hk hTe hww hm hown
    go_enter Tryd.func63, Tryd.ntmps63
    go_wp2_with fail
    refine (hW.out _).mono ?_
    rintro _ w2 ⟨rfl, rfl⟩
    go_wp2_with fail
    refine hA.out.mono ?_
    rintro _ w2 ⟨rfl, rfl⟩
    go_wp2_with (at_builtin; refine wpList_append_own_wide _ rfl (.tmp 20) (.tmp 24) 83 rfl base 82 i0 (.agg #[.int .i64 0, .int .i64 0, .int .i64 0]) 3 24 Tryd.underlying83 Hi.out Hz.out Hs.out Hby.out rfl (by decide) _ _ _ rfl Hown.out ⟨w.heap.size, 0, none⟩ 1 1 [.int .i64 r, .int .i64 a, .int .i64 0] rfl rfl Hnew.out (by intro u hu; simp at hu; rcases hu with rfl | rfl | rfl <;> rfl) hk63 hk48 hbs2 ?_
                 intro v3 w3 hown3 hgrow3 _
                 obtain ⟨g3, cp3, rfl⟩ := ownsRow_succ hown3
                 have hrow1 := HH.out.row.below (Below.alloc (Below.refl w.heap.size w) (Nat.le_refl _) (.cells #[.int .i64 r, .int .i64 a, .int .i64 0] 82))
                 have hown1 := HH.out.own.alloc (.cells #[.int .i64 r, .int .i64 a, .int .i64 0] 82)
                 have hne3 := hown1.ne_block hrow1 (by decide)
                 have hrow3 := hrow1.kept hgrow3 (fun e => hne3 e.symm)
                 have hc3 : w3.cell? ⟨B, 1, none⟩ = some v := hrow3.cell 1 (by simp)
                 have hf3 := hrow3.free 1
                 have Hrow3 := Lib.hid hrow3
                 have Hown3 := Lib.hid hown3
                 have Hgrow3 := Lib.hid hgrow3
                 clear hown3 hgrow3 hrow1 hown1 hne3 hrow3)
    go_ret
    have h4 := Hrow3.out.set 1 (.slice (some ⟨g3, 0, none⟩) (m + 1) cp3) (by simp)
    simp only [List.set_cons_succ, List.set_cons_zero] at h4
    have hg4 := grownBy_set w3 B 1 (.slice (some ⟨g3, 0, none⟩) (m + 1) cp3)
    have ho : OwnL w3 base 82 3 Ln.hc (.slice (some ⟨g3, 0, none⟩) (m + 1) cp3) (L ++ [⟨r, a, 0⟩]) := OwnL.pushed (by rw [← HM.out]; exact Hown3.out)
    have hne := ho.ne_block Hrow3.out (by decide)
    have hv := HH.out.own
    refine ⟨rfl, _, ⟨h4, ho.kept hg4 (.inr hne), ?_, HH.out.len, HH.out.lo⟩, ?_⟩
    · have := HH.out.ok.upd (r := r) (w := a) (t := 0) ⟨hr0, hr.2⟩ Hww.out ⟨by omega, by omega⟩
      rwa [Ln.upd_none HNone.out] at this
    · refine (Chg.of_below (S := RLnS B v) (Below.alloc (Below.refl w.heap.size w) (Nat.le_refl _) (.cells #[.int .i64 r, .int .i64 a, .int .i64 0] 82))).trans (S2 := RLnS B v) ?_ (fun i hi => .inl hi)
      exact (Chg.of_grown (S := RLnS B v) Hgrow3.out (fun k hk => .inl (.inr hk))).trans (S2 := RLnS B v) (Chg.of_grown hg4 (fun k hk => by cases hk; exact .inl (.inl rfl))) (fun i hi => .inl hi)
theorem held_size : (Tryd.prog.info? 82).map (·.size) = some 3 := by kernel_rfl
theorem held_one (x : Ln.H) : ∀ v ∈ Ln.hc x, v.oneCell' = true := by intro v hv; simp [Ln.hc] at hv; rcases hv with rfl | rfl | rfl <;> rfl
/-- one place of the list has been stored into -/
theorem RLaneAt.stored {w w1 w2 : World} {base B n : Nat} {g c : Nat} {len : Int} {L : List Ln.H} (h : RLaneAt w base B (.slice (some ⟨g, 0, none⟩) L.length c) len L n) (hb : Below w.heap.size w w1) {k : Nat} {x : Ln.H}
    (ho : OwnL w2 base 82 3 Ln.hc (.slice (some ⟨g, 0, none⟩) L.length c) (L.set k x)) (hg : w1.grownBy w2 (some g)) (hok : Ln.Ok (n + 1) (L.set k x)) : RLnTo w w2 base B (.slice (some ⟨g, 0, none⟩) L.length c) len (L.set k x) (n + 1) := by
  have hne := h.own.ne_row h.row (by decide)
  refine ⟨_, ⟨(h.row.below hb).kept hg (by simpa using hne), ho, hok, h.len, h.lo⟩, ?_⟩
  exact (Chg.of_below (S := RLnS B _) hb).trans (S2 := RLnS B (.slice (some ⟨g, 0, none⟩) L.length c)) (Chg.of_grown hg (fun k hk => .inl (.inr (by cases hk; rfl)))) (fun i hi => .inl hi)
set_option maxHeartbeats 1600000 in
theorem rgive16_any {w : World} {base B n : Nat} {v : Value} {len : Int} {L : List Ln.H} (r a b now : Int) (h : RLaneAt w base B v len L n) (hr : Ln.fits r) (hn : n ≤ 900) (hnow : now ≤ 9223372036854775807) :
    Calls Tryd.prog 64 #[.pointer (some ⟨B, 0, none⟩), .int .i64 r, .int .i64 a, .int .i64 b, .int .i64 now] w fun e w' => e = .returned (.int .i64 (Ln.giveE len L r a b now)) ∧ RLnTo w w' base B v len (Ln.give len L r a b now) (n + 1) := by
  have HH := Lib.hid h
  have hA : Hid (Calls Tryd.prog 39 #[.pointer (some ⟨B, 0, none⟩), .int .i64 r] w fun e w' => e = .returned (.int .i64 (Ln.atI L r)) ∧ w = w') := Lib.hid (rat_any r h (by omega))
  have hWa : Hid (∀ x, Calls Tryd.prog 87 #[.int .i64 a] x fun e w' => e = .returned (.bool (Ln.okW a)) ∧ x = w') := Lib.hid (fun x => rwho16 a x)
  have hWb : Hid (∀ x, Calls Tryd.prog 87 #[.int .i64 b] x fun e w' => e = .returned (.bool (Ln.okW b)) ∧ x = w') := Lib.hid (fun x => rwho16 b x)
  have HRd : Hid (Calls Tryd.prog 37 #[.pointer (some ⟨B, 0, none⟩), .int .i64 now] w fun e w' => e = .returned (.int .i64 (Ln.rnd len now)) ∧ ∃ k, w' = w.drewN k) := Lib.hid (rround_any now h hnow)
  obtain ⟨R, hR⟩ : ∃ R, Ln.giveE len L r a b now = R := ⟨_, rfl⟩
  obtain ⟨T, hT⟩ : ∃ T, Ln.give len L r a b now = T := ⟨_, rfl⟩
  have hS : R ≠ 0 → T = L := fun h => by rw [← hT]; unfold Ln.give; rw [hR, if_neg h]
  have hS0 : ∀ x, R = 0 → Ln.look L r = some x → T = Ln.upd L r b x.turn := fun x h h2 => by rw [← hT]; unfold Ln.give; rw [hR, if_pos h, h2]
  rw [hR, hT]
  unfold Ln.giveE at hR
  have HS := Lib.hid hS
  have HS0 := Lib.hid hS0
  have HR := Lib.hid hR
  have c1 := h.c1
  clear h hS hS0 hR hT
  have hcases : (Ln.okW a = false ∨ (Ln.okW a = true ∧ Ln.okW b = false)) ∨ (Ln.okW a = true ∧ Ln.okW b = true) := by
    cases Ln.okW a <;> cases Ln.okW b <;> simp
  rcases hcases with hbad | ⟨hwa, hwb⟩
  · have hR2 : R = 20 := by
      have := HR.out
      rw [if_pos (by rcases hbad with h1 | ⟨_, h1⟩; exact .inl h1; exact .inr h1)] at this; exact this.symm
    subst hR2
    rw [HS.out (by decide)]
    clear HS HS0 HR
    rcases hbad with h1 | ⟨h1, h2⟩
    · rw [h1] at hWa
      clear h1
      go_enter Tryd.func64, Tryd.ntmps64
      go_wp2_with fail
      refine (hWa.out _).mono ?_
      rintro _ w2 ⟨rfl, rfl⟩
      go_wp2_with fail
      go_ret
      exact ⟨rfl, RLnTo.same HH.out (Below.refl _ _)⟩
    · rw [h1] at hWa
      rw [h2] at hWb
      clear h1 h2
      go_enter Tryd.func64, Tryd.ntmps64
      go_wp2_with fail
      refine (hWa.out _).mono ?_
      rintro _ w2 ⟨rfl, rfl⟩
      go_wp2_with fail
      refine (hWb.out _).mono ?_
      rintro _ w2 ⟨rfl, rfl⟩
      go_wp2_with fail
      go_ret
      exact ⟨rfl, RLnTo.same HH.out (Below.refl _ _)⟩
  have HR2 : Hid ((match Ln.look L r with | none => 34 | some h => if h.who ≠ a then 21 else if r < Ln.rnd len now then 26 else 0) = R) := Lib.hid (by
    have := HR.out
    rw [if_neg (by rw [hwa, hwb]; simp)] at this
    exact this)
  clear HR
  rw [hwa] at hWa
  rw [hwb] at hWb
  have hwbb := Ln.okW_iff.1 hwb
  have Hwb := Lib.hid hwbb
  clear hwa hwb hwbb
  rcases hk : Ln.look L r with _ | x
  · have hR3 : R = 34 := by have := HR2.out; rw [hk] at this; exact this.symm
    subst hR3
    rw [HS.out (by decide)]
    rw [Ln.atI_neg hk] at hA
    clear HS HS0 HR2 hk
    go_enter Tryd.func64, Tryd.ntmps64
    go_wp2_with fail
    refine (hWa.out _).mono ?_
    rintro _ w2 ⟨rfl, rfl⟩
    go_wp2_with fail
    refine (hWb.out _).mono ?_
    rintro _ w2 ⟨rfl, rfl⟩
    go_wp2_with fail
    refine hA.out.mono ?_
    rintro _ w2 ⟨rfl, rfl⟩
    go_wp2_with fail
    go_ret
    exact ⟨rfl, RLnTo.same HH.out (Below.refl _ _)⟩
  have hxr := Ln.look_round hk
  have hxo := HH.out.ok.2 x (Ln.look_mem hk)
  obtain ⟨k, hk1, hk2, hkl, hkx⟩ := Ln.atI_pos hk
  rw [hk1] at hA
  obtain ⟨g, c, rfl, hgb, hgl⟩ := HH.out.own.ne (by intro e; rw [e] at hkl; simp at hkl)
  have e0 := HH.out.own.cell (Ln.hc_len L) k hkl 1 (.int .i64 x.who) (by rw [hkx]; rfl)
  have e2 := HH.out.own.cell (Ln.hc_len L) k hkl 2 (.int .i64 x.turn) (by rw [hkx]; rfl)
  obtain ⟨m, hm⟩ : ∃ m, m = L.length := ⟨_, rfl⟩
  have HS3 : Hid (R = 0 → T = L.set k ⟨r, b, x.turn⟩) := Lib.hid (fun h => by rw [HS0.out _ h hk, Ln.upd_some hk2])
  have HOk3 : Hid (Ln.Ok (n + 1) (L.set k ⟨r, b, x.turn⟩)) := Lib.hid (by
    have := HH.out.ok.upd (r := r) (w := b) (t := x.turn) ⟨by omega, hr.2⟩ Hwb.out ⟨by omega, by omega⟩
    rwa [Ln.upd_some hk2] at this)
  have HR3 : Hid ((if x.who ≠ a then 21 else if r < Ln.rnd len now then 26 else 0) = R) := Lib.hid (by have := HR2.out; rw [hk] at this; exact this)
  have hki : (k : Int) < (L.length : Int) := by omega
  have hk0 : ¬ (k : Int) < 0 := by omega
  have dk0 : decide ((k : Int) < 0) = false := decide_eq_false hk0
  have HKL := Lib.hid hkl
  clear HS0 HR2 hk hxr hxo hk1 hk2 hkx hkl hgb
  obtain ⟨xr, wh, tn⟩ := x
  simp only at e0 e2 HS3 HOk3 HR3
  have E2 : Hid (∀ W, Below w.heap.size w W → W.cell? ⟨g, k * 3 + 2, none⟩ = some (.int .i64 tn)) := Lib.hid (fun W hW => (hW.cell (p := ⟨g, k * 3 + 2, none⟩) hgl).trans e2)
  rw [← hm] at c1 hki
  have HM := Lib.hid hm
  clear hm
  by_cases hwa : wh = a
  rotate_left
  · have hne2 : (wh != a) = true := by simpa using hwa
    have hR4 : R = 21 := by have := HR3.out; rw [if_pos hwa] at this; exact this.symm
    subst hR4
    rw [HS.out (by decide)]
    clear HS HS3 HR3 hwa
    go_enter Tryd.func64, Tryd.ntmps64
    go_wp2_with fail
    refine (hWa.out _).mono ?_
    rintro _ w2 ⟨rfl, rfl⟩
    go_wp2_with fail
    refine (hWb.out _).mono ?_
    rintro _ w2 ⟨rfl, rfl⟩
    go_wp2_with fail
    refine hA.out.mono ?_
    rintro _ w2 ⟨rfl, rfl⟩
    go_wp2_with fail
    go_ret
    exact ⟨rfl, RLnTo.same HH.out (Below.refl _ _)⟩
  subst hwa
  obtain ⟨q, hq⟩ : ∃ q, Ln.rnd len now = q := ⟨_, rfl⟩
  rw [hq] at HRd HR3
  clear hq
  by_cases hlate : r < q
  · have dl : decide (r < q) = true := by simpa using hlate
    have hR4 : R = 26 := by have := HR3.out; rw [if_neg (by simp), if_pos hlate] at this; exact this.symm
    subst hR4
    rw [HS.out (by decide)]
    clear HS HS3 HR3 hlate
    go_enter Tryd.func64, Tryd.ntmps64
    go_wp2_with fail
    refine (hWa.out _).mono ?_
    rintro _ w2 ⟨rfl, rfl⟩
    go_wp2_with fail
    refine (hWb.out _).mono ?_
    rintro _ w2 ⟨rfl, rfl⟩
    go_wp2_with fail
    refine hA.out.mono ?_
    rintro _ w2 ⟨rfl, rfl⟩
    go_wp2_with fail
    refine HRd.out.mono ?_
    rintro _ w2 ⟨rfl, k2, rfl⟩
    go_wp2_with fail
    go_ret
    exact ⟨rfl, RLnTo.drew HH.out k2⟩
  · have dl : decide (r < q) = false := by simpa using hlate
    have hR4 : R = 0 := by have := HR3.out; rw [if_neg (by simp), if_neg hlate] at this; exact this.symm
    subst hR4
    rw [HS3.out rfl]
    clear HS HS3 HR3 hlate
    go_enter Tryd.func64, Tryd.ntmps64
    go_wp2_with fail
    refine (hWa.out _).mono ?_
    rintro _ w2 ⟨rfl, rfl⟩
    go_wp2_with fail
    refine (hWb.out _).mono ?_
    rintro _ w2 ⟨rfl, rfl⟩
    go_wp2_with fail
    refine hA.out.mono ?_
    rintro _ w2 ⟨rfl, rfl⟩
    go_wp2_with fail
    refine HRd.out.mono ?_
    rintro _ w2 ⟨rfl, k2, hw2⟩
    have hb2 : Below w.heap.size w w2 := by rw [hw2]; exact below_drewN' (Below.refl _ _) k2
    have HB2 := Lib.hid hb2
    clear hb2 hw2
    go_wp2_with fail
    refine region_named 17 (by kernel_rfl) (by kernel_rfl) ?_
    intro w3 hw3
    have hb3 : Below w.heap.size w w3 := by rw [hw3]; exact HB2.out.drew
    have h3 := HH.out.below hb3
    have c1 := h3.c1
    have e2 := E2.out _ hb3
    rw [← HM.out] at c1
    have Hb3 := Lib.hid hb3
    have H3 := Lib.hid h3
    clear hw3 hb3 h3
    simp only [List.take_succ_cons, List.take_zero, List.drop_succ_cons, List.drop_zero]
    repeat still_step
    refine wpStill_nil ?_
    have Hown := Lib.hid H3.out.own
    rw [← HM.out] at Hown
    clear c1 e2
    go_wp2_with (refine wpList_store_own rfl 82 (.tmp 56) (.tmp 55) rfl k ⟨r, b, tn⟩ Hown.out (Ln.hc_len L) rfl HKL.out rfl rfl held_size (held_one _) ?_
                 intro w4 ho4 hg4
                 have Ho4 := Lib.hid ho4
                 have Hg4 := Lib.hid hg4
                 clear ho4 hg4)
    go_ret
    rw [HM.out] at Ho4
    exact ⟨rfl, RLaneAt.stored HH.out Hb3.out Ho4.out Hg4.out HOk3.out⟩
end Go.Proofs.YtlapmdgkcidhnaaDoor
