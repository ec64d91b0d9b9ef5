/- lane: Set, Give, Take. -/
import Derived.Test.YtlapmdgkcidhnaaDoorLnChk
namespace Go.Proofs.YtlapmdgkcidhnaaDoor
open Go.RowKit Go.Maps
set_option linter.unusedVariables false
set_option linter.unusedSimpArgs false
set_option maxRecDepth 100000

/-- only the map has changed, and new blocks -/
def LnTo (w w' : World) (B M : Nat) (len : Int) (L : List Ln.H) (n : Nat) : Prop := LaneAt w' B M len L n ∧ w.grownBy w' (some M)
theorem LnTo.same {w w' : World} {B M n : Nat} {len : Int} {L : List Ln.H} (h : LaneAt w B M len L n) (hb : Below w.heap.size w w') : LnTo w w' B M len L (n + 1) :=
  ⟨(h.below hb).mono (by omega), grownBy_of_below hb _⟩
theorem LaneAt.put {w w1 w2 : World} {B M n N : Nat} {len : Int} {L : List Ln.H} {D : DataW Value} (h : LaneAt w B M len L n) (hb : Below w.heap.size w w1) {r a t : Int}
    (hR : Reads16 D L) (hN : N ≤ n + 1) (hm : w2.ownsMap Tryd.prog 3 held16 M N (D.put (K16 r) (.held (seatV a t)))) (hg : w1.grownBy w2 (some M))
    (hr : 0 ≤ r ∧ r ≤ 9223372036854775807) (ha : 0 ≤ a ∧ a ≤ 63) (ht : 0 ≤ t ∧ t ≤ n + 1) : LnTo w w2 B M len (Ln.upd L r a t) (n + 1) := by
  have h1 := h.below hb
  refine ⟨⟨h1.row.kept hg (by simpa using h1.apart), ⟨_, N, hN, hm, hR.put r a t⟩, h.ok.upd hr ha ht, h.len⟩, (grownBy_of_below hb (some M)).trans hg⟩
set_option maxHeartbeats 800000 in
theorem set16_any {w : World} {B M n : Nat} {len : Int} {L : List Ln.H} (r a : Int) (h : LaneAt w B M len L n) (hr : Ln.fits r) (hn : n ≤ 1000) :
    Calls Tryd.prog 44 #[.pointer (some ⟨B, 0, none⟩), .int .i64 r, .int .i64 a] w fun e w' => e = .returned (.int .i64 (Ln.setE L r a)) ∧ LnTo w w' B M len (Ln.set L r a) (n + 1) := by
  have hb : Below w.heap.size w (w.alloc (.cells #[.int .i64 (Ln.whoOf L r), .int .i64 (Ln.turnOf L r)] 119)) := (Below.refl _ _).alloc (Nat.le_refl _) _
  obtain ⟨D, N, hN, hD, hV⟩ := h.map
  have c1 := h.c1
  have hne : B ≠ w.heap.size := by have := h.ltB; omega
  have hz := seat_zero
  have HD := Lib.hid hD
  have HV := Lib.hid hV
  have HH := Lib.hid h
  have HB := Lib.hid hb
  have hok := h.ok
  obtain ⟨R, hR⟩ : ∃ R, Ln.setE L r a = R := ⟨_, rfl⟩
  have hS : R ≠ 0 → Ln.set L r a = L := fun h => by unfold Ln.set; rw [hR, if_neg h]
  have hS0 : R = 0 → Ln.set L r a = Ln.upd L r a 0 := fun h => by unfold Ln.set; rw [hR, if_pos h]
  have hc0 := Ln.setE_cases L r a
  rw [hR] at hc0 ⊢
  unfold Ln.setE at hR
  obtain ⟨T, hT⟩ : ∃ T, Ln.set L r a = T := ⟨_, rfl⟩
  rw [hT] at hS hS0 ⊢
  obtain ⟨wh, ew⟩ : ∃ wh, Ln.whoOf L r = wh := ⟨_, rfl⟩
  obtain ⟨tn, et⟩ : ∃ tn, Ln.turnOf L r = tn := ⟨_, rfl⟩
  obtain ⟨bb, eb⟩ : ∃ bb, (Ln.look L r).isSome = bb := ⟨_, rfl⟩
  rw [ew, et] at HB
  have Hw := Lib.hid ew
  have Ht := Lib.hid et
  have He := Lib.hid eb
  have HS := Lib.hid hS
  have HS0 := Lib.hid hS0
  have HC0 := Lib.hid hc0
  rw [eb] at hR
  have HR := Lib.hid hR
  clear h hD hV hb ew et eb hS hS0 hc0 hR hT hok
  have hSb : Hid (∀ x, Calls Tryd.prog 69 #[.int .i64 a] x fun e w' => e = .returned (.bool (Ln.okW a)) ∧ x = w') := Lib.hid (fun x => somebody16 a x)
  by_cases h0 : r < 0
  · have d0 : decide (r < 0) = true := by simpa using h0
    have hR2 : R = 2 := by have := HR.out; rw [if_pos h0] at this; exact this.symm
    subst hR2
    rw [HS.out (by decide)]
    clear HS HS0 HC0 HR
    go_enter Tryd.func44, Tryd.ntmps44
    go_wp2_with (at_lookup; refine wpList_look16 _ rfl _ _ true rfl r rfl HD.out HV.out rfl hr wh tn _ Hw.out Ht.out He.out ?_)
    go_ret
    exact ⟨rfl, LnTo.same HH.out HB.out⟩
  have d0 : decide (r < 0) = false := by simpa using h0
  rcases Bool.eq_false_or_eq_true (Ln.okW a) with hw | hw
  rotate_left
  · have hR2 : R = 20 := by have := HR.out; rw [if_neg h0, if_pos hw] at this; exact this.symm
    subst hR2
    rw [HS.out (by decide)]
    rw [hw] at hSb
    clear HS HS0 HC0 HR h0
    go_enter Tryd.func44, Tryd.ntmps44
    go_wp2_with (at_lookup; refine wpList_look16 _ rfl _ _ true rfl r rfl HD.out HV.out rfl hr wh tn _ Hw.out Ht.out He.out ?_)
    refine (hSb.out _).mono ?_
    rintro _ w2 ⟨rfl, rfl⟩
    go_wp2_with fail
    go_ret
    exact ⟨rfl, LnTo.same HH.out HB.out⟩
  rw [hw] at hSb
  cases bb
  rotate_left
  · have hR2 : R = 23 := by have := HR.out; rw [if_neg h0, if_neg (by rw [hw]; simp), if_pos rfl] at this; exact this.symm
    subst hR2
    rw [HS.out (by decide)]
    clear HS HS0 HC0 HR h0
    go_enter Tryd.func44, Tryd.ntmps44
    go_wp2_with (at_lookup; refine wpList_look16 _ rfl _ _ true rfl r rfl HD.out HV.out rfl hr wh tn _ Hw.out Ht.out He.out ?_)
    refine (hSb.out _).mono ?_
    rintro _ w2 ⟨rfl, rfl⟩
    go_wp2_with fail
    go_ret
    exact ⟨rfl, LnTo.same HH.out HB.out⟩
  · have hR2 : R = 0 := by have := HR.out; rw [if_neg h0, if_neg (by rw [hw]; simp), if_neg (by simp)] at this; exact this.symm
    subst hR2
    rw [HS0.out rfl]
    have hww := Ln.okW_iff.1 hw
    have hr0 : 0 ≤ r := by omega
    have HNN : Hid (N < maxLen) := Lib.hid (by unfold maxLen; omega)
    have Hww := Lib.hid hww
    have hD1 := HD.out.kept (grownBy_of_below HB.out none) (by simp)
    have HD1 := Lib.hid hD1
    have hc1 : (w.alloc (.cells #[.int .i64 wh, .int .i64 tn] 119)).cell? ⟨B, 1, none⟩ = some (.map (some M)) := (HH.out.below HB.out).c1
    clear HS HS0 HC0 HR h0 hww hD1 hw
    go_enter Tryd.func44, Tryd.ntmps44
    go_wp2_with (at_lookup; refine wpList_look16 _ rfl _ _ true rfl r rfl HD.out HV.out rfl hr wh tn _ Hw.out Ht.out He.out ?_)
    refine (hSb.out _).mono ?_
    rintro _ w2 ⟨rfl, rfl⟩
    go_wp2_with (at_mapUpdate; refine wpList_mapUpdate_own _ rfl _ _ _ 113 rfl 3 119 lawI16 Tryd.underlying113 _ M N _ rfl HD1.out HNN.out _ _ _ rfl rfl (key16 hr) _ [] (held16_eq _) ?_; intro w6 hown6 hg6; have Hown6 := Lib.hid hown6; have Hg6 := Lib.hid hg6; clear hown6 hg6)
    go_ret
    exact ⟨rfl, LaneAt.put HH.out HB.out HV.out (by omega) Hown6.out Hg6.out ⟨hr0, hr.2⟩ Hww.out ⟨by omega, by omega⟩⟩
set_option maxHeartbeats 1600000 in
theorem give16_any {w : World} {B M n : Nat} {len : Int} {L : List Ln.H} (r a b now : Int) (h : LaneAt w B M len L n) (hr : Ln.fits r) (hn : n ≤ 1000) (hnow : now ≤ 9223372036854775807) :
    Calls Tryd.prog 45 #[.pointer (some ⟨B, 0, none⟩), .int .i64 r, .int .i64 a, .int .i64 b, .int .i64 now] w fun e w' => e = .returned (.int .i64 (Ln.giveE len L r a b now)) ∧ LnTo w w' B M len (Ln.give len L r a b now) (n + 1) := by
  have hb : Below w.heap.size w (w.alloc (.cells #[.int .i64 (Ln.whoOf L r), .int .i64 (Ln.turnOf L r)] 119)) := (Below.refl _ _).alloc (Nat.le_refl _) _
  obtain ⟨D, N, hN, hD, hV⟩ := h.map
  have c1 := h.c1
  have hne : B ≠ w.heap.size := by have := h.ltB; omega
  have hz := seat_zero
  have HD := Lib.hid hD
  have HV := Lib.hid hV
  have HH := Lib.hid h
  have HB := Lib.hid hb
  have hok := h.ok
  obtain ⟨R, hR⟩ : ∃ R, Ln.giveE len L r a b now = R := ⟨_, rfl⟩
  have hS : R ≠ 0 → Ln.give len L r a b now = L := fun h => by unfold Ln.give; rw [hR, if_neg h]
  have hS0 : ∀ x, R = 0 → Ln.look L r = some x → Ln.give len L r a b now = Ln.upd L r b x.turn := fun x h h2 => by unfold Ln.give; rw [hR, if_pos h, h2]
  rw [hR]
  unfold Ln.giveE at hR
  obtain ⟨T, hT⟩ : ∃ T, Ln.give len L r a b now = T := ⟨_, rfl⟩
  rw [hT] at hS hS0 ⊢
  have HS := Lib.hid hS
  have HS0 := Lib.hid hS0
  have HR := Lib.hid hR
  have hSa : Hid (∀ x, Calls Tryd.prog 69 #[.int .i64 a] x fun e w' => e = .returned (.bool (Ln.okW a)) ∧ x = w') := Lib.hid (fun x => somebody16 a x)
  have hSb : Hid (∀ x, Calls Tryd.prog 69 #[.int .i64 b] x fun e w' => e = .returned (.bool (Ln.okW b)) ∧ x = w') := Lib.hid (fun x => somebody16 b x)
  have HRd : Hid (∀ W, Below w.heap.size w W → Calls Tryd.prog 36 #[.pointer (some ⟨B, 0, none⟩), .int .i64 now] W fun e w' => e = .returned (.int .i64 (Ln.rnd len now)) ∧ W = w') := Lib.hid (fun W hW => round_any now (HH.out.below hW) hnow)
  clear h hD hV hb hS hS0 hR hT
  have hcases : (Ln.okW a = false ∨ (Ln.okW a = true ∧ Ln.okW b = false)) ∨ (Ln.okW a = true ∧ Ln.okW b = true) := by
    cases Ln.okW a <;> cases Ln.okW b <;> simp
  rcases hcases with hbad | ⟨hwa, hwb⟩
  · have hR2 : R = 20 := by
      have := HR.out
      rw [if_pos (by rcases hbad with h1 | ⟨_, h1⟩; exact .inl h1; exact .inr h1)] at this; exact this.symm
    subst hR2
    rw [HS.out (by decide)]
    obtain ⟨wh, ew⟩ : ∃ wh, Ln.whoOf L r = wh := ⟨_, rfl⟩
    obtain ⟨tn, et⟩ : ∃ tn, Ln.turnOf L r = tn := ⟨_, rfl⟩
    obtain ⟨bb, eb⟩ : ∃ bb, (Ln.look L r).isSome = bb := ⟨_, rfl⟩
    rw [ew, et] at HB
    have Hw := Lib.hid ew
    have Ht := Lib.hid et
    have He := Lib.hid eb
    clear HS HS0 HR ew et eb
    rcases hbad with h1 | ⟨h1, h2⟩
    · rw [h1] at hSa
      clear h1
      go_enter Tryd.func45, Tryd.ntmps45
      go_wp2_with (at_lookup; refine wpList_look16 _ rfl _ _ true rfl r rfl HD.out HV.out rfl hr wh tn _ Hw.out Ht.out He.out ?_)
      refine (hSa.out _).mono ?_
      rintro _ w2 ⟨rfl, rfl⟩
      go_wp2_with fail
      go_ret
      exact ⟨rfl, LnTo.same HH.out HB.out⟩
    · rw [h1] at hSa
      rw [h2] at hSb
      clear h1 h2
      go_enter Tryd.func45, Tryd.ntmps45
      go_wp2_with (at_lookup; refine wpList_look16 _ rfl _ _ true rfl r rfl HD.out HV.out rfl hr wh tn _ Hw.out Ht.out He.out ?_)
      refine (hSa.out _).mono ?_
      rintro _ w2 ⟨rfl, rfl⟩
      go_wp2_with fail
      refine (hSb.out _).mono ?_
      rintro _ w2 ⟨rfl, rfl⟩
      go_wp2_with fail
      go_ret
      exact ⟨rfl, LnTo.same HH.out HB.out⟩
  have HR2 : Hid ((match Ln.look L r with | none => 34 | some h => if h.who ≠ a then 21 else if r < Ln.rnd len now then 26 else 0) = R) := Lib.hid (by
    have := HR.out
    rw [if_neg (by rw [hwa, hwb]; simp)] at this
    exact this)
  clear HR
  rw [hwa] at hSa
  rw [hwb] at hSb
  have hwbb := Ln.okW_iff.1 hwb
  have Hwb := Lib.hid hwbb
  clear hwa hwb hwbb
  rcases hk : Ln.look L r with _ | x
  · have hR3 : R = 34 := by have := HR2.out; rw [hk] at this; exact this.symm
    subst hR3
    rw [HS.out (by decide)]
    have Hw : Hid (Ln.whoOf L r = 0) := Lib.hid (by unfold Ln.whoOf; rw [hk])
    have Ht : Hid (Ln.turnOf L r = 0) := Lib.hid (by unfold Ln.turnOf; rw [hk])
    have He : Hid ((Ln.look L r).isSome = false) := Lib.hid (by rw [hk]; rfl)
    rw [Hw.out, Ht.out] at HB
    clear HS HS0 HR2 hk
    go_enter Tryd.func45, Tryd.ntmps45
    go_wp2_with (at_lookup; refine wpList_look16 _ rfl _ _ true rfl r rfl HD.out HV.out rfl hr 0 0 false Hw.out Ht.out He.out ?_)
    refine (hSa.out _).mono ?_
    rintro _ w2 ⟨rfl, rfl⟩
    go_wp2_with fail
    refine (hSb.out _).mono ?_
    rintro _ w2 ⟨rfl, rfl⟩
    go_wp2_with fail
    go_ret
    exact ⟨rfl, LnTo.same HH.out HB.out⟩
  have hxr := Ln.look_round hk
  have hxo := hok.2 x (Ln.look_mem hk)
  obtain ⟨xr, wh, tn⟩ := x
  simp only at hxr hxo
  have Hw : Hid (Ln.whoOf L r = wh) := Lib.hid (by unfold Ln.whoOf; rw [hk])
  have Ht : Hid (Ln.turnOf L r = tn) := Lib.hid (by unfold Ln.turnOf; rw [hk])
  have He : Hid ((Ln.look L r).isSome = true) := Lib.hid (by rw [hk]; rfl)
  have HR3 : Hid ((if wh ≠ a then 21 else if r < Ln.rnd len now then 26 else 0) = R) := Lib.hid (by have := HR2.out; rw [hk] at this; exact this)
  have HS3 : Hid (R = 0 → T = Ln.upd L r b tn) := Lib.hid (fun h => HS0.out _ h hk)
  have Hxo := Lib.hid hxo
  have Hxr := Lib.hid hxr
  rw [Hw.out, Ht.out] at HB
  have hc10 : (w.alloc (.cells #[.int .i64 wh, .int .i64 tn] 119)).cell? ⟨B, 1, none⟩ = some (.map (some M)) := (HH.out.below HB.out).c1
  clear HS0 HR2 hk hxr hxo
  by_cases hwa : wh = a
  rotate_left
  · have hne2 : (wh != a) = true := by simpa using hwa
    have hR4 : R = 21 := by have := HR3.out; rw [if_pos hwa] at this; exact this.symm
    subst hR4
    rw [HS.out (by decide)]
    clear HS HS3 HR3 hwa
    go_enter Tryd.func45, Tryd.ntmps45
    go_wp2_with (at_lookup; refine wpList_look16 _ rfl _ _ true rfl r rfl HD.out HV.out rfl hr wh tn true Hw.out Ht.out He.out ?_)
    refine (hSa.out _).mono ?_
    rintro _ w2 ⟨rfl, rfl⟩
    go_wp2_with fail
    refine (hSb.out _).mono ?_
    rintro _ w2 ⟨rfl, rfl⟩
    go_wp2_with fail
    go_ret
    exact ⟨rfl, LnTo.same HH.out HB.out⟩
  subst hwa
  obtain ⟨q, hq⟩ : ∃ q, Ln.rnd len now = q := ⟨_, rfl⟩
  rw [hq] at HRd HR3
  clear hq
  by_cases hlate : r < q
  · have dl : decide (r < q) = true := by simpa using hlate
    have hR4 : R = 26 := by have := HR3.out; rw [if_neg (by simp), if_pos hlate] at this; exact this.symm
    subst hR4
    rw [HS.out (by decide)]
    clear HS HS3 HR3 hlate
    go_enter Tryd.func45, Tryd.ntmps45
    go_wp2_with (at_lookup; refine wpList_look16 _ rfl _ _ true rfl r rfl HD.out HV.out rfl hr wh tn true Hw.out Ht.out He.out ?_)
    refine (hSa.out _).mono ?_
    rintro _ w2 ⟨rfl, rfl⟩
    go_wp2_with fail
    refine (hSb.out _).mono ?_
    rintro _ w2 ⟨rfl, rfl⟩
    go_wp2_with fail
    refine (HRd.out _ HB.out).mono ?_
    rintro _ w2 ⟨rfl, rfl⟩
    go_wp2_with fail
    go_ret
    exact ⟨rfl, LnTo.same HH.out HB.out⟩
  · have dl : decide (r < q) = false := by simpa using hlate
    have hR4 : R = 0 := by have := HR3.out; rw [if_neg (by simp), if_neg hlate] at this; exact this.symm
    subst hR4
    rw [HS3.out rfl]
    have HNN : Hid (N < maxLen) := Lib.hid (by unfold maxLen; omega)
    have hB2 : Below w.heap.size w (w.alloc (.cells #[.int .i64 b, .int .i64 tn] 119)) := (Below.refl _ _).alloc (Nat.le_refl _) _
    have HB2 := Lib.hid hB2
    clear HS HS3 HR3 hlate hB2
    go_enter Tryd.func45, Tryd.ntmps45
    go_wp2_with (at_lookup; refine wpList_look16 _ rfl _ _ true rfl r rfl HD.out HV.out rfl hr wh tn true Hw.out Ht.out He.out ?_)
    refine (hSa.out _).mono ?_
    rintro _ w2 ⟨rfl, rfl⟩
    go_wp2_with fail
    refine (hSb.out _).mono ?_
    rintro _ w2 ⟨rfl, rfl⟩
    go_wp2_with fail
    refine (HRd.out _ HB.out).mono ?_
    rintro _ w2 ⟨rfl, rfl⟩
    have hrow := Row.new w 119 [.int .i64 b, .int .i64 tn]
    have HRow := Lib.hid hrow
    clear hrow
    go_wp2_with fail
    refine region_named 6 (by kernel_rfl) (by kernel_rfl) ?_
    intro w3 hw3
    have hb3 : Below w.heap.size w w3 := by rw [hw3]; exact HB2.out.drew
    have hl3 := HH.out.below hb3
    have c1 : w3.cell? ⟨B, 1, none⟩ = some (.map (some M)) := hl3.c1
    have hm3 := HD.out.kept (grownBy_of_below hb3 none) (by simp)
    have d0 : w3.cell? ⟨w.heap.size, 0, none⟩ = some (.int .i64 b) := by rw [hw3]; exact HRow.out.cell 0 (by simp)
    have d1 : w3.cell? ⟨w.heap.size, 1, none⟩ = some (.int .i64 tn) := by rw [hw3]; exact HRow.out.cell 1 (by simp)
    have Hb3 := Lib.hid hb3
    have Hm3 := Lib.hid hm3
    clear hw3 hb3 hl3 hm3 hc10
    simp only [List.take_succ_cons, List.take_zero, List.drop_succ_cons, List.drop_zero]
    repeat still_step
    refine wpStill_nil ?_
    go_wp2_with (at_mapUpdate; refine wpList_mapUpdate_own _ rfl _ _ _ 113 rfl 3 119 lawI16 Tryd.underlying113 _ M N _ rfl Hm3.out HNN.out _ _ _ rfl rfl (key16 hr) _ [] (held16_eq _) ?_; intro w6 hown6 hg6; have Hown6 := Lib.hid hown6; have Hg6 := Lib.hid hg6; clear hown6 hg6)
    go_ret
    have hx := Hxo.out
    have hxr := Hxr.out
    exact ⟨rfl, LaneAt.put HH.out Hb3.out HV.out (by omega) Hown6.out Hg6.out ⟨by omega, hr.2⟩ Hwb.out ⟨by omega, by omega⟩⟩
set_option maxHeartbeats 1600000 in
theorem take16_any {w : World} {B M n : Nat} {len : Int} {L : List Ln.H} (t : Tx) (ht : t.Ok) (now : Int) (hn : now ≤ 9223372036854775807) (h : LaneAt w B M len L n) (hn1 : n ≤ 1000) (hT : Tab w) :
    Calls Tryd.prog 43 #[.pointer (some ⟨B, 0, none⟩), t.v, .int .i64 now] w fun e w' => e = .returned (.int .i64 (Ln.checkE len L t now)) ∧ LnTo w w' B M len (Ln.take len L t now) (n + 1) := by
  have hb : Below w.heap.size w (w.alloc (.cells t.cells.toArray 74)) := (Below.refl _ _).alloc (Nat.le_refl _) _
  have HCk : Hid (∀ W, Below w.heap.size w W → Calls Tryd.prog 42 #[.pointer (some ⟨B, 0, none⟩), .agg t.cells.toArray, .int .i64 now] W fun e w' => e = .returned (.int .i64 (Ln.checkE len L t now)) ∧ Below W.heap.size W w') := Lib.hid (fun W hW => chk16_any t ht now hn (h.below hW) (hT.below hW hT.pos))
  have HR0 := Lib.hid (Row.new w 74 t.cells)
  have HLn := Lib.hid (Tx.cells_length ht)
  have HH := Lib.hid h
  have HB := Lib.hid hb
  have BX : Hid (∀ (W : World) (g : Nat) (T : TypeId), Row W g T t.cells → W.cell? ⟨g, 6, none⟩ = some (.int .i64 t.round)) := Lib.hid (fun W g T h => (tx_box ht h).2.2.2.2.2.2.1)
  have hzero : Ln.checkE len L t now = 0 → ∃ x, Ln.look L t.round = some x := fun h0 => by
    unfold Ln.checkE at h0
    split at h0
    · next h1 => exact absurd h0 h1
    · split at h0
      · cases h0
      · split at h0
        · cases h0
        · split at h0
          · cases h0
          · next x hx => exact ⟨x, hx⟩
  have HZe := Lib.hid hzero
  have hrnd := ht.round
  obtain ⟨T, hTk⟩ : ∃ T, Ln.take len L t now = T := ⟨_, rfl⟩
  have hS : Ln.checkE len L t now ≠ 0 → T = L := fun h => by rw [← hTk]; unfold Ln.take; rw [if_neg h]
  have hS0 : Ln.checkE len L t now = 0 → T = Ln.upd L t.round (Ln.whoOf L t.round) (Ln.turnOf L t.round + 1) := fun h => by rw [← hTk]; unfold Ln.take; rw [if_pos h]
  rw [hTk]
  have HS := Lib.hid hS
  have HS0 := Lib.hid hS0
  generalize Ln.checkE len L t now = R at *
  have hok := h.ok
  have HOk := Lib.hid hok
  show Calls _ _ #[_, .agg t.cells.toArray, _] _ _
  generalize t.cells = C at *
  generalize t.round = r at *
  clear h hb hT hzero hS hS0 hTk hok
  by_cases hR : R = 0
  rotate_left
  · have hRb : (R != 0) = true := by simpa using hR
    rw [HS.out hR]
    clear hR HS HS0
    go_enter Tryd.func43, Tryd.ntmps43
    go_wp2_with ((with_reducible show wpList _ _ _ (⟨_, .load 74 _, _, _, _, _⟩ :: _) _ _); refine wpList_load_tx rfl 74 (.tmp 4) rfl w.heap.size 0 rfl C _ (row_range HR0.out) Tryd.underlying74 rfl (by rw [tx_info, HLn.out]) ?_)
    refine (HCk.out _ HB.out).mono ?_
    rintro _ w1 ⟨rfl, hb1⟩
    have HB1 := Lib.hid (two_below' HB.out hb1)
    clear hb1
    go_wp2_with fail
    go_ret
    exact ⟨rfl, LnTo.same HH.out HB1.out⟩
  subst hR
  obtain ⟨x, hx⟩ := HZe.out rfl
  have hxr := Ln.look_round hx
  have hxo := HOk.out.2 x (Ln.look_mem hx)
  rw [HS0.out rfl]
  have Hw : Hid (Ln.whoOf L r = x.who) := Lib.hid (by unfold Ln.whoOf; rw [hx])
  have Ht : Hid (Ln.turnOf L r = x.turn) := Lib.hid (by unfold Ln.turnOf; rw [hx])
  have He : Hid ((Ln.look L r).isSome = true) := Lib.hid (by rw [hx]; rfl)
  rw [Hw.out, Ht.out]
  have hww : 0 ≤ x.who ∧ x.who ≤ 63 := ⟨hxo.2.2.1, hxo.2.2.2.1⟩
  have htt : 0 ≤ x.turn ∧ x.turn ≤ n := ⟨hxo.2.2.2.2.1, hxo.2.2.2.2.2⟩
  have hr0 : 0 ≤ r := by omega
  clear hxr hxo HS HS0 hx
  generalize x.who = wh at *
  generalize x.turn = tn at *
  have Hww := Lib.hid hww
  have Htt := Lib.hid htt
  have Hr0 := Lib.hid hr0
  have ewr : IntKind.i64.wrap (tn + 1) = tn + 1 := IntWalk.i64_in _ (by omega)
  clear hww htt hr0
  go_enter Tryd.func43, Tryd.ntmps43
  go_wp2_with ((with_reducible show wpList _ _ _ (⟨_, .load 74 _, _, _, _, _⟩ :: _) _ _); refine wpList_load_tx rfl 74 (.tmp 4) rfl w.heap.size 0 rfl C _ (row_range HR0.out) Tryd.underlying74 rfl (by rw [tx_info, HLn.out]) ?_)
  refine (HCk.out _ HB.out).mono ?_
  rintro _ w1 ⟨rfl, hb1⟩
  have HB1 := Lib.hid (two_below' HB.out hb1)
  have HR1 := Lib.hid (HR0.out.below hb1)
  clear hb1
  go_wp2_with fail
  have HM1 : Hid (∀ W, Below w1.heap.size w1 W → W.cell? ⟨B, 1, none⟩ = some (.map (some M))) := Lib.hid (fun W hW => (HH.out.below (two_below' HB1.out hW)).c1)
  have H61 : Hid (∀ W, Below w1.heap.size w1 W → W.cell? ⟨w.heap.size, 6, none⟩ = some (.int .i64 r)) := Lib.hid (fun W hW => BX.out _ _ _ (HR1.out.below hW))
  have HLk : Hid (∀ W, Below w1.heap.size w1 W → (Instr.lookup 113 (.map (some M)) (.int .i64 r) false).run Tryd.prog W = .ok (seatV wh tn) W) := Lib.hid (fun W hW => by
    obtain ⟨D, N, hN, hD, hV⟩ := (HH.out.below (two_below' HB1.out hW)).map
    have := run_look16 hD hV false r hrnd
    rw [Hw.out, Ht.out] at this
    exact this)
  refine wp_region_held_drew (S := fun w' => Below w1.heap.size w1 w') (by kernel_rfl) ((Below.refl w1.heap.size w1).drew) (fun hHeld => ?_)
  generalize w1.drew = wq at *
  refine wpAnyH_take (i := 0) (v := .pointer (some ⟨B, 0, none⟩)) rfl (by kernel_rfl) (by kernel_rfl) (by kernel_rfl) (fun _ _ _ h => h) (Or.inl ⟨by rfl, fun w' hSw => by go_simp⟩) hHeld ?_
  try simp only [Act.put, List.getElem_toArray, List.getElem_cons_succ, List.getElem_cons_zero, List.setIfInBounds_toArray, List.set_cons_zero, List.set_cons_succ]
  refine wpAnyH_take (i := 1) (v := .pointer (some ⟨B, 0, none⟩)) rfl (by kernel_rfl) (by kernel_rfl) (by kernel_rfl) (fun _ _ _ h => h) (Or.inl ⟨by rfl, fun w' hSw => by go_simp⟩) hHeld ?_
  try simp only [Act.put, List.getElem_toArray, List.getElem_cons_succ, List.getElem_cons_zero, List.setIfInBounds_toArray, List.set_cons_zero, List.set_cons_succ]
  refine wpAnyH_take (i := 2) (v := .pointer (some ⟨B, 1, none⟩)) rfl (by kernel_rfl) (by kernel_rfl) (by kernel_rfl) (fun _ _ _ h => h) (Or.inl ⟨by rfl, fun w' hSw => by go_simp⟩) hHeld ?_
  try simp only [Act.put, List.getElem_toArray, List.getElem_cons_succ, List.getElem_cons_zero, List.setIfInBounds_toArray, List.set_cons_zero, List.set_cons_succ]
  refine wpAnyH_take (i := 3) (v := .map (some M)) rfl (by kernel_rfl) (by kernel_rfl) (by kernel_rfl) (fun _ _ _ h => h) (Or.inl ⟨by rfl, fun w' hSw => by have hq := hSw; have hd := HM1.out _ hq; go_simp⟩) hHeld ?_
  try simp only [Act.put, List.getElem_toArray, List.getElem_cons_succ, List.getElem_cons_zero, List.setIfInBounds_toArray, List.set_cons_zero, List.set_cons_succ]
  refine wpAnyH_take (i := 4) (v := .pointer (some ⟨w.heap.size, 6, none⟩)) rfl (by kernel_rfl) (by kernel_rfl) (by kernel_rfl) (fun _ _ _ h => h) (Or.inl ⟨by rfl, fun w' hSw => by go_simp⟩) hHeld ?_
  try simp only [Act.put, List.getElem_toArray, List.getElem_cons_succ, List.getElem_cons_zero, List.setIfInBounds_toArray, List.set_cons_zero, List.set_cons_succ]
  refine wpAnyH_take (i := 5) (v := .int .i64 r) rfl (by kernel_rfl) (by kernel_rfl) (by kernel_rfl) (fun _ _ _ h => h) (Or.inl ⟨by rfl, fun w' hSw => by have hq := hSw; have hd := H61.out _ hq; go_simp⟩) hHeld ?_
  try simp only [Act.put, List.getElem_toArray, List.getElem_cons_succ, List.getElem_cons_zero, List.setIfInBounds_toArray, List.set_cons_zero, List.set_cons_succ]
  refine wpAnyH_take (i := 6) (v := .agg #[.int .i64 wh, .int .i64 tn]) rfl (by kernel_rfl) (by kernel_rfl) (by kernel_rfl) (fun _ _ _ h => h) (Or.inl ⟨by rfl, fun w' hSw => by have hq := hSw; have hd := HLk.out _ hq; go_simp⟩) hHeld ?_
  try simp only [Act.put, List.getElem_toArray, List.getElem_cons_succ, List.getElem_cons_zero, List.setIfInBounds_toArray, List.set_cons_zero, List.set_cons_succ]
  refine wpAnyH_ready (rs := [7]) (by kernel_rfl) (by simp) (AllReadyH.cons rfl (fun K1 hK1 => ?_) AllReadyH.nil)
  try simp only [Act.put, List.getElem_toArray, List.getElem_cons_succ, List.getElem_cons_zero, List.setIfInBounds_toArray, List.set_cons_zero, List.set_cons_succ]
  go_simp
  have hd2 := (Below.refl wq.heap.size wq).alloc (Nat.le_refl _) (.cells [.int .i64 0, .int .i64 0].toArray 119)
  have rA : Row (wq.alloc (.cells [.int .i64 0, .int .i64 0].toArray 119)) wq.heap.size 119 [.int .i64 0, .int .i64 0] := Row.new wq 119 [.int .i64 0, .int .i64 0]
  have rAs : w1.heap.size ≤ wq.heap.size := hHeld.size
  have hHeld2 := two_below' hHeld hd2
  generalize wq.alloc (.cells [.int .i64 0, .int .i64 0].toArray 119) = wa1 at *
  obtain ⟨ga3, ga3e⟩ : ∃ ga3, ga3 = wq.heap.size := ⟨_, rfl⟩
  rw [← ga3e] at rA rAs ⊢
  refine hK1.out _ _ (hHeld2) (fun hHeld => ?_)
  clear hK1 K1
  try simp only [Act.put, List.getElem_toArray, List.getElem_cons_succ, List.getElem_cons_zero, List.setIfInBounds_toArray, List.set_cons_zero, List.set_cons_succ]
  clear hHeld2 ga3e
  refine wpAnyH_ready (rs := [8]) (by kernel_rfl) (by simp) (AllReadyH.cons rfl (fun K1 hK1 => ?_) AllReadyH.nil)
  try simp only [Act.put, List.getElem_toArray, List.getElem_cons_succ, List.getElem_cons_zero, List.setIfInBounds_toArray, List.set_cons_zero, List.set_cons_succ]
  rw [if_pos (by rfl)]
  refine wp_store_at 119 (.tmp 8) (.tmp 22) rfl ga3 0 [.int .i64 wh, .int .i64 tn] _ _ rfl rfl rA (by simp) (by kernel_rfl) (by intro v hv; simp at hv; rcases hv with rfl | rfl <;> rfl) ?_
  intro ws4 hrS hgS
  simp only [List.take_zero, List.nil_append, List.length_cons, List.length_nil, List.drop_succ_cons, List.drop_zero, List.drop_nil, List.append_nil] at hrS
  have HRs := Lib.hid hrS
  have hHeld2 := below_own hHeld hgS (fun k hk => by cases hk; exact rAs)
  clear hrS hgS
  refine hK1.out _ _ (hHeld2) (fun hHeld => ?_)
  clear hK1 K1
  try simp only [Act.put, List.getElem_toArray, List.getElem_cons_succ, List.getElem_cons_zero, List.setIfInBounds_toArray, List.set_cons_zero, List.set_cons_succ]
  clear hHeld2
  refine wpAnyH_done (by kernel_rfl) ?_ _

  have Hb4 := Lib.hid hHeld
  have hr4 := HRs.out
  clear hHeld
  have d1 := hr4.cell 1 (by simp)
  have f1 := hr4.free 1
  simp only [List.getElem_cons_succ, List.getElem_cons_zero] at d1
  go_wp2_with fail
  have hr5 := hr4.set 1 (.int .i64 (tn + 1)) (by simp)
  simp only [List.set_cons_succ, List.set_cons_zero] at hr5
  have hb5 : Below w1.heap.size w1 (ws4.setCell ⟨ga3, 1, none⟩ (.int .i64 (tn + 1))) := Hb4.out.setCell rAs _ (p := ⟨ga3, 1, none⟩)
  generalize ws4.setCell ⟨ga3, 1, none⟩ (.int .i64 (tn + 1)) = w5 at *
  have HR5 := Lib.hid hr5
  have HB5 := Lib.hid hb5
  clear hr4 d1 f1 hr5 hb5 rA HRs
  refine region_named 7 (by kernel_rfl) (by kernel_rfl) ?_
  intro w6 hw6
  have hb6 : Below w1.heap.size w1 w6 := by rw [hw6]; exact HB5.out.drew
  have hs6 : Row w6 ga3 119 [.int .i64 wh, .int .i64 (tn + 1)] := by rw [hw6]; exact HR5.out
  have c1 := HM1.out _ hb6
  have h6 := H61.out _ hb6
  have d0 : w6.cell? ⟨ga3, 0, none⟩ = some (.int .i64 wh) := hs6.cell 0 (by simp)
  have d1 : w6.cell? ⟨ga3, 1, none⟩ = some (.int .i64 (tn + 1)) := hs6.cell 1 (by simp)
  have hbw := two_below' HB1.out hb6
  obtain ⟨D, N, hN, hD, hV⟩ := (HH.out.below hbw).map
  have Hm6 := Lib.hid hD
  have HV := Lib.hid hV
  have Hb6 := Lib.hid hbw
  have HNN : Hid (N < maxLen) := Lib.hid (by unfold maxLen; omega)
  clear hw6 hb6 hs6 hbw hD hV
  simp only [List.take_succ_cons, List.take_zero, List.drop_succ_cons, List.drop_zero]
  repeat still_step
  refine wpStill_nil ?_
  go_wp2_with (at_mapUpdate; refine wpList_mapUpdate_own _ rfl _ _ _ 113 rfl 3 119 lawI16 Tryd.underlying113 _ M N _ rfl Hm6.out HNN.out _ _ _ rfl rfl (key16 hrnd) _ [] (held16_eq _) ?_; intro w7 hown7 hg7; have Hown7 := Lib.hid hown7; have Hg7 := Lib.hid hg7; clear hown7 hg7)
  go_ret
  have h1 := Htt.out
  exact ⟨rfl, LaneAt.put HH.out Hb6.out HV.out (by omega) Hown7.out Hg7.out ⟨Hr0.out, hrnd.2⟩ Hww.out ⟨by omega, by omega⟩⟩
end Go.Proofs.YtlapmdgkcidhnaaDoor
