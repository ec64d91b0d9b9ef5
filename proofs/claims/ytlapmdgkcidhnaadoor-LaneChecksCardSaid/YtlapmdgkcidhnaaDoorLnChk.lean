/- lane: Check. -/
import Derived.Test.YtlapmdgkcidhnaaDoorLnCheck
namespace Go.Proofs.YtlapmdgkcidhnaaDoor
open Go.RowKit Go.Maps
set_option linter.unusedVariables false
set_option linter.unusedSimpArgs false

theorem Ln.firstE_at : ∀ (l : List Int) (k : Nat) (hk : k < l.length), (∀ j (hj : j < k), l[j]'(by omega) = 0) → l[k] ≠ 0 → Ln.firstE l = l[k]
  | [], k, hk, _, _ => by simp at hk
  | x :: l, 0, _, _, hne => Ln.firstE_cons (e := x) (r := l) hne
  | x :: l, k + 1, hk, hz, hne => by
    rw [Ln.firstE_cons0 (e := x) (r := l) (hz 0 (by omega))]
    exact Ln.firstE_at l k (by simpa using hk) (fun j hj => hz (j + 1) (by omega)) hne
theorem Ln.firstE_zero : ∀ (l : List Int), (∀ j (hj : j < l.length), l[j] = 0) → Ln.firstE l = 0
  | [], _ => rfl
  | x :: l, hz => by
    rw [Ln.firstE_cons0 (e := x) (r := l) (hz 0 (by simp))]
    exact Ln.firstE_zero l (fun j hj => hz (j + 1) (by simp; omega))
theorem chk16_nil (t : Tx) (ht : t.Ok) (now : Int) (w : World) :
    Calls Tryd.prog 42 #[.pointer none, t.v, .int .i64 now] w fun e w' => e = .returned (.int .i64 1) ∧ Below w.heap.size w w' := by
  have hb : Below w.heap.size w (w.alloc (.cells t.cells.toArray 74)) := (Below.refl _ _).alloc (Nat.le_refl _) _
  show Calls _ _ #[_, .agg t.cells.toArray, _] _ _
  generalize t.cells = C at *
  have Hb := Lib.hid hb
  clear hb ht
  go_enter Tryd.func42, Tryd.ntmps42
  go_wp2_with fail
  go_ret
  exact ⟨rfl, Hb.out⟩
set_option maxRecDepth 20000 in
set_option maxHeartbeats 3200000 in
theorem chk16_any {w : World} {B M n : Nat} {len : Int} {L : List Ln.H} (t : Tx) (ht : t.Ok) (now : Int) (hn : now ≤ 9223372036854775807) (h : LaneAt w B M len L n) (hT : Tab w) :
    Calls Tryd.prog 42 #[.pointer (some ⟨B, 0, none⟩), t.v, .int .i64 now] w fun e w' => e = .returned (.int .i64 (Ln.checkE len L t now)) ∧ Below w.heap.size w w' := by
  rw [Ln.check_asks h.ok]
  have hb : Below w.heap.size w (w.alloc (.cells t.cells.toArray 74)) := (Below.refl _ _).alloc (Nat.le_refl _) _
  have HSt : Hid (∀ W, Below w.heap.size w W → Calls Tryd.prog 68 #[.pointer (some ⟨B, 0, none⟩), .agg t.cells.toArray, .int .i64 now] W fun e w' => (∃ gs g3 g4 g5 g7 g8 g9, e = .returned (.slice (some ⟨gs, 0, none⟩) 6 6) ∧ StepsAt w' W.heap.size B t now (Ln.whoOf L t.round) (Ln.turnOf L t.round) (Ln.look L t.round).isSome gs g3 g4 g5 g7 g8 g9) ∧ Below W.heap.size W w') := Lib.hid (fun W hW => steps16_any t ht now (h.below hW))
  have HL : Hid (∀ W, Below w.heap.size w W → LaneAt W B M len L n) := Lib.hid (fun W hW => h.below hW)
  have HTb : Hid (∀ W, Below w.heap.size w W → Tab W) := Lib.hid (fun W hW => hT.below hW hT.pos)
  have HR0 := Lib.hid (Row.new w 74 t.cells)
  have HLn := Lib.hid (Tx.cells_length ht)
  obtain ⟨wh, ew⟩ : ∃ wh, Ln.whoOf L t.round = wh := ⟨_, rfl⟩
  obtain ⟨tn, et⟩ : ∃ tn, Ln.turnOf L t.round = tn := ⟨_, rfl⟩
  obtain ⟨bb, eb⟩ : ∃ bb, (Ln.look L t.round).isSome = bb := ⟨_, rfl⟩
  unfold Ln.asks
  rw [ew, et, eb] at HSt ⊢
  obtain ⟨e0, he0⟩ : ∃ e0, e0 = t.err := ⟨_, rfl⟩
  obtain ⟨e1, he1⟩ : ∃ e1 : Int, e1 = (if t.lane = true then 0 else 2) := ⟨_, rfl⟩
  obtain ⟨e2, he2⟩ : ∃ e2 : Int, e2 = (if t.round = Ln.rnd len now then 0 else 29) := ⟨_, rfl⟩
  obtain ⟨e3, he3⟩ : ∃ e3 : Int, e3 = (if bb = true then 0 else 34) := ⟨_, rfl⟩
  obtain ⟨e4, he4⟩ : ∃ e4, e4 = Seal.check2 wh 2 t.bodyE.1 t.bY := ⟨_, rfl⟩
  obtain ⟨e5, he5⟩ : ∃ e5 : Int, e5 = (if t.turn = tn then 0 else 30) := ⟨_, rfl⟩
  rw [← he0, ← he1, ← he2, ← he3, ← he4, ← he5]
  have S2 : Hid (∀ (W : World) (g : Nat), Row W g 74 t.cells → Calls Tryd.prog 89 #[.pointer (some ⟨g, 0, none⟩)] W fun e w' => e = .returned (.int .i64 e0) ∧ Below W.heap.size W w') := Lib.hid (fun W g hg => by rw [he0]; exact steps2_any t ht W g hg)
  have S3 : Hid (∀ (W : World) (g f : Nat), Row W g 74 t.cells → W.cell? ⟨f, 0, none⟩ = some unlessV → Calls Tryd.prog 91 #[.pointer (some ⟨f, 0, none⟩), .pointer (some ⟨g, 0, none⟩)] W fun e w' => e = .returned (.int .i64 e1) ∧ Below W.heap.size W w') := Lib.hid (fun W g f hg hf => by rw [he1]; exact (steps3_any t ht W g f hg hf).mono fun e w' ⟨q1, q2⟩ => ⟨q1, by rw [← q2]; exact Below.refl _ _⟩)
  have S4 : Hid (∀ (W : World) (g f p q : Nat), Below w.heap.size w W → Row W g 74 t.cells → W.cell? ⟨f, 0, none⟩ = some unlessV → W.cell? ⟨p, 0, none⟩ = some (.pointer (some ⟨B, 0, none⟩)) → W.cell? ⟨q, 0, none⟩ = some (.int .i64 now) → Calls Tryd.prog 92 #[.pointer (some ⟨f, 0, none⟩), .pointer (some ⟨g, 0, none⟩), .pointer (some ⟨p, 0, none⟩), .pointer (some ⟨q, 0, none⟩)] W fun e w' => e = .returned (.int .i64 e2) ∧ Below W.heap.size W w') := Lib.hid (fun W g f p q hW hg hf hp hq => by rw [he2]; exact (steps4_any t ht now hn W g f p q hg hf (h.below hW) hp hq).mono fun e w' ⟨q1, k, q2⟩ => ⟨q1, by rw [q2]; exact below_drewN' (Below.refl _ _) k⟩)
  have S5 : Hid (∀ (W : World) (g f : Nat), W.cell? ⟨g, 0, none⟩ = some (.bool bb) → W.cell? ⟨f, 0, none⟩ = some unlessV → Calls Tryd.prog 93 #[.pointer (some ⟨f, 0, none⟩), .pointer (some ⟨g, 0, none⟩)] W fun e w' => e = .returned (.int .i64 e3) ∧ Below W.heap.size W w') := Lib.hid (fun W g f hg hf => by rw [he3]; exact (steps5_any bb W g f hg hf).mono fun e w' ⟨q1, q2⟩ => ⟨q1, by rw [← q2]; exact Below.refl _ _⟩)
  have S6 : Hid (∀ (W : World) (g s : Nat), Below w.heap.size w W → Row W g 74 t.cells → Row W s 119 [.int .i64 wh, .int .i64 tn] → Calls Tryd.prog 94 #[.pointer (some ⟨g, 0, none⟩), .pointer (some ⟨s, 0, none⟩)] W fun e w' => e = .returned (.int .i64 e4) ∧ Below W.heap.size W w') := Lib.hid (fun W g s hW hg hs => by rw [he4]; exact steps6_any t ht wh tn W g s hg hs (hT.below hW hT.pos))
  have S7 : Hid (∀ (W : World) (g f s : Nat), Row W g 74 t.cells → Row W s 119 [.int .i64 wh, .int .i64 tn] → W.cell? ⟨f, 0, none⟩ = some unlessV → Calls Tryd.prog 96 #[.pointer (some ⟨f, 0, none⟩), .pointer (some ⟨g, 0, none⟩), .pointer (some ⟨s, 0, none⟩)] W fun e w' => e = .returned (.int .i64 e5) ∧ Below W.heap.size W w') := Lib.hid (fun W g f s hg hs hf => by rw [he5]; exact (steps7_any t ht wh tn W g f s hg hs hf).mono fun e w' ⟨q1, q2⟩ => ⟨q1, by rw [← q2]; exact Below.refl _ _⟩)
  obtain ⟨R, hR⟩ : ∃ R, Ln.firstE [e0, e1, e2, e3, e4, e5] = R := ⟨_, rfl⟩
  rw [hR]
  have HR := Lib.hid hR
  have HFe : Hid (∀ k (hk : k < [e0, e1, e2, e3, e4, e5].length), (∀ j (hj : j < k), [e0, e1, e2, e3, e4, e5][j]'(by omega) = 0) → [e0, e1, e2, e3, e4, e5][k] ≠ 0 → R = [e0, e1, e2, e3, e4, e5][k]) := Lib.hid (by
    rw [← hR]
    exact Ln.firstE_at _)
  have HF0 : Hid ((∀ j (hj : j < 6), [e0, e1, e2, e3, e4, e5][j]'(by simpa using hj) = 0) → R = 0) := Lib.hid (fun hz => by
    rw [← hR]
    exact Ln.firstE_zero _ (fun j hj => hz j (by simpa using hj)))
  have HB0 := Lib.hid hb
  show Calls _ _ #[_, .agg t.cells.toArray, _] _ _
  have HC : Hid (∀ W lo gs g3 g4 g5 g7 g8 g9, StepsAt W lo B t now wh tn bb gs g3 g4 g5 g7 g8 g9 → Row W g4 74 t.cells) := Lib.hid (fun _ _ _ _ _ _ _ _ _ h => h.tx)
  generalize t.cells = C at *
  clear hb h hT ew et eb he0 he1 he2 he3 he4 he5 hR
  go_enter Tryd.func42, Tryd.ntmps42
  go_wp2_with ((with_reducible show wpList _ _ _ (⟨_, .load 74 _, _, _, _, _⟩ :: _) _ _); refine wpList_load_tx rfl 74 (.tmp 4) rfl w.heap.size 0 rfl C _ (row_range HR0.out) Tryd.underlying74 rfl (by rw [tx_info, HLn.out]) ?_)
  refine (HSt.out _ HB0.out).mono ?_
  rintro _ w1 ⟨⟨gs, g3, g4, g5, g7, g8, g9, rfl, hst⟩, hb1⟩
  have HB1 := Lib.hid (two_below' HB0.out hb1)
  have HST := Lib.hid hst
  clear hb1 hst
  go_wp2_with fail
  go_loopw [17] (fun i wr => ∃ k : Nat, k ≤ 6 ∧ i = .int .i64 k ∧ (∀ j (hj : j < k) (h6 : j < [e0, e1, e2, e3, e4, e5].length), [e0, e1, e2, e3, e4, e5][j] = 0) ∧ Below w1.heap.size w1 wr) (fun i _ => 6 - (intOf i).toNat)
  case atStart => exact ⟨0, Nat.zero_le _, rfl, fun j hj => absurd hj (by omega), Below.refl _ _⟩
  case round =>
    obtain ⟨k, hk, rfl, hz, hbr⟩ := hrel
    have HZ := Lib.hid hz
    have HBr := Lib.hid hbr
    have HStr := Lib.hid (HST.out.below hbr)
    have HBw := Lib.hid (two_below' HB1.out hbr)
    clear hz hbr
    have hk7 : k = 0 ∨ k = 1 ∨ k = 2 ∨ k = 3 ∨ k = 4 ∨ k = 5 ∨ k = 6 := by omega
    rcases hk7 with rfl | rfl | rfl | rfl | rfl | rfl | rfl
    · have hfn := HStr.out.fns.cell 0 (by simp)
      simp only [List.getElem_cons_succ, List.getElem_cons_zero] at hfn
      by_cases he : e0 = 0
      · have heb : (e0 != 0) = false := by simpa using he
        have HE := Lib.hid he
        clear he
        go_wp2_with fail
        refine (S2.out _ g4 (HC.out _ _ _ _ _ _ _ _ _ HStr.out)).mono ?_
        rintro _ w2 ⟨rfl, hb2⟩
        have HB2 := Lib.hid (two_below' HBr.out hb2)
        clear hb2 hfn
        go_wp2_with fail
        refine ⟨⟨1, by omega, by rfl, fun j hj h6 => ?_, HB2.out⟩, by simp [intOf]⟩
        by_cases hj2 : j < 0
        · exact HZ.out j hj2 h6
        · obtain rfl : j = 0 := by omega
          exact HE.out
      · have heb : (e0 != 0) = true := by simpa using he
        have hRe := HFe.out 0 (by simp) (fun j hj => HZ.out j hj (by simp; omega)) he
        have HRe : Hid (R = e0) := Lib.hid hRe
        clear he hRe
        go_wp2_with fail
        refine (S2.out _ g4 (HC.out _ _ _ _ _ _ _ _ _ HStr.out)).mono ?_
        rintro _ w2 ⟨rfl, hb2⟩
        have HB2 := Lib.hid (two_below' HBw.out hb2)
        clear hb2 hfn
        go_wp2_with fail
        go_ret
        exact ⟨by rw [HRe.out]; rfl, HB2.out⟩
    · have hfn := HStr.out.fns.cell 1 (by simp)
      simp only [List.getElem_cons_succ, List.getElem_cons_zero] at hfn
      by_cases he : e1 = 0
      · have heb : (e1 != 0) = false := by simpa using he
        have HE := Lib.hid he
        clear he
        go_wp2_with fail
        refine (S3.out _ g4 g7 (HC.out _ _ _ _ _ _ _ _ _ HStr.out) HStr.out.un).mono ?_
        rintro _ w2 ⟨rfl, hb2⟩
        have HB2 := Lib.hid (two_below' HBr.out hb2)
        clear hb2 hfn
        go_wp2_with fail
        refine ⟨⟨2, by omega, by rfl, fun j hj h6 => ?_, HB2.out⟩, by simp [intOf]⟩
        by_cases hj2 : j < 1
        · exact HZ.out j hj2 h6
        · obtain rfl : j = 1 := by omega
          exact HE.out
      · have heb : (e1 != 0) = true := by simpa using he
        have hRe := HFe.out 1 (by simp) (fun j hj => HZ.out j hj (by simp; omega)) he
        have HRe : Hid (R = e1) := Lib.hid hRe
        clear he hRe
        go_wp2_with fail
        refine (S3.out _ g4 g7 (HC.out _ _ _ _ _ _ _ _ _ HStr.out) HStr.out.un).mono ?_
        rintro _ w2 ⟨rfl, hb2⟩
        have HB2 := Lib.hid (two_below' HBw.out hb2)
        clear hb2 hfn
        go_wp2_with fail
        go_ret
        exact ⟨by rw [HRe.out]; rfl, HB2.out⟩
    · have hfn := HStr.out.fns.cell 2 (by simp)
      simp only [List.getElem_cons_succ, List.getElem_cons_zero] at hfn
      by_cases he : e2 = 0
      · have heb : (e2 != 0) = false := by simpa using he
        have HE := Lib.hid he
        clear he
        go_wp2_with fail
        refine (S4.out _ g4 g7 g3 g5 HBw.out (HC.out _ _ _ _ _ _ _ _ _ HStr.out) HStr.out.un HStr.out.p HStr.out.now).mono ?_
        rintro _ w2 ⟨rfl, hb2⟩
        have HB2 := Lib.hid (two_below' HBr.out hb2)
        clear hb2 hfn
        go_wp2_with fail
        refine ⟨⟨3, by omega, by rfl, fun j hj h6 => ?_, HB2.out⟩, by simp [intOf]⟩
        by_cases hj2 : j < 2
        · exact HZ.out j hj2 h6
        · obtain rfl : j = 2 := by omega
          exact HE.out
      · have heb : (e2 != 0) = true := by simpa using he
        have hRe := HFe.out 2 (by simp) (fun j hj => HZ.out j hj (by simp; omega)) he
        have HRe : Hid (R = e2) := Lib.hid hRe
        clear he hRe
        go_wp2_with fail
        refine (S4.out _ g4 g7 g3 g5 HBw.out (HC.out _ _ _ _ _ _ _ _ _ HStr.out) HStr.out.un HStr.out.p HStr.out.now).mono ?_
        rintro _ w2 ⟨rfl, hb2⟩
        have HB2 := Lib.hid (two_below' HBw.out hb2)
        clear hb2 hfn
        go_wp2_with fail
        go_ret
        exact ⟨by rw [HRe.out]; rfl, HB2.out⟩
    · have hfn := HStr.out.fns.cell 3 (by simp)
      simp only [List.getElem_cons_succ, List.getElem_cons_zero] at hfn
      by_cases he : e3 = 0
      · have heb : (e3 != 0) = false := by simpa using he
        have HE := Lib.hid he
        clear he
        go_wp2_with fail
        refine (S5.out _ g9 g7 HStr.out.held HStr.out.un).mono ?_
        rintro _ w2 ⟨rfl, hb2⟩
        have HB2 := Lib.hid (two_below' HBr.out hb2)
        clear hb2 hfn
        go_wp2_with fail
        refine ⟨⟨4, by omega, by rfl, fun j hj h6 => ?_, HB2.out⟩, by simp [intOf]⟩
        by_cases hj2 : j < 3
        · exact HZ.out j hj2 h6
        · obtain rfl : j = 3 := by omega
          exact HE.out
      · have heb : (e3 != 0) = true := by simpa using he
        have hRe := HFe.out 3 (by simp) (fun j hj => HZ.out j hj (by simp; omega)) he
        have HRe : Hid (R = e3) := Lib.hid hRe
        clear he hRe
        go_wp2_with fail
        refine (S5.out _ g9 g7 HStr.out.held HStr.out.un).mono ?_
        rintro _ w2 ⟨rfl, hb2⟩
        have HB2 := Lib.hid (two_below' HBw.out hb2)
        clear hb2 hfn
        go_wp2_with fail
        go_ret
        exact ⟨by rw [HRe.out]; rfl, HB2.out⟩
    · have hfn := HStr.out.fns.cell 4 (by simp)
      simp only [List.getElem_cons_succ, List.getElem_cons_zero] at hfn
      by_cases he : e4 = 0
      · have heb : (e4 != 0) = false := by simpa using he
        have HE := Lib.hid he
        clear he
        go_wp2_with fail
        refine (S6.out _ g4 g8 HBw.out (HC.out _ _ _ _ _ _ _ _ _ HStr.out) HStr.out.seat).mono ?_
        rintro _ w2 ⟨rfl, hb2⟩
        have HB2 := Lib.hid (two_below' HBr.out hb2)
        clear hb2 hfn
        go_wp2_with fail
        refine ⟨⟨5, by omega, by rfl, fun j hj h6 => ?_, HB2.out⟩, by simp [intOf]⟩
        by_cases hj2 : j < 4
        · exact HZ.out j hj2 h6
        · obtain rfl : j = 4 := by omega
          exact HE.out
      · have heb : (e4 != 0) = true := by simpa using he
        have hRe := HFe.out 4 (by simp) (fun j hj => HZ.out j hj (by simp; omega)) he
        have HRe : Hid (R = e4) := Lib.hid hRe
        clear he hRe
        go_wp2_with fail
        refine (S6.out _ g4 g8 HBw.out (HC.out _ _ _ _ _ _ _ _ _ HStr.out) HStr.out.seat).mono ?_
        rintro _ w2 ⟨rfl, hb2⟩
        have HB2 := Lib.hid (two_below' HBw.out hb2)
        clear hb2 hfn
        go_wp2_with fail
        go_ret
        exact ⟨by rw [HRe.out]; rfl, HB2.out⟩
    · have hfn := HStr.out.fns.cell 5 (by simp)
      simp only [List.getElem_cons_succ, List.getElem_cons_zero] at hfn
      by_cases he : e5 = 0
      · have heb : (e5 != 0) = false := by simpa using he
        have HE := Lib.hid he
        clear he
        go_wp2_with fail
        refine (S7.out _ g4 g7 g8 (HC.out _ _ _ _ _ _ _ _ _ HStr.out) HStr.out.seat HStr.out.un).mono ?_
        rintro _ w2 ⟨rfl, hb2⟩
        have HB2 := Lib.hid (two_below' HBr.out hb2)
        clear hb2 hfn
        go_wp2_with fail
        refine ⟨⟨6, by omega, by rfl, fun j hj h6 => ?_, HB2.out⟩, by simp [intOf]⟩
        by_cases hj2 : j < 5
        · exact HZ.out j hj2 h6
        · obtain rfl : j = 5 := by omega
          exact HE.out
      · have heb : (e5 != 0) = true := by simpa using he
        have hRe := HFe.out 5 (by simp) (fun j hj => HZ.out j hj (by simp; omega)) he
        have HRe : Hid (R = e5) := Lib.hid hRe
        clear he hRe
        go_wp2_with fail
        refine (S7.out _ g4 g7 g8 (HC.out _ _ _ _ _ _ _ _ _ HStr.out) HStr.out.seat HStr.out.un).mono ?_
        rintro _ w2 ⟨rfl, hb2⟩
        have HB2 := Lib.hid (two_below' HBw.out hb2)
        clear hb2 hfn
        go_wp2_with fail
        go_ret
        exact ⟨by rw [HRe.out]; rfl, HB2.out⟩
    · have hR0 := HF0.out (fun j hj => HZ.out j hj (by simpa using hj))
      go_wp2_with fail
      go_ret
      exact ⟨by rw [hR0]; rfl, HBw.out⟩
end Go.Proofs.YtlapmdgkcidhnaaDoor
