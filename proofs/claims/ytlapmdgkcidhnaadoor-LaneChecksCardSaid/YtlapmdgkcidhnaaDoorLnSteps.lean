/- lane: what is asked of a transaction, one by one. -/
import Derived.Test.YtlapmdgkcidhnaaDoorLnOps
namespace Go.Proofs.YtlapmdgkcidhnaaDoor
open Go.RowKit Go.Maps
set_option linter.unusedVariables false
set_option linter.unusedSimpArgs false

theorem steps1_any (b : Bool) (x : Int) (w : World) : Calls Tryd.prog 88 #[.bool b, .int .i64 x] w fun e w' => e = .returned (.int .i64 (if b = true then 0 else x)) ∧ w = w' := by
  cases b
  · go_enter Tryd.func88, Tryd.ntmps88
    go_wp2_with fail
    go_ret
    exact ⟨rfl, rfl⟩
  · go_enter Tryd.func88, Tryd.ntmps88
    go_wp2_with fail
    go_ret
    exact ⟨rfl, rfl⟩
/-- the function that the others call -/
abbrev unlessV : Value := .func (.func 88) #[] #[]
theorem steps2_any (t : Tx) (ht : t.Ok) (w : World) (g : Nat) (hg : Row w g 74 t.cells) :
    Calls Tryd.prog 89 #[.pointer (some ⟨g, 0, none⟩)] w fun e w' => e = .returned (.int .i64 t.err) ∧ Below w.heap.size w w' := by
  have CK : Hid (Calls Tryd.prog 90 #[.agg t.cells.toArray] w fun e w' => e = .returned (.int .i64 t.err) ∧ Below w.heap.size w w') := Lib.hid (check4_any t ht w)
  have HL := Lib.hid (Tx.cells_length ht)
  have HR := Lib.hid hg
  generalize t.cells = C at *
  generalize t.err = x at *
  clear ht hg
  go_enter Tryd.func89, Tryd.ntmps89
  go_wp2_with ((with_reducible show wpList _ _ _ (⟨_, .load 74 _, _, _, _, _⟩ :: _) _ _); refine wpList_load_tx rfl 74 (.tmp 0) rfl g 0 rfl C _ (row_range HR.out) Tryd.underlying74 rfl (by rw [tx_info, HL.out]) ?_)
  refine CK.out.mono ?_
  rintro _ w1 ⟨rfl, hb1⟩
  go_wp2_with fail
  go_ret
  exact ⟨rfl, hb1⟩
theorem steps3_any (t : Tx) (ht : t.Ok) (w : World) (g f : Nat) (hg : Row w g 74 t.cells) (hf : w.cell? ⟨f, 0, none⟩ = some unlessV) :
    Calls Tryd.prog 91 #[.pointer (some ⟨f, 0, none⟩), .pointer (some ⟨g, 0, none⟩)] w fun e w' => e = .returned (.int .i64 (if t.lane = true then 0 else 2)) ∧ w = w' := by
  obtain ⟨_, _, _, _, _, h5, h6, h7⟩ := tx_box ht hg
  generalize t.lane = b at *
  clear ht hg h6 h7
  cases b
  · go_enter Tryd.func91, Tryd.ntmps91
    go_wp2_with fail
    refine (steps1_any false 2 _).mono ?_
    rintro _ w1 ⟨rfl, rfl⟩
    go_wp2_with fail
    go_ret
    exact ⟨rfl, rfl⟩
  · go_enter Tryd.func91, Tryd.ntmps91
    go_wp2_with fail
    refine (steps1_any true 2 _).mono ?_
    rintro _ w1 ⟨rfl, rfl⟩
    go_wp2_with fail
    go_ret
    exact ⟨rfl, rfl⟩
theorem steps5_any (b : Bool) (w : World) (g f : Nat) (hg : w.cell? ⟨g, 0, none⟩ = some (.bool b)) (hf : w.cell? ⟨f, 0, none⟩ = some unlessV) :
    Calls Tryd.prog 93 #[.pointer (some ⟨f, 0, none⟩), .pointer (some ⟨g, 0, none⟩)] w fun e w' => e = .returned (.int .i64 (if b = true then 0 else 34)) ∧ w = w' := by
  cases b
  · go_enter Tryd.func93, Tryd.ntmps93
    go_wp2_with fail
    refine (steps1_any false 34 _).mono ?_
    rintro _ w1 ⟨rfl, rfl⟩
    go_wp2_with fail
    go_ret
    exact ⟨rfl, rfl⟩
  · go_enter Tryd.func93, Tryd.ntmps93
    go_wp2_with fail
    refine (steps1_any true 34 _).mono ?_
    rintro _ w1 ⟨rfl, rfl⟩
    go_wp2_with fail
    go_ret
    exact ⟨rfl, rfl⟩
theorem steps7_any (t : Tx) (ht : t.Ok) (wh tn : Int) (w : World) (g f s : Nat) (hg : Row w g 74 t.cells) (hs : Row w s 119 [.int .i64 wh, .int .i64 tn]) (hf : w.cell? ⟨f, 0, none⟩ = some unlessV) :
    Calls Tryd.prog 96 #[.pointer (some ⟨f, 0, none⟩), .pointer (some ⟨g, 0, none⟩), .pointer (some ⟨s, 0, none⟩)] w fun e w' => e = .returned (.int .i64 (if t.turn = tn then 0 else 30)) ∧ w = w' := by
  obtain ⟨_, _, _, _, _, h5, h6, h7⟩ := tx_box ht hg
  have h8 : w.cell? ⟨s, 1, none⟩ = some (.int .i64 tn) := hs.cell 1 (by simp)
  generalize t.turn = b at *
  clear ht hg h6 h5 hs
  by_cases hbt : b = tn
  · subst hbt
    rw [if_pos rfl]
    go_enter Tryd.func96, Tryd.ntmps96
    go_wp2_with fail
    refine (steps1_any true 30 _).mono ?_
    rintro _ w1 ⟨rfl, rfl⟩
    go_wp2_with fail
    go_ret
    exact ⟨rfl, rfl⟩
  · have hbb : (b == tn) = false := by simpa using hbt
    rw [if_neg hbt]
    go_enter Tryd.func96, Tryd.ntmps96
    go_wp2_with fail
    refine (steps1_any false 30 _).mono ?_
    rintro _ w1 ⟨rfl, rfl⟩
    go_wp2_with fail
    go_ret
    exact ⟨rfl, rfl⟩
theorem steps4_any (t : Tx) (ht : t.Ok) (now : Int) (hn : now ≤ 9223372036854775807) (w : World) (g f p q : Nat) (hg : Row w g 74 t.cells) (hf : w.cell? ⟨f, 0, none⟩ = some unlessV)
    {B M n : Nat} {len : Int} {L : List Ln.H} (hL : LaneAt w B M len L n) (hp : w.cell? ⟨p, 0, none⟩ = some (.pointer (some ⟨B, 0, none⟩))) (hq : w.cell? ⟨q, 0, none⟩ = some (.int .i64 now)) :
    Calls Tryd.prog 92 #[.pointer (some ⟨f, 0, none⟩), .pointer (some ⟨g, 0, none⟩), .pointer (some ⟨p, 0, none⟩), .pointer (some ⟨q, 0, none⟩)] w fun e w' => e = .returned (.int .i64 (if t.round = Ln.rnd len now then 0 else 29)) ∧ ∃ k, w' = w.drewN k := by
  obtain ⟨_, _, _, _, _, h5, h6, h7⟩ := tx_box ht hg
  have HRd : Hid (∀ k, Calls Tryd.prog 36 #[.pointer (some ⟨B, 0, none⟩), .int .i64 now] (w.drewN k) fun e w' => e = .returned (.int .i64 (Ln.rnd len now)) ∧ ∃ m, w' = w.drewN m) := Lib.hid (fun k => quiet_eq (round_any now (w := w.drewN k) ⟨hL.row, hL.map, hL.ok, hL.len⟩ hn))
  have HS1 : Hid (∀ k, Calls Tryd.prog 88 #[.bool true, .int .i64 29] (w.drewN k) fun e w' => e = .returned (.int .i64 0) ∧ ∃ m, w' = w.drewN m) := Lib.hid (fun k => quiet_eq (steps1_any true 29 _))
  have HS0 : Hid (∀ k, Calls Tryd.prog 88 #[.bool false, .int .i64 29] (w.drewN k) fun e w' => e = .returned (.int .i64 29) ∧ ∃ m, w' = w.drewN m) := Lib.hid (fun k => quiet_eq (steps1_any false 29 _))
  generalize Ln.rnd len now = r at *
  generalize t.round = b at *
  clear ht hg h7 h5 hL
  by_cases hbt : b = r
  · subst hbt
    rw [if_pos rfl]
    go_enter Tryd.func92, Tryd.ntmps92
    go_wp2_with fail
    go_quiet (first | (with_reducible exact HRd.out _) | (with_reducible exact HS1.out _))
    go_wp2_with fail
    go_ret
    exact ⟨rfl, _, rfl⟩
  · have hbb : (b == r) = false := by simpa using hbt
    rw [if_neg hbt]
    go_enter Tryd.func92, Tryd.ntmps92
    go_wp2_with fail
    go_quiet (first | (with_reducible exact HRd.out _) | (with_reducible exact HS0.out _))
    go_wp2_with fail
    go_ret
    exact ⟨rfl, _, rfl⟩
set_option maxRecDepth 20000 in
theorem steps6_any (t : Tx) (ht : t.Ok) (wh tn : Int) (w : World) (g s : Nat) (hg : Row w g 74 t.cells) (hs : Row w s 119 [.int .i64 wh, .int .i64 tn]) (hT : Tab w) :
    Calls Tryd.prog 94 #[.pointer (some ⟨g, 0, none⟩), .pointer (some ⟨s, 0, none⟩)] w fun e w' => e = .returned (.int .i64 (Seal.check2 wh 2 t.bodyE.1 t.bY)) ∧ Below w.heap.size w w' := by
  have BD : Hid (Calls Tryd.prog 95 #[.agg t.cells.toArray] w fun e w' => e = .returned (.tuple #[S t.bodyE.1, .int .i64 t.bodyE.2]) ∧ Below w.heap.size w w') := Lib.hid (body_any t ht w)
  have hbl := t.body_len
  have CK : Hid (∀ W, Tab W → Calls Tryd.prog 82 #[.int .i64 wh, .int .i64 2, S t.bodyE.1, .agg (bRow t.bY)] W fun e w' => e = .returned (.int .i64 (Seal.check2 wh 2 t.bodyE.1 t.bY)) ∧ Below W.heap.size W w') := Lib.hid (fun W hW => Check_any wh 2 ⟨t.bodyE.1.toArray⟩ t.bY W hW ht.bY (by show t.bodyE.1.length ≤ _; omega))
  have HL := Lib.hid (Tx.cells_length ht)
  have HR := Lib.hid hg
  have HBy : Hid (∀ W, Below w.heap.size w W → W.rangeAt g 8 (bRow t.bY).toList) := Lib.hid (fun W hW => (tx_hash_at ht (hg.below hW)).1)
  have HB32 := Lib.hid (Tx.bRow_len _ ht.bY)
  have Hs := Lib.hid hs
  have HT := Lib.hid hT
  generalize t.cells = C at *
  generalize Seal.check2 wh 2 t.bodyE.1 t.bY = x at *
  generalize t.bodyE = BE at *
  generalize t.bY = R at *
  obtain ⟨bs, be⟩ := BE
  simp only at BD CK hbl
  clear ht hg hs hT
  go_enter Tryd.func94, Tryd.ntmps94
  go_wp2_with ((with_reducible show wpList _ _ _ (⟨_, .load 74 _, _, _, _, _⟩ :: _) _ _); refine wpList_load_tx rfl 74 (.tmp 0) rfl g 0 rfl C _ (row_range HR.out) Tryd.underlying74 rfl (by rw [tx_info, HL.out]) ?_)
  refine BD.out.mono ?_
  rintro _ w1 ⟨rfl, hb1⟩
  have HB1 := Lib.hid hb1
  have hc0 : w1.cell? ⟨s, 0, none⟩ = some (.int .i64 wh) := (Hs.out.below hb1).cell 0 (by simp)
  clear hb1
  go_wp2_with ((with_reducible show wpList _ _ _ (⟨_, .load 28 _, _, _, _, _⟩ :: _) _ _); refine wpList_load_tx rfl 28 (.tmp 13) rfl g 8 rfl (bRow R).toList _ (HBy.out _ HB1.out) Tryd.underlying28 rfl (by rw [hash_info, HB32.out]) ?_)
  refine (CK.out _ (HT.out.below HB1.out HT.out.pos)).mono ?_
  rintro _ w2 ⟨rfl, hb2⟩
  go_wp2_with fail
  go_ret
  exact ⟨rfl, two_below' HB1.out hb2⟩
end Go.Proofs.YtlapmdgkcidhnaaDoor
