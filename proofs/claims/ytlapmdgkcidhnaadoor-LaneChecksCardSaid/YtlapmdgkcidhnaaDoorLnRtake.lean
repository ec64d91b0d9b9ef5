/- The reference's lane: Take. -/
import Derived.Test.YtlapmdgkcidhnaaDoorLnRchk
namespace Go.Proofs.YtlapmdgkcidhnaaDoor
open Go.RowKit Go.Maps
set_option linter.unusedVariables false
set_option linter.unusedSimpArgs false
set_option maxRecDepth 100000

set_option maxHeartbeats 3200000 in
theorem rtake16_any (hRS : RefSum) {w : World} {base B n : Nat} {v : Value} {len : Int} {L : List Ln.H} (t : Tx) (ht : t.Ok) (now : Int) (hn : now ≤ 9223372036854775807) (h : RLaneAt w base B v len L n) (hn9 : n ≤ 900) :
    Calls Tryd.prog 66 #[.pointer (some ⟨B, 0, none⟩), t.v, .int .i64 now] w fun e w' => e = .returned (.int .i64 (Ln.checkE len L t now)) ∧ RLnTo w w' base B v len (Ln.take len L t now) (n + 1) := by
  have hb : Below w.heap.size w (w.alloc (.cells t.cells.toArray 74)) := (Below.refl _ _).alloc (Nat.le_refl _) _
  have HCk : Hid (∀ W, Below w.heap.size w W → Calls Tryd.prog 65 #[.pointer (some ⟨B, 0, none⟩), .agg t.cells.toArray, .int .i64 now] W fun e w' => e = .returned (.int .i64 (Ln.checkE len L t now)) ∧ Below W.heap.size W w') := Lib.hid (fun W hW => rchk16_any hRS t ht now hn (h.below hW) hn9)
  have HR0 := Lib.hid (Row.new w 74 t.cells)
  have HLn := Lib.hid (Tx.cells_length ht)
  have HH := Lib.hid h
  have HB := Lib.hid hb
  have BX : Hid (∀ (W : World) (g : Nat) (T : TypeId), Row W g T t.cells → W.cell? ⟨g, 6, none⟩ = some (.int .i64 t.round)) := Lib.hid (fun W g T h => (tx_box ht h).2.2.2.2.2.2.1)
  have hA : Hid (∀ W, Below w.heap.size w W → Calls Tryd.prog 39 #[.pointer (some ⟨B, 0, none⟩), .int .i64 t.round] W fun e w' => e = .returned (.int .i64 (Ln.atI L t.round)) ∧ W = w') := Lib.hid (fun W hW => rat_any t.round (h.below hW) (by omega))
  have hzero : Ln.checkE len L t now = 0 → ∃ x, Ln.look L t.round = some x := fun h0 => by
    unfold Ln.checkE at h0
    split at h0
    · next h1 => exact absurd h0 h1
    · split at h0
      · cases h0
      · split at h0
        · cases h0
        · split at h0
          · cases h0
          · next x hx => exact ⟨x, hx⟩
  have HZe := Lib.hid hzero
  obtain ⟨T, hTk⟩ : ∃ T, Ln.take len L t now = T := ⟨_, rfl⟩
  have hS : Ln.checkE len L t now ≠ 0 → T = L := fun h => by rw [← hTk]; unfold Ln.take; rw [if_neg h]
  have hS0 : Ln.checkE len L t now = 0 → T = Ln.upd L t.round (Ln.whoOf L t.round) (Ln.turnOf L t.round + 1) := fun h => by rw [← hTk]; unfold Ln.take; rw [if_pos h]
  have hrnd := ht.round
  rw [hTk]
  have HS := Lib.hid hS
  have HS0 := Lib.hid hS0
  generalize Ln.checkE len L t now = R at *
  show Calls _ _ #[_, .agg t.cells.toArray, _] _ _
  generalize t.cells = C at *
  generalize t.round = r at *
  clear h hb hzero hS hS0 hTk
  by_cases hR : R = 0
  rotate_left
  · have hRb : (R == 0) = false := by simpa using hR
    rw [HS.out hR]
    clear hR HS HS0
    go_enter Tryd.func66, Tryd.ntmps66
    go_wp2_with ((with_reducible show wpList _ _ _ (⟨_, .load 74 _, _, _, _, _⟩ :: _) _ _); refine wpList_load_tx rfl 74 (.tmp 4) rfl w.heap.size 0 rfl C _ (row_range HR0.out) Tryd.underlying74 rfl (by rw [tx_info, HLn.out]) ?_)
    refine (HCk.out _ HB.out).mono ?_
    rintro _ w1 ⟨rfl, hb1⟩
    have HB1 := Lib.hid (two_below' HB.out hb1)
    clear hb1
    go_wp2_with fail
    go_ret
    exact ⟨rfl, RLnTo.same HH.out HB1.out⟩
  subst hR
  obtain ⟨x, hx⟩ := HZe.out rfl
  have hxr := Ln.look_round hx
  have hxo := HH.out.ok.2 x (Ln.look_mem hx)
  obtain ⟨k, hk1, hk2, hkl, hkx⟩ := Ln.atI_pos hx
  rw [hk1] at hA
  obtain ⟨g, c, rfl, _, hgl⟩ := HH.out.own.ne (by intro e; rw [e] at hkl; simp at hkl)
  have e1' := HH.out.own.cell (Ln.hc_len L) k hkl 1 (.int .i64 x.who) (by rw [hkx]; rfl)
  have e2' := HH.out.own.cell (Ln.hc_len L) k hkl 2 (.int .i64 x.turn) (by rw [hkx]; rfl)
  have hw : Ln.whoOf L r = x.who := by unfold Ln.whoOf; rw [hx]
  have hu : Ln.turnOf L r = x.turn := by unfold Ln.turnOf; rw [hx]
  have hTe : T = L.set k ⟨r, x.who, x.turn + 1⟩ := by rw [HS0.out rfl, hw, hu, Ln.upd_some hk2]
  rw [hTe]
  have HOk3 : Hid (Ln.Ok (n + 1) (L.set k ⟨r, x.who, x.turn + 1⟩)) := Lib.hid (by
    have := HH.out.ok.upd (r := r) (w := x.who) (t := x.turn + 1) ⟨by omega, hrnd.2⟩ ⟨hxo.2.2.1, hxo.2.2.2.1⟩ ⟨by omega, by omega⟩
    rwa [Ln.upd_some hk2] at this)
  have ewr : IntKind.i64.wrap (x.turn + 1) = x.turn + 1 := IntWalk.i64_in _ (by omega)
  obtain ⟨m, hm⟩ : ∃ m, m = L.length := ⟨_, rfl⟩
  have hki : (k : Int) < (m : Int) := by omega
  have c1' := HH.out.c1
  rw [← hm] at c1'
  have hBl := HH.out.row.lt
  have HEl : Hid (∀ W, Below w.heap.size w W → W.cell? ⟨B, 1, none⟩ = some (.slice (some ⟨g, 0, none⟩) m c) ∧ W.cell? ⟨g, k * 3 + 1, none⟩ = some (.int .i64 x.who) ∧ W.cell? ⟨g, k * 3 + 2, none⟩ = some (.int .i64 x.turn)) := Lib.hid (fun W hW => ⟨(hW.cell (p := ⟨B, 1, none⟩) hBl).trans c1', (hW.cell (p := ⟨g, k * 3 + 1, none⟩) hgl).trans e1', (hW.cell (p := ⟨g, k * 3 + 2, none⟩) hgl).trans e2'⟩)
  have HM := Lib.hid hm
  have HKL := Lib.hid hkl
  generalize x.who = wh at *
  generalize x.turn = tn at *
  clear hx hxr hxo hk1 hk2 hkl hkx e1' e2' hw hu hTe hm c1' hBl hgl HS HS0
  go_enter Tryd.func66, Tryd.ntmps66
  go_wp2_with ((with_reducible show wpList _ _ _ (⟨_, .load 74 _, _, _, _, _⟩ :: _) _ _); refine wpList_load_tx rfl 74 (.tmp 4) rfl w.heap.size 0 rfl C _ (row_range HR0.out) Tryd.underlying74 rfl (by rw [tx_info, HLn.out]) ?_)
  refine (HCk.out _ HB.out).mono ?_
  rintro _ w1 ⟨rfl, hb1⟩
  have HB1 := Lib.hid (two_below' HB.out hb1)
  have HR1 := Lib.hid (HR0.out.below hb1)
  have h6 := BX.out _ _ _ (HR0.out.below hb1)
  clear hb1
  go_wp2_with fail
  refine (hA.out _ HB1.out).mono ?_
  rintro _ w2 ⟨rfl, rfl⟩
  go_wp2_with fail
  refine region_named 26 (by kernel_rfl) (by kernel_rfl) ?_
  intro w3 hw3
  have hb3 : Below w.heap.size w w3 := by rw [hw3]; exact HB1.out.drew
  have hr3 : Row w3 w.heap.size 74 C := by rw [hw3]; exact HR1.out
  have h6 := BX.out _ _ _ hr3
  have c1 := (HEl.out _ hb3).1
  have e1 := (HEl.out _ hb3).2.1
  have e2 := (HEl.out _ hb3).2.2
  have h3 := HH.out.below hb3
  have Hown := Lib.hid h3.own
  have Hb3 := Lib.hid hb3
  rw [← HM.out] at Hown
  clear hw3 hb3 hr3 h3
  simp only [List.take_succ_cons, List.take_zero, List.drop_succ_cons, List.drop_zero]
  repeat still_step
  refine wpStill_nil ?_
  clear c1 e1 e2 h6
  go_wp2_with (refine wpList_store_own rfl 82 (.tmp 44) (.tmp 43) rfl k ⟨r, wh, tn + 1⟩ Hown.out (Ln.hc_len L) rfl HKL.out rfl rfl held_size (held_one _) ?_
               intro w4 ho4 hg4
               have Ho4 := Lib.hid ho4
               have Hg4 := Lib.hid hg4
               clear ho4 hg4)
  go_ret
  rw [HM.out] at Ho4
  exact ⟨rfl, RLaneAt.stored HH.out Hb3.out Ho4.out Hg4.out HOk3.out⟩
end Go.Proofs.YtlapmdgkcidhnaaDoor
