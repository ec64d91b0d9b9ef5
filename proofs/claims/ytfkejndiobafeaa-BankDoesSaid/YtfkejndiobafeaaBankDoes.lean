/- Layer 14's law BankDoes: what it returns. -/
import Derived.Test.YtfkejndiobafeaaBankCases
import Derived.Deep.RegionHeld3
namespace Go.Proofs.Ytfkejndiobafeaa
open Go.RowKit
set_option linter.unusedVariables false
set_option linter.unusedSimpArgs false

/-- where the law stands: the bank at B and the reference's at X hold L, the calls l lie where they lay -/
def Both (w0 W : World) (B X G : Nat) (L : List Int) : Prop := BankAt W B L ∧ RefAt W X G L ∧ Below w0.heap.size w0 W
theorem Both.draw {w0 W W' : World} {B X G : Nat} {L : List Int} (h : Both w0 W B X G L) (hg : W.grownBy W' none) : Both w0 W' B X G L :=
  ⟨h.1.kept hg (by simp), h.2.1.kept hg (by simp) (by simp), below_of_grown0 h.2.2 hg h.2.2.size⟩
theorem Both.cell0 {w0 W : World} {B X G : Nat} {L : List Int} (h : Both w0 W B X G L) : W.cell? ⟨X, 0, none⟩ = some (.slice (some ⟨G, 0, none⟩) 64 64) := h.2.1.1.cell 0 (by simp)

theorem five_step {w w' : World} {r : Option Nat} {X b o : Nat} {v0 v1 v2 v3 v4 : Value}
    (h : w.cell? ⟨X, 0, none⟩ = some v0 ∧ w.cell? ⟨b, o, none⟩ = some v1 ∧ w.cell? ⟨b, o + 1, none⟩ = some v2 ∧ w.cell? ⟨b, o + 2, none⟩ = some v3 ∧ w.cell? ⟨b, o + 3, none⟩ = some v4)
    (hg : w.grownBy w' r) (h1 : some X ≠ r) (h2 : some b ≠ r) :
    w'.cell? ⟨X, 0, none⟩ = some v0 ∧ w'.cell? ⟨b, o, none⟩ = some v1 ∧ w'.cell? ⟨b, o + 1, none⟩ = some v2 ∧ w'.cell? ⟨b, o + 2, none⟩ = some v3 ∧ w'.cell? ⟨b, o + 3, none⟩ = some v4 :=
  ⟨hg.cell h.1 h1, hg.cell h.2.1 h2, hg.cell h.2.2.1 h2, hg.cell h.2.2.2.1 h2, hg.cell h.2.2.2.2 h2⟩

theorem num_step {w4 wd wa : World} {B X G S0 : Nat} {L1 : List Int} (hR : RefAt w4 X G L1) (hgd : w4.grownBy wd (some B)) (hga : wd.grownBy wa none) (hS : Row wa S0 3 (Is L1)) (hGB : G ≠ B) :
    Calls Try.prog 15 #[.slice (some ⟨S0, 0, none⟩) 64 64, .slice (some ⟨G, 0, none⟩) 64 64] wa fun e w' => e = .returned (.bool true) ∧ ∃ n, w' = wa.drewN n := by
  have hl : L1.length = 64 := hR.2.2.1
  have h1 := NumsV.row (c := 64) hS
  have h2 := NumsV.row (c := 64) ((hR.2.1.kept hgd (by simpa using hGB)).kept hga (by simp))
  rw [hl] at h1 h2
  have := numbers_any _ _ _ _ wa h1 h2 (by omega) (by omega)
  rw [decide_eq_true (rfl : L1 = L1)] at this
  exact this
theorem fin_step {w0 w4 wd wa : World} {B X G : Nat} {L1 : List Int} (hR : RefAt w4 X G L1) (hb : Below w0.heap.size w0 w4) (hgd : w4.grownBy wd (some B)) (hga : wd.grownBy wa none) (hB : BankAt wd B L1) (hXB : X ≠ B) (hGB : G ≠ B) (hw : w0.heap.size ≤ B) (n : Nat) :
    Both w0 (wa.drewN n) B X G L1 :=
  Both.draw ⟨hB.kept hga (by simp), (hR.kept hgd (by simpa using hXB) (by simpa using hGB)).kept hga (by simp) (by simp), below_of_grown0 (below_of_grown hb hgd hw hb.size) hga (Nat.le_trans hb.size hgd.size)⟩ (grownBy_drewN _ _ _)

set_option maxRecDepth 20000 in
set_option maxHeartbeats 1600000 in
theorem bankDoes_any (v : Value) (l : List BAct) (who : Int) (w : World) (hl : ActsV w v l) (hlen : l.length ≤ 9223372036854775807) :
    Calls Try.prog 3 #[v, .int .i64 who] w fun e w' => e = .returned (.bool true) ∧ Below w.heap.size w w' := by
  obtain ⟨A, c, rfl, hL⟩ := hl
  have HL := Lib.hid hL
  clear hL
  go_enter Try.func3, Try.ntmps3
  go_wp2_with fail
  refine (bankNew_any _).mono ?_
  rintro e w1 ⟨rfl, hB1, hg1⟩
  have hsz1 : w.heap.size < w1.heap.size := hB1.1.lt
  have hb1 : Below w.heap.size w w1 := below_of_grown0 (Below.refl w.heap.size w) hg1 (Nat.le_refl _)
  have HB1 := Lib.hid hB1
  have Hb1 := Lib.hid hb1
  clear hB1 hg1 hb1
  go_wp2_with fail
  refine (refNew_any _).mono ?_
  rintro e w2 ⟨rfl, hR2, hg2⟩
  have hboth : Both w w2 w.heap.size (w1.heap.size + 1) w1.heap.size Bank.none_ := ⟨HB1.out.kept hg2 (by simp), hR2, below_of_grown0 Hb1.out hg2 Hb1.out.size⟩
  obtain ⟨G, hG⟩ : ∃ G, G = w1.heap.size := ⟨_, rfl⟩
  rw [← hG] at hsz1 hboth ⊢
  have HG := Lib.hid hG
  have Hboth := Lib.hid hboth
  clear hR2 hg2 hG hboth
  go_wp2_with fail
  refine (awake14_any _).mono ?_
  rintro e w3 ⟨rfl, hb3⟩
  have hboth := Hboth.out.draw (grownBy_of_below hb3 none)
  have Hboth2 := Lib.hid hboth
  clear hb3 hboth
  go_wp2_with fail
  go_loopw [7] (fun i wr => ∃ k : Nat, k ≤ l.length ∧ k ≤ 200 ∧ i = .int .i64 k ∧ Both w wr w.heap.size (G + 1) G (acts (l.take k))) (fun i _ => 200 - (intOf i).toNat)
  case atStart => exact ⟨0, Nat.zero_le _, Nat.zero_le _, rfl, Hboth2.out⟩
  case round =>
    obtain ⟨k, hk, hk2, rfl, hB⟩ := hrel
    have HB := Lib.hid hB
    clear hB
    by_cases hlt : k < l.length ∧ k < 200
    · obtain ⟨hlt, hlt2⟩ := hlt
      have hki : (k : Int) < (l.length : Int) := by omega
      have hki2 : (k : Int) < 200 := by omega
      have hne : l ≠ [] := by intro e; rw [e] at hlt; simp at hlt
      obtain ⟨b, off, rfl, hblt, hc⟩ := HL.out hne
      have hcs := hc k hlt
      have has := acts_succ l k hlt
      obtain ⟨y, hy⟩ : ∃ y, y = l[k] := ⟨_, rfl⟩
      rw [← hy] at hcs has
      obtain ⟨yk, ya, yb, yn⟩ := y
      generalize acts (l.take k) = L at *
      have Hcs := Lib.hid hcs
      have Has := Lib.hid has
      have cs : ∀ W, Below w.heap.size w W → W.cell? ⟨b, off + k * 4, none⟩ = some (.int .i64 yk) ∧ W.cell? ⟨b, off + k * 4 + 1, none⟩ = some (.int .i64 ya) ∧ W.cell? ⟨b, off + k * 4 + 2, none⟩ = some (.int .i64 yb) ∧ W.cell? ⟨b, off + k * 4 + 3, none⟩ = some (.int .i64 yn) := fun W hW =>
        ⟨(hW.cell (p := ⟨b, _, none⟩) hblt).trans Hcs.out.1, (hW.cell (p := ⟨b, _, none⟩) hblt).trans Hcs.out.2.1, (hW.cell (p := ⟨b, _, none⟩) hblt).trans Hcs.out.2.2.1, (hW.cell (p := ⟨b, _, none⟩) hblt).trans Hcs.out.2.2.2⟩
      have Cs := Lib.hid cs
      clear hc hne hy hcs has cs
      obtain ⟨d0, d1, d2, d3⟩ := Cs.out _ HB.out.2.2
      by_cases h0 : yk = 0
      · subst h0
        go_wp2_with fail
        refine region_named 11 (by kernel_rfl) (by kernel_rfl) ?_
        intro w3 hw3
        have hB3 : Both w w3 w.heap.size (G + 1) G L := by rw [hw3]; exact HB.out.draw (grownBy_drew _ _)
        obtain ⟨d0, d1, d2, d3⟩ := Cs.out _ hB3.2.2
        have HB3 := Lib.hid hB3
        clear hw3 hB3
        simp only [List.take_succ_cons, List.take_zero, List.drop_succ_cons, List.drop_zero]
        repeat still_step
        refine wpStill_nil ?_
        go_wp2_with fail
        refine (refPut_any ya yn _ _ _ _ HB3.out.2.1).mono ?_
        rintro _ w4 ⟨rfl, hR4, hg4⟩
        have hact : Bank.put L ya yn = Bank.act L ⟨0, ya, yb, yn⟩ := by unfold Bank.act; rw [if_pos (.inl rfl)]
        rw [hact] at hR4 ⊢
        have hBk4 : BankAt w4 w.heap.size L := HB3.out.1.kept hg4 (by simp; omega)
        have hb4 := below_of_grown HB3.out.2.2 hg4 (by omega) HB3.out.2.2.size
        have HR4 := Lib.hid hR4
        have HBk4 := Lib.hid hBk4
        have Hb4 := Lib.hid hb4
        clear hact hR4 hg4 hBk4 hb4 d0 d1 d2 d3
        obtain ⟨d0, d1, d2, d3⟩ := Cs.out _ Hb4.out
        rcases hea : Bank.act L ⟨0, ya, yb, yn⟩ with ⟨ea, L1⟩
        rw [hea] at HR4
        have Hea := Lib.hid hea
        clear hea
        go_wp2_with fail
        have cx := HR4.out.1.cell 0 (by simp)
        have hcx : w4.drew.cell? ⟨G + 1, 0, none⟩ = some (.slice (some ⟨G, 0, none⟩) 64 64) := cx
        have hS0 : w4.drew.cell? ⟨G + 1, 0, none⟩ = some (.slice (some ⟨G, 0, none⟩) 64 64) ∧ w4.drew.cell? ⟨b, off + k * 4, none⟩ = some (.int .i64 0) ∧ w4.drew.cell? ⟨b, off + k * 4 + 1, none⟩ = some (.int .i64 ya) ∧ w4.drew.cell? ⟨b, off + k * 4 + 2, none⟩ = some (.int .i64 yb) ∧ w4.drew.cell? ⟨b, off + k * 4 + 3, none⟩ = some (.int .i64 yn) := ⟨hcx, d0, d1, d2, d3⟩
        have hbw : some b ≠ some w.heap.size := by simp; omega
        have hxw : some (G + 1) ≠ some w.heap.size := by simp; omega
        have hD : BankAt w4.drew w.heap.size L := HBk4.out.kept (grownBy_drew _ none) (by simp)
        have Hdo : Hid (∀ W, BankAt W w.heap.size L → Calls Try.prog 14 #[.pointer (some ⟨w.heap.size, 0, none⟩), .agg #[.int .i64 0, .int .i64 ya, .int .i64 yb, .int .i64 yn]] W fun e w' =>
            e = .returned (.int .i64 ea) ∧ BankAt w' w.heap.size L1 ∧ W.grownBy w' (some w.heap.size)) := fun W hW => by
          have := do_any ⟨0, ya, yb, yn⟩ W _ L hW
          rw [Hea.out] at this
          exact this
        have hRd : RefAt w4.drew (G + 1) G L1 := HR4.out.kept (grownBy_drew _ none) (by simp) (by simp)
        have hbd : Below w.heap.size w w4.drew := Hb4.out.drew
        have hGw : G ≠ w.heap.size := by omega
        clear d0 d1 d2 d3 cx hcx
        go_region_held3 (fun w' => w'.cell? ⟨G + 1, 0, none⟩ = some (.slice (some ⟨G, 0, none⟩) 64 64) ∧ w'.cell? ⟨b, off + k * 4, none⟩ = some (.int .i64 0) ∧ w'.cell? ⟨b, off + k * 4 + 1, none⟩ = some (.int .i64 ya) ∧ w'.cell? ⟨b, off + k * 4 + 2, none⟩ = some (.int .i64 yb) ∧ w'.cell? ⟨b, off + k * 4 + 3, none⟩ = some (.int .i64 yn))
          (first | assumption | exact hS0 | (exact five_step (by assumption) (by assumption) hxw hbw) | (exact five_step (by assumption) (by assumption) (by simp) (by simp)))
          (first
            | (go_at_call 14; with_reducible refine Calls.mono (Hdo.out _ (by assumption)) ?_; rintro e w' ⟨rfl, hBd, hgd⟩)
            | (go_at_call 16; with_reducible refine Calls.mono (bankAll_any _ _ _ (by assumption)) ?_; rintro e w' ⟨rfl, hSa, hga⟩)
            | (go_at_call 15; with_reducible refine Calls.mono (num_step hRd (by assumption) (by assumption) (by assumption) hGw) ?_; rintro e w' ⟨rfl, n9, rfl⟩))
        have hfin := fun n => fin_step hRd hbd (by assumption) (by assumption) (by assumption) (show G + 1 ≠ w.heap.size by omega) hGw (Nat.le_refl _) n
        go_wp2_with fail
        refine ⟨⟨k + 1, hlt, hlt2, by go_num, ?_⟩, by simp [intOf]; omega⟩
        have hfin' := hfin n9
        rw [Has.out, Hea.out]
        exact hfin'
      · have hk0 : (yk == 0) = false := by simpa using h0
        by_cases h1 : yk = 1
        · subst h1
          clear h0
          go_wp2_with fail
          refine region_named 11 (by kernel_rfl) (by kernel_rfl) ?_
          intro w3 hw3
          have hB3 : Both w w3 w.heap.size (G + 1) G L := by rw [hw3]; exact HB.out.draw (grownBy_drew _ _)
          obtain ⟨d0, d1, d2, d3⟩ := Cs.out _ hB3.2.2
          have HB3 := Lib.hid hB3
          clear hw3 hB3
          simp only [List.take_succ_cons, List.take_zero, List.drop_succ_cons, List.drop_zero]
          repeat still_step
          refine wpStill_nil ?_
          go_wp2_with fail
          refine (refPut_any ya yn _ _ _ _ HB3.out.2.1).mono ?_
          rintro _ w4 ⟨rfl, hR4, hg4⟩
          have hact : Bank.put L ya yn = Bank.act L ⟨1, ya, yb, yn⟩ := by unfold Bank.act; rw [if_pos (.inr rfl)]
          rw [hact] at hR4 ⊢
          have hBk4 : BankAt w4 w.heap.size L := HB3.out.1.kept hg4 (by simp; omega)
          have hb4 := below_of_grown HB3.out.2.2 hg4 (by omega) HB3.out.2.2.size
          have HR4 := Lib.hid hR4
          have HBk4 := Lib.hid hBk4
          have Hb4 := Lib.hid hb4
          clear hact hR4 hg4 hBk4 hb4 d0 d1 d2 d3
          obtain ⟨d0, d1, d2, d3⟩ := Cs.out _ Hb4.out
          rcases hea : Bank.act L ⟨1, ya, yb, yn⟩ with ⟨ea, L1⟩
          rw [hea] at HR4
          have Hea := Lib.hid hea
          clear hea
          go_wp2_with fail
          have cx := HR4.out.1.cell 0 (by simp)
          have hcx : w4.drew.cell? ⟨G + 1, 0, none⟩ = some (.slice (some ⟨G, 0, none⟩) 64 64) := cx
          have hS0 : w4.drew.cell? ⟨G + 1, 0, none⟩ = some (.slice (some ⟨G, 0, none⟩) 64 64) ∧ w4.drew.cell? ⟨b, off + k * 4, none⟩ = some (.int .i64 1) ∧ w4.drew.cell? ⟨b, off + k * 4 + 1, none⟩ = some (.int .i64 ya) ∧ w4.drew.cell? ⟨b, off + k * 4 + 2, none⟩ = some (.int .i64 yb) ∧ w4.drew.cell? ⟨b, off + k * 4 + 3, none⟩ = some (.int .i64 yn) := ⟨hcx, d0, d1, d2, d3⟩
          have hbw : some b ≠ some w.heap.size := by simp; omega
          have hxw : some (G + 1) ≠ some w.heap.size := by simp; omega
          have hD : BankAt w4.drew w.heap.size L := HBk4.out.kept (grownBy_drew _ none) (by simp)
          have Hdo : Hid (∀ W, BankAt W w.heap.size L → Calls Try.prog 14 #[.pointer (some ⟨w.heap.size, 0, none⟩), .agg #[.int .i64 1, .int .i64 ya, .int .i64 yb, .int .i64 yn]] W fun e w' =>
              e = .returned (.int .i64 ea) ∧ BankAt w' w.heap.size L1 ∧ W.grownBy w' (some w.heap.size)) := fun W hW => by
            have := do_any ⟨1, ya, yb, yn⟩ W _ L hW
            rw [Hea.out] at this
            exact this
          have hRd : RefAt w4.drew (G + 1) G L1 := HR4.out.kept (grownBy_drew _ none) (by simp) (by simp)
          have hbd : Below w.heap.size w w4.drew := Hb4.out.drew
          have hGw : G ≠ w.heap.size := by omega
          clear d0 d1 d2 d3 cx hcx
          go_region_held3 (fun w' => w'.cell? ⟨G + 1, 0, none⟩ = some (.slice (some ⟨G, 0, none⟩) 64 64) ∧ w'.cell? ⟨b, off + k * 4, none⟩ = some (.int .i64 1) ∧ w'.cell? ⟨b, off + k * 4 + 1, none⟩ = some (.int .i64 ya) ∧ w'.cell? ⟨b, off + k * 4 + 2, none⟩ = some (.int .i64 yb) ∧ w'.cell? ⟨b, off + k * 4 + 3, none⟩ = some (.int .i64 yn))
            (first | assumption | exact hS0 | (exact five_step (by assumption) (by assumption) hxw hbw) | (exact five_step (by assumption) (by assumption) (by simp) (by simp)))
            (first
              | (go_at_call 14; with_reducible refine Calls.mono (Hdo.out _ (by assumption)) ?_; rintro e w' ⟨rfl, hBd, hgd⟩)
              | (go_at_call 16; with_reducible refine Calls.mono (bankAll_any _ _ _ (by assumption)) ?_; rintro e w' ⟨rfl, hSa, hga⟩)
              | (go_at_call 15; with_reducible refine Calls.mono (num_step hRd (by assumption) (by assumption) (by assumption) hGw) ?_; rintro e w' ⟨rfl, n9, rfl⟩))
          have hfin := fun n => fin_step hRd hbd (by assumption) (by assumption) (by assumption) (show G + 1 ≠ w.heap.size by omega) hGw (Nat.le_refl _) n
          go_wp2_with fail
          refine ⟨⟨k + 1, hlt, hlt2, by go_num, ?_⟩, by simp [intOf]; omega⟩
          have hfin' := hfin n9
          rw [Has.out, Hea.out]
          exact hfin'
        · have hk1 : (yk == 1) = false := by simpa using h1
          by_cases h2 : yk = 2
          · subst h2
            clear h0 h1
            go_wp2_with fail
            refine region_named 11 (by kernel_rfl) (by kernel_rfl) ?_
            intro w3 hw3
            have hB3 : Both w w3 w.heap.size (G + 1) G L := by rw [hw3]; exact HB.out.draw (grownBy_drew _ _)
            obtain ⟨d0, d1, d2, d3⟩ := Cs.out _ hB3.2.2
            have HB3 := Lib.hid hB3
            clear hw3 hB3
            simp only [List.take_succ_cons, List.take_zero, List.drop_succ_cons, List.drop_zero]
            repeat still_step
            refine wpStill_nil ?_
            go_wp2_with fail
            refine (refTake_any ya yn _ _ _ _ HB3.out.2.1).mono ?_
            rintro _ w4 ⟨rfl, hR4, hg4⟩
            have hact : Bank.take L ya yn = Bank.act L ⟨2, ya, yb, yn⟩ := by unfold Bank.act; rw [if_neg (by intro h; rcases h with h | h <;> simp at h), if_pos rfl]
            rw [hact] at hR4 ⊢
            have hBk4 : BankAt w4 w.heap.size L := HB3.out.1.kept hg4 (by simp; omega)
            have hb4 := below_of_grown HB3.out.2.2 hg4 (by omega) HB3.out.2.2.size
            have HR4 := Lib.hid hR4
            have HBk4 := Lib.hid hBk4
            have Hb4 := Lib.hid hb4
            clear hact hR4 hg4 hBk4 hb4 d0 d1 d2 d3
            obtain ⟨d0, d1, d2, d3⟩ := Cs.out _ Hb4.out
            rcases hea : Bank.act L ⟨2, ya, yb, yn⟩ with ⟨ea, L1⟩
            rw [hea] at HR4
            have Hea := Lib.hid hea
            clear hea
            go_wp2_with fail
            have cx := HR4.out.1.cell 0 (by simp)
            have hcx : w4.drew.cell? ⟨G + 1, 0, none⟩ = some (.slice (some ⟨G, 0, none⟩) 64 64) := cx
            have hS0 : w4.drew.cell? ⟨G + 1, 0, none⟩ = some (.slice (some ⟨G, 0, none⟩) 64 64) ∧ w4.drew.cell? ⟨b, off + k * 4, none⟩ = some (.int .i64 2) ∧ w4.drew.cell? ⟨b, off + k * 4 + 1, none⟩ = some (.int .i64 ya) ∧ w4.drew.cell? ⟨b, off + k * 4 + 2, none⟩ = some (.int .i64 yb) ∧ w4.drew.cell? ⟨b, off + k * 4 + 3, none⟩ = some (.int .i64 yn) := ⟨hcx, d0, d1, d2, d3⟩
            have hbw : some b ≠ some w.heap.size := by simp; omega
            have hxw : some (G + 1) ≠ some w.heap.size := by simp; omega
            have hD : BankAt w4.drew w.heap.size L := HBk4.out.kept (grownBy_drew _ none) (by simp)
            have Hdo : Hid (∀ W, BankAt W w.heap.size L → Calls Try.prog 14 #[.pointer (some ⟨w.heap.size, 0, none⟩), .agg #[.int .i64 2, .int .i64 ya, .int .i64 yb, .int .i64 yn]] W fun e w' =>
                e = .returned (.int .i64 ea) ∧ BankAt w' w.heap.size L1 ∧ W.grownBy w' (some w.heap.size)) := fun W hW => by
              have := do_any ⟨2, ya, yb, yn⟩ W _ L hW
              rw [Hea.out] at this
              exact this
            have hRd : RefAt w4.drew (G + 1) G L1 := HR4.out.kept (grownBy_drew _ none) (by simp) (by simp)
            have hbd : Below w.heap.size w w4.drew := Hb4.out.drew
            have hGw : G ≠ w.heap.size := by omega
            clear d0 d1 d2 d3 cx hcx
            go_region_held3 (fun w' => w'.cell? ⟨G + 1, 0, none⟩ = some (.slice (some ⟨G, 0, none⟩) 64 64) ∧ w'.cell? ⟨b, off + k * 4, none⟩ = some (.int .i64 2) ∧ w'.cell? ⟨b, off + k * 4 + 1, none⟩ = some (.int .i64 ya) ∧ w'.cell? ⟨b, off + k * 4 + 2, none⟩ = some (.int .i64 yb) ∧ w'.cell? ⟨b, off + k * 4 + 3, none⟩ = some (.int .i64 yn))
              (first | assumption | exact hS0 | (exact five_step (by assumption) (by assumption) hxw hbw) | (exact five_step (by assumption) (by assumption) (by simp) (by simp)))
              (first
                | (go_at_call 14; with_reducible refine Calls.mono (Hdo.out _ (by assumption)) ?_; rintro e w' ⟨rfl, hBd, hgd⟩)
                | (go_at_call 16; with_reducible refine Calls.mono (bankAll_any _ _ _ (by assumption)) ?_; rintro e w' ⟨rfl, hSa, hga⟩)
                | (go_at_call 15; with_reducible refine Calls.mono (num_step hRd (by assumption) (by assumption) (by assumption) hGw) ?_; rintro e w' ⟨rfl, n9, rfl⟩))
            have hfin := fun n => fin_step hRd hbd (by assumption) (by assumption) (by assumption) (show G + 1 ≠ w.heap.size by omega) hGw (Nat.le_refl _) n
            go_wp2_with fail
            refine ⟨⟨k + 1, hlt, hlt2, by go_num, ?_⟩, by simp [intOf]; omega⟩
            have hfin' := hfin n9
            rw [Has.out, Hea.out]
            exact hfin'
          · have hk2' : (yk == 2) = false := by simpa using h2
            have h012 : Hid (¬ (yk = 0 ∨ yk = 1) ∧ yk ≠ 2) := ⟨by rintro (h | h) <;> contradiction, h2⟩
            clear h0 h1 h2
            go_wp2_with fail
            refine region_named 16 (by kernel_rfl) (by kernel_rfl) ?_
            intro w3 hw3
            have hB3 : Both w w3 w.heap.size (G + 1) G L := by rw [hw3]; exact HB.out.draw (grownBy_drew _ _)
            obtain ⟨d0, d1, d2, d3⟩ := Cs.out _ hB3.2.2
            have HB3 := Lib.hid hB3
            clear hw3 hB3
            simp only [List.take_succ_cons, List.take_zero, List.drop_succ_cons, List.drop_zero]
            repeat still_step
            refine wpStill_nil ?_
            go_wp2_with fail
            refine (refMove_any ya yb yn _ _ _ _ HB3.out.2.1).mono ?_
            rintro _ w4 ⟨rfl, hR4, hg4⟩
            have hact : Bank.move L ya yb yn = Bank.act L ⟨yk, ya, yb, yn⟩ := by unfold Bank.act; rw [if_neg h012.out.1, if_neg h012.out.2]
            rw [hact] at hR4 ⊢
            have hBk4 : BankAt w4 w.heap.size L := HB3.out.1.kept hg4 (by simp; omega)
            have hb4 := below_of_grown HB3.out.2.2 hg4 (by omega) HB3.out.2.2.size
            have HR4 := Lib.hid hR4
            have HBk4 := Lib.hid hBk4
            have Hb4 := Lib.hid hb4
            clear hact hR4 hg4 hBk4 hb4 d0 d1 d2 d3
            obtain ⟨d0, d1, d2, d3⟩ := Cs.out _ Hb4.out
            rcases hea : Bank.act L ⟨yk, ya, yb, yn⟩ with ⟨ea, L1⟩
            rw [hea] at HR4
            have Hea := Lib.hid hea
            clear hea
            go_wp2_with fail
            have cx := HR4.out.1.cell 0 (by simp)
            have hcx : w4.drew.cell? ⟨G + 1, 0, none⟩ = some (.slice (some ⟨G, 0, none⟩) 64 64) := cx
            have hS0 : w4.drew.cell? ⟨G + 1, 0, none⟩ = some (.slice (some ⟨G, 0, none⟩) 64 64) ∧ w4.drew.cell? ⟨b, off + k * 4, none⟩ = some (.int .i64 yk) ∧ w4.drew.cell? ⟨b, off + k * 4 + 1, none⟩ = some (.int .i64 ya) ∧ w4.drew.cell? ⟨b, off + k * 4 + 2, none⟩ = some (.int .i64 yb) ∧ w4.drew.cell? ⟨b, off + k * 4 + 3, none⟩ = some (.int .i64 yn) := ⟨hcx, d0, d1, d2, d3⟩
            have hbw : some b ≠ some w.heap.size := by simp; omega
            have hxw : some (G + 1) ≠ some w.heap.size := by simp; omega
            have hD : BankAt w4.drew w.heap.size L := HBk4.out.kept (grownBy_drew _ none) (by simp)
            have Hdo : Hid (∀ W, BankAt W w.heap.size L → Calls Try.prog 14 #[.pointer (some ⟨w.heap.size, 0, none⟩), .agg #[.int .i64 yk, .int .i64 ya, .int .i64 yb, .int .i64 yn]] W fun e w' =>
                e = .returned (.int .i64 ea) ∧ BankAt w' w.heap.size L1 ∧ W.grownBy w' (some w.heap.size)) := fun W hW => by
              have := do_any ⟨yk, ya, yb, yn⟩ W _ L hW
              rw [Hea.out] at this
              exact this
            have hRd : RefAt w4.drew (G + 1) G L1 := HR4.out.kept (grownBy_drew _ none) (by simp) (by simp)
            have hbd : Below w.heap.size w w4.drew := Hb4.out.drew
            have hGw : G ≠ w.heap.size := by omega
            clear d0 d1 d2 d3 cx hcx
            go_region_held3 (fun w' => w'.cell? ⟨G + 1, 0, none⟩ = some (.slice (some ⟨G, 0, none⟩) 64 64) ∧ w'.cell? ⟨b, off + k * 4, none⟩ = some (.int .i64 yk) ∧ w'.cell? ⟨b, off + k * 4 + 1, none⟩ = some (.int .i64 ya) ∧ w'.cell? ⟨b, off + k * 4 + 2, none⟩ = some (.int .i64 yb) ∧ w'.cell? ⟨b, off + k * 4 + 3, none⟩ = some (.int .i64 yn))
              (first | assumption | exact hS0 | (exact five_step (by assumption) (by assumption) hxw hbw) | (exact five_step (by assumption) (by assumption) (by simp) (by simp)))
              (first
                | (go_at_call 14; with_reducible refine Calls.mono (Hdo.out _ (by assumption)) ?_; rintro e w' ⟨rfl, hBd, hgd⟩)
                | (go_at_call 16; with_reducible refine Calls.mono (bankAll_any _ _ _ (by assumption)) ?_; rintro e w' ⟨rfl, hSa, hga⟩)
                | (go_at_call 15; with_reducible refine Calls.mono (num_step hRd (by assumption) (by assumption) (by assumption) hGw) ?_; rintro e w' ⟨rfl, n9, rfl⟩))
            have hfin := fun n => fin_step hRd hbd (by assumption) (by assumption) (by assumption) (show G + 1 ≠ w.heap.size by omega) hGw (Nat.le_refl _) n
            go_wp2_with fail
            refine ⟨⟨k + 1, hlt, hlt2, by go_num, ?_⟩, by simp [intOf]; omega⟩
            have hfin' := hfin n9
            rw [Has.out, Hea.out]
            exact hfin'
    · have hsel : ((k : Int) < (l.length : Int) ∧ decide (k < l.length) = true ∧ decide ((k : Int) < 200) = false) ∨ ((l.length : Int) ≤ (k : Int) ∧ decide (k < l.length) = false ∧ True) := by
        by_cases h : k < l.length
        · exact .inl ⟨by omega, by simp only [decide_eq_true_eq]; omega, by simp only [decide_eq_false_iff_not]; omega⟩
        · exact .inr ⟨by omega, by simp only [decide_eq_false_iff_not]; omega, trivial⟩
      generalize acts (l.take k) = L at *
      have hlen64 := HB.out.1.2.1
      have Hlen64 := Lib.hid hlen64
      clear hlen64 hlt
      have hwho : (ofV L who = 0 ∧ (who < 0 ∨ 0 ≤ who ∧ 63 < who)) ∨ (∃ q : Nat, who = (q : Int) ∧ q < 64) := by
        by_cases h : Bank.okW who = true
        · have := Bank.okW_iff.1 h
          exact .inr ⟨who.toNat, by omega, by omega⟩
        · refine .inl ⟨by unfold ofV; rw [if_neg h], ?_⟩
          rw [Bank.okW_iff] at h
          omega
      rcases hsel with ⟨hd0, hd1, hd2⟩ | ⟨hd0, hd1, hd2⟩
      all_goals
        rcases hwho with ⟨ho, hw | ⟨hw1, hw2⟩⟩ | ⟨q, rfl, hq⟩
        · have Ho := Lib.hid ho
          have hdw : decide (who < 0) = true := by simpa using hw
          clear ho
          go_wp2_with fail
          refine (bankOf_any _ _ _ _ HB.out.1).mono ?_
          rintro _ w5 ⟨rfl, rfl⟩
          rw [Ho.out]
          go_wp2_with fail
          go_ret
          exact ⟨rfl, HB.out.2.2⟩
        · have Ho := Lib.hid ho
          have hdw : decide (who < 0) = false := by simp only [decide_eq_false_iff_not]; omega
          have hdw2 : decide (63 < who) = true := by simpa using hw2
          clear ho
          go_wp2_with fail
          refine (bankOf_any _ _ _ _ HB.out.1).mono ?_
          rintro _ w5 ⟨rfl, rfl⟩
          rw [Ho.out]
          go_wp2_with fail
          go_ret
          exact ⟨rfl, HB.out.2.2⟩
        · have hqi : (q : Int) < 64 := by omega
          have hdw : decide ((q : Int) < 0) = false := by simp only [decide_eq_false_iff_not]; omega
          have hdw2 : decide (63 < (q : Int)) = false := by simp only [decide_eq_false_iff_not]; omega
          have hdw3 : decide (63 < q) = false := by simp only [decide_eq_false_iff_not]; omega
          have ho : ofV L (q : Int) = L.getD q 0 := by
            unfold ofV
            rw [if_pos (Bank.okW_iff.2 (by omega))]; rfl
          have cx := HB.out.cell0
          have cq := HB.out.2.1.2.1.num q (by rw [Hlen64.out]; exact hq)
          generalize L.getD q 0 = x at *
          have hof : ∀ n, Calls Try.prog 17 #[.pointer (some ⟨w.heap.size, 0, none⟩), .int .i64 (q : Int)] (wr.drewN n) fun e w' => e = .returned (.int .i64 x) ∧ wr.drewN n = w' := fun n => by
            have := bankOf_any (q : Int) (wr.drewN n) w.heap.size L (HB.out.1.kept (grownBy_drewN _ _ none) (by simp))
            rw [ho] at this
            exact this
          have Hof := Lib.hid hof
          clear ho hof
          go_wp2_with fail
          go_quiet ((with_reducible exact quiet_eq (Hof.out _)))
          go_wp2_with fail
          go_ret
          exact ⟨rfl, below_drewN' HB.out.2.2 _⟩
end Go.Proofs.Ytfkejndiobafeaa
