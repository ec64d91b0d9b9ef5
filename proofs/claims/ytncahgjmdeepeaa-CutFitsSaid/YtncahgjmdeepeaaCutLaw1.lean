/- Layer 21: CutFits, CutDues. -/
import Derived.Test.YtncahgjmdeepeaaCutAwk
import Derived.Test.YtncahgjmdeepeaaCutRefD
namespace Go.Proofs.Ytncahgjmdeepeaa
open Go.RowKit
set_option linter.unusedVariables false
set_option linter.unusedSimpArgs false

theorem below_of_grown {w w' : World} (h : w.grownBy w' none) : Below w.heap.size w w' := (Below.refl w.heap.size w).grown h (Nat.le_refl _) (fun k hk => by cases hk)
theorem rules_step {w0 w w' : World} {r : Nat} {A : Option Addr} {v0 v1 v2 v3 : Value} {l : List Rc}
    (h : RcsAt w A l ∧ Below w0.heap.size w0 w ∧ w.cell? ⟨r, 0, none⟩ = some v0 ∧ w.cell? ⟨r, 1, none⟩ = some v1 ∧ w.cell? ⟨r, 2, none⟩ = some v2 ∧ w.cell? ⟨r, 3, none⟩ = some v3)
    (hb : Below w.heap.size w w') :
    RcsAt w' A l ∧ Below w0.heap.size w0 w' ∧ w'.cell? ⟨r, 0, none⟩ = some v0 ∧ w'.cell? ⟨r, 1, none⟩ = some v1 ∧ w'.cell? ⟨r, 2, none⟩ = some v2 ∧ w'.cell? ⟨r, 3, none⟩ = some v3 := by
  have hg := grownBy_of_below hb none
  have hc : ∀ {b o v}, w.cell? ⟨b, o, none⟩ = some v → w'.cell? ⟨b, o, none⟩ = some v := fun h => hg.cell h (by simp)
  exact ⟨h.1.kept hg, h.2.1.grown hg h.2.1.size (fun k hk => by cases hk), hc h.2.2.1, hc h.2.2.2.1, hc h.2.2.2.2.1, hc h.2.2.2.2.2⟩
theorem rules_start {w : World} {A : Option Addr} {l : List Rc} {a b c d : Value} (hl : RcsAt w A l) :
    RcsAt (w.alloc (.cells #[a, b, c, d] 24)).drew A l ∧ Below w.heap.size w (w.alloc (.cells #[a, b, c, d] 24)).drew ∧ (w.alloc (.cells #[a, b, c, d] 24)).drew.cell? ⟨w.heap.size, 0, none⟩ = some a ∧ (w.alloc (.cells #[a, b, c, d] 24)).drew.cell? ⟨w.heap.size, 1, none⟩ = some b ∧
      (w.alloc (.cells #[a, b, c, d] 24)).drew.cell? ⟨w.heap.size, 2, none⟩ = some c ∧ (w.alloc (.cells #[a, b, c, d] 24)).drew.cell? ⟨w.heap.size, 3, none⟩ = some d := by
  have hr : Row (w.alloc (.cells #[a, b, c, d] 24)).drew w.heap.size 24 [a, b, c, d] := (Row.new w _ [a, b, c, d]).kept (grownBy_drew _ none) (by simp)
  exact ⟨(hl.kept (grownBy_alloc _ _ none)).kept (grownBy_drew _ none), ((Below.refl w.heap.size w).alloc (Nat.le_refl _) _).drew, hr.cell 0 (by simp), hr.cell 1 (by simp), hr.cell 2 (by simp), hr.cell 3 (by simp)⟩

set_option maxRecDepth 20000 in
set_option maxHeartbeats 1600000 in
theorem cutFitsLaw_any (A : Option Addr) (c : Nat) (l : List Rc) (r : Cut.Rules) (w : World) (hl : RcsAt w A l) (hlen : l.length ≤ 9223372036854775807) :
    Calls Try.prog 3 #[.slice A l.length c, r.v] w fun e w' => e = .returned (.bool true) ∧ Below w.heap.size w w' := by
  obtain ⟨rp, rb, ra, rl⟩ := r
  have F1 : Hid (∀ W, RcsAt W A l → Calls Try.prog 11 #[.slice A l.length c, .agg #[.int .i64 rp, .int .i64 rb, .int .i64 ra, .int .i64 rl]] W fun e w' => e = .returned (.int .i64 (Cut.fits ⟨rp, rb, ra, rl⟩ (lens l))) ∧ Below W.heap.size W w') := fun W hW => cutFits_any A c l ⟨rp, rb, ra, rl⟩ W hW hlen
  have F2 : Hid (∀ W, RcsAt W A l → Calls Try.prog 12 #[.slice A l.length c, .agg #[.int .i64 rp, .int .i64 rb, .int .i64 ra, .int .i64 rl]] W fun e w' => e = .returned (.int .i64 (Cut.fits ⟨rp, rb, ra, rl⟩ (lens l))) ∧ Below W.heap.size W w') := fun W hW => refFits_any A c l ⟨rp, rb, ra, rl⟩ W hW hlen
  have C1 : Hid (∀ W, Calls Try.prog 9 #[.agg #[.int .i64 rp, .int .i64 rb, .int .i64 ra, .int .i64 rl]] W fun e w' => e = .returned (.int .i64 (checkE ⟨rp, rb, ra, rl⟩)) ∧ Below W.heap.size W w') := fun W => (check_any ⟨rp, rb, ra, rl⟩ W).mono fun _ _ h => ⟨h.1, below_of_grown h.2⟩
  have C2 : Hid (∀ W, Calls Try.prog 10 #[.agg #[.int .i64 rp, .int .i64 rb, .int .i64 ra, .int .i64 rl]] W fun e w' => e = .returned (.int .i64 (checkE ⟨rp, rb, ra, rl⟩)) ∧ Below W.heap.size W w') := fun W => (refCheck_any ⟨rp, rb, ra, rl⟩ W).mono fun _ _ h => ⟨h.1, below_of_grown h.2⟩
  have hS0 := rules_start (a := .int .i64 rp) (b := .int .i64 rb) (c := .int .i64 ra) (d := .int .i64 rl) hl
  generalize Cut.fits ⟨rp, rb, ra, rl⟩ (lens l) = n at *
  generalize checkE ⟨rp, rb, ra, rl⟩ = ce at *
  clear hl hlen
  unfold Cut.Rules.v
  simp only
  have HS0 := Lib.hid hS0
  clear hS0
  go_enter Try.func3, Try.ntmps3
  go_wp2_with fail
  have hS0 := HS0.out
  go_region_held3 (fun W => RcsAt W A l ∧ Below w.heap.size w W ∧ W.cell? ⟨w.heap.size, 0, none⟩ = some (.int .i64 rp) ∧ W.cell? ⟨w.heap.size, 1, none⟩ = some (.int .i64 rb) ∧ W.cell? ⟨w.heap.size, 2, none⟩ = some (.int .i64 ra) ∧ W.cell? ⟨w.heap.size, 3, none⟩ = some (.int .i64 rl))
    (first | assumption | exact hS0 | (exact rules_step (by assumption) (by assumption)))
    (first
      | (go_at_call 8; with_reducible refine Calls.mono (awake_any _) ?_; rintro e w' ⟨rfl, hb⟩)
      | (go_at_call 9; with_reducible refine Calls.mono (C1.out _) ?_; rintro e w' ⟨rfl, hb⟩)
      | (go_at_call 10; with_reducible refine Calls.mono (C2.out _) ?_; rintro e w' ⟨rfl, hb⟩)
      | (go_at_call 11; with_reducible refine Calls.mono (F1.out _ (And.left (by assumption))) ?_; rintro e w' ⟨rfl, hb⟩)
      | (go_at_call 12; with_reducible refine Calls.mono (F2.out _ (And.left (by assumption))) ?_; rintro e w' ⟨rfl, hb⟩))
  have hB : Below w.heap.size w w' := snd_of (A := RcsAt w' A l) (by assumption)
  have HB := Lib.hid hB
  clear hB
  go_wp2_with fail
  go_ret
  exact ⟨rfl, HB.out⟩

set_option maxRecDepth 20000 in
set_option maxHeartbeats 1600000 in
theorem cutDuesLaw_any (A : Option Addr) (c : Nat) (l : List Rc) (now : Int) (r : Cut.Rules) (w : World) (hl : RcsAt w A l) (hlen : l.length ≤ 9223372036854775807) (hn : now ≤ 9223372036854775807) :
    Calls Try.prog 4 #[.slice A l.length c, .int .i64 now, r.v] w fun e w' => e = .returned (.bool true) ∧ Below w.heap.size w w' := by
  obtain ⟨rp, rb, ra, rl⟩ := r
  have F1 : Hid (∀ W, RcsAt W A l → Calls Try.prog 13 #[.slice A l.length c, .int .i64 now, .agg #[.int .i64 rp, .int .i64 rb, .int .i64 ra, .int .i64 rl]] W fun e w' => e = .returned (.int .i64 (Cut.due ⟨rp, rb, ra, rl⟩ now l)) ∧ Below W.heap.size W w') := fun W hW => cutDue_any A c l now ⟨rp, rb, ra, rl⟩ W hW hlen hn
  have F2 : Hid (∀ W, RcsAt W A l → Calls Try.prog 14 #[.slice A l.length c, .int .i64 now, .agg #[.int .i64 rp, .int .i64 rb, .int .i64 ra, .int .i64 rl]] W fun e w' => e = .returned (.int .i64 (Cut.due ⟨rp, rb, ra, rl⟩ now l)) ∧ Below W.heap.size W w') := fun W hW => refDue_any A c l now ⟨rp, rb, ra, rl⟩ W hW hlen hn
  have hS0 := rules_start (a := .int .i64 rp) (b := .int .i64 rb) (c := .int .i64 ra) (d := .int .i64 rl) hl
  generalize Cut.due ⟨rp, rb, ra, rl⟩ now l = n at *
  clear hl hlen hn
  unfold Cut.Rules.v
  simp only
  have HS0 := Lib.hid hS0
  clear hS0
  go_enter Try.func4, Try.ntmps4
  go_wp2_with fail
  have hS0 := HS0.out
  go_region_held3 (fun W => RcsAt W A l ∧ Below w.heap.size w W ∧ W.cell? ⟨w.heap.size, 0, none⟩ = some (.int .i64 rp) ∧ W.cell? ⟨w.heap.size, 1, none⟩ = some (.int .i64 rb) ∧ W.cell? ⟨w.heap.size, 2, none⟩ = some (.int .i64 ra) ∧ W.cell? ⟨w.heap.size, 3, none⟩ = some (.int .i64 rl))
    (first | assumption | exact hS0 | (exact rules_step (by assumption) (by assumption)))
    (first
      | (go_at_call 8; with_reducible refine Calls.mono (awake_any _) ?_; rintro e w' ⟨rfl, hb⟩)
      | (go_at_call 13; with_reducible refine Calls.mono (F1.out _ (And.left (by assumption))) ?_; rintro e w' ⟨rfl, hb⟩)
      | (go_at_call 14; with_reducible refine Calls.mono (F2.out _ (And.left (by assumption))) ?_; rintro e w' ⟨rfl, hb⟩))
  have hB : Below w.heap.size w w' := snd_of (A := RcsAt w' A l) (by assumption)
  have HB := Lib.hid hB
  clear hB
  go_wp2_with fail
  go_ret
  exact ⟨rfl, HB.out⟩
end Go.Proofs.Ytncahgjmdeepeaa
