/- Layer 21: CutMakes. -/
import Derived.Test.YtncahgjmdeepeaaCutLaw1
import Derived.Laws.OwnMore
namespace Go.Proofs.Ytncahgjmdeepeaa
open Go.RowKit
set_option linter.unusedVariables false
set_option linter.unusedSimpArgs false

def Cut.pair (x : Rc) : Bool × ByteArray := (!decide (x.kind = 1), if x.kind = 1 then x.body else ByteArray.empty)
theorem Cut.parts_at : ∀ (l : List Rc) (k : Nat) (h : k < l.length), (Cut.parts l)[k * 2]? = some (.bool (Cut.pair l[k]).1) ∧ (Cut.parts l)[k * 2 + 1]? = some (.string (Cut.pair l[k]).2)
  | x :: l, 0, h => by simp [Cut.parts, Cut.part, Cut.pair]
  | x :: l, k + 1, h => by
    have ih := Cut.parts_at l k (by simpa using h)
    have e : Cut.parts (x :: l) = [.bool (Cut.pair x).1, .string (Cut.pair x).2] ++ Cut.parts l := by simp [Cut.parts, Cut.part, Cut.pair]
    rw [e]
    rw [show (k + 1) * 2 + 1 = (k * 2 + 1) + 2 by omega, show (k + 1) * 2 = k * 2 + 2 by omega]
    simpa using ih
theorem parts_row {w : World} {B : Nat} {t : TypeId} {l : List Rc} (h : Row w B t (Cut.parts l)) (k : Nat) (hk : k < l.length) : w.cell? ⟨B, k * 2, none⟩ = some (.bool (Cut.pair l[k]).1) ∧ w.cell? ⟨B, k * 2 + 1, none⟩ = some (.string (Cut.pair l[k]).2) := by
  obtain ⟨h1, h2⟩ := Cut.parts_at l k hk
  obtain ⟨l1, e1⟩ := List.getElem?_eq_some_iff.1 h1
  obtain ⟨l2, e2⟩ := List.getElem?_eq_some_iff.1 h2
  rw [h.cell _ l1, h.cell _ l2, e1, e2]
  exact ⟨rfl, rfl⟩
theorem parts_own {w : World} {base g cap n : Nat} {t : TypeId} {l : List Rc} (h : w.ownsRow base t 2 (.slice (some ⟨g, 0, none⟩) n cap) n (Cut.parts l)) (hn : n = l.length) (k : Nat) (hk : k < l.length) : w.cell? ⟨g, k * 2, none⟩ = some (.bool (Cut.pair l[k]).1) ∧ w.cell? ⟨g, k * 2 + 1, none⟩ = some (.string (Cut.pair l[k]).2) := by
  obtain ⟨h1, h2⟩ := Cut.parts_at l k hk
  exact ⟨(h.cellAt (k * 2) (by omega)).trans h1, (h.cellAt (k * 2 + 1) (by omega)).trans h2⟩
theorem ownsRow_below {w w' : World} {base size n : Nat} {e : TypeId} {v : Value} {xs : List Value} (h : w.ownsRow base e size v n xs) (hb : Below w.heap.size w w') : w'.ownsRow base e size v n xs :=
  h.kept (grownBy_of_below hb none) (by cases v.ownBlock <;> simp)
theorem two_below {w w1 w2 : World} (h1 : Below w.heap.size w w1) (h2 : Below w1.heap.size w1 w2) : Below w.heap.size w w2 := h1.grown (grownBy_of_below h2 none) h1.size (fun k hk => by cases hk)

set_option maxRecDepth 20000 in
set_option maxHeartbeats 1600000 in
theorem cutMakesLaw_no (A : Option Addr) (c : Nat) (l : List Rc) (sq first before count : Int) (w : World) (hl : RcsAt w A l) (hlen : l.length ≤ 8796093022208) (hno : Cut.okM first count l = false) :
    Calls Try.prog 5 #[.agg #[.int .i64 sq, .int .i64 first, .int .i64 before, .int .i64 count], .slice A l.length c] w fun e w' => e = .returned (.bool true) ∧ Below w.heap.size w w' := by
  have HL := Lib.hid hl
  have HN := Lib.hid hno
  have Hl := Lib.hid hlen
  clear hl hno hlen
  go_enter Try.func5, Try.ntmps5
  go_wp2_with fail
  refine (cutMake_no A c l sq first before count _ (HL.out.kept (grownBy_alloc _ _ none)) (Nat.le_trans Hl.out (by decide)) HN.out).mono ?_
  rintro _ w1 ⟨rfl, hb1⟩
  have hr0 : Row w1 w.heap.size 33 [.int .i64 sq, .int .i64 first, .int .i64 before, .int .i64 count] := (Row.new w _ _).kept (grownBy_of_below hb1 none) (by simp)
  have hl1 : RcsAt w1 A l := (HL.out.kept (grownBy_alloc _ _ none)).kept (grownBy_of_below hb1 none)
  have hb1' : Below w.heap.size w w1 := ((Below.refl w.heap.size w).alloc (Nat.le_refl _) _).grown (grownBy_of_below hb1 none) (by simp) (fun k hk => by cases hk)
  have c0 := hr0.cell 0 (by simp)
  have c1 := hr0.cell 1 (by simp)
  have c2 := hr0.cell 2 (by simp)
  have c3 := hr0.cell 3 (by simp)
  simp only [List.getElem_cons_zero, List.getElem_cons_succ] at c0 c1 c2 c3
  have HL1 := Lib.hid hl1
  have Hb1 := Lib.hid hb1'
  have hlt := hr0.lt
  clear hr0 hl1 hb1 hb1'
  go_wp2_with fail
  refine (refMake_no A c l sq first before count _ (HL1.out.kept (grownBy_alloc _ _ none)) (Nat.le_trans Hl.out (by decide)) HN.out).mono ?_
  rintro _ w2 ⟨rfl, hb2⟩
  have hx2 : Row w2 w1.heap.size 36 [.int .i64 0, .int .i64 0, .int .i64 0, .slice none 0 0] := (Row.new w1 _ _).kept (grownBy_of_below hb2 none) (by simp)
  have hb2' : Below w.heap.size w w2 := (Hb1.out.alloc Hb1.out.size _).grown (grownBy_of_below hb2 none) (by have := Hb1.out.size; simp; omega) (fun k hk => by cases hk)
  have hlt2 := hx2.lt
  have Hx2 := Lib.hid hx2
  have Hb2 := Lib.hid hb2'
  clear hx2 hb2 hb2' c0 c1 c2 c3
  go_wp2_with fail
  refine (awake_any _).mono ?_
  rintro _ w3 ⟨rfl, hb3⟩
  have hg3 := grownBy_of_below hb3 none
  have hx3 : Row w3 w1.heap.size 36 [.int .i64 0, .int .i64 0, .int .i64 0, .slice none 0 0] := (Hx2.out.kept (grownBy_alloc _ _ none) (by simp)).kept hg3 (by simp)
  have hy3 : Row w3 w2.heap.size 36 [.int .i64 0, .int .i64 0, .int .i64 0, .slice none 0 0] := (Row.new w2 _ _).kept hg3 (by simp)
  have hb3' : Below w.heap.size w w3 := (Hb2.out.alloc Hb2.out.size _).grown hg3 (by have := Hb2.out.size; simp; omega) (fun k hk => by cases hk)
  have hlt3 := hx3.lt
  have hlt4 := hy3.lt
  have x0 := hx3.cell 0 (by simp)
  have x1 := hx3.cell 1 (by simp)
  have x2 := hx3.cell 2 (by simp)
  have x3 := hx3.cell 3 (by simp)
  have y0 := hy3.cell 0 (by simp)
  have y1 := hy3.cell 1 (by simp)
  have y2 := hy3.cell 2 (by simp)
  have y3 := hy3.cell 3 (by simp)
  simp only [List.getElem_cons_zero, List.getElem_cons_succ] at x0 x1 x2 x3 y0 y1 y2 y3
  have Hb3 := Lib.hid hb3'
  clear hb3 hg3 hx3 hy3 hb3'
  go_wp2_with fail
  refine (batches_none 0 0 0 _).mono ?_
  rintro _ w4 ⟨rfl, hb4⟩
  have Hb4 := Lib.hid (two_below Hb3.out hb4)
  clear hb4
  go_wp2_with fail
  go_ret
  exact ⟨rfl, Hb4.out⟩

set_option maxRecDepth 20000 in
set_option maxHeartbeats 1600000 in
theorem cutMakesLaw_ok (A : Option Addr) (c : Nat) (l : List Rc) (sq first before count : Int) (w : World) (hl : RcsAt w A l) (hlen : l.length ≤ 8796093022208) (hno : Cut.okM first count l = true) :
    Calls Try.prog 5 #[.agg #[.int .i64 sq, .int .i64 first, .int .i64 before, .int .i64 count], .slice A l.length c] w fun e w' => e = .returned (.bool true) ∧ Below w.heap.size w w' := by
  have HL := Lib.hid hl
  have HN := Lib.hid hno
  have hl0 : 0 < l.length := by
    cases l with
    | nil => cases hno
    | cons x l => simp
  have Hl := Lib.hid hlen
  clear hl hno hlen
  go_enter Try.func5, Try.ntmps5
  go_wp2_with fail
  refine (cutMake_ok A c l sq first before count _ (HL.out.kept (grownBy_alloc _ _ none)) Hl.out HN.out).mono ?_
  rintro _ w1 ⟨B, rfl, hB, hrB, hb1⟩
  have HB1 := Lib.hid hrB
  clear hB hrB
  have hr0 : Row w1 w.heap.size 33 [.int .i64 sq, .int .i64 first, .int .i64 before, .int .i64 count] := (Row.new w _ _).kept (grownBy_of_below hb1 none) (by simp)
  have hl1 : RcsAt w1 A l := (HL.out.kept (grownBy_alloc _ _ none)).kept (grownBy_of_below hb1 none)
  have hb1' : Below w.heap.size w w1 := ((Below.refl w.heap.size w).alloc (Nat.le_refl _) _).grown (grownBy_of_below hb1 none) (by simp) (fun k hk => by cases hk)
  have c0 := hr0.cell 0 (by simp)
  have c1 := hr0.cell 1 (by simp)
  have c2 := hr0.cell 2 (by simp)
  have c3 := hr0.cell 3 (by simp)
  simp only [List.getElem_cons_zero, List.getElem_cons_succ] at c0 c1 c2 c3
  have HL1 := Lib.hid hl1
  have Hb1 := Lib.hid hb1'
  have hlt := hr0.lt
  clear hr0 hl1 hb1 hb1'
  go_wp2_with fail
  refine (refMake_ok A c l sq first before count _ (HL1.out.kept (grownBy_alloc _ _ none)) Hl.out HN.out).mono ?_
  rintro _ w2 ⟨v, rfl, hown, hb2⟩
  obtain ⟨g, cap, rfl⟩ : ∃ g cap, v = .slice (some ⟨g, 0, none⟩) l.length cap := by
    obtain ⟨m, hm⟩ : ∃ m, l.length = m + 1 := ⟨l.length - 1, by omega⟩
    rw [hm] at hown ⊢
    exact ownsRow_succ hown
  have hg := (hown.lt g rfl).2
  have hB2 : Row w2 B 46 (Cut.parts l) := (HB1.out.kept (grownBy_alloc _ _ none) (by simp)).kept (grownBy_of_below hb2 none) (by simp)
  have HB2 := Lib.hid hB2
  have Hown := Lib.hid hown
  have hx2 : Row w2 w1.heap.size 36 [.int .i64 sq, .int .i64 first, .int .i64 before, .slice (some ⟨B, 0, none⟩) l.length l.length] := (Row.new w1 _ _).kept (grownBy_of_below hb2 none) (by simp)
  have hb2' : Below w.heap.size w w2 := (Hb1.out.alloc Hb1.out.size _).grown (grownBy_of_below hb2 none) (by have := Hb1.out.size; simp; omega) (fun k hk => by cases hk)
  have hlt2 := hx2.lt
  have Hx2 := Lib.hid hx2
  have Hb2 := Lib.hid hb2'
  clear hx2 hb2 hb2' c0 c1 c2 c3 hown hB2 hg
  go_wp2_with fail
  refine (awake_any _).mono ?_
  rintro _ w3 ⟨rfl, hb3⟩
  have hg3 := grownBy_of_below hb3 none
  have hx3 : Row w3 w1.heap.size 36 [.int .i64 sq, .int .i64 first, .int .i64 before, .slice (some ⟨B, 0, none⟩) l.length l.length] := (Hx2.out.kept (grownBy_alloc _ _ none) (by simp)).kept hg3 (by simp)
  have hy3 : Row w3 w2.heap.size 36 [.int .i64 sq, .int .i64 first, .int .i64 before, .slice (some ⟨g, 0, none⟩) l.length cap] := (Row.new w2 _ _).kept hg3 (by simp)
  have hb3' : Below w.heap.size w w3 := (Hb2.out.alloc Hb2.out.size _).grown hg3 (by have := Hb2.out.size; simp; omega) (fun k hk => by cases hk)
  have hlt3 := hx3.lt
  have hlt4 := hy3.lt
  have x0 := hx3.cell 0 (by simp)
  have x1 := hx3.cell 1 (by simp)
  have x2 := hx3.cell 2 (by simp)
  have x3 := hx3.cell 3 (by simp)
  have y0 := hy3.cell 0 (by simp)
  have y1 := hy3.cell 1 (by simp)
  have y2 := hy3.cell 2 (by simp)
  have y3 := hy3.cell 3 (by simp)
  simp only [List.getElem_cons_zero, List.getElem_cons_succ] at x0 x1 x2 x3 y0 y1 y2 y3
  have hB3 : Row w3 B 46 (Cut.parts l) := (HB2.out.kept (grownBy_alloc _ _ none) (by simp)).kept hg3 (by simp)
  have hown3 := ownsRow_below (Hown.out.alloc _) hb3
  have hp : ∀ k (h : k < (l.map Cut.pair).length), w3.cell? ⟨B, k * 2, none⟩ = some (.bool (l.map Cut.pair)[k].1) ∧ w3.cell? ⟨B, k * 2 + 1, none⟩ = some (.string (l.map Cut.pair)[k].2) ∧ w3.cell? ⟨g, k * 2, none⟩ = some (.bool (l.map Cut.pair)[k].1) ∧ w3.cell? ⟨g, k * 2 + 1, none⟩ = some (.string (l.map Cut.pair)[k].2) := by
    intro k hk
    have hk' : k < l.length := by simpa using hk
    rw [List.getElem_map]
    obtain ⟨p1, p2⟩ := parts_row hB3 k hk'
    obtain ⟨p3, p4⟩ := parts_own hown3 rfl k hk'
    exact ⟨p1, p2, p3, p4⟩
  have hBlt := hB3.lt
  have hglt := (hown3.lt g rfl).2
  have Hp := Lib.hid hp
  clear hp hB3 hown3
  have Hb3 := Lib.hid hb3'
  clear hb3 hg3 hx3 hy3 hb3'
  go_wp2_with fail
  refine (batches_same sq first before B g l.length l.length cap (l.map Cut.pair) _ (by simp) (Nat.le_trans Hl.out (by decide)) hBlt hglt Hp.out).mono ?_
  rintro _ w4 ⟨rfl, hb4⟩
  have Hb4 := Lib.hid (two_below Hb3.out hb4)
  clear hb4
  go_wp2_with fail
  go_ret
  exact ⟨rfl, Hb4.out⟩

theorem cutMakesLaw_any (A : Option Addr) (c : Nat) (l : List Rc) (sq first before count : Int) (w : World) (hl : RcsAt w A l) (hlen : l.length ≤ 8796093022208) :
    Calls Try.prog 5 #[.agg #[.int .i64 sq, .int .i64 first, .int .i64 before, .int .i64 count], .slice A l.length c] w fun e w' => e = .returned (.bool true) ∧ Below w.heap.size w w' := by
  rcases Bool.eq_false_or_eq_true (Cut.okM first count l) with h | h
  · exact cutMakesLaw_ok A c l sq first before count w hl hlen h
  · exact cutMakesLaw_no A c l sq first before count w hl hlen h
end Go.Proofs.Ytncahgjmdeepeaa
