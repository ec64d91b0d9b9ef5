/- The auction's book: its bids as plain data, and in memory. -/
import Derived.Test.YtlapmdgkcidhnaaDoorAuLaw3
import Derived.Test.YtlapmdgkcidhnaaDoorAppAt
import Derived.Maps.RangeWalk
import Derived.Maps.OwnSet
import Derived.Maps.Views
namespace Go.Proofs.YtlapmdgkcidhnaaDoor
open Go.RowKit Go.Maps
set_option linter.unusedVariables false
set_option linter.unusedSimpArgs false
set_option maxRecDepth 100000

namespace Au
/-- the bids of a round -/
def ofR (r : Int) (L : List Bd) : List Bd := L.filter fun b => b.round == r
def bidE (fl : Int) (L : List Bd) (x : Bd) (now : Int) : Int :=
  if x.check ≠ 0 then x.check else if x.round ≤ now then 26 else if x.amount < fl then 24 else if ((ofR x.round L).any fun y => y.who == x.who) = true then 23 else if 32 ≤ (ofR x.round L).length then 25 else 0
def bidL (fl : Int) (L : List Bd) (x : Bd) (now : Int) : List Bd := if bidE fl L x now = 0 then L ++ [x] else L
theorem ofR_push (r : Int) (L : List Bd) (x : Bd) : ofR r (L ++ [x]) = if x.round = r then ofR r L ++ [x] else ofR r L := by
  unfold ofR
  rw [List.filter_append]
  by_cases h : x.round = r
  · rw [if_pos h]; simp [h]
  · rw [if_neg h]; simp [h]
theorem ofR_round {r : Int} {L : List Bd} {b : Bd} (h : b ∈ ofR r L) : b.round = r ∧ b ∈ L := by
  unfold ofR at h
  rw [List.mem_filter] at h
  exact ⟨by simpa using h.2, h.1⟩
/-- what bids a book may have, behind n calls -/
structure BkOk (L : List Bd) (n : Nat) : Prop where
  len : L.length ≤ n
  fits : ∀ b ∈ L, b.Fits
  few : ∀ r, (ofR r L).length ≤ 32
theorem BkOk.mono {L : List Bd} {n m : Nat} (h : BkOk L n) (hm : n ≤ m) : BkOk L m := ⟨Nat.le_trans h.len hm, h.fits, h.few⟩
theorem BkOk.nil (n : Nat) : BkOk [] n := ⟨by simp, by simp, fun r => by simp [ofR]⟩
theorem BkOk.push {L : List Bd} {n : Nat} {x : Bd} (h : BkOk L n) (hx : x.Fits) (hl : (ofR x.round L).length < 32) : BkOk (L ++ [x]) (n + 1) :=
  ⟨by rw [List.length_append]; have := h.len; simp; omega, fun b hb => by
    rcases List.mem_append.1 hb with hb | hb
    · exact h.fits b hb
    · simp only [List.mem_singleton] at hb; subst hb; exact hx, fun r => by
    rw [ofR_push]
    split
    · next e => rw [e] at hl; rw [List.length_append]; simp; omega
    · exact h.few r⟩
end Au
def held15 (v : Value) : Option (DataW Value × List MemPlace) := some (.held v, [])
theorem lawI15 : Keyed Tryd.prog 3 := int_keyed Tryd.underlying3
abbrev K15 (x : Int) : Lit := .int .i64 x
theorem K15_ne {x y : Int} (h : x ≠ y) : K15 x ≠ K15 y := fun e => h (by injection e)
theorem wf15 {x : Int} (h0 : -9223372036854775808 ≤ x) (h1 : x ≤ 9223372036854775807) : (Lit.int .i64 x).wf = true := by
  simp [Lit.wf, IntKind.min, IntKind.max, IntKind.signed, IntKind.bits]
  omega
theorem key15 {x : Int} (h : Tx.fits x) : keyOf Tryd.prog 3 (.int .i64 x) = some (K15 x) := keyOf_int_mk (P := Tryd.prog) Tryd.underlying3 (wf15 h.1 h.2)
def Reads15 (D : DataW Value) (V : Int → Option Value) : Prop := IsMap D ∧ ∀ r, has D (K15 r) = (V r).isSome ∧ ∀ v, V r = some v → ∀ z, D.atKey (K15 r) z = .held v
theorem Reads15.empty : Reads15 (.map []) (fun _ => none) := ⟨isMap_empty, fun x => ⟨rfl, fun h e => by cases e⟩⟩
theorem Reads15.put {D : DataW Value} {V : Int → Option Value} (h : Reads15 D V) (r : Int) (v : Value) : Reads15 (D.put (K15 r) (.held v)) (fun y => if y = r then some v else V y) := by
  refine ⟨h.1.put _ _, fun y => ?_⟩
  by_cases hy : y = r
  · subst hy
    simp only [↓reduceIte]
    refine ⟨(has_put_same (k := K15 y) h.1 trivial _).trans rfl, fun c' e z => ?_⟩
    cases e
    exact atKey_put_same (k := K15 y) h.1 trivial _ _
  · simp only [if_neg hy]
    refine ⟨(has_put_other (K15_ne hy) _).trans (h.2 y).1, fun c' e z => ?_⟩
    rw [atKey_put_other (K15_ne hy)]
    exact (h.2 y).2 c' e z
theorem Reads15.del {D : DataW Value} {V : Int → Option Value} (h : Reads15 D V) (r : Int) : Reads15 (D.del (K15 r)) (fun y => if y = r then none else V y) := by
  refine ⟨h.1.del _, fun y => ?_⟩
  by_cases hy : y = r
  · subst hy
    simp only [↓reduceIte]
    exact ⟨has_del_same, fun c' e z => by cases e⟩
  · simp only [if_neg hy]
    refine ⟨(has_del_other (K15_ne hy)).trans (h.2 y).1, fun c' e z => ?_⟩
    rw [atKey_del_other (K15_ne hy)]
    exact (h.2 y).2 c' e z
theorem slice_zv (w : World) : (zeroValue 22).run Tryd.prog w = .ok (.slice none 0 0) w := by kernel_rfl
/-- what a look into the map gives -/
theorem run_look15 {w : World} {M n : Nat} {D : DataW Value} {V : Int → Option Value} (hown : w.ownsMap Tryd.prog 3 held15 M n D) (hV : Reads15 D V) (r : Int) (hr : Tx.fits r) :
    (Instr.lookup 104 (.map (some M)) (.int .i64 r) false).run Tryd.prog w = .ok ((V r).getD (.slice none 0 0)) w := by
  obtain ⟨es, clock, hb, F, _, rfl⟩ := hown
  rcases Maps.fit_look false lawI15 Tryd.underlying104 (slice_zv w) hb F (key15 hr) with ⟨hrun, _, hat⟩ | ⟨e0, y, _, _, hrun, hRv, hat, _⟩
  · rcases hf : V r with _ | f
    · rw [hrun]; rfl
    · have h1 := (hV.2 r).2 f hf .nil
      rw [hat] at h1
      cases h1
  · rcases hf : V r with _ | f
    · have h1 := (hV.2 r).1
      rw [hf, Maps.has_true_of_atKey hat] at h1
      cases h1
    · have h1 := (hV.2 r).2 f hf .nil
      rw [hat] at h1
      unfold held15 at hRv
      injection hRv with hRv
      rw [← hRv] at h1
      injection h1 with h1
      rw [hrun, h1]; rfl
/-- a book in memory: its block B, its map's M, its rounds' slices -/
structure BookAt (w : World) (base B M : Nat) (fl : Int) (V : Int → Option Value) (L : List Bd) (n : Nat) : Prop where
  row : Row w B 106 [.int .i64 fl, .map (some M)]
  map : ∃ D N, N ≤ n ∧ w.ownsMap Tryd.prog 3 held15 M N D ∧ Reads15 D V
  sl : ∀ r v, V r = some v → OwnL w base 30 36 Bd.cells v (Au.ofR r L) ∧ Au.ofR r L ≠ []
  no : ∀ r, V r = none → Au.ofR r L = []
  ok : Au.BkOk L n
  lo : base ≤ B ∧ base ≤ M
def BkS (B M : Nat) (V : Int → Option Value) (k : Nat) : Prop := k = B ∨ k = M ∨ ∃ r v, V r = some v ∧ v.ownBlock = some k
section
variable {w w' : World} {base B M n : Nat} {fl : Int} {V : Int → Option Value} {L : List Bd}
theorem BookAt.chg {S : Nat → Prop} (h : BookAt w base B M fl V L n) (hc : Chg S w w') (hS : ∀ k, BkS B M V k → ¬ S k) : BookAt w' base B M fl V L n := by
  obtain ⟨D, N, hN, hD, hR⟩ := h.map
  exact ⟨hc.row h.row (hS B (.inl rfl)), ⟨D, N, hN, hc.ownsMap hD (hS M (.inr (.inl rfl))), hR⟩, fun r v e => ⟨(h.sl r v e).1.chg hc (fun k hk => hS k (.inr (.inr ⟨r, v, e, hk⟩))), (h.sl r v e).2⟩, h.no, h.ok, h.lo⟩
theorem BookAt.below (h : BookAt w base B M fl V L n) (hb : Below w.heap.size w w') : BookAt w' base B M fl V L n := h.chg (S := fun _ => False) (Chg.of_below hb) (fun _ _ h => h)
theorem BookAt.mono {m : Nat} (h : BookAt w base B M fl V L n) (hm : n ≤ m) : BookAt w base B M fl V L m := by
  obtain ⟨D, N, hN, hD, hR⟩ := h.map
  exact ⟨h.row, ⟨D, N, by omega, hD, hR⟩, h.sl, h.no, h.ok.mono hm, h.lo⟩
theorem BookAt.c0 (h : BookAt w base B M fl V L n) : w.cell? ⟨B, 0, none⟩ = some (.int .i64 fl) := h.row.cell 0 (by simp)
theorem BookAt.c1 (h : BookAt w base B M fl V L n) : w.cell? ⟨B, 1, none⟩ = some (.map (some M)) := h.row.cell 1 (by simp)
theorem BookAt.look (h : BookAt w base B M fl V L n) (r : Int) (hr : Tx.fits r) : (Instr.lookup 104 (.map (some M)) (.int .i64 r) false).run Tryd.prog w = .ok ((V r).getD (.slice none 0 0)) w := by
  obtain ⟨D, N, hN, hD, hR⟩ := h.map
  exact run_look15 hD hR r hr
theorem BookAt.own (h : BookAt w base B M fl V L n) (r : Int) : OwnL w base 30 36 Bd.cells ((V r).getD (.slice none 0 0)) (Au.ofR r L) := by
  cases e : V r with
  | none => rw [h.no r e]; exact OwnL.nil _ _ _ _ _
  | some v => exact (h.sl r v e).1
theorem BookAt.fitsR (h : BookAt w base B M fl V L n) (r : Int) : ∀ b ∈ Au.ofR r L, b.Fits := fun b hb => h.ok.fits b (Au.ofR_round hb).2
theorem BookAt.ltB (h : BookAt w base B M fl V L n) : B < w.heap.size := h.row.lt
theorem BookAt.ltM (h : BookAt w base B M fl V L n) : M < w.heap.size := by
  obtain ⟨D, N, hN, hD, hR⟩ := h.map
  exact hD.lt
theorem BookAt.ltS (h : BookAt w base B M fl V L n) : ∀ k, BkS B M V k → base ≤ k ∧ k < w.heap.size := by
  rintro k (rfl | rfl | ⟨r, v, e, hk⟩)
  · exact ⟨h.lo.1, h.ltB⟩
  · exact ⟨h.lo.2, h.ltM⟩
  · exact (h.sl r v e).1.lt k hk
/-- slices of two rounds lie apart: their first bids tell them -/
theorem BookAt.apart (h : BookAt w base B M fl V L n) {r r' : Int} {v v' : Value} (hr : r ≠ r') (e : V r = some v) (e' : V r' = some v') {k : Nat} (hk : v.ownBlock = some k) : v'.ownBlock ≠ some k := by
  intro hk'
  have key : ∀ (s : Int) (u : Value), V s = some u → u.ownBlock = some k → w.cell? ⟨k, 0, none⟩ = some (.int .i64 s) := fun s u eu hu => by
    obtain ⟨ho, hne⟩ := h.sl s u eu
    obtain ⟨g, c, e1, _, _⟩ := ho.ne hne
    subst e1
    simp only [Value.ownBlock, Option.some.injEq] at hu
    subst hu
    have hpos : 0 < (Au.ofR s L).length := List.length_pos_iff.2 hne
    have h1 := ho.cell (fun x hx => Bd.cells_len (h.fitsR s x hx).tag) 0 hpos 0 (.int .i64 ((Au.ofR s L)[0]).round) rfl
    rw [Nat.zero_mul, Nat.zero_add] at h1
    rw [h1, (Au.ofR_round (List.getElem_mem hpos)).1]
  have h1 := key r v e hk
  have h2 := key r' v' e' hk'
  rw [h1] at h2
  injection h2 with h2
  injection h2 with _ h2
  exact hr h2
end
theorem bookNew_no (f : Int) (w : World) (hf : f < 0 ∨ 1099511627776 < f) : Calls Tryd.prog 18 #[.int .i64 f] w fun e w' => e = .returned (.tuple #[.pointer none, .int .i64 2]) ∧ w = w' := by
  by_cases h : f < 0
  · have d : decide (f < 0) = true := by simpa using h
    go_enter Tryd.func18, Tryd.ntmps18
    go_wp2_with fail
    go_ret2
    exact ⟨rfl, rfl⟩
  · have d : decide (f < 0) = false := by simpa using h
    have d2 : decide (1099511627776 < f) = true := by simp; omega
    go_enter Tryd.func18, Tryd.ntmps18
    go_wp2_with fail
    go_ret2
    exact ⟨rfl, rfl⟩
theorem bookNew_yes (f : Int) (w : World) (h0 : 0 ≤ f) (h1 : f ≤ 1099511627776) : Calls Tryd.prog 18 #[.int .i64 f] w fun e w' => e = .returned (.tuple #[.pointer (some ⟨w.heap.size + 1, 0, none⟩), .int .i64 0]) ∧ BookAt w' w.heap.size (w.heap.size + 1) w.heap.size f (fun _ => none) [] 0 ∧ Below w.heap.size w w' := by
  have d : decide (f < 0) = false := by simp only [decide_eq_false_iff_not]; omega
  have d2 : decide (1099511627776 < f) = false := by simp only [decide_eq_false_iff_not]; omega
  have hmm := @run_makeMap Tryd.prog
  go_enter Tryd.func18, Tryd.ntmps18
  go_wp2_with fail
  go_ret2
  have hm := World.ownsMap_made (H := Value) w Tryd.prog 3 held15
  have e1 : (w.alloc (.map #[] 0)).heap.size = w.heap.size + 1 := by simp
  have hr := Row.new (w.alloc (.map #[] 0)) 106 [.int .i64 f, .map (some w.heap.size)]
  rw [e1] at hr
  exact ⟨rfl, ⟨hr, ⟨_, 0, Nat.le_refl _, hm.kept (grownBy_alloc _ _ none) (by simp), Reads15.empty⟩, fun r v e => (by cases e), fun r _ => rfl, Au.BkOk.nil 0, ⟨Nat.le_succ _, Nat.le_refl _⟩⟩, ((Below.refl _ _).alloc (Nat.le_refl _) _).alloc (by simp) _⟩
end Go.Proofs.YtlapmdgkcidhnaaDoor
