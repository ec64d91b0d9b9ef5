/- A map of numbers to numbers that the call owns, read as a function. -/
import Derived.Test.YtedncgidjllapaaRow
import Derived.Test.YtedncgidjllapaaPostMath
import Derived.Maps.RangeWalk
import Derived.Maps.OwnSet
import Derived.Maps.Views
namespace Go.Proofs.Ytedncgidjllapaa
open Go.RowKit Go.Maps
set_option linter.unusedVariables false
set_option linter.unusedSimpArgs false

theorem lawI : Keyed Try.prog 3 := int_keyed Try.underlying3
abbrev K (x : Int) : Lit := .int .i64 x
theorem K_ne {x y : Int} (h : x ≠ y) : K x ≠ K y := fun e => h (by injection e)
def Reads (D : DataW Unit) (f : Post.Out) : Prop := IsMap D ∧ ∀ x, has D (K x) = (f x).isSome ∧ ∀ c, f x = some c → ∀ z, D.atKey (K x) z = .lit (.int .i64 c)
theorem Reads.empty : Reads (.map []) Post.none_ := ⟨isMap_empty, fun x => ⟨rfl, fun c h => by cases h⟩⟩
theorem Reads.put {D : DataW Unit} {f : Post.Out} (h : Reads D f) (x c : Int) : Reads (D.put (K x) (.lit (.int .i64 c))) (fun y => if y = x then some c else f y) := by
  refine ⟨h.1.put _ _, fun y => ?_⟩
  by_cases hy : y = x
  · subst hy
    simp only [↓reduceIte]
    refine ⟨(has_put_same (k := K y) h.1 trivial _).trans rfl, fun c' e z => ?_⟩
    cases e
    exact atKey_put_same (k := K y) h.1 trivial _ _
  · simp only [if_neg hy]
    refine ⟨(has_put_other (K_ne hy) _).trans (h.2 y).1, fun c' e z => ?_⟩
    rw [atKey_put_other (K_ne hy)]
    exact (h.2 y).2 c' e z
theorem Reads.del {D : DataW Unit} {f : Post.Out} (h : Reads D f) (x : Int) : Reads (D.del (K x)) (fun y => if y = x then none else f y) := by
  refine ⟨h.1.del _, fun y => ?_⟩
  by_cases hy : y = x
  · subst hy
    simp only [↓reduceIte]
    exact ⟨has_del_same, fun c' e z => by cases e⟩
  · simp only [if_neg hy]
    refine ⟨(has_del_other (K_ne hy)).trans (h.2 y).1, fun c' e z => ?_⟩
    rw [atKey_del_other (K_ne hy)]
    exact (h.2 y).2 c' e z
theorem Reads.congr {D : DataW Unit} {f g : Post.Out} (h : Reads D f) (e : ∀ x, f x = g x) : Reads D g := by
  have : f = g := funext e
  rw [← this]; exact h

/-- at block B lies a poster, whose map lies at block M and reads as f -/
def PosterAt (w : World) (B M : Nat) (p win : Int) (f : Post.Out) (N : Nat) : Prop :=
  Row w B 40 [.int .i64 p, .int .i64 win, .map (some M)] ∧ (∃ D : DataW Unit, w.ownsMap Try.prog 3 (plainElem Try.prog 3) M N D ∧ Reads D f) ∧ Post.Ok f
theorem PosterAt.kept {w w' : World} {B M N : Nat} {p win : Int} {f : Post.Out} {r : Option Nat} (h : PosterAt w B M p win f N) (hg : w.grownBy w' r) (h1 : some B ≠ r) (h2 : some M ≠ r) : PosterAt w' B M p win f N := by
  obtain ⟨D, hD, hR⟩ := h.2.1
  exact ⟨h.1.kept hg h1, ⟨D, hD.kept hg h2, hR⟩, h.2.2⟩
theorem PosterAt.apart {w : World} {B M N : Nat} {p win : Int} {f : Post.Out} (h : PosterAt w B M p win f N) : B ≠ M := by
  rintro rfl
  obtain ⟨D, ⟨es, clock, hb, _⟩, _⟩ := h.2.1
  have h1 := h.1
  unfold Row at h1
  rw [h1] at hb
  simp at hb
theorem PosterAt.ltM {w : World} {B M N : Nat} {p win : Int} {f : Post.Out} (h : PosterAt w B M p win f N) : M < w.heap.size := by
  obtain ⟨D, hD, _⟩ := h.2.1
  exact hD.lt
theorem PosterAt.c0 {w : World} {B M N : Nat} {p win : Int} {f : Post.Out} (h : PosterAt w B M p win f N) : w.cell? ⟨B, 0, none⟩ = some (.int .i64 p) := h.1.cell 0 (by simp)
theorem PosterAt.c1 {w : World} {B M N : Nat} {p win : Int} {f : Post.Out} (h : PosterAt w B M p win f N) : w.cell? ⟨B, 1, none⟩ = some (.int .i64 win) := h.1.cell 1 (by simp)
theorem PosterAt.c2 {w : World} {B M N : Nat} {p win : Int} {f : Post.Out} (h : PosterAt w B M p win f N) : w.cell? ⟨B, 2, none⟩ = some (.map (some M)) := h.1.cell 2 (by simp)
theorem wf_i64 {x : Int} (h0 : -9223372036854775808 ≤ x) (h1 : x ≤ 9223372036854775807) : (Lit.int .i64 x).wf = true := by
  simp [Lit.wf, IntKind.min, IntKind.max, IntKind.signed, IntKind.bits]
  omega
end Go.Proofs.Ytedncgidjllapaa
