/- What later texts need of the earlier layers. -/
import Derived.Test.YtjeooegkfjlejaaDoorEarO
import Derived.Test.YtjeooegkfjlejaaDoorEarS
import Derived.Test.YtjeooegkfjlejaaDoorEarT
import Derived.Test.YtjeooegkfjlejaaDoorEarC
import Derived.Test.YtjeooegkfjlejaaDoorEarA
import Derived.Test.YtjeooegkfjlejaaDoorEarB
import Derived.Test.YtjeooegkfjlejaaDoorIbA
import Derived.Test.YtjeooegkfjlejaaDoorTrMath
import Derived.Test.YtjeooegkfjlejaaDoorTrHash
import Derived.Test.YtjeooegkfjlejaaDoorTrMem
import Derived.Test.YtjeooegkfjlejaaDoorTrLv
import Derived.Test.YtjeooegkfjlejaaDoorTrLink
import Derived.Test.YtjeooegkfjlejaaDoorTrBeh
import Derived.Test.YtjeooegkfjlejaaDoorTrCh
import Derived.Test.YtjeooegkfjlejaaDoorTrAt
import Derived.Test.YtjeooegkfjlejaaDoorTrNew
import Derived.Test.YtjeooegkfjlejaaDoorTrMine
import Derived.Test.YtjeooegkfjlejaaDoorTrAll
import Derived.Test.YtjeooegkfjlejaaDoorTrFind
import Derived.Test.YtjeooegkfjlejaaDoorTrAwk
import Derived.Test.YtjeooegkfjlejaaDoorTrLaw2
import Derived.Test.YtjeooegkfjlejaaDoorTrRch
import Derived.Test.YtjeooegkfjlejaaDoorTrRnew
/- ---- TrFew ---- -/
/- cavalcadelaw11.first, few: lists of lists of items. -/
namespace Go.Proofs.YtjeooegkfjlejaaDoor
open Go.RowKit
set_option linter.unusedVariables false
set_option linter.unusedSimpArgs false

/-- a slice of items, as a cell holds it -/
structure Sv where
  A : Option Addr
  cap : Nat
  its : List It
def Sv.v (x : Sv) : Value := .slice x.A x.its.length x.cap
/-- a list of lists of items that came in -/
def LsIn (w : World) (B : Nat) (A : Option Addr) (c : Nat) (L : List Sv) : Prop :=
  (L ≠ [] → ∃ g off, A = some ⟨g, off, none⟩ ∧ g < B ∧ ∀ i (hi : i < L.length), w.cell? ⟨g, off + i, none⟩ = some L[i].v) ∧ (A = none → L = [] ∧ c = 0) ∧ L.length ≤ c ∧ ∀ x ∈ L, SlIn w B x.A x.cap x.its
theorem LsIn.below {w w' : World} {B : Nat} {A : Option Addr} {c : Nat} {L : List Sv} (h : LsIn w B A c L) (hb : Below B w w') : LsIn w' B A c L :=
  ⟨fun hne => by
    obtain ⟨g, off, h1, h2, h3⟩ := h.1 hne
    exact ⟨g, off, h1, h2, fun i hi => (hb.cell (p := ⟨g, off + i, none⟩) h2).trans (h3 i hi)⟩, h.2.1, h.2.2.1, fun x hx => (h.2.2.2 x hx).below hb⟩
theorem LsIn.mono {w : World} {B B' : Nat} {A : Option Addr} {c : Nat} {L : List Sv} (h : LsIn w B A c L) (hB : B ≤ B') : LsIn w B' A c L :=
  ⟨fun hne => by
    obtain ⟨g, off, h1, h2, h3⟩ := h.1 hne
    exact ⟨g, off, h1, by omega, h3⟩, h.2.1, h.2.2.1, fun x hx => (h.2.2.2 x hx).mono hB⟩
def Sv.none : Sv := ⟨Option.none, 0, []⟩
def first11 (L : List Sv) : Sv := L.headD Sv.none
theorem first11_any (A : Option Addr) (c : Nat) (L : List Sv) (B : Nat) (w : World) (h : LsIn w B A c L) :
    Calls Tryd.prog 32 #[.slice A L.length c] w fun e w' => e = .returned (first11 L).v ∧ w = w' := by
  obtain ⟨h1, h2, h3, h4⟩ := h
  cases L with
  | nil =>
    go_enter Tryd.func32, Tryd.ntmps32
    go_wp2_with fail
    go_ret
    exact ⟨rfl, rfl⟩
  | cons x r =>
    obtain ⟨g, off, rfl, hg, hc⟩ := h1 (by simp)
    have c0 := hc 0 (by simp)
    simp only [List.getElem_cons_zero, Nat.add_zero] at c0
    have hn : first11 (x :: r) = x := rfl
    rw [hn]
    unfold Sv.v at c0 ⊢
    simp only [List.length_cons] at h3 ⊢
    generalize r.length = n at *
    have d0 : (((n + 1 : Nat) : Int) == 0) = false := by simp; omega
    have hlt : (0 : Nat) < n + 1 := by omega
    clear h1 h2 h4 hc hn
    go_enter Tryd.func32, Tryd.ntmps32
    go_wp2_with fail
    go_ret
    exact ⟨rfl, rfl⟩
theorem sliceHeadI (A : Option Addr) (n k cp : Nat) (hc : k ≤ cp) (W : World) : (Instr.slice 32 (.slice A n cp) none (some (.int .i64 k)) none).run Tryd.prog W = .ok (.slice A k cp) W := by
  have hz : (sizeOf (Tryd.prog.elem 32)).run Tryd.prog W = .ok 1 W := by kernel_rfl
  have e := run_slice_h (P := Tryd.prog) (w := W) (t := 32) (a := A) (len := n) (cap := cp) (by kernel_rfl) (kh := .i64) (h := (k : Int)) (by omega) (by omega)
  rw [hz] at e
  simp only [Result.andThen, Int.toNat_natCast] at e
  rw [e]
  unfold sliced
  have e2 : A.map (fun x => x.add (0 * 1)) = A := by
    cases A with
    | none => rfl
    | some a => simp [Addr.add]
  rw [e2]
  simp
def few11 (L : List Sv) : List Sv := L.take 12
theorem LsIn.few {w : World} {B : Nat} {A : Option Addr} {c : Nat} {L : List Sv} (h : LsIn w B A c L) : LsIn w B A c (few11 L) :=
  ⟨fun hne => by
    have hne2 : L ≠ [] := fun e => hne (by rw [e]; rfl)
    obtain ⟨g, off, h1, h2, h3⟩ := h.1 hne2
    refine ⟨g, off, h1, h2, fun i hi => ?_⟩
    have hi2 : i < L.length := by unfold few11 at hi; rw [List.length_take] at hi; omega
    have e : (few11 L)[i] = L[i] := List.getElem_take
    rw [h3 i hi2, e], fun e => ⟨by rw [(h.2.1 e).1]; rfl, (h.2.1 e).2⟩, by have := h.2.2.1; unfold few11; rw [List.length_take]; omega, fun x hx => h.2.2.2 x (List.mem_of_mem_take hx)⟩
theorem few11_any (A : Option Addr) (c : Nat) (L : List Sv) (B : Nat) (w : World) (h : LsIn w B A c L) :
    Calls Tryd.prog 34 #[.slice A L.length c] w fun e w' => e = .returned (.slice A (few11 L).length c) ∧ w = w' := by
  have h3 := h.2.2.1
  have hl : (few11 L).length = min 12 L.length := by unfold few11; rw [List.length_take]
  rw [hl]
  clear hl h
  generalize L.length = n at *
  by_cases q : 12 < n
  · have d0 : decide ((12 : Int) < (n : Int)) = true := by simp; omega
    have hsl := fun W => sliceHeadI A n 12 c (by omega) W
    have e : min 12 n = 12 := by omega
    rw [e]
    clear e
    go_enter Tryd.func34, Tryd.ntmps34
    go_wp2_with fail
    go_ret
    exact ⟨rfl, rfl⟩
  · have d0 : decide ((12 : Int) < (n : Int)) = false := by simp; omega
    have e : min 12 n = n := by omega
    rw [e]
    clear e
    go_enter Tryd.func34, Tryd.ntmps34
    go_wp2_with fail
    go_ret
    exact ⟨rfl, rfl⟩
end Go.Proofs.YtjeooegkfjlejaaDoor
