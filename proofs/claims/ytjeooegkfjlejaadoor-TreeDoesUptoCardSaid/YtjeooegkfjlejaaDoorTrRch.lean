/- What later texts need of the earlier layers. -/
import Derived.Test.YtjeooegkfjlejaaDoorEarO
import Derived.Test.YtjeooegkfjlejaaDoorEarS
import Derived.Test.YtjeooegkfjlejaaDoorEarT
import Derived.Test.YtjeooegkfjlejaaDoorEarC
import Derived.Test.YtjeooegkfjlejaaDoorEarA
import Derived.Test.YtjeooegkfjlejaaDoorEarB
import Derived.Test.YtjeooegkfjlejaaDoorIbA
import Derived.Test.YtjeooegkfjlejaaDoorTrMath
import Derived.Test.YtjeooegkfjlejaaDoorTrHash
import Derived.Test.YtjeooegkfjlejaaDoorTrMem
import Derived.Test.YtjeooegkfjlejaaDoorTrLv
import Derived.Test.YtjeooegkfjlejaaDoorTrLink
import Derived.Test.YtjeooegkfjlejaaDoorTrBeh
import Derived.Test.YtjeooegkfjlejaaDoorTrCh
import Derived.Test.YtjeooegkfjlejaaDoorTrAt
import Derived.Test.YtjeooegkfjlejaaDoorTrNew
import Derived.Test.YtjeooegkfjlejaaDoorTrMine
import Derived.Test.YtjeooegkfjlejaaDoorTrAll
import Derived.Test.YtjeooegkfjlejaaDoorTrFind
import Derived.Test.YtjeooegkfjlejaaDoorTrAwk
import Derived.Test.YtjeooegkfjlejaaDoorTrLaw2
/- ---- TrRch ---- -/
/- The reference's chain in memory; Height, Final. -/
namespace Go.Proofs.YtjeooegkfjlejaaDoor
open Go.RowKit
set_option linter.unusedVariables false
set_option linter.unusedSimpArgs false

/-- a list of blocks of the call's own, whose items lay below B -/
def OwnBs (w : World) (base B : Nat) (v : Value) (bs : List Bv) : Prop := w.ownsRow base 45 35 v bs.length (Bv.flat bs) ∧ ∀ x ∈ bs, x.Fits ∧ BkItems w B x.A x.b.items ∧ x.b.items.length ≤ x.cap
/-- a chain of the reference -/
def RchAt (w : World) (base B P : Nat) (dp de : Int) (bs : List Bv) : Prop := base ≤ P ∧ B ≤ base ∧ ∃ A c, Row w P 38 [.slice A bs.length c, .int .i64 dp, .int .i64 de] ∧ OwnBs w base B (.slice A bs.length c) bs
theorem OwnBs.below {w w' : World} {base B : Nat} {v : Value} {bs : List Bv} (h : OwnBs w base B v bs) (hB : B ≤ w.heap.size) (hb : Below w.heap.size w w') : OwnBs w' base B v bs :=
  ⟨own_below h.1 hb, fun x hx => ⟨(h.2 x hx).1, (h.2 x hx).2.1.below (hb.mono hB), (h.2 x hx).2.2⟩⟩
theorem RchAt.lt {w : World} {base B P : Nat} {dp de : Int} {bs : List Bv} (h : RchAt w base B P dp de bs) : B < w.heap.size := by
  obtain ⟨h1, h2, A, c, h3, _⟩ := h
  have := h3.lt
  omega
theorem RchAt.below {w w' : World} {base B P : Nat} {dp de : Int} {bs : List Bv} (h : RchAt w base B P dp de bs) (hb : Below w.heap.size w w') : RchAt w' base B P dp de bs := by
  have hlt := h.lt
  obtain ⟨h1, h2, A, c, h3, h4⟩ := h
  exact ⟨h1, h2, A, c, h3.below hb, h4.below (Nat.le_of_lt hlt) hb⟩
theorem RchAt.cells {w : World} {base B P : Nat} {dp de : Int} {bs : List Bv} (h : RchAt w base B P dp de bs) : ∃ A c, w.cell? ⟨P, 0, none⟩ = some (.slice A bs.length c) ∧ w.cell? ⟨P, 1, none⟩ = some (.int .i64 dp) ∧ w.cell? ⟨P, 2, none⟩ = some (.int .i64 de) ∧ (∀ i, w.frozen? ⟨P, i, none⟩ = false) ∧ OwnBs w base B (.slice A bs.length c) bs ∧ Row w P 38 [.slice A bs.length c, .int .i64 dp, .int .i64 de] := by
  obtain ⟨h1, h2, A, c, h3, h4⟩ := h
  exact ⟨A, c, h3.cell 0 (by simp), h3.cell 1 (by simp), h3.cell 2 (by simp), fun i => h3.free i, h4, h3⟩
theorem rheight_any (w : World) (base B P : Nat) (dp de : Int) (bs : List Bv) (h : RchAt w base B P dp de bs) (hl : 0 < bs.length) (hl2 : bs.length ≤ 100000) :
    Calls Tryd.prog 19 #[.pointer (some ⟨P, 0, none⟩)] w fun e w' => e = .returned (.int .i64 ((bs.length : Int) - 1)) ∧ w = w' := by
  obtain ⟨A, c, c0, c1, c2, f1, ho, hr⟩ := h.cells
  generalize bs.length = n at *
  clear ho hr h f1
  go_enter Tryd.func19, Tryd.ntmps19
  go_wp2_with fail
  go_ret
  exact ⟨rfl, rfl⟩
set_option maxRecDepth 20000 in
set_option maxHeartbeats 1600000 in
theorem rfinal_any (w : World) (base B P : Nat) (dp de : Int) (bs : List Bv) (h : RchAt w base B P dp de bs) (hl : 0 < bs.length) (hl2 : bs.length ≤ 100000) (hd : 0 ≤ dp) (hd2 : dp ≤ 1000000) :
    Calls Tryd.prog 21 #[.pointer (some ⟨P, 0, none⟩)] w fun e w' => e = .returned (.int .i64 (max ((bs.length : Int) - 1 - dp) 0)) ∧ Below w.heap.size w w' := by
  have HB : Hid (∀ W, Below w.heap.size w W → Calls Tryd.prog 19 #[.pointer (some ⟨P, 0, none⟩)] W fun e w' => e = .returned (.int .i64 ((bs.length : Int) - 1)) ∧ W = w') := Lib.hid (fun W hW => rheight_any W base B P dp de bs (h.below hW) hl hl2)
  obtain ⟨A, c, c0, c1, c2, f1, ho, hr⟩ := h.cells
  obtain ⟨mx, hmx⟩ : ∃ mx, mx = max ((bs.length : Int) - 1 - dp) 0 := ⟨_, rfl⟩
  rw [← hmx]
  generalize bs.length = n at *
  have hPl := hr.lt
  clear ho hr h f1
  have hw1 : IntKind.i64.wrap ((n : Int) - 1 - dp) = (n : Int) - 1 - dp := IntWalk.i64_in _ (by omega)
  by_cases q : (n : Int) - 1 < dp
  · have d0 : decide ((n : Int) - 1 < dp) = true := by simpa using q
    have e0 : mx = 0 := by omega
    clear hmx
    subst e0
    clear q
    go_enter Tryd.func21, Tryd.ntmps21
    go_wp2_with fail
    go_quiet ((go_at_call 19; exact quiet_eq (HB.out _ (below_drewN' (Below.refl _ _) _))))
    go_wp2_with fail
    go_ret
    exact ⟨rfl, below_drewN' (Below.refl _ _) _⟩
  · have d0 : decide ((n : Int) - 1 < dp) = false := by simpa using q
    have e0 : mx = (n : Int) - 1 - dp := by omega
    clear hmx
    subst e0
    clear q
    go_enter Tryd.func21, Tryd.ntmps21
    go_wp2_with fail
    go_quiet ((go_at_call 19; exact quiet_eq (HB.out _ (below_drewN' (Below.refl _ _) _))))
    go_wp2_with fail
    have hb1 := below_drewN' (Below.refl w.heap.size w) nq
    have c1' := (hb1.cell (p := ⟨P, 1, none⟩) hPl).trans c1
    have Hb1 := Lib.hid hb1
    clear hb1 c1 c0 c2 hPl
    generalize w.drewN nq = w1 at *
    go_quiet ((go_at_call 19; exact quiet_eq (HB.out _ (below_drewN' Hb1.out _))))
    go_wp2_with fail
    go_ret
    exact ⟨rfl, below_drewN' Hb1.out _⟩
end Go.Proofs.YtjeooegkfjlejaaDoor
