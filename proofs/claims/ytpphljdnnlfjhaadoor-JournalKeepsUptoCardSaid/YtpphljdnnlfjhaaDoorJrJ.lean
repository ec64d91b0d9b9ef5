/- A journal in memory: its row, beside its disk; wrong, did, Len, Synced. -/
import Derived.Test.YtpphljdnnlfjhaaDoorDiskZ
import Derived.Test.YtpphljdnnlfjhaaDoorJrDisk
import Derived.Test.YtpphljdnnlfjhaaDoorJrParse
namespace Go.Proofs.YtpphljdnnlfjhaaDoor
open Go.RowKit
set_option maxRecDepth 100000
set_option linter.unusedVariables false
set_option linter.unusedSimpArgs false

def jcells (g : Nat) (j : Jr.J) : List Value := [.pointer (some ⟨g, 0, none⟩), Sb Jr.nj, .int .i64 (j.len : Int), .int .i64 (j.synced : Int), .bool j.broken]
def JAt (w : World) (q g : Nat) (j : Jr.J) : Prop := Row w q 62 (jcells g j)
theorem JAt.box {w : World} {q g : Nat} {j : Jr.J} (h : JAt w q g j) : w.cell? ⟨q, 0, none⟩ = some (.pointer (some ⟨g, 0, none⟩)) ∧ w.cell? ⟨q, 1, none⟩ = some (Sb Jr.nj) ∧ w.cell? ⟨q, 2, none⟩ = some (.int .i64 (j.len : Int)) ∧ w.cell? ⟨q, 3, none⟩ = some (.int .i64 (j.synced : Int)) ∧ w.cell? ⟨q, 4, none⟩ = some (.bool j.broken) :=
  ⟨Row.cell h 0 (by simp [jcells]), Row.cell h 1 (by simp [jcells]), Row.cell h 2 (by simp [jcells]), Row.cell h 3 (by simp [jcells]), Row.cell h 4 (by simp [jcells])⟩
/-- a disk and a journal on it -/
structure JS (w : World) (B : Nat) (S : Nat → Prop) (g q : Nat) (l : List Fl) (r : Int) (j : Jr.J) : Prop where
  disk : DiskS w B S g l r
  row : JAt w q g j
  out : ¬ S q
/-- what a call makes of them -/
def JTo (w w' : World) (B : Nat) (S : Nat → Prop) (g q : Nat) (l : List Fl) (r : Int) (j : Jr.J) : Prop :=
  ∃ S' : Nat → Prop, JS w' B S' g q l r j ∧ (∀ k, S' k → S k ∨ w.heap.size ≤ k) ∧ Chg (fun k => S k ∨ k = q) w w'
theorem JTo.refl {w : World} {B : Nat} {S : Nat → Prop} {g q : Nat} {l : List Fl} {r : Int} {j : Jr.J} (h : JS w B S g q l r j) : JTo w w B S g q l r j := ⟨S, h, fun _ h => .inl h, Chg.refl _ _⟩
theorem JTo.trans {a b c : World} {B : Nat} {S S1 : Nat → Prop} {g q : Nat} {l2 : List Fl} {r2 : Int} {j2 : Jr.J} (h2 : ∀ k, S1 k → S k ∨ a.heap.size ≤ k) (h3 : Chg (fun k => S k ∨ k = q) a b) (k : JTo b c B S1 g q l2 r2 j2) : JTo a c B S g q l2 r2 j2 := by
  obtain ⟨S2, k1, k2, k3⟩ := k
  refine ⟨S2, k1, fun i hi => ?_, h3.trans k3 (fun i hi => ?_)⟩
  · rcases k2 i hi with h | h
    · exact h2 i h
    · have := h3.size; exact .inr (by omega)
  · rcases hi with hi | hi
    · rcases h2 i hi with h | h
      · exact .inl (.inl h)
      · exact .inr h
    · exact .inl (.inr hi)
theorem JS.diskTo {w w' : World} {B : Nat} {S : Nat → Prop} {g q : Nat} {l l' : List Fl} {r r' : Int} {j : Jr.J} (h : JS w B S g q l r j) (hd : DiskS w' B (Plus S w w') g l' r') (hc : Chg S w w') : JTo w w' B S g q l' r' j := by
  have hq := Row.lt h.row
  refine ⟨Plus S w w', ⟨hd, hc.row h.row h.out, fun hk => ?_⟩, fun k hk => ?_, hc.mono (fun k hk => .inl hk)⟩
  · rcases hk with hk | hk
    · exact h.out hk
    · omega
  · rcases hk with hk | hk
    · exact .inl hk
    · exact .inr hk.1
theorem JS.below {w w' : World} {B : Nat} {S : Nat → Prop} {g q : Nat} {l : List Fl} {r : Int} {j : Jr.J} (h : JS w B S g q l r j) (hb : Below w.heap.size w w') : JS w' B S g q l r j := ⟨h.disk.below hb, Row.below h.row hb, h.out⟩
theorem JS.belowTo {w w' : World} {B : Nat} {S : Nat → Prop} {g q : Nat} {l : List Fl} {r : Int} {j : Jr.J} (h : JS w B S g q l r j) (hb : Below w.heap.size w w') : JTo w w' B S g q l r j := ⟨S, h.below hb, fun _ h => .inl h, ⟨hb.os, hb.tape, hb.output, hb.size, fun i hi _ => hb.block i hi⟩⟩
/-- only the row has changed -/
theorem JS.rowTo {w w' : World} {B : Nat} {S : Nat → Prop} {g q : Nat} {l : List Fl} {r : Int} {j j' : Jr.J} (h : JS w B S g q l r j) (hg : w.grownBy w' (some q)) (hr : JAt w' q g j') : JTo w w' B S g q l r j' := by
  have hc : Chg (fun k => k = q) w w' := Chg.of_grown hg (fun k e => by cases e; exact .inl rfl)
  exact ⟨S, ⟨h.disk.kept hc (fun k hk e => h.out (e ▸ hk)), hr, h.out⟩, fun _ h => .inl h, hc.mono (fun k hk => .inr hk)⟩
theorem jwrong_nil (w : World) : Calls Tryd.prog 32 #[.pointer none] w fun e w' => e = .returned (.int .i64 1) ∧ w = w' := by
  go_enter Tryd.func32, Tryd.ntmps32
  go_wp2_with fail
  go_ret
  exact ⟨rfl, rfl⟩
theorem jwrong_at {w : World} {q g : Nat} {j : Jr.J} (h : JAt w q g j) : Calls Tryd.prog 32 #[.pointer (some ⟨q, 0, none⟩)] w fun e w' => e = .returned (.int .i64 (if j.broken = true then 8 else 0)) ∧ w = w' := by
  obtain ⟨c0, c1, c2, c3, c4⟩ := h.box
  have Hh := Lib.hid h
  clear h
  rcases hj : j.broken with _ | _
  · rw [hj] at c4
    clear hj
    go_enter Tryd.func32, Tryd.ntmps32
    go_wp2_with fail
    go_ret
    exact ⟨rfl, rfl⟩
  · rw [hj] at c4
    clear hj
    go_enter Tryd.func32, Tryd.ntmps32
    go_wp2_with fail
    go_ret
    exact ⟨rfl, rfl⟩
theorem jdid_at {w : World} {B : Nat} {S : Nat → Prop} {g q : Nat} {l : List Fl} {r : Int} {j : Jr.J} (h : JS w B S g q l r j) (x : Int) : Calls Tryd.prog 33 #[.pointer (some ⟨q, 0, none⟩), .int .i64 x] w fun e w' => e = .returned (.int .i64 x) ∧ JTo w w' B S g q l r ⟨j.len, j.synced, decide (x ≠ 0)⟩ := by
  obtain ⟨c0, c1, c2, c3, c4⟩ := h.row.box
  have hf := Row.free h.row 4
  have hrow := Row.set h.row 4 (.bool (decide (x ≠ 0))) (by simp [jcells])
  have hto : JTo w (w.setCell ⟨q, 4, none⟩ (.bool (decide (x ≠ 0)))) B S g q l r ⟨j.len, j.synced, decide (x ≠ 0)⟩ := h.rowTo (grownBy_set _ _ _ _) hrow
  have hx : (x != 0) = decide (x ≠ 0) := by rw [Bool.eq_iff_iff]; simp
  rw [← hx] at hto ⊢
  have Hto := Lib.hid hto
  clear hto hrow hx h
  go_enter Tryd.func33, Tryd.ntmps33
  go_wp2_with fail
  go_ret
  exact ⟨rfl, Hto.out⟩
theorem jlen_nil (w : World) : Calls Tryd.prog 24 #[.pointer none] w fun e w' => e = .returned (.int .i64 0) ∧ w = w' := by
  go_enter Tryd.func24, Tryd.ntmps24
  go_wp2_with fail
  go_ret
  exact ⟨rfl, rfl⟩
theorem jlen_at {w : World} {q g : Nat} {j : Jr.J} (h : JAt w q g j) : Calls Tryd.prog 24 #[.pointer (some ⟨q, 0, none⟩)] w fun e w' => e = .returned (.int .i64 (j.len : Int)) ∧ w = w' := by
  obtain ⟨c0, c1, c2, c3, c4⟩ := h.box
  clear h
  go_enter Tryd.func24, Tryd.ntmps24
  go_wp2_with fail
  go_ret
  exact ⟨rfl, rfl⟩
theorem jsynced_nil (w : World) : Calls Tryd.prog 25 #[.pointer none] w fun e w' => e = .returned (.int .i64 0) ∧ w = w' := by
  go_enter Tryd.func25, Tryd.ntmps25
  go_wp2_with fail
  go_ret
  exact ⟨rfl, rfl⟩
theorem jsynced_at {w : World} {q g : Nat} {j : Jr.J} (h : JAt w q g j) : Calls Tryd.prog 25 #[.pointer (some ⟨q, 0, none⟩)] w fun e w' => e = .returned (.int .i64 (j.synced : Int)) ∧ w = w' := by
  obtain ⟨c0, c1, c2, c3, c4⟩ := h.box
  clear h
  go_enter Tryd.func25, Tryd.ntmps25
  go_wp2_with fail
  go_ret
  exact ⟨rfl, rfl⟩
end Go.Proofs.YtpphljdnnlfjhaaDoor
