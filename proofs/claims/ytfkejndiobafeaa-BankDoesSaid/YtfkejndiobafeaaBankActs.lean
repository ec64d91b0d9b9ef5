/- A list of a bank's calls in memory; a law's loop over it. -/
import Derived.Test.YtfkejndiobafeaaBankAwk
namespace Go.Proofs.Ytfkejndiobafeaa
open Go.RowKit
set_option linter.unusedVariables false
set_option linter.unusedSimpArgs false

/-- v reads as the calls l -/
def ActsV (w : World) (v : Value) (l : List BAct) : Prop :=
  ∃ (A : Option Addr) (c : Nat), v = .slice A l.length c ∧ (l ≠ [] → ∃ b off, A = some ⟨b, off, none⟩ ∧ b < w.heap.size ∧
    ∀ i (h : i < l.length), w.cell? ⟨b, off + i * 4, none⟩ = some (.int .i64 l[i].kind) ∧ w.cell? ⟨b, off + i * 4 + 1, none⟩ = some (.int .i64 l[i].a) ∧
      w.cell? ⟨b, off + i * 4 + 2, none⟩ = some (.int .i64 l[i].b) ∧ w.cell? ⟨b, off + i * 4 + 3, none⟩ = some (.int .i64 l[i].n))
theorem ActsV.kept {w w' : World} {v : Value} {l : List BAct} (h : ActsV w v l) (hb : Below w.heap.size w w') : ActsV w' v l := by
  obtain ⟨A, c, rfl, hl⟩ := h
  refine ⟨A, c, rfl, fun hne => ?_⟩
  obtain ⟨b, off, rfl, hlt, hc⟩ := hl hne
  refine ⟨b, off, rfl, Nat.lt_of_lt_of_le hlt hb.size, fun i hi => ?_⟩
  obtain ⟨h0, h1, h2, h3⟩ := hc i hi
  exact ⟨(hb.cell (p := ⟨b, _, none⟩) hlt).trans h0, (hb.cell (p := ⟨b, _, none⟩) hlt).trans h1, (hb.cell (p := ⟨b, _, none⟩) hlt).trans h2, (hb.cell (p := ⟨b, _, none⟩) hlt).trans h3⟩

/-- what a bank holds behind calls -/
def acts (l : List BAct) : List Int := l.foldl (fun L x => (Bank.act L x).2) Bank.none_
theorem act_ok {L : List Int} {x : BAct} (h : Bank.Ok L) : Bank.Ok (Bank.act L x).2 := by
  unfold Bank.act
  split
  · exact Bank.put_ok h
  · split
    · exact Bank.take_ok h
    · exact Bank.move_ok h
theorem acts_succ (l : List BAct) (k : Nat) (h : k < l.length) : acts (l.take (k + 1)) = (Bank.act (acts (l.take k)) l[k]).2 := by
  unfold acts
  rw [List.take_succ_eq_append_getElem h, List.foldl_append]; rfl

end Go.Proofs.Ytfkejndiobafeaa
