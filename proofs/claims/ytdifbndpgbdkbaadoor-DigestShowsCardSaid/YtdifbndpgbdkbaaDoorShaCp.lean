/- cavalcaderef02.Sum: what it returns. -/
import Derived.Test.YtdifbndpgbdkbaaDoorShaRef3
import Derived.Laws.MakeOwn
namespace Go.Proofs.YtdifbndpgbdkbaaDoor
open Go.RowKit
set_option linter.unusedVariables false
set_option linter.unusedSimpArgs false

theorem u32_info : (Tryd.prog.info? 56).map (fun i => (i.zero, i.size, i.bytes)) = some (some (.int .u32 0), 1, 4) := by kernel_rfl
theorem made_words (n : Nat) (h : n = 64) : madeCells (Value.int .u32 0).cells (n * 1) = wRow [] := by
  subst h
  kernel_rfl
theorem make64 (W : World) : (Instr.makeSlice 64 (.int .i64 64) (.int .i64 64)).run Tryd.prog W = .ok (.slice (some ⟨W.heap.size, 0, none⟩) 64 64) (W.alloc (.cells (wRow []) 56)) := by
  obtain ⟨i0, hi, hz0, hz1, hz2⟩ := info_parts u32_info
  have hr := run_make (P := Tryd.prog) W 64 56 i0 _ Tryd.underlying64 hi hz0 .i64 .i64 64 64 (by omega) (by omega) (by rw [hz2]; omega) (by omega)
  rw [hz1, show (64 : Int).toNat = 64 from rfl, made_words 64 rfl] at hr
  exact hr
/-- bytes lie in memory -/
def Bts (w : World) (g : Nat) (P : List UInt8) : Prop := ∀ i, i < P.length → w.cell? ⟨g, i, none⟩ = some (.int .u8 ((P.getD i 0).toNat : Int))
theorem Bts.below {w w' : World} {B g : Nat} {P : List UInt8} (h : Bts w g P) (hb : Below B w w') (hg : g < B) : Bts w' g P := fun i hi => (hb.cell (p := ⟨g, i, none⟩) hg).trans (h i hi)
/-- a block's word out of all bytes -/
theorem word_blk (P : List UInt8) (k t : Nat) (h : 64 * (k + 1) ≤ P.length) (ht : t < 16) :
    ((P.getD (64 * k + 4 * t) 0).toNat : Int) * 16777216 + ((P.getD (64 * k + 4 * t + 1) 0).toNat : Int) * 65536 + ((P.getD (64 * k + 4 * t + 2) 0).toNat : Int) * 256 + ((P.getD (64 * k + 4 * t + 3) 0).toNat : Int) = ((Sha.word ((P.drop (64 * k)).take 64) t : Nat) : Int) := by
  have e : ∀ j, j < 64 → ((P.drop (64 * k)).take 64).getD j 0 = P.getD (64 * k + j) 0 := by
    intro j hj
    simp [List.getD, List.getElem?_take, hj]
  unfold Sha.word
  rw [e (4 * t) (by omega), e (4 * t + 1) (by omega), e (4 * t + 2) (by omega), e (4 * t + 3) (by omega)]
  simp only [Nat.add_assoc]
  omega
/-- a state's words lie in memory -/
def Eight (w : World) (g : Nat) (st : Sha.St) : Prop := ∀ i, i < 8 → w.cell? ⟨g, i, none⟩ = (st8 st)[i]?
theorem Eight.below {w w' : World} {B g : Nat} {st : Sha.St} (h : Eight w g st) (hb : Below B w w') (hg : g < B) : Eight w' g st := fun i hi => (hb.cell (p := ⟨g, i, none⟩) hg).trans (h i hi)
/-- a state's words copied into a new slice -/
theorem copy_run (w : World) (gh : Nat) (st : Sha.St) (h : Holds w gh (st8 st)) :
    ∃ gv c w', (Builtin.append_ #[64, 64] 64 #[.slice (some ⟨w.heap.size, 0, none⟩) 0 0, .slice (some ⟨gh, 0, none⟩) 8 8]).run Tryd.prog (w.alloc (.cells #[] 56)) = .ok (.slice (some ⟨gv, 0, none⟩) 8 c) w' ∧
      Eight w' gv st ∧ w.heap.size ≤ gv ∧ gv < w'.heap.size ∧ Below w.heap.size w w' := by
  obtain ⟨i0, hi, hz0, hz1, hz2⟩ := info_parts u32_info
  have hb1 : Below w.heap.size w (w.alloc (.cells #[] 56)) := (Below.refl _ _).alloc (Nat.le_refl _) _
  have h2 := h.alloc (.cells #[] 56)
  have hnews : ∀ j u, (st8 st).toList[j]? = some u → (w.alloc (.cells #[] 56)).cell? ((⟨gh, 0, none⟩ : Addr).add j) = some u := by
    intro j u hj
    rw [add0, Nat.zero_add, h2.cell j, ← hj]
    simp
  obtain ⟨v', w', hr, hown, hgr⟩ := run_append_arg_grows (P := Tryd.prog) (w.alloc (.cells #[] 56)) 64 64 56 i0 (.int .u32 0) 1 4 Tryd.underlying64 hi hz0 hz1 hz2 rfl (by omega) ⟨w.heap.size, 0, none⟩ 0 0 [] rfl (fun j u hj => by simp at hj) ⟨gh, 0, none⟩ 8 8 (st8 st).toList rfl hnews (by omega) (by unfold maxLen; omega) (by omega)
  obtain ⟨g, cap, rfl, hg, hgs, _, _, _, hc⟩ := Own1.of_owns hown (by omega)
  refine ⟨g, cap, w', ?_, fun i hi => ?_, Nat.le_trans hb1.size hg, hgs, hb1.trans ((Below.refl w.heap.size _).grown hgr hb1.size (fun g hg => by cases hg))⟩
  · rw [hr]; rfl
  · have hl : i < (st8 st).size := hi
    have := hc i (st8 st)[i] (by simp [hl])
    rw [this, Array.getElem?_eq_getElem hl]
/-- a state's first words with another's put to them -/
def part (a b : Sha.St) (j : Nat) : Sha.St := ⟨if 0 < j then Sha.add a.a b.a else a.a, if 1 < j then Sha.add a.b b.b else a.b, if 2 < j then Sha.add a.c b.c else a.c, if 3 < j then Sha.add a.d b.d else a.d,
  if 4 < j then Sha.add a.e b.e else a.e, if 5 < j then Sha.add a.f b.f else a.f, if 6 < j then Sha.add a.g b.g else a.g, if 7 < j then Sha.add a.h b.h else a.h⟩
theorem part_0 (a b : Sha.St) : part a b 0 = a := rfl
theorem part_8 (a b : Sha.St) : part a b 8 = Sha.plus a b := rfl
theorem part_at (a b : Sha.St) (j : Nat) (h : j < 8) : (st8 (part a b j))[j]? = some (.int .u32 (Sha.at_ a j : Nat)) := by
  have : j = 0 ∨ j = 1 ∨ j = 2 ∨ j = 3 ∨ j = 4 ∨ j = 5 ∨ j = 6 ∨ j = 7 := by omega
  rcases this with rfl | rfl | rfl | rfl | rfl | rfl | rfl | rfl <;> rfl
theorem part_set (a b : Sha.St) (j : Nat) (h : j < 8) : (st8 (part a b j)).setIfInBounds j (.int .u32 (Sha.add (Sha.at_ a j) (Sha.at_ b j) : Nat)) = st8 (part a b (j + 1)) := by
  have : j = 0 ∨ j = 1 ∨ j = 2 ∨ j = 3 ∨ j = 4 ∨ j = 5 ∨ j = 6 ∨ j = 7 := by omega
  rcases this with rfl | rfl | rfl | rfl | rfl | rfl | rfl | rfl <;> rfl
theorem Eight.far {w : World} {g : Nat} {st : Sha.St} (h : Eight w g st) {p : Addr} (hp : g ≠ p.block) (u : Value) : Eight (w.setCell p u) g st := fun i hi =>
  (World.cell?_setCell_other w p ⟨g, i, none⟩ u (by intro e; exact hp (by rw [e]))).trans (h i hi)
end Go.Proofs.YtdifbndpgbdkbaaDoor
