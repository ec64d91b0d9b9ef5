/- What later texts need of the earlier layers. -/
import Derived.Test.YtjeooegkfjlejaaDoorEarO
import Derived.Test.YtjeooegkfjlejaaDoorEarS
import Derived.Test.YtjeooegkfjlejaaDoorEarT
import Derived.Test.YtjeooegkfjlejaaDoorEarC
import Derived.Test.YtjeooegkfjlejaaDoorEarA
import Derived.Test.YtjeooegkfjlejaaDoorEarB
import Derived.Test.YtjeooegkfjlejaaDoorIbA
import Derived.Test.YtjeooegkfjlejaaDoorTrMath
import Derived.Test.YtjeooegkfjlejaaDoorTrHash
import Derived.Test.YtjeooegkfjlejaaDoorTrMem
import Derived.Test.YtjeooegkfjlejaaDoorTrLv
import Derived.Test.YtjeooegkfjlejaaDoorTrLink
import Derived.Test.YtjeooegkfjlejaaDoorTrBeh
/- ---- TrCh ---- -/
/- A chain in memory; Height, Final, Deepest. -/
namespace Go.Proofs.YtjeooegkfjlejaaDoor
open Go.RowKit
set_option linter.unusedVariables false
set_option linter.unusedSimpArgs false

namespace Lv
def flat (l : List Lv) : List Value := l.flatMap cells
theorem flat_append (l m : List Lv) : flat (l ++ m) = flat l ++ flat m := List.flatMap_append
theorem flat_len : ∀ {l : List Lv}, (∀ x ∈ l, x.Fits) → (flat l).length = l.length * 67
  | [], _ => rfl
  | x :: r, h => by
    show (x.cells ++ flat r).length = _
    rw [List.length_append, cells_len (h x (by simp)), flat_len (fun y hy => h y (by simp [hy])), List.length_cons]
    omega
theorem flat_one : ∀ {l : List Lv}, (∀ x ∈ l, x.Fits) → ∀ v ∈ flat l, v.oneCell' = true
  | [], _, v, hv => by cases hv
  | x :: r, h, v, hv => by
    rcases List.mem_append.1 (show v ∈ x.cells ++ flat r from hv) with hv | hv
    · exact cells_one (h x (by simp)) v hv
    · exact flat_one (fun y hy => h y (by simp [hy])) v hv
theorem flat_at : ∀ (l : List Lv) (hl : ∀ x ∈ l, x.Fits) (i : Nat) (hi : i < l.length) (j : Nat) (v : Value), l[i].cells[j]? = some v → (flat l)[i * 67 + j]? = some v
  | x :: r, hl, 0, hi, j, v, h => by
    show (x.cells ++ flat r)[_]? = _
    simp only [List.getElem_cons_zero] at h
    have hj := (List.getElem?_eq_some_iff.1 h).1
    rw [Nat.zero_mul, Nat.zero_add, List.getElem?_append_left hj]
    exact h
  | x :: r, hl, i + 1, hi, j, v, h => by
    have hc := cells_len (hl x (by simp))
    show (x.cells ++ flat r)[_]? = _
    simp only [List.getElem_cons_succ] at h
    rw [List.getElem?_append_right (by omega), hc, show (i + 1) * 67 + j - 67 = i * 67 + j by omega]
    exact flat_at r (fun e he => hl e (by simp [he])) i (by simpa using hi) j v h
end Lv
/-- the items of a link are the call's own -/
def OwnIts (w : World) (base : Nat) (x : Lv) : Prop := w.ownsRow base 98 4 (.slice x.A x.k.b.items.length x.cap) x.k.b.items.length (itFlat x.k.b.items) ∧ x.k.b.items.length ≤ 4000000000000
/-- links of the call's own -/
def OwnLs (w : World) (base : Nat) (v : Value) (ls : List Lv) : Prop := w.ownsRow base 86 67 v ls.length (Lv.flat ls) ∧ ∀ x ∈ ls, x.Fits ∧ OwnIts w base x
/-- a chain in memory -/
def ChAt (w : World) (base P : Nat) (dp de : Int) (ls : List Lv) : Prop := base ≤ P ∧ ∃ v, Row w P 91 [.int .i64 dp, .int .i64 de, v] ∧ OwnLs w base v ls
/-- all blocks but those of chains and links stay -/
def Keep (w w' : World) : Prop := w.heap.size ≤ w'.heap.size ∧ w'.os = w.os ∧ w'.tape = w.tape ∧ w'.output = w.output ∧ ∀ (g : Nat) (cs : Array Value) (T : TypeId) (fz : Nat × Nat), w.heap[g]? = some (.cells cs T fz) → T ≠ 91 → T ≠ 86 → w'.heap[g]? = some (.cells cs T fz)
theorem Keep.refl (w : World) : Keep w w := ⟨Nat.le_refl _, rfl, rfl, rfl, fun _ _ _ _ h _ _ => h⟩
theorem Keep.trans {a b c : World} (h : Keep a b) (k : Keep b c) : Keep a c :=
  ⟨Nat.le_trans h.1 k.1, k.2.1.trans h.2.1, k.2.2.1.trans h.2.2.1, k.2.2.2.1.trans h.2.2.2.1, fun g cs T fz hh h1 h2 => k.2.2.2.2 g cs T fz (h.2.2.2.2 g cs T fz hh h1 h2) h1 h2⟩
theorem Keep.of_grown {w w' : World} {r : Option Nat} (hg : w.grownBy w' r) (hr : ∀ g, r = some g → ∃ cs T fz, w.heap[g]? = some (.cells cs T fz) ∧ (T = 91 ∨ T = 86)) : Keep w w' :=
  ⟨hg.size, hg.os, hg.tape, hg.output, fun g cs T fz hh h1 h2 => (hg.block g (lt_of_block hh) (fun e => by
    obtain ⟨cs', T', fz', q1, q2⟩ := hr g e.symm
    rw [hh] at q1
    simp at q1
    obtain ⟨_, q1, _⟩ := q1
    subst q1
    rcases q2 with q | q
    · exact h1 q
    · exact h2 q)).trans hh⟩
theorem Keep.of_below {w w' : World} (hb : Below w.heap.size w w') : Keep w w' := Keep.of_grown (grownBy_of_below hb none) (fun g e => by cases e)
theorem Keep.row {w w' : World} {g : Nat} {T : TypeId} {xs : List Value} (hk : Keep w w') (h : Row w g T xs) (h1 : T ≠ 91) (h2 : T ≠ 86) : Row w' g T xs := hk.2.2.2.2 g _ T _ h h1 h2
theorem Keep.own {w w' : World} {base n size : Nat} {e : TypeId} {v : Value} {xs : List Value} (hk : Keep w w') (h : w.ownsRow base e size v n xs) (h1 : e ≠ 91) (h2 : e ≠ 86) : w'.ownsRow base e size v n xs := by
  obtain ⟨q1, q2⟩ := h
  refine ⟨q1, ?_⟩
  rcases q2 with q2 | ⟨g, cap, cur, e1, e2, e3, e4⟩
  · exact .inl q2
  · exact .inr ⟨g, cap, cur, e1, e2, hk.2.2.2.2 g _ _ _ e3 h1 h2, e4⟩
theorem OwnIts.kept {w w' : World} {base : Nat} {x : Lv} {r : Option Nat} (h : OwnIts w base x) (hg : w.grownBy w' r) (hr : (Value.slice x.A x.k.b.items.length x.cap).ownBlock = none ∨ (Value.slice x.A x.k.b.items.length x.cap).ownBlock ≠ r) : OwnIts w' base x := ⟨h.1.kept hg hr, h.2⟩
theorem OwnIts.below {w w' : World} {base : Nat} {x : Lv} (h : OwnIts w base x) (hb : Below w.heap.size w w') : OwnIts w' base x := ⟨own_below h.1 hb, h.2⟩
theorem OwnIts.sl {w : World} {base : Nat} {x : Lv} (h : OwnIts w base x) : SlIn w w.heap.size x.A x.cap x.k.b.items := SlIn.own h.1 h.2
theorem OwnLs.below {w w' : World} {base : Nat} {v : Value} {ls : List Lv} (h : OwnLs w base v ls) (hb : Below w.heap.size w w') : OwnLs w' base v ls := ⟨own_below h.1 hb, fun x hx => ⟨(h.2 x hx).1, (h.2 x hx).2.below hb⟩⟩
theorem OwnLs.put {w w' : World} {base g : Nat} {T : TypeId} {xs : List Value} {v : Value} {ls : List Lv} (h : OwnLs w base v ls) (hr : Row w g T xs) (h1 : T ≠ 86) (h2 : T ≠ 98) (hg : w.grownBy w' (some g)) : OwnLs w' base v ls :=
  ⟨h.1.kept hg (.inr (row_ne_own hr h.1 h1)), fun x hx => ⟨(h.2 x hx).1, (h.2 x hx).2.kept hg (.inr (row_ne_own hr (h.2 x hx).2.1 h2))⟩⟩
theorem ChAt.below {w w' : World} {base P : Nat} {dp de : Int} {ls : List Lv} (h : ChAt w base P dp de ls) (hb : Below w.heap.size w w') : ChAt w' base P dp de ls := by
  obtain ⟨h0, v, h1, h2⟩ := h
  exact ⟨h0, v, h1.kept (grownBy_of_below hb none) (by simp), h2.below hb⟩
theorem ChAt.put {w w' : World} {base P g : Nat} {T : TypeId} {xs : List Value} {dp de : Int} {ls : List Lv} (h : ChAt w base P dp de ls) (hr : Row w g T xs) (h0 : T ≠ 91) (h1 : T ≠ 86) (h2 : T ≠ 98) (hg : w.grownBy w' (some g)) : ChAt w' base P dp de ls := by
  obtain ⟨q0, v, q1, q2⟩ := h
  exact ⟨q0, v, q1.kept hg (row_diff q1 hr h0.symm), q2.put hr h1 h2 hg⟩
theorem ChAt.cells {w : World} {base P : Nat} {dp de : Int} {ls : List Lv} (h : ChAt w base P dp de ls) : ∃ A c, w.cell? ⟨P, 0, none⟩ = some (.int .i64 dp) ∧ w.cell? ⟨P, 1, none⟩ = some (.int .i64 de) ∧ w.cell? ⟨P, 2, none⟩ = some (.slice A ls.length c) ∧ w.frozen? ⟨P, 1, none⟩ = false ∧ w.frozen? ⟨P, 2, none⟩ = false ∧ OwnLs w base (.slice A ls.length c) ls ∧ Row w P 91 [.int .i64 dp, .int .i64 de, .slice A ls.length c] := by
  obtain ⟨q0, v, q1, q2⟩ := h
  obtain ⟨A, c, rfl⟩ := own_form12 q2.1
  exact ⟨A, c, q1.cell 0 (by simp), q1.cell 1 (by simp), q1.cell 2 (by simp), q1.free 1, q1.free 2, q2, q1⟩
/-- the links at their places -/
theorem OwnLs.at_ {w : World} {base n c : Nat} {A : Option Addr} {ls : List Lv} (h : OwnLs w base (.slice A n c) ls) (hne : ls ≠ []) (hn : n = ls.length) : ∃ g, A = some ⟨g, 0, none⟩ ∧ base ≤ g ∧ g < w.heap.size ∧ ls.length ≤ c ∧ ∀ i (hi : i < ls.length), w.rangeAt g (i * 67) ls[i].cells := by
  subst hn
  have hpos : 0 < ls.length := List.length_pos_iff.2 hne
  have h0 := h.1
  obtain ⟨m, hm⟩ : ∃ m, ls.length = m + 1 := ⟨ls.length - 1, by omega⟩
  rw [hm] at h0
  obtain ⟨g, cap, e⟩ := ownsRow_succ h0
  injection e with e1 e2 e3
  subst e1
  rw [← hm] at h0
  have hlt := h0.lt g rfl
  refine ⟨g, rfl, hlt.1, hlt.2, ?_, fun i hi j v hv => ?_⟩
  · rcases h0.2 with ⟨e, _⟩ | ⟨g', cap', cur, e, _, _, h1, _⟩
    · cases e
    · injection e with e1 e2 e3; omega
  · have hf := Lv.flat_at ls (fun x hx => (h.2 x hx).1) i hi j v hv
    have hl := (List.getElem?_eq_some_iff.1 hf).1
    rw [h0.1] at hl
    exact (h0.cellAt _ hl).trans hf
theorem height_any (w : World) (base P : Nat) (dp de : Int) (ls : List Lv) (h : ChAt w base P dp de ls) (hl : 0 < ls.length) (hl2 : ls.length ≤ 100000) :
    Calls Tryd.prog 18 #[.pointer (some ⟨P, 0, none⟩)] w fun e w' => e = .returned (.int .i64 ((ls.length : Int) - 1)) ∧ w = w' := by
  obtain ⟨A, c, c0, c1, c2, f1, f2, ho, hr⟩ := h.cells
  generalize ls.length = n at *
  clear ho hr h
  go_enter Tryd.func18, Tryd.ntmps18
  go_wp2_with fail
  go_ret
  exact ⟨rfl, rfl⟩
theorem deepest_any (w : World) (base P : Nat) (dp de : Int) (ls : List Lv) (h : ChAt w base P dp de ls) :
    Calls Tryd.prog 22 #[.pointer (some ⟨P, 0, none⟩)] w fun e w' => e = .returned (.int .i64 de) ∧ w = w' := by
  obtain ⟨A, c, c0, c1, c2, f1, f2, ho, hr⟩ := h.cells
  generalize ls.length = n at *
  clear ho hr h
  go_enter Tryd.func22, Tryd.ntmps22
  go_wp2_with fail
  go_ret
  exact ⟨rfl, rfl⟩
theorem final_any (w : World) (base P : Nat) (dp de : Int) (ls : List Lv) (h : ChAt w base P dp de ls) (hl : 0 < ls.length) (hl2 : ls.length ≤ 100000) (hd : 0 ≤ dp) (hd2 : dp ≤ 1000000) :
    Calls Tryd.prog 20 #[.pointer (some ⟨P, 0, none⟩)] w fun e w' => e = .returned (.int .i64 (max ((ls.length : Int) - 1 - dp) 0)) ∧ Below w.heap.size w w' := by
  have HB : Hid (∀ n, Calls Tryd.prog 18 #[.pointer (some ⟨P, 0, none⟩)] (w.drewN n) fun e w' => e = .returned (.int .i64 ((ls.length : Int) - 1)) ∧ w.drewN n = w') := Lib.hid (fun n => height_any _ base P dp de ls (h.below (below_drewN' (Below.refl _ _) n)) hl hl2)
  obtain ⟨A, c, c0, c1, c2, f1, f2, ho, hr⟩ := h.cells
  obtain ⟨mx, hmx⟩ : ∃ mx, mx = max ((ls.length : Int) - 1 - dp) 0 := ⟨_, rfl⟩
  have emx : max ((ls.length : Int) - 1 - dp) 0 = mx := hmx.symm
  rw [← hmx]
  generalize ls.length = n at *
  clear ho hr h hmx
  have hw1 : IntKind.i64.wrap ((n : Int) - 1 - dp) = (n : Int) - 1 - dp := IntWalk.i64_in _ (by omega)
  go_enter Tryd.func20, Tryd.ntmps20
  go_wp2_with fail
  go_quiet ((go_at_call 18; exact quiet_eq (HB.out _)))
  go_wp2_with fail
  go_ret
  exact ⟨rfl, below_drewN' (Below.refl _ _) _⟩
end Go.Proofs.YtjeooegkfjlejaaDoor
