/- What later texts need of the earlier layers. -/
import Derived.Test.YtjeooegkfjlejaaDoorEarO
import Derived.Test.YtjeooegkfjlejaaDoorEarS
import Derived.Test.YtjeooegkfjlejaaDoorEarT
import Derived.Test.YtjeooegkfjlejaaDoorEarC
import Derived.Test.YtjeooegkfjlejaaDoorEarA
import Derived.Test.YtjeooegkfjlejaaDoorEarB
import Derived.Test.YtjeooegkfjlejaaDoorIbA
import Derived.Test.YtjeooegkfjlejaaDoorTrMath
import Derived.Test.YtjeooegkfjlejaaDoorTrTm
import Derived.Test.YtjeooegkfjlejaaDoorTrHash
import Derived.Test.YtjeooegkfjlejaaDoorTrMem
import Derived.Test.YtjeooegkfjlejaaDoorTrLv
import Derived.Test.YtjeooegkfjlejaaDoorTrLink
import Derived.Test.YtjeooegkfjlejaaDoorTrBeh
import Derived.Test.YtjeooegkfjlejaaDoorTrCh
import Derived.Test.YtjeooegkfjlejaaDoorTrAt
import Derived.Test.YtjeooegkfjlejaaDoorTrNew
import Derived.Test.YtjeooegkfjlejaaDoorTrMine
import Derived.Test.YtjeooegkfjlejaaDoorTrAll
import Derived.Test.YtjeooegkfjlejaaDoorTrFind
import Derived.Test.YtjeooegkfjlejaaDoorTrAwk
import Derived.Test.YtjeooegkfjlejaaDoorTrLaw2
import Derived.Test.YtjeooegkfjlejaaDoorTrRch
import Derived.Test.YtjeooegkfjlejaaDoorTrRnew
import Derived.Test.YtjeooegkfjlejaaDoorTrFew
/- ---- TrUpd ---- -/
/- Lists of blocks of the call's own, with their items. -/
namespace Go.Proofs.YtjeooegkfjlejaaDoor
open Go.RowKit
set_option linter.unusedVariables false
set_option linter.unusedSimpArgs false

/-- the items of a block are the call's own -/
def OwnBv (w : World) (base : Nat) (x : Bv) : Prop := w.ownsRow base 98 4 (.slice x.A x.b.items.length x.cap) x.b.items.length (itFlat x.b.items) ∧ x.b.items.length ≤ 4000000000000
/-- blocks of the call's own, and their items -/
def UpAt (w : World) (base : Nat) (v : Value) (bs : List Bv) : Prop := w.ownsRow base 45 35 v bs.length (Bv.flat bs) ∧ ∀ x ∈ bs, x.Fits ∧ OwnBv w base x
theorem OwnBv.below {w w' : World} {base : Nat} {x : Bv} (h : OwnBv w base x) (hb : Below w.heap.size w w') : OwnBv w' base x := ⟨own_below h.1 hb, h.2⟩
theorem OwnBv.kept {w w' : World} {base : Nat} {x : Bv} {r : Option Nat} (h : OwnBv w base x) (hg : w.grownBy w' r) (hr : (Value.slice x.A x.b.items.length x.cap).ownBlock = none ∨ (Value.slice x.A x.b.items.length x.cap).ownBlock ≠ r) : OwnBv w' base x := ⟨h.1.kept hg hr, h.2⟩
theorem OwnBv.keep {w w' : World} {base : Nat} {x : Bv} (h : OwnBv w base x) (hk : Keep w w') : OwnBv w' base x := ⟨hk.own h.1 (by decide) (by decide), h.2⟩
theorem OwnBv.items {w : World} {base : Nat} {x : Bv} (h : OwnBv w base x) : BkItems w w.heap.size x.A x.b.items ∧ x.b.items.length ≤ x.cap := by
  have hs := SlIn.own h.1 h.2
  exact ⟨hs.1, hs.2.2.1⟩
theorem UpAt.nil (w : World) (base : Nat) : UpAt w base (.slice none 0 0) [] := ⟨⟨rfl, .inl ⟨rfl, rfl⟩⟩, fun x hx => by cases hx⟩
theorem UpAt.below {w w' : World} {base : Nat} {v : Value} {bs : List Bv} (h : UpAt w base v bs) (hb : Below w.heap.size w w') : UpAt w' base v bs := ⟨own_below h.1 hb, fun x hx => ⟨(h.2 x hx).1, (h.2 x hx).2.below hb⟩⟩
theorem UpAt.keep {w w' : World} {base : Nat} {v : Value} {bs : List Bv} (h : UpAt w base v bs) (hk : Keep w w') : UpAt w' base v bs := ⟨hk.own h.1 (by decide) (by decide), fun x hx => ⟨(h.2 x hx).1, (h.2 x hx).2.keep hk⟩⟩
theorem UpAt.form {w : World} {base : Nat} {v : Value} {bs : List Bv} (h : UpAt w base v bs) : ∃ A c, v = .slice A bs.length c ∧ BvIn w w.heap.size A c bs := by
  obtain ⟨A, c, rfl⟩ := own_form12 h.1
  refine ⟨A, c, rfl, bvs_own h.1 (fun x hx => (h.2 x hx).1) rfl rfl (fun x hx => (h.2 x hx).2.items), fun e => ?_, ?_⟩
  · subst e
    rcases h.1.2 with ⟨e, hn⟩ | ⟨g, cap, cur, e, _⟩
    · injection e with e1 e2 e3
      exact ⟨List.length_eq_zero_iff.1 hn, e3⟩
    · injection e with e1 e2 e3
      cases e1
  · rcases h.1.2 with ⟨e, hn⟩ | ⟨g, cap, cur, e, _, _, h1, _⟩
    · omega
    · injection e with e1 e2 e3
      omega
theorem UpAt.lower {w : World} {b b' : Nat} {v : Value} {bs : List Bv} (h : UpAt w b v bs) (hb : b' ≤ b) : UpAt w b' v bs := ⟨own_lower h.1 hb, fun x hx => ⟨(h.2 x hx).1, own_lower (h.2 x hx).2.1 hb, (h.2 x hx).2.2⟩⟩
/-- a prefix of an own row -/
theorem own_take {w : World} {base n k size : Nat} {e : TypeId} {g c : Nat} {xs : List Value} (h : w.ownsRow base e size (.slice (some ⟨g, 0, none⟩) n c) n xs) (hk : k ≤ n) : w.ownsRow base e size (.slice (some ⟨g, 0, none⟩) k c) k (xs.take (k * size)) := by
  obtain ⟨h1, h2⟩ := h
  refine ⟨?_, ?_⟩
  · rw [List.length_take, h1]
    exact Nat.min_eq_left (Nat.mul_le_mul_right _ hk)
  · rcases h2 with ⟨e, _⟩ | ⟨g', cap, cur, e, q1, q2, q3, q4, q5, q6⟩
    · cases e
    · injection e with e1 e2 e3
      injection e1 with e1
      injection e1 with e1
      subst e1
      subst e3
      refine .inr ⟨g, c, cur, rfl, q1, q2, by omega, q4, q5, ?_⟩
      rw [← q6, List.take_take]
      congr 1
      exact (Nat.min_eq_left (Nat.mul_le_mul_right _ hk)).symm
theorem Lv.flat_take : ∀ (ls : List Lv) (hf : ∀ x ∈ ls, x.Fits) (k : Nat), (Lv.flat ls).take (k * 67) = Lv.flat (ls.take k)
  | [], _, k => by simp [Lv.flat]
  | x :: r, hf, 0 => by simp [Lv.flat]
  | x :: r, hf, k + 1 => by
    show (x.cells ++ Lv.flat r).take _ = _
    have hc := Lv.cells_len (hf x (by simp))
    rw [show (k + 1) * 67 = 67 + k * 67 by omega, List.take_append, hc, Nat.add_sub_cancel_left, List.take_of_length_le (by omega), Lv.flat_take r (fun y hy => hf y (by simp [hy])) k]
    rfl
theorem OwnLs.take {w : World} {base n c g : Nat} {ls : List Lv} (h : OwnLs w base (.slice (some ⟨g, 0, none⟩) n c) ls) (hn : n = ls.length) {k : Nat} (hk : k ≤ n) : OwnLs w base (.slice (some ⟨g, 0, none⟩) k c) (ls.take k) := by
  subst hn
  refine ⟨?_, fun x hx => h.2 x (List.mem_of_mem_take hx)⟩
  have := own_take h.1 hk
  rw [Lv.flat_take ls (fun x hx => (h.2 x hx).1), ] at this
  rwa [List.length_take, Nat.min_eq_left hk]
end Go.Proofs.YtjeooegkfjlejaaDoor
