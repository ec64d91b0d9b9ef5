/- What is held over a drawn region: a row, and all that was there. -/
import Derived.Test.YtdekcicgiflnbaaDoorNoRead
import Derived.Deep.DeepAppendWide
import Derived.Deep.Onto
namespace Go.Proofs.YtdekcicgiflnbaaDoor
open Go.RowKit
set_option linter.unusedVariables false
set_option linter.unusedSimpArgs false

/-- a block as it was, and all below w0 -/
def RowIn (w0 W : World) (g : Nat) (T : TypeId) (C : List Value) : Prop := Row W g T C ∧ Below w0.heap.size w0 W
theorem RowIn.step {w0 W W' : World} {g : Nat} {T : TypeId} {C : List Value} (h : RowIn w0 W g T C) (hb : Below W.heap.size W W') : RowIn w0 W' g T C :=
  ⟨h.1.kept (grownBy_of_below hb none) (by simp), two_below' h.2 hb⟩
theorem RowIn.grown {w0 W W' : World} {g : Nat} {T : TypeId} {C : List Value} {r : Option Nat} (h : RowIn w0 W g T C) (hg : W.grownBy W' r) (hr : ∀ k, r = some k → w0.heap.size ≤ k) (hne : some g ≠ r) : RowIn w0 W' g T C :=
  ⟨h.1.kept hg hne, h.2.grown hg h.2.size hr⟩
theorem RowIn.drew {w0 W : World} {g : Nat} {T : TypeId} {C : List Value} (h : RowIn w0 W g T C) : RowIn w0 W.drew g T C := h.step (Below.refl _ _).drew
theorem RowIn.size {w0 W : World} {g : Nat} {T : TypeId} {C : List Value} (h : RowIn w0 W g T C) : w0.heap.size ≤ W.heap.size := h.2.size
/-- behind a call that makes memory, ahead of which a value was boxed -/
theorem rowIn_call {w w1 : World} {T : TypeId} {C : List Value} (h : Below (w.alloc (.cells C.toArray T)).heap.size (w.alloc (.cells C.toArray T)) w1) : RowIn w w1 w.heap.size T C :=
  ⟨(Row.new w T C).kept (grownBy_of_below h none) (by simp), tx_below (grownBy_of_below h none)⟩
theorem row_news {W : World} {g : Nat} {T : TypeId} {xs : List Value} (h : Row W g T xs) : ∀ j u, xs[j]? = some u → W.cell? ((⟨g, 0, none⟩ : Addr).add j) = some u := by
  intro j u hj
  obtain ⟨hlt, he⟩ := List.getElem?_eq_some_iff.1 hj
  have e : (⟨g, 0, none⟩ : Addr).add j = ⟨g, j, none⟩ := by unfold Addr.add; split <;> simp_all
  rw [e, h.cell j hlt, he]
theorem texts_one (L : List (List UInt8)) : ∀ u ∈ L.map S, u.oneCell' = true := by
  intro u hu
  obtain ⟨s, _, rfl⟩ := List.mem_map.1 hu
  rfl
theorem own_keeps {w0 W W' : World} {base n : Nat} {v : Value} {xs : List Value} {g : Nat} {T : TypeId} {C : List Value} (h : RowIn w0 W g T C) (hT : T ≠ 9) (hown : W.ownsRow base 9 1 v n xs) (hb : w0.heap.size ≤ base) (hg : W.grownBy W' v.ownBlock) : RowIn w0 W' g T C :=
  h.grown hg (fun k hk => Nat.le_trans hb (hown.lt k hk).1) (apart_of h.1 hT hown)
theorem list_owned (L : List (List UInt8)) {base k : Nat} {v : Value} {W : World} {xs : List Value} (hx : xs = L.map S) (h : W.ownsRow base 9 1 v (k + 1) xs) (hk : k + 1 = L.length) :
    Calls Tryd.prog 56 #[v] W fun e w' => e = .returned (.tuple #[S (Oct.listE L).1, .int .i64 (Oct.listE L).2]) ∧ Below W.heap.size W w' := by
  subst hx
  obtain ⟨g, cap, rfl⟩ := ownsRow_succ h
  exact list_own L base g (k + 1) cap W h hk
theorem no_row_below {base k : Nat} {W W' : World} {T : TypeId} {xs : List Value} (h : Row W k T xs) (hb : Below base W W') (hk : k < base) : Row W' k T xs := (hb.block k hk).trans h
end Go.Proofs.YtdekcicgiflnbaaDoor
