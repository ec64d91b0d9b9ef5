/- What later texts need of the earlier layers. -/
import Derived.Test.YtalfnadejpmjnaaGreatDoorNSlO
import Derived.Test.YtalfnadejpmjnaaGreatDoorNSlS
import Derived.Test.YtalfnadejpmjnaaGreatDoorNSlT
import Derived.Test.YtalfnadejpmjnaaGreatDoorNSlC
import Derived.Test.YtalfnadejpmjnaaGreatDoorNSlA
import Derived.Test.YtalfnadejpmjnaaGreatDoorNSlB
import Derived.Test.YtalfnadejpmjnaaGreatDoorNSlD
import Derived.Deep.DeepAppendWide
import Derived.Deep.MidRow
import Derived.RangeFuncBox
import Derived.Maps.OwnSet
/- ---- RwMath ---- -/
/- Lists of structs as cells, one behind the other: plain mathematics. -/
namespace Go.Proofs.YtalfnadejpmjnaaGreatDoor
set_option linter.unusedVariables false
set_option linter.unusedSimpArgs false
namespace Rw
/-- the cells of a list -/
def flat {α β : Type} (f : α → List β) (l : List α) : List β := l.flatMap f
theorem flat_cons {α β : Type} (f : α → List β) (x : α) (l : List α) : flat f (x :: l) = f x ++ flat f l := rfl
theorem flat_append {α β : Type} (f : α → List β) (l k : List α) : flat f (l ++ k) = flat f l ++ flat f k := by
  unfold flat; rw [List.flatMap_append]
theorem flat_one {α β : Type} (f : α → List β) (x : α) : flat f [x] = f x := by simp [flat]
theorem flat_push {α β : Type} (f : α → List β) (l : List α) (x : α) : flat f (l ++ [x]) = flat f l ++ f x := by rw [flat_append, flat_one]
theorem flat_len {α β : Type} {f : α → List β} {m : Nat} {l : List α} (h : ∀ x ∈ l, (f x).length = m) : (flat f l).length = l.length * m := by
  induction l with
  | nil => simp [flat]
  | cons x t ih =>
    rw [flat_cons, List.length_append, h x (by simp), ih (fun y hy => h y (by simp [hy])), List.length_cons, Nat.succ_mul]
    omega
theorem flat_at {α β : Type} {f : α → List β} {m : Nat} : ∀ {l : List α} (h : ∀ x ∈ l, (f x).length = m) (i : Nat) (hi : i < l.length) (j : Nat) (v : β), (f l[i])[j]? = some v → (flat f l)[i * m + j]? = some v := fun {l} => by
  induction l with
  | nil => intro h i hi; simp at hi
  | cons x t ih =>
    intro h i hi j v hv
    have hx := h x (by simp)
    rw [flat_cons]
    match i with
    | 0 =>
      rw [Nat.zero_mul, Nat.zero_add, List.getElem?_append_left (by
        have := (List.getElem?_eq_some_iff.1 hv).1
        simpa using this)]
      exact hv
    | i + 1 =>
      rw [List.getElem?_append_right (by rw [hx, Nat.succ_mul]; omega), hx, show (i + 1) * m + j - m = i * m + j by rw [Nat.succ_mul]; omega]
      exact ih (fun y hy => h y (by simp [hy])) i (by simpa using hi) j v hv
end Rw
end Go.Proofs.YtalfnadejpmjnaaGreatDoor

/- ---- RwOwn ---- -/
/- Lists of structs in rows of the call's own. -/
namespace Go.Proofs.YtalfnadejpmjnaaGreatDoor
open Go.RowKit
set_option linter.unusedVariables false
set_option linter.unusedSimpArgs false

/-- a list of structs in a row of the call's own -/
structure OwnL {α : Type} (w : World) (base : Nat) (e : TypeId) (m : Nat) (f : α → List Value) (v : Value) (l : List α) : Prop where
  own : w.ownsRow base e m v l.length (Rw.flat f l)
section
variable {α : Type} {w : World} {base : Nat} {e : TypeId} {m : Nat} {f : α → List Value} {v : Value} {l : List α}
theorem OwnL.nil (w : World) (base : Nat) (e : TypeId) (m : Nat) (f : α → List Value) : OwnL w base e m f (.slice none 0 0) ([] : List α) := ⟨World.ownsRow_nil _ _ _ _⟩
theorem OwnL.kept {w' : World} {r : Option Nat} (h : OwnL w base e m f v l) (hg : w.grownBy w' r) (hne : v.ownBlock = none ∨ v.ownBlock ≠ r) : OwnL w' base e m f v l := ⟨h.own.kept hg hne⟩
theorem OwnL.below {w' : World} (h : OwnL w base e m f v l) (hb : Below w.heap.size w w') : OwnL w' base e m f v l :=
  h.kept (grownBy_of_below hb none) (by cases hv : v.ownBlock <;> simp)
theorem OwnL.alloc (h : OwnL w base e m f v l) (o : Obj) : OwnL (w.alloc o) base e m f v l := ⟨h.own.alloc o⟩
theorem OwnL.mono {base' : Nat} (h : OwnL w base e m f v l) (hb : base' ≤ base) : OwnL w base' e m f v l := by
  refine ⟨h.own.1, ?_⟩
  rcases h.own.2 with hn | ⟨g, cap, cur, hv, hbb, rest⟩
  · exact .inl hn
  · exact .inr ⟨g, cap, cur, hv, by omega, rest⟩
theorem OwnL.lt (h : OwnL w base e m f v l) : ∀ k, v.ownBlock = some k → base ≤ k ∧ k < w.heap.size := h.own.lt
theorem OwnL.form (h : OwnL w base e m f v l) : ∃ A c, v = .slice A l.length c ∧ l.length ≤ c ∧ c ≤ maxLen := by
  rcases h.own.2 with ⟨rfl, h0⟩ | ⟨g, cap, cur, rfl, _, _, h1, h2, _⟩
  · exact ⟨none, 0, by rw [h0], by omega, by unfold maxLen; omega⟩
  · exact ⟨_, _, rfl, h1, h2⟩
theorem OwnL.ne (h : OwnL w base e m f v l) (h0 : l ≠ []) : ∃ g c, v = .slice (some ⟨g, 0, none⟩) l.length c ∧ base ≤ g ∧ g < w.heap.size := by
  rcases h.own.2 with ⟨rfl, h1⟩ | ⟨g, cap, cur, rfl, hb, hg, _⟩
  · exact absurd (List.length_eq_zero_iff.1 h1) h0
  · exact ⟨g, cap, rfl, hb, (Array.getElem?_eq_some_iff.1 hg).1⟩
/-- the row's type -/
theorem OwnL.type {g n c : Nat} (h : OwnL w base e m f (.slice (some ⟨g, 0, none⟩) n c) l) : ∃ cur, w.heap[g]? = some (.cells cur e (0, 0)) := by
  rcases h.own.2 with ⟨h', _⟩ | ⟨g', cap', cur, h', _, hg, _⟩
  · simp at h'
  · simp only [Value.slice.injEq, Option.some.injEq, Addr.mk.injEq, and_true, true_and] at h'
    obtain ⟨rfl, _⟩ := h'
    exact ⟨cur, hg⟩
theorem OwnL.ne_block {B : Nat} {T : TypeId} {xs : List Value} (h : OwnL w base e m f v l) (hr : Row w B T xs) (hT : T ≠ e) : v.ownBlock ≠ Option.some B := by
  intro hv
  obtain ⟨A, c, rfl, _⟩ := h.form
  rcases h.own.2 with ⟨h', _⟩ | ⟨g, cap, cur, h', _, hg, _⟩
  · rw [h'] at hv; simp [Value.ownBlock] at hv
  · rw [h'] at hv
    simp [Value.ownBlock] at hv
    subst hv
    unfold Row at hr
    rw [hr] at hg
    simp at hg
    exact hT hg.2
/-- what lies at a place -/
theorem OwnL.at {g n c : Nat} (h : OwnL w base e m f (.slice (Option.some ⟨g, 0, none⟩) n c) l) (hm : ∀ x ∈ l, (f x).length = m) (k : Nat) (hk : k < l.length) : w.rangeAt g (k * m) (f l[k]) := by
  intro j v hv
  have h1 := Rw.flat_at hm k hk j v hv
  have hn : n = l.length := by
    rcases h.own.2 with ⟨h', _⟩ | ⟨_, _, _, h', _⟩
    · simp at h'
    · injection h'
  subst hn
  have hlt := (List.getElem?_eq_some_iff.1 h1).1
  rw [h.own.1] at hlt
  exact (h.own.cellAt _ hlt).trans h1
theorem OwnL.cell {g n c : Nat} (h : OwnL w base e m f (.slice (Option.some ⟨g, 0, none⟩) n c) l) (hm : ∀ x ∈ l, (f x).length = m) (k : Nat) (hk : k < l.length) (j : Nat) (u : Value) (hu : (f l[k])[j]? = Option.some u) : w.cell? ⟨g, k * m + j, none⟩ = Option.some u := h.at hm k hk j u hu
/-- append of one struct that lies in a new box -/
theorem OwnL.pushed {w' : World} {v' : Value} {x : α} (h : w'.ownsRow base e m v' (l.length + 1) (Rw.flat f l ++ f x)) : OwnL w' base e m f v' (l ++ [x]) := by
  constructor
  rw [Rw.flat_push, List.length_append]
  exact h
end
end Go.Proofs.YtalfnadejpmjnaaGreatDoor

/- ---- Chg ---- -/
/- Only some blocks, and new ones, have changed. -/
namespace Go.Proofs.YtalfnadejpmjnaaGreatDoor
open Go.RowKit Go.Maps
set_option linter.unusedVariables false
set_option linter.unusedSimpArgs false

/-- only blocks of S and new ones have changed -/
structure Chg (S : Nat → Prop) (w w' : World) : Prop where
  os : w'.os = w.os
  tape : w'.tape = w.tape
  output : w'.output = w.output
  size : w.heap.size ≤ w'.heap.size
  block : ∀ k, k < w.heap.size → ¬ S k → w'.heap[k]? = w.heap[k]?
theorem Chg.refl (S : Nat → Prop) (w : World) : Chg S w w := ⟨rfl, rfl, rfl, Nat.le_refl _, fun _ _ _ => rfl⟩
theorem Chg.trans {S S2 : Nat → Prop} {a b c : World} (h : Chg S a b) (k : Chg S2 b c) (hS : ∀ i, S2 i → S i ∨ a.heap.size ≤ i) : Chg S a c :=
  ⟨k.os.trans h.os, k.tape.trans h.tape, k.output.trans h.output, Nat.le_trans h.size k.size, fun i hi hn =>
    (k.block i (Nat.lt_of_lt_of_le hi h.size) (fun h2 => by rcases hS i h2 with h3 | h3 <;> first | exact hn h3 | omega)).trans (h.block i hi hn)⟩
theorem Chg.mono {S S2 : Nat → Prop} {a b : World} (h : Chg S a b) (hS : ∀ i, S i → S2 i) : Chg S2 a b := ⟨h.os, h.tape, h.output, h.size, fun i hi hn => h.block i hi (fun h2 => hn (hS i h2))⟩
theorem Chg.of_grown {S : Nat → Prop} {w w' : World} {r : Option Nat} (h : w.grownBy w' r) (hr : ∀ k, r = some k → S k ∨ w.heap.size ≤ k) : Chg S w w' :=
  ⟨h.os, h.tape, h.output, h.size, fun i hi hn => h.block i hi (fun e => by rcases hr i e.symm with h3 | h3 <;> first | exact hn h3 | omega)⟩
theorem Chg.of_below {S : Nat → Prop} {w w' : World} (h : Below w.heap.size w w') : Chg S w w' := ⟨h.os, h.tape, h.output, h.size, fun i hi _ => h.block i hi⟩
theorem Chg.below {S : Nat → Prop} {w w' : World} {B : Nat} (h : Chg S w w') (hB : B ≤ w.heap.size) (hS : ∀ k, S k → B ≤ k) : Below B w w' :=
  ⟨h.os, h.tape, h.output, h.size, fun i hi => h.block i (by omega) (fun h2 => by have := hS i h2; omega)⟩
theorem Chg.grown {S : Nat → Prop} {w w' : World} (h : Chg S w w') {r : Option Nat} (hS : ∀ k, S k → some k = r) : w.grownBy w' r :=
  ⟨h.os, h.tape, h.output, h.size, fun i hi hn => h.block i hi (fun h2 => hn (hS i h2))⟩
theorem Chg.row {S : Nat → Prop} {w w' : World} (h : Chg S w w') {g : Nat} {T : TypeId} {xs : List Value} (hr : Row w g T xs) (hS : ¬ S g) : Row w' g T xs := (h.block g hr.lt hS).trans hr
theorem OwnL.chg {S : Nat → Prop} {w w' : World} {α : Type} {base : Nat} {e : TypeId} {m : Nat} {f : α → List Value} {v : Value} {l : List α} (h : OwnL w base e m f v l) (hc : Chg S w w') (hS : ∀ k, v.ownBlock = some k → ¬ S k) : OwnL w' base e m f v l := by
  constructor
  refine ⟨h.own.1, ?_⟩
  rcases h.own.2 with hn | ⟨g, cap, cur, rfl, hb, hh, rest⟩
  · exact .inl hn
  · exact .inr ⟨g, cap, cur, rfl, hb, (hc.block g (Array.getElem?_eq_some_iff.1 hh).1 (hS g rfl)).trans hh, rest⟩
/-- two changes, one behind the other, as seen from what lies below -/
theorem below_chg {S : Nat → Prop} {a b c : World} {B : Nat} (h : Below B a b) (hc : Chg S b c) (hB : B ≤ b.heap.size) (hS : ∀ k, S k → B ≤ k) : Below B a c :=
  h.trans (hc.below hB hS)
theorem row_ne_row {w : World} {g h : Nat} {T U : TypeId} {xs ys : List Value} (h1 : Row w g T xs) (h2 : Row w h U ys) (hT : T ≠ U) : g ≠ h := by
  rintro rfl
  unfold Row at h1 h2
  rw [h1] at h2
  simp at h2
  exact hT h2.2
end Go.Proofs.YtalfnadejpmjnaaGreatDoor

/- ---- AppAt ---- -/
/- append onto a row of the call's own: where the new row lies. -/
namespace Go.Proofs.YtalfnadejpmjnaaGreatDoor
open Go.RowKit
set_option linter.unusedVariables false
set_option linter.unusedSimpArgs false

/-- as run_append_own_wide; the row is the old one, or a new one -/
theorem run_append_own_at {P : Program} (w : World) (base : Nat) (t ty e : TypeId) (i : TypeInfo) (z : Value) (size bytes : Nat) (ht : P.underlying t = some (.slice e)) (hi : P.info? e = some i) (hz : i.zero = some z)
    (hsize : i.size = size) (hby : i.bytes = bytes) (hzs : z.cells.size = size) (hsz : 0 < size)
    (v : Value) (n : Nat) (xs : List Value) (hown : w.ownsRow base e size v n xs)
    (a : Addr) (m c : Nat) (news : List Value) (hl : news.length = m * size) (hnews : ∀ j u, news[j]? = some u → w.cell? (a.add j) = some u) (h1 : ∀ u ∈ news, u.oneCell' = true) (hm : 0 < m)
    (h63 : n + m ≤ maxLen) (hbytes : ((n + m) + (n + m) / 4 + 192) * bytes ≤ 281474976710656) (hbase : base ≤ w.heap.size) :
    ∃ v' w', (Builtin.append_ #[t, t] ty #[v, .slice (some a) m c]).run P w = .ok v' w' ∧ w'.ownsRow base e size v' (n + m) (xs ++ news) ∧ w.grownBy w' v.ownBlock ∧
      (v'.ownBlock = v.ownBlock ∨ v'.ownBlock = some w.heap.size) := by
  obtain ⟨v', w', hr, h2, h3, _⟩ := run_append_own_wide (P := P) w base t ty e i z size bytes ht hi hz hsize hby hzs hsz v n xs hown a m c news hl hnews h1 h63 hbytes hbase
  refine ⟨v', w', hr, h2, h3, ?_⟩
  subst hsize
  subst hby
  have hsmall : n + m ≤ 9223372036854775807 := by simp only [maxLen] at h63; omega
  rcases hown.2 with ⟨rfl, rfl⟩ | ⟨g, cap, cur, rfl, hbg, hg, hnc, hcm, hcs, htake⟩
  · have hk := run_append_nil (P := P) w t ty e i z ht hi hz a m c news hl hnews hm (by omega) (by simp only [Nat.zero_add] at hbytes; exact Nat.le_trans (Nat.mul_le_mul_right _ (by omega)) hbytes)
    rw [hr] at hk
    injection hk with hk1 hk2
    right
    rw [hk1]; rfl
  · by_cases hroom : n + m ≤ cap
    · have hfit : n * i.size + news.length ≤ cur.size := by rw [hl, hcs, ← Nat.add_mul]; exact Nat.mul_le_mul_right _ hroom
      have hk := run_append_room (P := P) w t ty e i ht hi g n cap cur hg a m c news hl hnews h1 hroom hfit
      rw [hr] at hk
      injection hk with hk1 hk2
      left
      rw [hk1]; rfl
    · have holds : ∀ j u, xs[j]? = some u → w.cell? ((⟨g, 0, none⟩ : Addr).add j) = some u := hown.cells (g := g) rfl
      have hk := run_append_grow (P := P) w t ty e i z ht hi hz ⟨g, 0, none⟩ n cap xs hown.1 holds a m c news hl hnews (by omega) (by omega) (growslice_fits_wide (by omega) hbytes)
      rw [hr] at hk
      injection hk with hk1 hk2
      right
      rw [hk1]; rfl
theorem wp_append_own_at {P : Program} {w : World} {o : Oper} {a : Act} {K : Act → World → Prop} {Q : Exit → Act → World → Prop} (s x : Operand) (t : TypeId)
    (ho : o.op = .call { callee := .builtin .append, args := #[s, x], argTypes := #[t, t] })
    (base : Nat) (e : TypeId) (i : TypeInfo) (z : Value) (size bytes : Nat) (ht : P.underlying t = some (.slice e)) (hi : P.info? e = some i) (hz : i.zero = some z)
    (hsize : i.size = size) (hby : i.bytes = bytes) (hzs : z.cells.size = size) (hsz : 0 < size)
    (v : Value) (n : Nat) (xs : List Value) (hs : a.eval s = v) (hown : w.ownsRow base e size v n xs)
    (ad : Addr) (m c : Nat) (news : List Value) (hx : a.eval x = .slice (some ad) m c) (hl : news.length = m * size) (hnews : ∀ j u, news[j]? = some u → w.cell? (ad.add j) = some u) (h1 : ∀ u ∈ news, u.oneCell' = true) (hm : 0 < m)
    (h63 : n + m ≤ maxLen) (hbytes : ((n + m) + (n + m) / 4 + 192) * bytes ≤ 281474976710656) (hbase : base ≤ w.heap.size)
    (h : ∀ v' w', w'.ownsRow base e size v' (n + m) (xs ++ news) → w.grownBy w' v.ownBlock → (v'.ownBlock = v.ownBlock ∨ v'.ownBlock = some w.heap.size) → K (a.put o.dst v') w') : o.wp P a w K Q := by
  obtain ⟨v', w', hr, h2, h3, h4⟩ := run_append_own_at (P := P) w base t o.type e i z size bytes ht hi hz hsize hby hzs hsz v n xs hown ad m c news hl hnews h1 hm h63 hbytes hbase
  unfold Oper.wp execOp
  simp only [ho, resolve, invoke, builtin, Sem.run_bind, Sem.run_pure, Result.andThen_ok, List.map_toArray, List.map_cons, List.map_nil, hs, hx, hr]
  exact h v' w' h2 h3 h4
end Go.Proofs.YtalfnadejpmjnaaGreatDoor
