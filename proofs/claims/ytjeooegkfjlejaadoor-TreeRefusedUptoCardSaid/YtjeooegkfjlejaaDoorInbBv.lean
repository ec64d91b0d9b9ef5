/- Blocks with where their items lie; append of blocks. -/
import Derived.Test.YtjeooegkfjlejaaDoorInbLaw2
import Derived.Laws.OwnMore
namespace Go.Proofs.YtjeooegkfjlejaaDoor
open Go.RowKit
set_option linter.unusedVariables false
set_option linter.unusedSimpArgs false

structure Bv where
  b : Bk
  A : Option Addr
  cap : Nat
namespace Bv
def cells (x : Bv) : List Value := x.b.cells x.A x.cap
def Fits (x : Bv) : Prop := x.b.parent.length = 32 ∧ x.b.Num
def flat (l : List Bv) : List Value := l.flatMap cells
theorem cells_len {x : Bv} (h : x.Fits) : x.cells.length = 35 := Bk.cells_len h.1
theorem flat_append (l m : List Bv) : flat (l ++ m) = flat l ++ flat m := List.flatMap_append
theorem flat_len : ∀ {l : List Bv}, (∀ x ∈ l, x.Fits) → (flat l).length = l.length * 35
  | [], _ => rfl
  | x :: r, h => by
    show (x.cells ++ flat r).length = _
    rw [List.length_append, cells_len (h x (by simp)), flat_len (fun y hy => h y (by simp [hy])), List.length_cons]
    omega
theorem flat_one : ∀ {l : List Bv}, (∀ x ∈ l, x.Fits) → ∀ v ∈ flat l, v.oneCell' = true
  | [], _, v, hv => by cases hv
  | x :: r, h, v, hv => by
    rcases List.mem_append.1 (show v ∈ x.cells ++ flat r from hv) with hv | hv
    · exact Bk.cells_one (h x (by simp)).1 v hv
    · exact flat_one (fun y hy => h y (by simp [hy])) v hv
theorem flat_at : ∀ (l : List Bv) (hl : ∀ x ∈ l, x.Fits) (i : Nat) (hi : i < l.length) (j : Nat) (v : Value), l[i].cells[j]? = some v → (flat l)[i * 35 + j]? = some v
  | x :: r, hl, 0, hi, j, v, h => by
    show (x.cells ++ flat r)[_]? = _
    simp only [List.getElem_cons_zero] at h
    have hj := (List.getElem?_eq_some_iff.1 h).1
    rw [Nat.zero_mul, Nat.zero_add, List.getElem?_append_left hj]
    exact h
  | x :: r, hl, i + 1, hi, j, v, h => by
    have hc := cells_len (hl x (by simp))
    show (x.cells ++ flat r)[_]? = _
    simp only [List.getElem_cons_succ] at h
    rw [List.getElem?_append_right (by omega), hc, show (i + 1) * 35 + j - 35 = i * 35 + j by omega]
    exact flat_at r (fun e he => hl e (by simp [he])) i (by simpa using hi) j v h
theorem flat_range {w : World} {g : Nat} : ∀ (l : List Bv) (off : Nat), (∀ x ∈ l, x.Fits) → (∀ i (h : i < l.length), w.rangeAt g (off + i * 35) l[i].cells) → w.rangeAt g off (flat l)
  | [], off, _, _ => fun j v hv => by simp [flat] at hv
  | x :: r, off, hf, h => fun j v hv => by
    have hc := cells_len (hf x (by simp))
    have hv : (x.cells ++ flat r)[j]? = some v := hv
    by_cases hj : j < 35
    · rw [List.getElem?_append_left (by omega)] at hv
      have := h 0 (by simp) j v hv
      rwa [Nat.zero_mul, Nat.add_zero] at this
    · rw [List.getElem?_append_right (by omega), hc] at hv
      have := flat_range r (off + 35) (fun y hy => hf y (by simp [hy])) (fun i hi => by
        have := h (i + 1) (by simpa using hi)
        rw [show off + 35 + i * 35 = off + (i + 1) * 35 by omega]
        simpa using this) (j - 35) v hv
      rwa [show off + 35 + (j - 35) = off + j by omega] at this
end Bv
def BvR (B : Nat) (w : World) (g o : Nat) (x : Bv) : Prop := w.rangeAt g o x.cells ∧ BkItems w B x.A x.b.items ∧ x.b.items.length ≤ x.cap
def BvsAt (w : World) (B : Nat) (A : Option Addr) (l : List Bv) : Prop := ListAt 35 (BvR B) w B A l
def bks (l : List Bv) : List Bk := l.map Bv.b
theorem bks_len (l : List Bv) : (bks l).length = l.length := List.length_map ..
theorem BvsAt.bks {w : World} {B : Nat} {A : Option Addr} {l : List Bv} (h : BvsAt w B A l) (hf : ∀ x ∈ l, x.Fits) : BksAt w B A (bks l) := fun hne => by
  obtain ⟨g, off, h1, h2, h3⟩ := h (by intro e; rw [e] at hne; exact hne rfl)
  refine ⟨g, off, h1, h2, fun i hi => ?_⟩
  have hi' : i < l.length := by simpa [Go.Proofs.YtjeooegkfjlejaaDoor.bks] using hi
  obtain ⟨q1, q2, q3⟩ := h3 i hi'
  have e : (Go.Proofs.YtjeooegkfjlejaaDoor.bks l)[i] = l[i].b := by simp [Go.Proofs.YtjeooegkfjlejaaDoor.bks]
  rw [e]
  exact ⟨l[i].A, l[i].cap, q1, q2, q3, (hf l[i] (List.getElem_mem _)).1⟩
theorem BvsAt.below {w w' : World} {B : Nat} {A : Option Addr} {l : List Bv} (h : BvsAt w B A l) (hb : Below B w w') : BvsAt w' B A l :=
  ListAt.map h (Nat.le_refl _) fun b o x hlt ⟨h1, h2, h3⟩ => ⟨range_below h1 hb hlt, h2.below hb, h3⟩
theorem BvsAt.mono {w : World} {B B' : Nat} {A : Option Addr} {l : List Bv} (h : BvsAt w B A l) (hB : B ≤ B') : BvsAt w B' A l :=
  ListAt.map h hB fun b o x hlt ⟨h1, h2, h3⟩ => ⟨h1, h2.mono hB, h3⟩
theorem bks_num {l : List Bv} (hf : ∀ x ∈ l, x.Fits) : ∀ b ∈ bks l, b.Num := fun b hb => by
  obtain ⟨x, hx, rfl⟩ := List.mem_map.1 hb
  exact (hf x hx).2
/-- what every item slice of these says, wherever the blocks lie -/
theorem items_of {w : World} {B : Nat} {A : Option Addr} {l : List Bv} (h : BvsAt w B A l) : ∀ x ∈ l, BkItems w B x.A x.b.items ∧ x.b.items.length ≤ x.cap := fun x hx => by
  obtain ⟨i, hi, rfl⟩ := List.getElem_of_mem hx
  obtain ⟨g, off, h1, h2, h3⟩ := h (by intro e; rw [e] at hi; simp at hi)
  exact (h3 i hi).2
/-- an own row of blocks -/
theorem bvs_own {w : World} {base : Nat} {A : Option Addr} {n c B : Nat} {l : List Bv} (h : w.ownsRow base 45 35 (.slice A n c) n (Bv.flat l)) (hl : ∀ x ∈ l, x.Fits) (hn : n = l.length) (hB : B = w.heap.size) (hi : ∀ x ∈ l, BkItems w B x.A x.b.items ∧ x.b.items.length ≤ x.cap) : BvsAt w B A l := fun hne => by
  have hpos : 0 < n := by rw [hn]; exact List.length_pos_iff.2 hne
  obtain ⟨m, rfl⟩ : ∃ m, n = m + 1 := ⟨n - 1, by omega⟩
  obtain ⟨g, cap, e⟩ := ownsRow_succ h
  rw [e] at h
  injection e with e1 e2 e3
  subst e1
  refine ⟨g, 0, rfl, by rw [hB]; exact (h.lt g rfl).2, fun i hi2 => ⟨fun j v hv => ?_, hi _ (List.getElem_mem _)⟩⟩
  have hf := Bv.flat_at l hl i hi2 j v hv
  have hlt := (List.getElem?_eq_some_iff.1 hf).1
  rw [h.1] at hlt
  rw [Nat.zero_add]
  exact (h.cellAt _ hlt).trans hf
/-- a slice of blocks that came in -/
def BvIn (w : World) (B : Nat) (A : Option Addr) (c : Nat) (l : List Bv) : Prop := BvsAt w B A l ∧ (A = none → l = [] ∧ c = 0) ∧ l.length ≤ c
theorem BvIn.below {w w' : World} {B : Nat} {A : Option Addr} {c : Nat} {l : List Bv} (h : BvIn w B A c l) (hb : Below B w w') : BvIn w' B A c l :=
  ⟨h.1.below hb, h.2.1, h.2.2⟩
theorem BvIn.take {w : World} {B : Nat} {A : Option Addr} {c : Nat} {l : List Bv} (h : BvIn w B A c l) (f : ∀ x ∈ l, x.Fits) (k : Nat) : BvIn w B A c (l.take k) :=
  ⟨ListAt.take h.1 k, fun e => by obtain ⟨h1, h2⟩ := h.2.1 e; exact ⟨by rw [h1, List.take_nil], h2⟩, by have := h.2.2; rw [List.length_take]; omega⟩
set_option maxRecDepth 20000 in
theorem wp_append_blocks {w : World} {o : Oper} {a : Act} {K : Act → World → Prop} {Q : Exit → Act → World → Prop} (s x : Operand)
    (ho : o.op = .call { callee := .builtin .append, args := #[s, x], argTypes := #[36, 36] }) (base : Nat) (v : Value) (n : Nat) (xs : List Value) (hs : a.eval s = v) (hown : w.ownsRow base 45 35 v n xs)
    (B : Nat) (A : Option Addr) (c : Nat) (l : List Bv) (m : Nat) (hm : m = l.length) (hx : a.eval x = .slice A m c) (hin : BvIn w B A c l) (hf : ∀ y ∈ l, y.Fits) (hb : n + m ≤ 1000000) (hbase : base ≤ w.heap.size)
    (h : ∀ v' w', w'.ownsRow base 45 35 v' (n + m) (xs ++ Bv.flat l) → w.grownBy w' v.ownBlock → K (a.put o.dst v') w') : o.wp Tryd.prog a w K Q := by
  subst hm
  obtain ⟨i0, hi, h2⟩ := Option.map_eq_some_iff.1 bk_info
  simp only [Prod.mk.injEq] at h2
  cases A with
  | none =>
    obtain ⟨rfl, rfl⟩ := hin.2.1 rfl
    have hrun := run_append_owned_none (P := Tryd.prog) (w := w) base 36 o.type 45 i0 35 Tryd.underlying36 hi v n xs hown
    unfold Oper.wp
    simp [execOp, ho, resolve, invoke, builtin, hs, hx, hrun, Result.andThen]
    exact h v w (by rw [show Bv.flat [] = [] from rfl, List.append_nil]; exact hown) (World.grownBy.refl w _)
  | some ad =>
    refine wp_append_own_wide w s x 36 ho base 45 i0 (.agg Bk.zeroC.toArray) 35 72 Tryd.underlying36 hi h2.1 h2.2.1 h2.2.2 (by rw [← Bk.zeroC_len]; rfl) (by decide) v n xs hs hown ad l.length c (Bv.flat l) hx (Bv.flat_len hf) (fun j u hj => ?_) (Bv.flat_one hf) (Nat.le_trans hb (by decide)) (by omega) hbase fun v' w' h3 h4 _ => h v' w' h3 h4
    have hne : l ≠ [] := fun e => by rw [e] at hj; simp [Bv.flat] at hj
    obtain ⟨g, off, e, _, hat⟩ := hin.1 hne
    injection e with e
    subst e
    have e : (⟨g, off, none⟩ : Addr).add j = ⟨g, off + j, none⟩ := by unfold Addr.add; split <;> simp_all
    rw [e]
    exact Bv.flat_range l off hf (fun i hi => (hat i hi).1) j u hj
theorem wpList_append_blocks {w : World} {ops : Array Oper} {rest : List Oper} {o : Oper} {a : Act} {Q : Exit → Act → World → Prop} (hg : o.guard = none) (s x : Operand)
    (ho : o.op = .call { callee := .builtin .append, args := #[s, x], argTypes := #[36, 36] }) (base : Nat) (v : Value) (n : Nat) (xs : List Value) (hs : a.eval s = v) (hown : w.ownsRow base 45 35 v n xs)
    (B : Nat) (A : Option Addr) (c : Nat) (l : List Bv) (m : Nat) (hm : m = l.length) (hx : a.eval x = .slice A m c) (hin : BvIn w B A c l) (hf : ∀ y ∈ l, y.Fits) (hb : n + m ≤ 1000000) (hbase : base ≤ w.heap.size)
    (h : ∀ v' w', w'.ownsRow base 45 35 v' (n + m) (xs ++ Bv.flat l) → w.grownBy w' v.ownBlock → wpList Tryd.prog ops Q rest (a.put o.dst v') w') : wpList Tryd.prog ops Q (o :: rest) a w :=
  wpList_step fun K hK => by
    have hw : Region.wanted o (yielded ops a.tmps) = true := by simp [Region.wanted, hg]
    rw [if_pos hw]
    exact wp_append_blocks s x ho base v n xs hs hown B A c l m hm hx hin hf hb hbase fun v' w' h3 h4 => hK _ _ (h v' w' h3 h4)
theorem sliceHead (A : Option Addr) (n k cp : Nat) (hc : k ≤ cp) (W : World) : (Instr.slice 68 (.slice A n cp) none (some (.int .i64 k)) none).run Tryd.prog W = .ok (.slice A k cp) W := by
  have hz : (sizeOf (Tryd.prog.elem 68)).run Tryd.prog W = .ok 35 W := by kernel_rfl
  have e := run_slice_h (P := Tryd.prog) (w := W) (t := 68) (a := A) (len := n) (cap := cp) (by kernel_rfl) (kh := .i64) (h := (k : Int)) (by omega) (by omega)
  rw [hz] at e
  simp only [Result.andThen, Int.toNat_natCast] at e
  rw [e]
  unfold sliced
  have e2 : A.map (fun x => x.add (0 * 35)) = A := by
    cases A with
    | none => rfl
    | some a => simp [Addr.add]
  rw [e2]
  simp
end Go.Proofs.YtjeooegkfjlejaaDoor
