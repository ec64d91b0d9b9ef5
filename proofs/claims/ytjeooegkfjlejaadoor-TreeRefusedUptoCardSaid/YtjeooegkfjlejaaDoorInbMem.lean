/- Items, blocks and entries in memory. -/
import Derived.Test.YtjeooegkfjlejaaDoorInbMath
namespace Go.Proofs.YtjeooegkfjlejaaDoor
open Go.RowKit
set_option linter.unusedVariables false
set_option linter.unusedSimpArgs false

theorem range_below {w w' : World} {B b o : Nat} {cs : List Value} (h : w.rangeAt b o cs) (hb : Below B w w') (hlt : b < B) : w'.rangeAt b o cs :=
  fun j v hv => (hb.cell (p := ⟨b, o + j, none⟩) hlt).trans (h j v hv)
theorem range_grown {w w' : World} {b o : Nat} {cs : List Value} {r : Option Nat} (h : w.rangeAt b o cs) (hg : w.grownBy w' r) (hne : some b ≠ r) : w'.rangeAt b o cs :=
  fun j v hv => hg.cell (h j v hv) hne
theorem range_cell {w : World} {b o : Nat} {cs : List Value} (h : w.rangeAt b o cs) (j : Nat) (v : Value) (hv : cs[j]? = some v) : w.cell? ⟨b, o + j, none⟩ = some v := h j v hv
/-- things of one size one behind the other -/
def ListAt {α : Type} (sz : Nat) (R : World → Nat → Nat → α → Prop) (w : World) (B : Nat) (A : Option Addr) (l : List α) : Prop :=
  l ≠ [] → ∃ b off, A = some ⟨b, off, none⟩ ∧ b < B ∧ ∀ i (h : i < l.length), R w b (off + i * sz) l[i]
theorem ListAt.map {α : Type} {sz : Nat} {R R' : World → Nat → Nat → α → Prop} {w w' : World} {B B' : Nat} {A : Option Addr} {l : List α} (h : ListAt sz R w B A l) (hB : B ≤ B') (hR : ∀ b o x, b < B → R w b o x → R' w' b o x) : ListAt sz R' w' B' A l := fun hne => by
  obtain ⟨b, off, h1, h2, h3⟩ := h hne
  exact ⟨b, off, h1, by omega, fun i hi => hR _ _ _ h2 (h3 i hi)⟩
theorem ListAt.take {α : Type} {sz : Nat} {R : World → Nat → Nat → α → Prop} {w : World} {B : Nat} {A : Option Addr} {l : List α} (h : ListAt sz R w B A l) (k : Nat) : ListAt sz R w B A (l.take k) := fun hne => by
  have hl : l ≠ [] := fun e => hne (by rw [e, List.take_nil])
  obtain ⟨b, off, h1, h2, h3⟩ := h hl
  exact ⟨b, off, h1, h2, fun i hi => by
    rw [List.getElem_take]
    exact h3 i (by rw [List.length_take] at hi; omega)⟩
def ItR (w : World) (b o : Nat) (i : It) : Prop := w.rangeAt b o i.cells
def EnR (w : World) (b o : Nat) (e : En) : Prop := w.rangeAt b o e.cells
/-- a block's cells -/
def Bk.cells (b : Bk) (A : Option Addr) (cap : Nat) : List Value := [.int .i64 b.number, .int .i64 b.salt] ++ ((bRow b.parent).toList ++ [.slice A b.items.length cap])
theorem Bk.cells_len {b : Bk} {A : Option Addr} {cap : Nat} (h : b.parent.length = 32) : (b.cells A cap).length = 35 := by
  unfold Bk.cells
  simp only [List.length_append, Tx.bRow_len _ h, List.length_cons, List.length_nil]
theorem Bk.cells_one {b : Bk} {A : Option Addr} {cap : Nat} (h : b.parent.length = 32) : ∀ v ∈ b.cells A cap, v.oneCell' = true := by
  intro v hv
  unfold Bk.cells at hv
  rcases List.mem_append.1 hv with hv | hv
  · simp at hv
    rcases hv with rfl | rfl <;> rfl
  · rcases List.mem_append.1 hv with hv | hv
    · exact hash_one _ h v hv
    · simp at hv; subst hv; rfl
theorem Bk.cell0 (b : Bk) (A : Option Addr) (cap : Nat) : (b.cells A cap)[0]? = some (.int .i64 b.number) := rfl
theorem Bk.cell34 {b : Bk} {A : Option Addr} {cap : Nat} (h : b.parent.length = 32) : (b.cells A cap)[34]? = some (.slice A b.items.length cap) := by
  have e : b.cells A cap = ([Value.int .i64 b.number, Value.int .i64 b.salt] ++ (bRow b.parent).toList) ++ [.slice A b.items.length cap] := by unfold Bk.cells; rw [List.append_assoc]
  have hl : ([Value.int .i64 b.number, Value.int .i64 b.salt] ++ (bRow b.parent).toList).length = 34 := by rw [List.length_append, Tx.bRow_len _ h]; rfl
  rw [e, List.getElem?_append_right (by omega), hl]
  rfl
def BkItems (w : World) (B : Nat) (A : Option Addr) (l : List It) : Prop := ListAt 4 ItR w B A l ∧ l.length ≤ 9223372036854775807
def BkR (B : Nat) (w : World) (b o : Nat) (x : Bk) : Prop := ∃ A cap, w.rangeAt b o (x.cells A cap) ∧ BkItems w B A x.items ∧ x.items.length ≤ cap ∧ x.parent.length = 32
abbrev ItemsAt := ListAt 4 ItR
def BksAt (w : World) (B : Nat) (A : Option Addr) (l : List Bk) : Prop := ListAt 35 (BkR B) w B A l
abbrev EnsAt := ListAt 35 EnR
theorem ItemsAt.below {w w' : World} {B : Nat} {A : Option Addr} {l : List It} (h : ListAt 4 ItR w B A l) (hb : Below B w w') : ListAt 4 ItR w' B A l :=
  h.map (Nat.le_refl _) fun b o x hlt hx => range_below hx hb hlt
theorem BkItems.below {w w' : World} {B : Nat} {A : Option Addr} {l : List It} (h : BkItems w B A l) (hb : Below B w w') : BkItems w' B A l := ⟨ItemsAt.below h.1 hb, h.2⟩
theorem EnsAt.below {w w' : World} {B : Nat} {A : Option Addr} {l : List En} (h : ListAt 35 EnR w B A l) (hb : Below B w w') : ListAt 35 EnR w' B A l :=
  h.map (Nat.le_refl _) fun b o x hlt hx => range_below hx hb hlt
theorem EnsAt.mono {w : World} {B B' : Nat} {A : Option Addr} {l : List En} (h : ListAt 35 EnR w B A l) (hB : B ≤ B') : ListAt 35 EnR w B' A l := h.map hB fun b o x _ hx => hx
theorem BkItems.mono {w : World} {B B' : Nat} {A : Option Addr} {l : List It} (h : BkItems w B A l) (hB : B ≤ B') : BkItems w B' A l := ⟨h.1.map hB fun b o x _ hx => hx, h.2⟩
theorem BksAt.below {w w' : World} {B : Nat} {A : Option Addr} {l : List Bk} (h : BksAt w B A l) (hb : Below B w w') : BksAt w' B A l :=
  ListAt.map h (Nat.le_refl _) fun b o x hlt ⟨A', c, h1, h2, h3, h4⟩ => ⟨A', c, range_below h1 hb hlt, h2.below hb, h3, h4⟩
theorem BksAt.mono {w : World} {B B' : Nat} {A : Option Addr} {l : List Bk} (h : BksAt w B A l) (hB : B ≤ B') : BksAt w B' A l :=
  ListAt.map h hB fun b o x hlt ⟨A', c, h1, h2, h3, h4⟩ => ⟨A', c, h1, h2.mono hB, h3, h4⟩
theorem item_size : (Tryd.prog.info? 98).map (·.size) = some 4 := by kernel_rfl
theorem block_size : (Tryd.prog.info? 45).map (·.size) = some 35 := by kernel_rfl
theorem entry_size : (Tryd.prog.info? 78).map (·.size) = some 35 := by kernel_rfl
/-- entries of the call's own, as they lie -/
def En.flat (l : List En) : List Value := l.flatMap En.cells
theorem En.flat_snoc (l : List En) (e : En) : En.flat (l ++ [e]) = En.flat l ++ e.cells := by unfold En.flat; rw [List.flatMap_append]; simp
theorem En.flat_at : ∀ (l : List En) (hl : ∀ e ∈ l, e.acc.length = 32) (i : Nat) (hi : i < l.length) (j : Nat) (v : Value), l[i].cells[j]? = some v → (En.flat l)[i * 35 + j]? = some v
  | x :: r, hl, 0, hi, j, v, h => by
    show (x.cells ++ En.flat r)[_]? = _
    simp only [List.getElem_cons_zero] at h
    have hj := (List.getElem?_eq_some_iff.1 h).1
    rw [Nat.zero_mul, Nat.zero_add, List.getElem?_append_left hj]
    exact h
  | x :: r, hl, i + 1, hi, j, v, h => by
    have hc := En.cells_len (hl x (by simp))
    show (x.cells ++ En.flat r)[_]? = _
    simp only [List.getElem_cons_succ] at h
    rw [List.getElem?_append_right (by omega), hc, show (i + 1) * 35 + j - 35 = i * 35 + j by omega]
    exact En.flat_at r (fun e he => hl e (by simp [he])) i (by simpa using hi) j v h
/-- an own row of entries as entries in memory -/
theorem ens_own {w : World} {base : Nat} {A : Option Addr} {n c : Nat} {l : List En} (h : w.ownsRow base 78 35 (.slice A n c) n (En.flat l)) (hl : ∀ e ∈ l, e.acc.length = 32) (hn : n = l.length) : ListAt 35 EnR w w.heap.size A l := fun hne => by
  have hpos : 0 < n := by rw [hn]; exact List.length_pos_iff.2 hne
  obtain ⟨m, rfl⟩ : ∃ m, n = m + 1 := ⟨n - 1, by omega⟩
  obtain ⟨g, cap, e⟩ := ownsRow_succ h
  rw [e] at h
  injection e with e1 e2 e3
  subst e1
  refine ⟨g, 0, rfl, (h.lt g rfl).2, fun i hi j v hv => ?_⟩
  have hf := En.flat_at l hl i hi j v hv
  have hlt := (List.getElem?_eq_some_iff.1 hf).1
  rw [h.1] at hlt
  rw [Nat.zero_add]
  exact (h.cellAt _ hlt).trans hf
theorem ens_len {w : World} {base : Nat} {n c : Nat} {A : Option Addr} {xs : List Value} (h : w.ownsRow base 78 35 (.slice A n c) n xs) : n ≤ c ∧ n ≤ 9223372036854775807 := by
  rcases h.2 with ⟨e, hn⟩ | ⟨g, cap, cur, e, _, _, h1, h2, _⟩
  · injection e with e1 e2 e3; omega
  · injection e with e1 e2 e3
    unfold maxLen at h2; omega

namespace En
def lits (e : En) : List Lit := [.int .i64 e.who, .string e.text.data.toList, .int .i64 e.block] ++ Tx.hlits e.acc
theorem lits_inj {a b : En} (h : a.lits = b.lits) : a = b := by
  obtain ⟨a1, a2, a3, a4⟩ := a
  obtain ⟨b1, b2, b3, b4⟩ := b
  simp only [lits, List.cons_append, List.nil_append, List.cons.injEq, Lit.int.injEq, Lit.string.injEq, true_and] at h
  obtain ⟨rfl, h2, rfl, h4⟩ := h
  rw [Tx.hlits_inj h4]
  have : a2 = b2 := by
    cases a2; cases b2
    simp only at h2
    rw [Array.toList_inj.1 h2]
  rw [this]
theorem cells_acc (e : En) : (e.cells.drop 3) = (bRow e.acc).toList := rfl
end En
theorem en_lits {e : En} (h : e.Fits) : Tryd.prog.keyLits 3 78 e.cells = some e.lits := by
  have hc : Tryd.prog.cellsOf 78 = 35 := by kernel_rfl
  have hI : Tryd.prog.cellsOf 3 = 1 := by kernel_rfl
  have hS : Tryd.prog.cellsOf 9 = 1 := by kernel_rfl
  have hH : Tryd.prog.cellsOf 42 = 32 := by kernel_rfl
  have hm : e.text.size ≤ maxLen := by have := h.2.2.2; unfold maxLen; omega
  unfold Program.keyLits
  simp only [Tryd.underlying78]
  rw [if_pos ⟨by rw [hc, En.cells_len h.1], by kernel_rfl⟩]
  have e0 : Tryd.prog.keyLits 2 3 ((e.cells.drop 0).take (Tryd.prog.cellsOf 3)) = some [.int .i64 e.who] := by rw [hI]; exact lit_int 1 h.2.1
  have e1 : Tryd.prog.keyLits 2 9 ((e.cells.drop 1).take (Tryd.prog.cellsOf 9)) = some [.string e.text.data.toList] := by rw [hS]; exact lit_str 1 _ hm
  have e2 : Tryd.prog.keyLits 2 3 ((e.cells.drop 2).take (Tryd.prog.cellsOf 3)) = some [.int .i64 e.block] := by rw [hI]; exact lit_int 1 h.2.2.1
  have e3 : Tryd.prog.keyLits 2 42 ((e.cells.drop 3).take (Tryd.prog.cellsOf 42)) = some (Tx.hlits e.acc) := by rw [hH, En.cells_acc, List.take_of_length_le (by rw [Tx.bRow_len _ h.1]; omega)]; exact hash_lits _ h.1
  simp only [List.mapM_cons, List.mapM_nil, e0, e1, e2, e3, Option.bind_eq_bind, Option.bind_some, Option.pure_def, Option.map_some]
  simp [En.lits]
theorem en_eq (W : World) (a b : En) (ha : a.Fits) (hb : b.Fits) : ∃ r : Bool, (Op.equalIn 10000 78 (.agg a.cells.toArray) (.agg b.cells.toArray)).run Tryd.prog W = .ok r W ∧ (r = true ↔ a = b) := by
  have hk : Tryd.prog.keyTypeAt 3 78 = true := by kernel_rfl
  have hf : ∀ x : En, x.Fits → (Value.agg x.cells.toArray).formed Tryd.prog 78 = true := by
    intro x hx
    have hc : Tryd.prog.cellsOf 78 = 35 := by kernel_rfl
    have hs := En.cells_len hx.1
    simp [Value.formed, Tryd.underlying78, hs, hc]
  obtain ⟨r, hr, hiff⟩ := run_equalIn_deep (P := Tryd.prog) 9997 3 78 hk W 3 3 (.agg a.cells.toArray) (.agg b.cells.toArray) _ _ (hf a ha) (hf b hb) (by show Tryd.prog.keyLits 3 _ a.cells.toArray.toList = _; exact en_lits ha) (by show Tryd.prog.keyLits 3 _ b.cells.toArray.toList = _; exact en_lits hb)
  exact ⟨r, hr, hiff.trans ⟨En.lits_inj, fun h => by rw [h]⟩⟩
theorem en_same (W : World) (a : En) (ha : a.Fits) : (Op.equalIn 10000 78 (.agg a.cells.toArray) (.agg a.cells.toArray)).run Tryd.prog W = .ok true W := by
  obtain ⟨r, hr, hi⟩ := en_eq W a a ha ha
  rw [hr, hi.2 rfl]
end Go.Proofs.YtjeooegkfjlejaaDoor
