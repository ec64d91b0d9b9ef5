/- What later texts need of the earlier layers. -/
import Derived.Test.YtjeooegkfjlejaaDoorEarO
import Derived.Test.YtjeooegkfjlejaaDoorEarS
import Derived.Test.YtjeooegkfjlejaaDoorEarT
import Derived.Test.YtjeooegkfjlejaaDoorEarC
import Derived.Test.YtjeooegkfjlejaaDoorEarA
import Derived.Test.YtjeooegkfjlejaaDoorEarB
import Derived.Deep.DeepAppendWide
import Derived.RangeFuncBox
import Derived.WalkMore
import Derived.WalkKit
import Derived.Laws.OwnMore
/- ---- InbMath ---- -/
/- The inbox, as plain data: blocks, messages, what a call reaches. -/
namespace Go.Proofs.YtjeooegkfjlejaaDoor
open Go.RowKit
set_option linter.unusedVariables false
set_option linter.unusedSimpArgs false

/-- a block of the first chain -/
structure Bk where
  number : Int
  salt : Int
  parent : List UInt8
  items : List It
/-- an entry -/
structure En where
  who : Int
  text : ByteArray
  block : Int
  acc : List UInt8
namespace En
def cells (e : En) : List Value := [.int .i64 e.who, .string e.text, .int .i64 e.block] ++ (bRow e.acc).toList
def zero : En := ⟨0, ByteArray.empty, 0, Tx.zero⟩
def Fits (e : En) : Prop := e.acc.length = 32 ∧ (-9223372036854775808 ≤ e.who ∧ e.who ≤ 9223372036854775807) ∧ (-9223372036854775808 ≤ e.block ∧ e.block ≤ 9223372036854775807) ∧ e.text.size ≤ 140737488351232
theorem cells_len {e : En} (h : e.acc.length = 32) : e.cells.length = 35 := by
  unfold cells
  rw [List.length_append, Tx.bRow_len _ h]; rfl
theorem cells_one {e : En} (h : e.acc.length = 32) : ∀ v ∈ e.cells, v.oneCell' = true := by
  intro v hv
  unfold cells at hv
  rcases List.mem_append.1 hv with hv | hv
  · simp at hv
    rcases hv with rfl | rfl | rfl <;> rfl
  · exact hash_one _ h v hv
theorem inj {a b : En} (h1 : a.who = b.who) (h2 : a.text = b.text) (h3 : a.block = b.block) (h4 : a.acc = b.acc) : a = b := by
  cases a; cases b; simp_all
end En
namespace Inb
def item (i : It) : Bool := decide (i.kind = 1) && (decide (i.text.size ≤ 640) && i.ok)
def msg (who : Int) (t : ByteArray) : List UInt8 := (Oct.listE [Oct.num who.toNat, t.data.toList]).1
def link (acc : List UInt8) (who : Int) (t : ByteArray) : List UInt8 := Sha.sum (acc ++ msg who t)
def entry (blk : Int) (acc : List UInt8) (i : It) : En := ⟨i.who, i.text, blk, link acc i.who i.text⟩
def step (blk : Int) (s : List UInt8 × List En) (i : It) : List UInt8 × List En :=
  if item i = true then (link s.1 i.who i.text, s.2 ++ [entry blk s.1 i]) else s
def block (s : List UInt8 × List En) (b : Bk) : List UInt8 × List En := b.items.foldl (step b.number) s
def start : List UInt8 × List En := (Tx.zero, [])
def run (l : List Bk) : List UInt8 × List En := l.foldl block start
/-- each entry's Acc is the next one -/
def Chained : List UInt8 → List En → Prop
  | _, [] => True
  | acc, e :: r => e.acc = link acc e.who e.text ∧ Chained e.acc r
def lastAcc : List UInt8 → List En → List UInt8
  | acc, [] => acc
  | _, e :: r => lastAcc e.acc r
def Good (s : List UInt8 × List En) : Prop := s.1.length = 32 ∧ Chained Tx.zero s.2 ∧ lastAcc Tx.zero s.2 = s.1 ∧ ∀ e ∈ s.2, e.Fits ∧ 0 ≤ e.who ∧ e.who ≤ 64 ∧ e.text.size ≤ 640
end Inb
end Go.Proofs.YtjeooegkfjlejaaDoor

/- ---- InbMem ---- -/
/- Items, blocks and entries in memory. -/
namespace Go.Proofs.YtjeooegkfjlejaaDoor
open Go.RowKit
set_option linter.unusedVariables false
set_option linter.unusedSimpArgs false

theorem range_below {w w' : World} {B b o : Nat} {cs : List Value} (h : w.rangeAt b o cs) (hb : Below B w w') (hlt : b < B) : w'.rangeAt b o cs :=
  fun j v hv => (hb.cell (p := ⟨b, o + j, none⟩) hlt).trans (h j v hv)
/-- things of one size one behind the other -/
def ListAt {α : Type} (sz : Nat) (R : World → Nat → Nat → α → Prop) (w : World) (B : Nat) (A : Option Addr) (l : List α) : Prop :=
  l ≠ [] → ∃ b off, A = some ⟨b, off, none⟩ ∧ b < B ∧ ∀ i (h : i < l.length), R w b (off + i * sz) l[i]
theorem ListAt.map {α : Type} {sz : Nat} {R R' : World → Nat → Nat → α → Prop} {w w' : World} {B B' : Nat} {A : Option Addr} {l : List α} (h : ListAt sz R w B A l) (hB : B ≤ B') (hR : ∀ b o x, b < B → R w b o x → R' w' b o x) : ListAt sz R' w' B' A l := fun hne => by
  obtain ⟨b, off, h1, h2, h3⟩ := h hne
  exact ⟨b, off, h1, by omega, fun i hi => hR _ _ _ h2 (h3 i hi)⟩
theorem ListAt.take {α : Type} {sz : Nat} {R : World → Nat → Nat → α → Prop} {w : World} {B : Nat} {A : Option Addr} {l : List α} (h : ListAt sz R w B A l) (k : Nat) : ListAt sz R w B A (l.take k) := fun hne => by
  have hl : l ≠ [] := fun e => hne (by rw [e, List.take_nil])
  obtain ⟨b, off, h1, h2, h3⟩ := h hl
  exact ⟨b, off, h1, h2, fun i hi => by
    rw [List.getElem_take]
    exact h3 i (by rw [List.length_take] at hi; omega)⟩
def ItR (w : World) (b o : Nat) (i : It) : Prop := w.rangeAt b o i.cells
def EnR (w : World) (b o : Nat) (e : En) : Prop := w.rangeAt b o e.cells
/-- a block's cells -/
def Bk.cells (b : Bk) (A : Option Addr) (cap : Nat) : List Value := [.int .i64 b.number, .int .i64 b.salt] ++ ((bRow b.parent).toList ++ [.slice A b.items.length cap])
theorem Bk.cells_len {b : Bk} {A : Option Addr} {cap : Nat} (h : b.parent.length = 32) : (b.cells A cap).length = 35 := by
  unfold Bk.cells
  simp only [List.length_append, Tx.bRow_len _ h, List.length_cons, List.length_nil]
theorem Bk.cells_one {b : Bk} {A : Option Addr} {cap : Nat} (h : b.parent.length = 32) : ∀ v ∈ b.cells A cap, v.oneCell' = true := by
  intro v hv
  unfold Bk.cells at hv
  rcases List.mem_append.1 hv with hv | hv
  · simp at hv
    rcases hv with rfl | rfl <;> rfl
  · rcases List.mem_append.1 hv with hv | hv
    · exact hash_one _ h v hv
    · simp at hv; subst hv; rfl
theorem Bk.cell0 (b : Bk) (A : Option Addr) (cap : Nat) : (b.cells A cap)[0]? = some (.int .i64 b.number) := rfl
theorem Bk.cell34 {b : Bk} {A : Option Addr} {cap : Nat} (h : b.parent.length = 32) : (b.cells A cap)[34]? = some (.slice A b.items.length cap) := by
  have e : b.cells A cap = ([Value.int .i64 b.number, Value.int .i64 b.salt] ++ (bRow b.parent).toList) ++ [.slice A b.items.length cap] := by unfold Bk.cells; rw [List.append_assoc]
  have hl : ([Value.int .i64 b.number, Value.int .i64 b.salt] ++ (bRow b.parent).toList).length = 34 := by rw [List.length_append, Tx.bRow_len _ h]; rfl
  rw [e, List.getElem?_append_right (by omega), hl]
  rfl
def BkItems (w : World) (B : Nat) (A : Option Addr) (l : List It) : Prop := ListAt 4 ItR w B A l ∧ l.length ≤ 9223372036854775807
def BkR (B : Nat) (w : World) (b o : Nat) (x : Bk) : Prop := ∃ A cap, w.rangeAt b o (x.cells A cap) ∧ BkItems w B A x.items ∧ x.items.length ≤ cap ∧ x.parent.length = 32
abbrev ItemsAt := ListAt 4 ItR
def BksAt (w : World) (B : Nat) (A : Option Addr) (l : List Bk) : Prop := ListAt 35 (BkR B) w B A l
abbrev EnsAt := ListAt 35 EnR
theorem ItemsAt.below {w w' : World} {B : Nat} {A : Option Addr} {l : List It} (h : ListAt 4 ItR w B A l) (hb : Below B w w') : ListAt 4 ItR w' B A l :=
  h.map (Nat.le_refl _) fun b o x hlt hx => range_below hx hb hlt
theorem BkItems.below {w w' : World} {B : Nat} {A : Option Addr} {l : List It} (h : BkItems w B A l) (hb : Below B w w') : BkItems w' B A l := ⟨ItemsAt.below h.1 hb, h.2⟩
theorem EnsAt.below {w w' : World} {B : Nat} {A : Option Addr} {l : List En} (h : ListAt 35 EnR w B A l) (hb : Below B w w') : ListAt 35 EnR w' B A l :=
  h.map (Nat.le_refl _) fun b o x hlt hx => range_below hx hb hlt
theorem EnsAt.mono {w : World} {B B' : Nat} {A : Option Addr} {l : List En} (h : ListAt 35 EnR w B A l) (hB : B ≤ B') : ListAt 35 EnR w B' A l := h.map hB fun b o x _ hx => hx
theorem BkItems.mono {w : World} {B B' : Nat} {A : Option Addr} {l : List It} (h : BkItems w B A l) (hB : B ≤ B') : BkItems w B' A l := ⟨h.1.map hB fun b o x _ hx => hx, h.2⟩
theorem BksAt.below {w w' : World} {B : Nat} {A : Option Addr} {l : List Bk} (h : BksAt w B A l) (hb : Below B w w') : BksAt w' B A l :=
  ListAt.map h (Nat.le_refl _) fun b o x hlt ⟨A', c, h1, h2, h3, h4⟩ => ⟨A', c, range_below h1 hb hlt, h2.below hb, h3, h4⟩
theorem BksAt.mono {w : World} {B B' : Nat} {A : Option Addr} {l : List Bk} (h : BksAt w B A l) (hB : B ≤ B') : BksAt w B' A l :=
  ListAt.map h hB fun b o x hlt ⟨A', c, h1, h2, h3, h4⟩ => ⟨A', c, h1, h2.mono hB, h3, h4⟩
theorem item_size : (Tryd.prog.info? 98).map (·.size) = some 4 := by kernel_rfl
theorem block_size : (Tryd.prog.info? 45).map (·.size) = some 35 := by kernel_rfl
/-- entries of the call's own, as they lie -/
def En.flat (l : List En) : List Value := l.flatMap En.cells
theorem En.flat_at : ∀ (l : List En) (hl : ∀ e ∈ l, e.acc.length = 32) (i : Nat) (hi : i < l.length) (j : Nat) (v : Value), l[i].cells[j]? = some v → (En.flat l)[i * 35 + j]? = some v
  | x :: r, hl, 0, hi, j, v, h => by
    show (x.cells ++ En.flat r)[_]? = _
    simp only [List.getElem_cons_zero] at h
    have hj := (List.getElem?_eq_some_iff.1 h).1
    rw [Nat.zero_mul, Nat.zero_add, List.getElem?_append_left hj]
    exact h
  | x :: r, hl, i + 1, hi, j, v, h => by
    have hc := En.cells_len (hl x (by simp))
    show (x.cells ++ En.flat r)[_]? = _
    simp only [List.getElem_cons_succ] at h
    rw [List.getElem?_append_right (by omega), hc, show (i + 1) * 35 + j - 35 = i * 35 + j by omega]
    exact En.flat_at r (fun e he => hl e (by simp [he])) i (by simpa using hi) j v h
namespace En
end En
end Go.Proofs.YtjeooegkfjlejaaDoor

/- ---- InbPut ---- -/
/- inbox.mayBe; the closure of inbox.Messages: what it does. -/
namespace Go.Proofs.YtjeooegkfjlejaaDoor
open Go.RowKit
set_option linter.unusedVariables false
set_option linter.unusedSimpArgs false

theorem item_one (i : It) : ∀ v ∈ i.cells, v.oneCell' = true := by
  intro v hv
  simp [It.cells] at hv
  rcases hv with rfl | rfl | rfl | rfl <;> rfl
theorem total_cons (a : List UInt8) (l : List (List UInt8)) : Oct.total (a :: l) = a.length + Oct.total l := rfl
theorem listE_small (l : List (List UInt8)) (hl : l.length ≤ 1024) (ht : Oct.total l ≤ 65536) : ∃ b, Oct.listE l = (b, 0) := by
  unfold Oct.listE
  rw [if_neg (by omega), Oct.listGo_mk 65536 l ht]
  exact ⟨_, rfl⟩
theorem It.code_ok {i : It} (h : i.ok = true) : ∃ s, i.textE = (s, 0) := by
  unfold It.textE
  rw [if_pos h]
  refine listE_small _ (by simp [It.fields]) ?_
  have h0 := Oct.num_length_le i.kind.toNat
  have h1 := Oct.num_length_le i.who.toNat
  have h2 := Oct.num_length_le i.n.toNat
  have h3 : i.text.data.toList.length = i.text.size := rfl
  have h4 := (It.ok_iff i).1 h
  have h5 : (i.text.size : Int) ≤ 65472 := by
    rcases h4 with h4 | h4
    · exact h4.2.2.2.2
    · have : i.text.data.toList.length = 0 := by rw [h4.2.2.2.2]; rfl
      omega
  simp only [It.fields, total_cons]
  have : Oct.total [] = 0 := rfl
  omega
theorem It.code_no {i : It} (h : i.ok = false) : i.textE = ([], 2) := by unfold It.textE; rw [if_neg (by rw [h]; simp)]
/-- what Messages's closure writes to: the entries, and the Acc of the last one -/
def Vars (w : World) (base E Ab : Nat) (acc : List UInt8) (out : List En) : Prop :=
  base ≤ E ∧ base ≤ Ab ∧ acc.length = 32 ∧ (∀ e ∈ out, e.acc.length = 32) ∧ ∃ v, Row w E 68 [v] ∧ Row w Ab 42 (bRow acc).toList ∧ w.ownsRow base 78 35 v out.length (En.flat out)
theorem row_ne_own {w : World} {base g n size : Nat} {e t : TypeId} {v : Value} {xs ys : List Value} (h : Row w g t ys) (hown : w.ownsRow base e size v n xs) (ht : t ≠ e) : v.ownBlock ≠ some g := by
  intro hv
  rcases hown.2 with ⟨rfl, _⟩ | ⟨g', cap, cur, rfl, hg, hh, _⟩
  · simp [Value.ownBlock] at hv
  · simp only [Value.ownBlock, Option.some.injEq] at hv
    subst hv
    unfold Row at h
    rw [hh] at h
    simp at h
    exact ht h.2.symm
theorem Vars.step {w w' : World} {base E Ab : Nat} {acc : List UInt8} {out : List En} (h : Vars w base E Ab acc out) (hb : Below w.heap.size w w') : Vars w' base E Ab acc out := by
  obtain ⟨h1, h2, h3, h4, v, hE, hA, ho⟩ := h
  have hg := grownBy_of_below hb none
  exact ⟨h1, h2, h3, h4, v, hE.kept hg (by simp), hA.kept hg (by simp), own_below ho hb⟩
theorem row_diff {w : World} {g g' : Nat} {T U : TypeId} {xs ys : List Value} (h : Row w g T xs) (k : Row w g' U ys) (hT : T ≠ U) : some g ≠ some g' := fun e => by
  injection e with e
  subst e
  exact hT (h.type k)
theorem Vars.put {w w' : World} {base E Ab g : Nat} {T : TypeId} {xs : List Value} {acc : List UInt8} {out : List En} (h : Vars w base E Ab acc out) (hr : Row w g T xs) (h1 : T ≠ 78) (h2 : T ≠ 68) (h3 : T ≠ 42)
    (hg : w.grownBy w' (some g)) : Vars w' base E Ab acc out := by
  obtain ⟨k1, k2, k3, k4, v, hE, hA, ho⟩ := h
  exact ⟨k1, k2, k3, k4, v, hE.kept hg (row_diff hE hr h2.symm), hA.kept hg (row_diff hA hr h3.symm), ho.kept hg (.inr (row_ne_own hr ho h1))⟩
theorem Vars.lt {w : World} {base E Ab : Nat} {acc : List UInt8} {out : List En} (h : Vars w base E Ab acc out) : base ≤ E ∧ base ≤ Ab ∧ E < w.heap.size ∧ Ab < w.heap.size ∧ base ≤ w.heap.size := by
  obtain ⟨h1, h2, h3, h4, v, hE, hA, ho⟩ := h
  have := hE.lt
  have := hA.lt
  omega
/-- a slice literal of one struct -/
theorem fill_one (n : Nat) (z : Value) (C : List Value) (hC : C.length = n) : Instr.fill (fun i => some (i * n, n)) ((Array.range (1 * n)).map (z.cells[· % z.cells.size]!)) [(0, .agg C.toArray)] = some C.toArray := by
  have hl : ((Array.range (1 * n)).map (z.cells[· % z.cells.size]!)).toList.length = n := by simp
  have e : (Array.range (1 * n)).map (z.cells[· % z.cells.size]!) = ((Array.range (1 * n)).map (z.cells[· % z.cells.size]!)).toList.toArray := Array.toArray_toList.symm
  rw [e, fill_step _ _ 0 _ C _ 0 n (by simp) (by simp [Value.cells]) hC (by omega), fill_end]
  rw [List.take_zero, List.nil_append, List.drop_of_length_le (by omega), List.append_nil]
end Go.Proofs.YtjeooegkfjlejaaDoor

/- ---- InbMsg ---- -/
/- inbox.Messages: what it returns. -/
namespace Go.Proofs.YtjeooegkfjlejaaDoor
open Go.RowKit
set_option linter.unusedVariables false
set_option linter.unusedSimpArgs false

namespace Inb
end Inb
def Bk.zero : Bk := ⟨0, 0, Tx.zero, []⟩
def Bk.zeroC : List Value := Bk.zero.cells none 0
theorem Bk.zeroC_len : Bk.zeroC.length = 35 := Bk.cells_len rfl
theorem block_zv (W : World) : (zeroValue 45).run Tryd.prog W = .ok (.agg Bk.zeroC.toArray) W := by kernel_rfl
/-- where Messages stands -/
def MsgAt (w wr : World) (s : List UInt8 × List En) : Prop := Vars wr w.heap.size w.heap.size (w.heap.size + 1) s.1 s.2 ∧ Below w.heap.size w wr
theorem MsgAt.step {w wr w' : World} {s : List UInt8 × List En} (h : MsgAt w wr s) (hb : Below wr.heap.size wr w') : MsgAt w w' s := ⟨h.1.step hb, two_below' h.2 hb⟩
theorem below_of_store {w w1 w2 : World} {g : Nat} (hb : Below w.heap.size w w1) (hg : w1.grownBy w2 (some g)) (h : w.heap.size ≤ g) : Below w.heap.size w w2 := below_own hb hg (fun k hk => by cases hk; exact h)
theorem MsgAt.put {w wr w' : World} {g : Nat} {T : TypeId} {xs : List Value} {s : List UInt8 × List En} (h : MsgAt w wr s) (hr : Row wr g T xs) (h1 : T ≠ 78) (h2 : T ≠ 68) (h3 : T ≠ 42)
    (hg : wr.grownBy w' (some g)) (hle : w.heap.size ≤ g) : MsgAt w w' s := ⟨h.1.put hr h1 h2 h3 hg, below_of_store h.2 hg hle⟩
theorem MsgAt.lt {w wr : World} {s : List UInt8 × List En} (h : MsgAt w wr s) : w.heap.size + 1 < wr.heap.size := by have := h.1.lt; omega
end Go.Proofs.YtjeooegkfjlejaaDoor

/- ---- InbReach ---- -/
/- What a call reaches, as plain data. -/
namespace Go.Proofs.YtjeooegkfjlejaaDoor
set_option linter.unusedVariables false
namespace Inb
/-- how many of the first entries are low enough -/
def low (B : Int) : List Int → Nat
  | [] => 0
  | x :: r => if x ≤ B then low B r + 1 else 0
/-- all of the first k are low -/
theorem low_take {B : Int} : ∀ (l : List Int) (k : Nat), k ≤ l.length → (∀ i (h : i < l.length), i < k → l[i] ≤ B) → (∀ h : k < l.length, B < l[k]) → low B l = k
  | [], k, hk, _, _ => by simp at hk; subst hk; rfl
  | x :: r, 0, _, _, h => by
    have := h (by simp)
    simp only [List.getElem_cons_zero] at this
    unfold low
    rw [if_neg (by omega)]
  | x :: r, k + 1, hk, h, h2 => by
    have h0 := h 0 (by simp) (by omega)
    simp only [List.getElem_cons_zero] at h0
    unfold low
    rw [if_pos h0, low_take r k (by simpa using hk) (fun i hi hik => by have := h (i + 1) (by simpa using hi) (by omega); simpa using this) (fun hi => by have := h2 (by simpa using hi); simpa using this)]
theorem low_at {B : Int} {l : List Int} {m k : Nat} (hk : k < m) (hkl : k < l.length) (h : ∀ i (h : i < l.length), i < k → l[i] ≤ B) (h2 : B < l[k]) : low B (l.take m) = k := by
  refine low_take _ _ (by rw [List.length_take]; omega) (fun i hi hik => ?_) (fun hi => ?_)
  · rw [List.getElem_take]; exact h i (by rw [List.length_take] at hi; omega) hik
  · rw [List.getElem_take]; exact h2
theorem low_all {B : Int} {l : List Int} {m : Nat} (h : ∀ i (h : i < l.length), i < m → l[i] ≤ B) : low B (l.take m) = min m l.length := by
  refine low_take _ _ (by rw [List.length_take]; omega) (fun i hi hik => ?_) (fun hi => ?_)
  · rw [List.getElem_take]
    rw [List.length_take] at hi
    exact h i (by omega) (by omega)
  · rw [List.length_take] at hi; omega
end Inb
end Go.Proofs.YtjeooegkfjlejaaDoor

/- ---- InbRea ---- -/
/- inbox.Reach and the reference's: what they return. -/
namespace Go.Proofs.YtjeooegkfjlejaaDoor
open Go.RowKit
set_option linter.unusedVariables false
set_option linter.unusedSimpArgs false

/-- what the entries' blocks are -/
def blks (l : List En) : List Int := l.map En.block
/-- the first k are low enough -/
def LowTo (l : List En) (B : Int) (k : Nat) : Prop := ∀ i (h : i < l.length), i < k → l[i].block ≤ B
theorem LowTo.zero (l : List En) (B : Int) : LowTo l B 0 := fun _ _ h => absurd h (Nat.not_lt_zero _)
theorem LowTo.next {l : List En} {B : Int} {k : Nat} (h : LowTo l B k) (hk : k < l.length) (h2 : l[k].block ≤ B) : LowTo l B (k + 1) := fun i hi hik => by
  by_cases e : i = k
  · subst e; exact h2
  · exact h i hi (by omega)
theorem LowTo.at_ {l : List En} {B : Int} {k m : Nat} (h : LowTo l B k) (hm : k < m) (hk : k < l.length) (h2 : B < l[k].block) : Inb.low B ((blks l).take m) = k :=
  Inb.low_at hm (by simpa [blks] using hk) (fun i hi hik => by simpa [blks] using h i (by simpa [blks] using hi) hik) (by simpa [blks] using h2)
theorem LowTo.all {l : List En} {B : Int} {m : Nat} (h : LowTo l B (min m l.length)) : Inb.low B ((blks l).take m) = min m l.length := by
  have := Inb.low_all (B := B) (l := blks l) (m := m) (fun i hi hik => by
    have hi' : i < l.length := by simpa [blks] using hi
    simpa [blks] using h i hi' (by omega))
  simpa [blks] using this
end Go.Proofs.YtjeooegkfjlejaaDoor

/- ---- InbSame ---- -/
/- cavalcaderef12.Same over equal lists; what each law of layer 12 begins with. -/
namespace Go.Proofs.YtjeooegkfjlejaaDoor
open Go.RowKit
set_option linter.unusedVariables false
set_option linter.unusedSimpArgs false

theorem bk_places : (Tryd.prog.underlying 45).map (fun d => match d with | .struct fields => fields.toList.mapM (fun f => (Tryd.prog.info? f.type).map fun i => (f.offset, i.size)) | _ => Option.none) = some (some [(0, 1), (1, 1), (2, 32), (34, 1)]) := by kernel_rfl
theorem bk_zero : (Tryd.prog.info? 45).map (·.zero) = some (some (.agg Bk.zeroC.toArray)) := by kernel_rfl
theorem bk_info : (Tryd.prog.info? 45).map (fun i => (i.zero, i.size, i.bytes)) = some (some (.agg Bk.zeroC.toArray), 35, 72) := by kernel_rfl
theorem bk_built (parts : List (Nat × Value)) : Tryd.prog.built 45 parts = Instr.fill (#[(0, 1), (1, 1), (2, 32), (34, 1)][·]?) Bk.zeroC.toArray parts := by
  obtain ⟨i0, hi, hz⟩ := Option.map_eq_some_iff.1 bk_zero
  have hp := bk_places
  rw [Tryd.underlying45] at hp
  simp only [Option.map_some, Option.some.injEq] at hp
  unfold Program.built
  rw [hi, Tryd.underlying45]
  simp only [hz, hp]
  rfl
theorem hash_ne12 {R : List UInt8} (h : R.length = 32) (hn : R ≠ Tx.zero) (W : World) : (Op.equalIn 10000 42 (.agg (bRow R)) (.agg (bRow Tx.zero))).run Tryd.prog W = .ok false W := (hash_eq W R Tx.zero h rfl).trans (by rw [decide_eq_false hn])
end Go.Proofs.YtjeooegkfjlejaaDoor

/- ---- InbRm ---- -/
/- cavalcaderef12.Messages: what it returns. -/
namespace Go.Proofs.YtjeooegkfjlejaaDoor
open Go.RowKit
set_option linter.unusedVariables false
set_option linter.unusedSimpArgs false

/-- where the reference's Messages stands -/
def RefAt (w wr : World) (v : Value) (s : List UInt8 × List En) : Prop :=
  s.1.length = 32 ∧ (∀ e ∈ s.2, e.acc.length = 32) ∧ Row wr w.heap.size 42 (bRow s.1).toList ∧ wr.ownsRow w.heap.size 78 35 v s.2.length (En.flat s.2) ∧ Below w.heap.size w wr
theorem RefAt.step {w wr w' : World} {v : Value} {s : List UInt8 × List En} (h : RefAt w wr v s) (hb : Below wr.heap.size wr w') : RefAt w w' v s :=
  ⟨h.1, h.2.1, h.2.2.1.kept (grownBy_of_below hb none) (by simp), own_below h.2.2.2.1 hb, two_below' h.2.2.2.2 hb⟩
theorem RefAt.put {w wr w' : World} {g : Nat} {T : TypeId} {xs : List Value} {v : Value} {s : List UInt8 × List En} (h : RefAt w wr v s) (hr : Row wr g T xs) (h1 : T ≠ 78) (h3 : T ≠ 42)
    (hg : wr.grownBy w' (some g)) (hle : w.heap.size ≤ g) : RefAt w w' v s :=
  ⟨h.1, h.2.1, h.2.2.1.kept hg (row_diff h.2.2.1 hr h3.symm), h.2.2.2.1.kept hg (.inr (row_ne_own hr h.2.2.2.1 h1)), below_of_store h.2.2.2.2 hg hle⟩
theorem RefAt.lt {w wr : World} {v : Value} {s : List UInt8 × List En} (h : RefAt w wr v s) : w.heap.size < wr.heap.size := h.2.2.1.lt
/-- what the drawn statement counts on -/
def RefIn (w W : World) (g : Nat) (K : List UInt8) (IC : List Value) : Prop := Row W w.heap.size 42 (bRow K).toList ∧ Row W g 98 IC ∧ Below w.heap.size w W
theorem RefIn.step {w W W' : World} {g : Nat} {K : List UInt8} {IC : List Value} (h : RefIn w W g K IC) (hb : Below W.heap.size W W') : RefIn w W' g K IC :=
  ⟨h.1.kept (grownBy_of_below hb none) (by simp), h.2.1.kept (grownBy_of_below hb none) (by simp), two_below' h.2.2 hb⟩
end Go.Proofs.YtjeooegkfjlejaaDoor

/- ---- InbNum ---- -/
/- cavalcaderef12.Numbers: are two lists of numbers the same? -/
namespace Go.Proofs.YtjeooegkfjlejaaDoor
open Go.RowKit
set_option linter.unusedVariables false
set_option linter.unusedSimpArgs false

/-- v reads as the numbers L -/
def NumsV (w : World) (v : Value) (L : List Int) : Prop :=
  ∃ (A : Option Addr) (c : Nat), v = .slice A L.length c ∧ (L ≠ [] → ∃ b off, A = some ⟨b, off, none⟩ ∧ b < w.heap.size ∧ ∀ i, i < L.length → w.cell? ⟨b, off + i, none⟩ = some (.int .i64 (L.getD i 0)))
theorem NumsV.row {w : World} {B c : Nat} {t : TypeId} {L : List Int} (h : Row w B t (Is L)) : NumsV w (.slice (some ⟨B, 0, none⟩) L.length c) L :=
  ⟨_, c, rfl, fun _ => ⟨B, 0, rfl, h.lt, fun i hi => by rw [Nat.zero_add]; exact h.num i hi⟩⟩
theorem NumsV.nil (w : World) : NumsV w (.slice none 0 0) [] := ⟨none, 0, rfl, fun h => absurd rfl h⟩
theorem NumsV.kept {w w' : World} {v : Value} {L : List Int} (h : NumsV w v L) (hg : w.grownBy w' none) : NumsV w' v L := by
  obtain ⟨A, c, rfl, hL⟩ := h
  refine ⟨A, c, rfl, fun hne => ?_⟩
  obtain ⟨b, off, rfl, hb, hc⟩ := hL hne
  exact ⟨b, off, rfl, Nat.lt_of_lt_of_le hb hg.size, fun i hi => (World.cell?_of_block (hg.block b hb (by simp))).trans (hc i hi)⟩
end Go.Proofs.YtjeooegkfjlejaaDoor

/- ---- InbFo ---- -/
/- inbox.Forces and the reference's: what they return. -/
namespace Go.Proofs.YtjeooegkfjlejaaDoor
open Go.RowKit
set_option linter.unusedVariables false
set_option linter.unusedSimpArgs false

namespace Inb
end Inb
/-- where Forces stands -/
def FoAt (w wr : World) (C : List Value) (v : Value) (L : List Int) : Prop :=
  Row wr w.heap.size 45 C ∧ wr.ownsRow w.heap.size 3 1 v L.length (Is L) ∧ Below w.heap.size w wr
theorem FoAt.step {w wr w' : World} {C : List Value} {v : Value} {L : List Int} (h : FoAt w wr C v L) (hb : Below wr.heap.size wr w') : FoAt w w' C v L :=
  ⟨h.1.kept (grownBy_of_below hb none) (by simp), own_below h.2.1 hb, two_below' h.2.2 hb⟩
theorem FoAt.put {w wr w' : World} {g : Nat} {T : TypeId} {xs C : List Value} {v : Value} {L : List Int} (h : FoAt w wr C v L) (hr : Row wr g T xs) (h1 : T ≠ 45) (h3 : T ≠ 3)
    (hg : wr.grownBy w' (some g)) (hle : w.heap.size ≤ g) : FoAt w w' C v L :=
  ⟨h.1.kept hg (row_diff h.1 hr h1.symm), h.2.1.kept hg (.inr (row_ne_own hr h.2.1 h3)), below_own h.2.2 hg (fun k hk => by cases hk; exact hle)⟩
theorem FoAt.lt {w wr : World} {C : List Value} {v : Value} {L : List Int} (h : FoAt w wr C v L) : w.heap.size < wr.heap.size := h.1.lt
/-- one number more -/
theorem FoAt.grow {w wr w' : World} {C : List Value} {v v' : Value} {L : List Int} {x : Int} (h : FoAt w wr C v L) (ho : w'.ownsRow w.heap.size 3 1 v' (L.length + 1) (Is L ++ [.int .i64 x])) (hg : wr.grownBy w' v.ownBlock) : FoAt w w' C v' (L ++ [x]) :=
  ⟨h.1.kept hg (row_ne_own h.1 h.2.1 (by decide)).symm, by show w'.ownsRow _ _ _ _ (L ++ [x]).length ((L ++ [x]).map I); rw [List.length_append, List.map_append]; exact ho, below_row h.2.2 h.2.2.size h.2.1 hg⟩
theorem item_zv12 (W : World) : (zeroValue 98).run Tryd.prog W = .ok (.agg It.zero.cells.toArray) W := by kernel_rfl
end Go.Proofs.YtjeooegkfjlejaaDoor

/- ---- InbLaw2 ---- -/
/- The laws InboxMessages and InboxChained: what their functions return. -/
namespace Go.Proofs.YtjeooegkfjlejaaDoor
open Go.RowKit
set_option linter.unusedVariables false
set_option linter.unusedSimpArgs false

def Bk.Num (b : Bk) : Prop := -9223372036854775808 ≤ b.number ∧ b.number ≤ 9223372036854775807
namespace Inb
/-- what all entries are -/
def Fine (s : List UInt8 × List En) : Prop := s.1.length = 32 ∧ (∀ e ∈ s.2, e.Fits ∧ 0 ≤ e.who ∧ e.who ≤ 64 ∧ e.text.size ≤ 640) ∧ Chained Tx.zero s.2 ∧ lastAcc Tx.zero s.2 = s.1
end Inb
theorem own_form12 {W : World} {base n size : Nat} {e : TypeId} {v : Value} {xs : List Value} (h : W.ownsRow base e size v n xs) : ∃ A c, v = .slice A n c := by
  rcases h.2 with ⟨rfl, rfl⟩ | ⟨g, cap, cur, rfl, _⟩
  · exact ⟨none, 0, rfl⟩
  · exact ⟨_, cap, rfl⟩
end Go.Proofs.YtjeooegkfjlejaaDoor

/- ---- InbBv ---- -/
/- Blocks with where their items lie; append of blocks. -/
namespace Go.Proofs.YtjeooegkfjlejaaDoor
open Go.RowKit
set_option linter.unusedVariables false
set_option linter.unusedSimpArgs false

structure Bv where
  b : Bk
  A : Option Addr
  cap : Nat
namespace Bv
def cells (x : Bv) : List Value := x.b.cells x.A x.cap
def Fits (x : Bv) : Prop := x.b.parent.length = 32 ∧ x.b.Num
def flat (l : List Bv) : List Value := l.flatMap cells
theorem cells_len {x : Bv} (h : x.Fits) : x.cells.length = 35 := Bk.cells_len h.1
theorem flat_append (l m : List Bv) : flat (l ++ m) = flat l ++ flat m := List.flatMap_append
theorem flat_len : ∀ {l : List Bv}, (∀ x ∈ l, x.Fits) → (flat l).length = l.length * 35
  | [], _ => rfl
  | x :: r, h => by
    show (x.cells ++ flat r).length = _
    rw [List.length_append, cells_len (h x (by simp)), flat_len (fun y hy => h y (by simp [hy])), List.length_cons]
    omega
theorem flat_one : ∀ {l : List Bv}, (∀ x ∈ l, x.Fits) → ∀ v ∈ flat l, v.oneCell' = true
  | [], _, v, hv => by cases hv
  | x :: r, h, v, hv => by
    rcases List.mem_append.1 (show v ∈ x.cells ++ flat r from hv) with hv | hv
    · exact Bk.cells_one (h x (by simp)).1 v hv
    · exact flat_one (fun y hy => h y (by simp [hy])) v hv
theorem flat_at : ∀ (l : List Bv) (hl : ∀ x ∈ l, x.Fits) (i : Nat) (hi : i < l.length) (j : Nat) (v : Value), l[i].cells[j]? = some v → (flat l)[i * 35 + j]? = some v
  | x :: r, hl, 0, hi, j, v, h => by
    show (x.cells ++ flat r)[_]? = _
    simp only [List.getElem_cons_zero] at h
    have hj := (List.getElem?_eq_some_iff.1 h).1
    rw [Nat.zero_mul, Nat.zero_add, List.getElem?_append_left hj]
    exact h
  | x :: r, hl, i + 1, hi, j, v, h => by
    have hc := cells_len (hl x (by simp))
    show (x.cells ++ flat r)[_]? = _
    simp only [List.getElem_cons_succ] at h
    rw [List.getElem?_append_right (by omega), hc, show (i + 1) * 35 + j - 35 = i * 35 + j by omega]
    exact flat_at r (fun e he => hl e (by simp [he])) i (by simpa using hi) j v h
theorem flat_range {w : World} {g : Nat} : ∀ (l : List Bv) (off : Nat), (∀ x ∈ l, x.Fits) → (∀ i (h : i < l.length), w.rangeAt g (off + i * 35) l[i].cells) → w.rangeAt g off (flat l)
  | [], off, _, _ => fun j v hv => by simp [flat] at hv
  | x :: r, off, hf, h => fun j v hv => by
    have hc := cells_len (hf x (by simp))
    have hv : (x.cells ++ flat r)[j]? = some v := hv
    by_cases hj : j < 35
    · rw [List.getElem?_append_left (by omega)] at hv
      have := h 0 (by simp) j v hv
      rwa [Nat.zero_mul, Nat.add_zero] at this
    · rw [List.getElem?_append_right (by omega), hc] at hv
      have := flat_range r (off + 35) (fun y hy => hf y (by simp [hy])) (fun i hi => by
        have := h (i + 1) (by simpa using hi)
        rw [show off + 35 + i * 35 = off + (i + 1) * 35 by omega]
        simpa using this) (j - 35) v hv
      rwa [show off + 35 + (j - 35) = off + j by omega] at this
end Bv
def BvR (B : Nat) (w : World) (g o : Nat) (x : Bv) : Prop := w.rangeAt g o x.cells ∧ BkItems w B x.A x.b.items ∧ x.b.items.length ≤ x.cap
def BvsAt (w : World) (B : Nat) (A : Option Addr) (l : List Bv) : Prop := ListAt 35 (BvR B) w B A l
def bks (l : List Bv) : List Bk := l.map Bv.b
theorem bks_len (l : List Bv) : (bks l).length = l.length := List.length_map ..
theorem BvsAt.bks {w : World} {B : Nat} {A : Option Addr} {l : List Bv} (h : BvsAt w B A l) (hf : ∀ x ∈ l, x.Fits) : BksAt w B A (bks l) := fun hne => by
  obtain ⟨g, off, h1, h2, h3⟩ := h (by intro e; rw [e] at hne; exact hne rfl)
  refine ⟨g, off, h1, h2, fun i hi => ?_⟩
  have hi' : i < l.length := by simpa [Go.Proofs.YtjeooegkfjlejaaDoor.bks] using hi
  obtain ⟨q1, q2, q3⟩ := h3 i hi'
  have e : (Go.Proofs.YtjeooegkfjlejaaDoor.bks l)[i] = l[i].b := by simp [Go.Proofs.YtjeooegkfjlejaaDoor.bks]
  rw [e]
  exact ⟨l[i].A, l[i].cap, q1, q2, q3, (hf l[i] (List.getElem_mem _)).1⟩
theorem BvsAt.below {w w' : World} {B : Nat} {A : Option Addr} {l : List Bv} (h : BvsAt w B A l) (hb : Below B w w') : BvsAt w' B A l :=
  ListAt.map h (Nat.le_refl _) fun b o x hlt ⟨h1, h2, h3⟩ => ⟨range_below h1 hb hlt, h2.below hb, h3⟩
theorem BvsAt.mono {w : World} {B B' : Nat} {A : Option Addr} {l : List Bv} (h : BvsAt w B A l) (hB : B ≤ B') : BvsAt w B' A l :=
  ListAt.map h hB fun b o x hlt ⟨h1, h2, h3⟩ => ⟨h1, h2.mono hB, h3⟩
/-- an own row of blocks -/
theorem bvs_own {w : World} {base : Nat} {A : Option Addr} {n c B : Nat} {l : List Bv} (h : w.ownsRow base 45 35 (.slice A n c) n (Bv.flat l)) (hl : ∀ x ∈ l, x.Fits) (hn : n = l.length) (hB : B = w.heap.size) (hi : ∀ x ∈ l, BkItems w B x.A x.b.items ∧ x.b.items.length ≤ x.cap) : BvsAt w B A l := fun hne => by
  have hpos : 0 < n := by rw [hn]; exact List.length_pos_iff.2 hne
  obtain ⟨m, rfl⟩ : ∃ m, n = m + 1 := ⟨n - 1, by omega⟩
  obtain ⟨g, cap, e⟩ := ownsRow_succ h
  rw [e] at h
  injection e with e1 e2 e3
  subst e1
  refine ⟨g, 0, rfl, by rw [hB]; exact (h.lt g rfl).2, fun i hi2 => ⟨fun j v hv => ?_, hi _ (List.getElem_mem _)⟩⟩
  have hf := Bv.flat_at l hl i hi2 j v hv
  have hlt := (List.getElem?_eq_some_iff.1 hf).1
  rw [h.1] at hlt
  rw [Nat.zero_add]
  exact (h.cellAt _ hlt).trans hf
/-- a slice of blocks that came in -/
def BvIn (w : World) (B : Nat) (A : Option Addr) (c : Nat) (l : List Bv) : Prop := BvsAt w B A l ∧ (A = none → l = [] ∧ c = 0) ∧ l.length ≤ c
theorem BvIn.below {w w' : World} {B : Nat} {A : Option Addr} {c : Nat} {l : List Bv} (h : BvIn w B A c l) (hb : Below B w w') : BvIn w' B A c l :=
  ⟨h.1.below hb, h.2.1, h.2.2⟩
theorem BvIn.take {w : World} {B : Nat} {A : Option Addr} {c : Nat} {l : List Bv} (h : BvIn w B A c l) (f : ∀ x ∈ l, x.Fits) (k : Nat) : BvIn w B A c (l.take k) :=
  ⟨ListAt.take h.1 k, fun e => by obtain ⟨h1, h2⟩ := h.2.1 e; exact ⟨by rw [h1, List.take_nil], h2⟩, by have := h.2.2; rw [List.length_take]; omega⟩
set_option maxRecDepth 20000 in
theorem wp_append_blocks {w : World} {o : Oper} {a : Act} {K : Act → World → Prop} {Q : Exit → Act → World → Prop} (s x : Operand)
    (ho : o.op = .call { callee := .builtin .append, args := #[s, x], argTypes := #[36, 36] }) (base : Nat) (v : Value) (n : Nat) (xs : List Value) (hs : a.eval s = v) (hown : w.ownsRow base 45 35 v n xs)
    (B : Nat) (A : Option Addr) (c : Nat) (l : List Bv) (m : Nat) (hm : m = l.length) (hx : a.eval x = .slice A m c) (hin : BvIn w B A c l) (hf : ∀ y ∈ l, y.Fits) (hb : n + m ≤ 1000000) (hbase : base ≤ w.heap.size)
    (h : ∀ v' w', w'.ownsRow base 45 35 v' (n + m) (xs ++ Bv.flat l) → w.grownBy w' v.ownBlock → K (a.put o.dst v') w') : o.wp Tryd.prog a w K Q := by
  subst hm
  obtain ⟨i0, hi, h2⟩ := Option.map_eq_some_iff.1 bk_info
  simp only [Prod.mk.injEq] at h2
  cases A with
  | none =>
    obtain ⟨rfl, rfl⟩ := hin.2.1 rfl
    have hrun := run_append_owned_none (P := Tryd.prog) (w := w) base 36 o.type 45 i0 35 Tryd.underlying36 hi v n xs hown
    unfold Oper.wp
    simp [execOp, ho, resolve, invoke, builtin, hs, hx, hrun, Result.andThen]
    exact h v w (by rw [show Bv.flat [] = [] from rfl, List.append_nil]; exact hown) (World.grownBy.refl w _)
  | some ad =>
    refine wp_append_own_wide w s x 36 ho base 45 i0 (.agg Bk.zeroC.toArray) 35 72 Tryd.underlying36 hi h2.1 h2.2.1 h2.2.2 (by rw [← Bk.zeroC_len]; rfl) (by decide) v n xs hs hown ad l.length c (Bv.flat l) hx (Bv.flat_len hf) (fun j u hj => ?_) (Bv.flat_one hf) (Nat.le_trans hb (by decide)) (by omega) hbase fun v' w' h3 h4 _ => h v' w' h3 h4
    have hne : l ≠ [] := fun e => by rw [e] at hj; simp [Bv.flat] at hj
    obtain ⟨g, off, e, _, hat⟩ := hin.1 hne
    injection e with e
    subst e
    have e : (⟨g, off, none⟩ : Addr).add j = ⟨g, off + j, none⟩ := by unfold Addr.add; split <;> simp_all
    rw [e]
    exact Bv.flat_range l off hf (fun i hi => (hat i hi).1) j u hj
end Go.Proofs.YtjeooegkfjlejaaDoor

/- ---- InbLaw4 ---- -/
/- The law InboxGrows: what its function returns. -/
namespace Go.Proofs.YtjeooegkfjlejaaDoor
open Go.RowKit
set_option linter.unusedVariables false
set_option linter.unusedSimpArgs false

/-- rows of the call's own with unlike elements lie apart -/
theorem own_ne_own {w : World} {base base2 n m s t : Nat} {e f : TypeId} {u v : Value} {xs ys : List Value} (h : w.ownsRow base e s u n xs) (k : w.ownsRow base2 f t v m ys) (hne : e ≠ f) : u.ownBlock = none ∨ u.ownBlock ≠ v.ownBlock := by
  rcases h.2 with ⟨rfl, _⟩ | ⟨g, cap, cur, rfl, _, hh, _⟩
  · exact .inl rfl
  · refine .inr fun q => ?_
    rcases k.2 with ⟨rfl, _⟩ | ⟨g', cap', cur', rfl, _, hh', _⟩
    · simp [Value.ownBlock] at q
    · simp only [Value.ownBlock, Option.some.injEq] at q
      subst q
      rw [hh] at hh'
      simp at hh'
      exact hne hh'.2
end Go.Proofs.YtjeooegkfjlejaaDoor
