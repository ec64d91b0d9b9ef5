/- The inbox, as plain data: blocks, messages, what a call reaches. -/
import Derived.Test.YtjeooegkfjlejaaDoorEarB
namespace Go.Proofs.YtjeooegkfjlejaaDoor
open Go.RowKit
set_option linter.unusedVariables false
set_option linter.unusedSimpArgs false

/-- a block of the first chain -/
structure Bk where
  number : Int
  salt : Int
  parent : List UInt8
  items : List It
/-- an entry -/
structure En where
  who : Int
  text : ByteArray
  block : Int
  acc : List UInt8
namespace En
def cells (e : En) : List Value := [.int .i64 e.who, .string e.text, .int .i64 e.block] ++ (bRow e.acc).toList
def zero : En := ⟨0, ByteArray.empty, 0, Tx.zero⟩
def Fits (e : En) : Prop := e.acc.length = 32 ∧ (-9223372036854775808 ≤ e.who ∧ e.who ≤ 9223372036854775807) ∧ (-9223372036854775808 ≤ e.block ∧ e.block ≤ 9223372036854775807) ∧ e.text.size ≤ 140737488351232
theorem cells_len {e : En} (h : e.acc.length = 32) : e.cells.length = 35 := by
  unfold cells
  rw [List.length_append, Tx.bRow_len _ h]; rfl
theorem cells_one {e : En} (h : e.acc.length = 32) : ∀ v ∈ e.cells, v.oneCell' = true := by
  intro v hv
  unfold cells at hv
  rcases List.mem_append.1 hv with hv | hv
  · simp at hv
    rcases hv with rfl | rfl | rfl <;> rfl
  · exact hash_one _ h v hv
theorem inj {a b : En} (h1 : a.who = b.who) (h2 : a.text = b.text) (h3 : a.block = b.block) (h4 : a.acc = b.acc) : a = b := by
  cases a; cases b; simp_all
end En
namespace Inb
def item (i : It) : Bool := decide (i.kind = 1) && (decide (i.text.size ≤ 640) && i.ok)
def msg (who : Int) (t : ByteArray) : List UInt8 := (Oct.listE [Oct.num who.toNat, t.data.toList]).1
def link (acc : List UInt8) (who : Int) (t : ByteArray) : List UInt8 := Sha.sum (acc ++ msg who t)
def entry (blk : Int) (acc : List UInt8) (i : It) : En := ⟨i.who, i.text, blk, link acc i.who i.text⟩
def step (blk : Int) (s : List UInt8 × List En) (i : It) : List UInt8 × List En :=
  if item i = true then (link s.1 i.who i.text, s.2 ++ [entry blk s.1 i]) else s
def block (s : List UInt8 × List En) (b : Bk) : List UInt8 × List En := b.items.foldl (step b.number) s
def start : List UInt8 × List En := (Tx.zero, [])
def run (l : List Bk) : List UInt8 × List En := l.foldl block start
def msgs (l : List Bk) : List En := (run l).2
theorem link_len (acc : List UInt8) (who : Int) (t : ByteArray) : (link acc who t).length = 32 := Sha.sum_len _
theorem step_len {blk : Int} {s : List UInt8 × List En} {i : It} (h : s.1.length = 32) : (step blk s i).1.length = 32 := by
  unfold step
  split
  · exact link_len _ _ _
  · exact h
theorem foldl_inv {α β : Type} (P : α → Prop) (f : α → β → α) (hf : ∀ a b, P a → P (f a b)) : ∀ (l : List β) (a : α), P a → P (l.foldl f a)
  | [], a, h => h
  | b :: l, a, h => foldl_inv P f hf l (f a b) (hf a b h)
theorem inv_run (P : List UInt8 × List En → Prop) (hf : ∀ blk s i, P s → P (step blk s i)) (l : List Bk) (s : List UInt8 × List En) (h : P s) : P (l.foldl block s) :=
  foldl_inv P block (fun a b ha => foldl_inv P (step b.number) (fun s i hs => hf _ s i hs) b.items a ha) l s h
theorem run_append (l m : List Bk) : run (l ++ m) = m.foldl block (run l) := List.foldl_append
theorem run_snoc (l : List Bk) (b : Bk) : run (l ++ [b]) = block (run l) b := by rw [run_append]; rfl
theorem grows (l : List Bk) (s : List UInt8 × List En) : s.2 <+: (l.foldl block s).2 := by
  refine inv_run (fun x => s.2 <+: x.2) (fun blk x i hx => ?_) l s (List.prefix_refl _)
  unfold step
  split
  · exact hx.trans (List.prefix_append _ _)
  · exact hx
theorem msgs_grow (l m : List Bk) : msgs l <+: msgs (l ++ m) := by
  unfold msgs
  rw [run_append]
  exact grows m (run l)
/-- each entry's Acc is the next one -/
def Chained : List UInt8 → List En → Prop
  | _, [] => True
  | acc, e :: r => e.acc = link acc e.who e.text ∧ Chained e.acc r
def lastAcc : List UInt8 → List En → List UInt8
  | acc, [] => acc
  | _, e :: r => lastAcc e.acc r
theorem chained_snoc {e : En} : ∀ {l : List En} {acc : List UInt8}, Chained acc l → e.acc = link (lastAcc acc l) e.who e.text → Chained acc (l ++ [e]) ∧ lastAcc acc (l ++ [e]) = e.acc
  | [], acc, _, h => ⟨⟨h, trivial⟩, rfl⟩
  | x :: r, acc, h, he => by
    obtain ⟨h1, h2⟩ := h
    obtain ⟨h3, h4⟩ := chained_snoc h2 he
    exact ⟨⟨h1, h3⟩, h4⟩
def Good (s : List UInt8 × List En) : Prop := s.1.length = 32 ∧ Chained Tx.zero s.2 ∧ lastAcc Tx.zero s.2 = s.1 ∧ ∀ e ∈ s.2, e.Fits ∧ 0 ≤ e.who ∧ e.who ≤ 64 ∧ e.text.size ≤ 640
end Inb
end Go.Proofs.YtjeooegkfjlejaaDoor
