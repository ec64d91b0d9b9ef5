/- What later texts need of the earlier layers. -/
import Derived.Test.YtoicpidiejhjeaaSlO
import Derived.Test.YtoicpidiejhjeaaProg
import Derived.WalkKit
import Derived.Below
import Derived.Lib.Hide
import Derived.LoopTactic
import Derived.Outline
import Derived.Laws.BitsAllLaws
import Derived.Laws.BitsLemmas
import Derived.Laws.Rows
import Derived.Deep.Draws
import Derived.Laws.Tables
import Derived.Laws.CopyOwn
import Derived.StillTailTactics
import Derived.Deep.QuietTactic
import Derived.BigQuiet
import Derived.IntWalk
import Derived.Laws.MakeOwn
import Derived.Lib.BufferWrite
import Derived.Laws.BytesArg
import Derived.OwnWalk
import Derived.Laws.ResultCell
import Derived.DeepKeys
import Derived.Shelf.Small.Bits
import Derived.Deep.RegionHeld3
import Derived.Test.YtoicpidiejhjeaaChecked
import Derived.OneCell
import Derived.Maps.AppendAt
import Derived.Maps.Range
import Derived.Great.BuildSlice
import Derived.Deep.MidRow
/- ---- MShaA ---- -/
/- SHA-256 as a plain function; contracts of package digest. -/
/- ---- ShaMath ---- -/
namespace Go.Proofs.Ytoicpidiejhjeaa
set_option linter.unusedVariables false
set_option linter.unusedSimpArgs false
namespace Sha
def add (a b : Nat) : Nat := (a + b) % 4294967296
/-- turned right by n -/
def rot (n x : Nat) : Nat := x / 2 ^ n + x * 2 ^ (32 - n) % 4294967296
def big0 (x : Nat) : Nat := rot 2 x ^^^ rot 13 x ^^^ rot 22 x
def big1 (x : Nat) : Nat := rot 6 x ^^^ rot 11 x ^^^ rot 25 x
def lit0 (x : Nat) : Nat := rot 7 x ^^^ rot 18 x ^^^ (x / 8)
def lit1 (x : Nat) : Nat := rot 17 x ^^^ rot 19 x ^^^ (x / 1024)
def ch (e f g : Nat) : Nat := (e &&& f) ^^^ ((4294967295 - e) &&& g)
def maj (a b c : Nat) : Nat := (a &&& b) ^^^ (a &&& c) ^^^ (b &&& c)
def kk : List Nat := [
  0x428a2f98, 0x71374491, 0xb5c0fbcf, 0xe9b5dba5, 0x3956c25b, 0x59f111f1, 0x923f82a4, 0xab1c5ed5,
  0xd807aa98, 0x12835b01, 0x243185be, 0x550c7dc3, 0x72be5d74, 0x80deb1fe, 0x9bdc06a7, 0xc19bf174,
  0xe49b69c1, 0xefbe4786, 0x0fc19dc6, 0x240ca1cc, 0x2de92c6f, 0x4a7484aa, 0x5cb0a9dc, 0x76f988da,
  0x983e5152, 0xa831c66d, 0xb00327c8, 0xbf597fc7, 0xc6e00bf3, 0xd5a79147, 0x06ca6351, 0x14292967,
  0x27b70a85, 0x2e1b2138, 0x4d2c6dfc, 0x53380d13, 0x650a7354, 0x766a0abb, 0x81c2c92e, 0x92722c85,
  0xa2bfe8a1, 0xa81a664b, 0xc24b8b70, 0xc76c51a3, 0xd192e819, 0xd6990624, 0xf40e3585, 0x106aa070,
  0x19a4c116, 0x1e376c08, 0x2748774c, 0x34b0bcb5, 0x391c0cb3, 0x4ed8aa4a, 0x5b9cca4f, 0x682e6ff3,
  0x748f82ee, 0x78a5636f, 0x84c87814, 0x8cc70208, 0x90befffa, 0xa4506ceb, 0xbef9a3f7, 0xc67178f2]
/-- a block's first words -/
def word (l : List UInt8) (t : Nat) : Nat := (l.getD (4 * t) 0).toNat * 16777216 + (l.getD (4 * t + 1) 0).toNat * 65536 + (l.getD (4 * t + 2) 0).toNat * 256 + (l.getD (4 * t + 3) 0).toNat
def next (w : List Nat) : Nat := add (add (add (lit1 (w.getD (w.length - 2) 0)) (w.getD (w.length - 7) 0)) (lit0 (w.getD (w.length - 15) 0))) (w.getD (w.length - 16) 0)
/-- the first n words -/
def words (l : List UInt8) : Nat → List Nat
  | 0 => []
  | n + 1 => words l n ++ [if n < 16 then word l n else next (words l n)]
structure St where
  (a b c d e f g h : Nat)
def rnd (s : St) (k w : Nat) : St :=
  let x := add (add (add (add s.h (big1 s.e)) (ch s.e s.f s.g)) k) w
  let y := add (big0 s.a) (maj s.a s.b s.c)
  ⟨add x y, s.a, s.b, s.c, add s.d x, s.e, s.f, s.g⟩
def rnds (s : St) (w : List Nat) : Nat → St
  | 0 => s
  | n + 1 => rnd (rnds s w n) (kk.getD n 0) (w.getD n 0)
def plus (s t : St) : St := ⟨add s.a t.a, add s.b t.b, add s.c t.c, add s.d t.d, add s.e t.e, add s.f t.f, add s.g t.g, add s.h t.h⟩
def step (s : St) (l : List UInt8) : St := plus s (rnds s (words l 64) 64)
def start : St := ⟨0x6a09e667, 0xbb67ae85, 0x3c6ef372, 0xa54ff53a, 0x510e527f, 0x9b05688c, 0x1f83d9ab, 0x5be0cd19⟩
/-- the state behind n blocks -/
def runs (s : St) (l : List UInt8) : Nat → St
  | 0 => s
  | n + 1 => step (runs s l n) ((l.drop (64 * n)).take 64)
/-- a length's eight bytes -/
def len8 (n : Nat) : List UInt8 := [7, 6, 5, 4, 3, 2, 1, 0].map fun i => UInt8.ofNat (n * 8 % 18446744073709551616 / 2 ^ (8 * i) % 256)
def pad (l : List UInt8) : List UInt8 := l ++ 128 :: (List.replicate ((119 - l.length % 64) % 64) 0 ++ len8 l.length)
def at_ (s : St) : Nat → Nat
  | 0 => s.a | 1 => s.b | 2 => s.c | 3 => s.d | 4 => s.e | 5 => s.f | 6 => s.g | _ => s.h
def bytes (s : St) : List UInt8 := (List.range 32).map fun i => UInt8.ofNat (at_ s (i / 4) / 2 ^ (24 - 8 * (i % 4)) % 256)
def sum (l : List UInt8) : List UInt8 := bytes (runs start (pad l) ((pad l).length / 64))
/-- all eight words are words -/
def St.ok (s : St) : Prop := s.a < 4294967296 ∧ s.b < 4294967296 ∧ s.c < 4294967296 ∧ s.d < 4294967296 ∧ s.e < 4294967296 ∧ s.f < 4294967296 ∧ s.g < 4294967296 ∧ s.h < 4294967296
end Sha
end Go.Proofs.Ytoicpidiejhjeaa

/- ---- ShaRot ---- -/
namespace Go.Proofs.Ytoicpidiejhjeaa
open Go.RowKit
set_option linter.unusedVariables false
set_option linter.unusedSimpArgs false

end Go.Proofs.Ytoicpidiejhjeaa

/- ---- Blk ---- -/
namespace Go.Proofs.Ytoicpidiejhjeaa
open Go.RowKit
set_option linter.unusedVariables false
set_option linter.unusedSimpArgs false

/-- block b is just these cells; none is frozen -/
def Holds (w : World) (b : Nat) (cs : Array Value) : Prop := ∃ T, w.heap[b]? = some (.cells cs T (0, 0))
section
variable {w w' : World} {b : Nat} {cs : Array Value}
theorem Holds.lt (h : Holds w b cs) : b < w.heap.size := by
  obtain ⟨T, h⟩ := h
  rcases Nat.lt_or_ge b w.heap.size with h1 | h1
  · exact h1
  · rw [Array.getElem?_eq_none h1] at h; cases h
theorem Holds.cell (h : Holds w b cs) (i : Nat) : w.cell? ⟨b, i, none⟩ = cs[i]? := by
  obtain ⟨T, h⟩ := h
  exact cell_of_row w b i cs T (0, 0) h
theorem Holds.free (h : Holds w b cs) (i : Nat) : w.frozen? ⟨b, i, none⟩ = false := by
  obtain ⟨T, h⟩ := h
  simp [World.frozen?, h]
theorem Holds.new (w : World) (T : TypeId) (cs : Array Value) : Holds (w.alloc (.cells cs T)) w.heap.size cs := ⟨T, heap_alloc_new w _⟩
theorem Holds.alloc (h : Holds w b cs) (o : Obj) : Holds (w.alloc o) b cs := by
  have hl := h.lt
  obtain ⟨T, h⟩ := h
  exact ⟨T, (Below.heap_alloc w o b hl).trans h⟩
theorem Holds.set_ (h : Holds w b cs) (i : Nat) (u : Value) : Holds (w.setCell ⟨b, i, none⟩ u) b (cs.setIfInBounds i u) := by
  obtain ⟨T, h⟩ := h
  refine ⟨T, ?_⟩
  simp [World.setCell, Array.getElem?_modify, h]
theorem Holds.far (h : Holds w b cs) {p : Addr} (hp : b ≠ p.block) (u : Value) : Holds (w.setCell p u) b cs := by
  obtain ⟨T, h⟩ := h
  exact ⟨T, (Below.heap_setCell w p u b hp).trans h⟩
theorem Holds.below {B : Nat} (h : Holds w b cs) (hb : Below B w w') (hB : b < B) : Holds w' b cs := by
  obtain ⟨T, h⟩ := h
  exact ⟨T, (hb.block b hB).trans h⟩
end
end Go.Proofs.Ytoicpidiejhjeaa

/- ---- ShaSpread ---- -/
namespace Go.Proofs.Ytoicpidiejhjeaa
open Go.RowKit
set_option linter.unusedVariables false
set_option linter.unusedSimpArgs false

end Go.Proofs.Ytoicpidiejhjeaa

/- ---- ShaStep ---- -/
namespace Go.Proofs.Ytoicpidiejhjeaa
open Go.RowKit
set_option linter.unusedVariables false
set_option linter.unusedSimpArgs false

def st8 (s : Sha.St) : Array Value := #[.int .u32 (s.a : Nat), .int .u32 (s.b : Nat), .int .u32 (s.c : Nat), .int .u32 (s.d : Nat), .int .u32 (s.e : Nat), .int .u32 (s.f : Nat), .int .u32 (s.g : Nat), .int .u32 (s.h : Nat)]
/-- the package's table holds the rounds' words -/
def Tab (w : World) : Prop := ∀ t, t < 64 → w.cell? ⟨0, t, none⟩ = some (.int .u32 (Sha.kk.getD t 0 : Nat))
theorem Tab.below {w w' : World} {B : Nat} (h : Tab w) (hb : Below B w w') (hB : 0 < B) : Tab w' := fun t ht => (hb.cell (p := ⟨0, t, none⟩) hB).trans (h t ht)
end Go.Proofs.Ytoicpidiejhjeaa

/- ---- ShaHash ---- -/
namespace Go.Proofs.Ytoicpidiejhjeaa
open Go.RowKit
set_option linter.unusedVariables false
set_option linter.unusedSimpArgs false

/-- a row of 32 bytes, the first of which are known -/
def bRow (bs : List UInt8) : Array Value := ((bs ++ List.replicate (32 - bs.length) (0 : UInt8)).map fun (b : UInt8) => Value.int .u8 (b.toNat : Int)).toArray
theorem bRow_size (bs : List UInt8) (h : bs.length ≤ 32) : (bRow bs).size = 32 := by unfold bRow; simp; omega
end Go.Proofs.Ytoicpidiejhjeaa

/- ---- ShaPad ---- -/
namespace Go.Proofs.Ytoicpidiejhjeaa
open Go.RowKit
set_option linter.unusedVariables false
set_option linter.unusedSimpArgs false

def yRow (l : List UInt8) : Array Value := (l.map fun (b : UInt8) => Value.int .u8 (b.toNat : Int)).toArray
theorem bytes_of_ (bk : List UInt8) : strOfNums (bk.map fun b => (b.toNat : Int)) = ⟨bk.toArray⟩ := by
  unfold strOfNums
  congr 2
  rw [List.map_map]
  conv => rhs; rw [← List.map_id bk]
  apply List.map_congr_left
  intro b _
  simp
end Go.Proofs.Ytoicpidiejhjeaa

/- ---- MShaB ---- -/
/- Contracts of package digest: Sum, Chain, halves, roots. -/
/- ---- ShaSum ---- -/
namespace Go.Proofs.Ytoicpidiejhjeaa
open Go.RowKit
set_option linter.unusedVariables false
set_option linter.unusedSimpArgs false

namespace Sha
end Sha
end Go.Proofs.Ytoicpidiejhjeaa

/- ---- ShaChain ---- -/
namespace Go.Proofs.Ytoicpidiejhjeaa
open Go.RowKit
set_option linter.unusedVariables false
set_option linter.unusedSimpArgs false

theorem bRow_yRow (h : List UInt8) (hh : h.length = 32) : bRow h = yRow h := by
  unfold bRow yRow
  rw [hh]
  simp
end Go.Proofs.Ytoicpidiejhjeaa

/- ---- SealMath ---- -/
namespace Go.Proofs.Ytoicpidiejhjeaa
set_option linter.unusedVariables false
set_option linter.unusedSimpArgs false
namespace Seal
/-- 32 bytes of nothing -/
def hz : List UInt8 := List.replicate 32 0
def keyL (who : Nat) : List UInt8 := Sha.sum ([107, 101, 121] ++ Oct.num who)
def tagL (k : List UInt8) (dom : Nat) (body : List UInt8) : List UInt8 := Sha.sum (k ++ UInt8.ofNat dom :: body)
def tag (who dom : Int) (body : List UInt8) : List UInt8 × Int :=
  if who < 0 ∨ 64 < who then (hz, 20) else if dom < 1 ∨ 4 < dom then (hz, 2) else (tagL (keyL who.toNat) dom.toNat body, 0)
end Seal
end Go.Proofs.Ytoicpidiejhjeaa

/- ---- SealNum ---- -/
namespace Go.Proofs.Ytoicpidiejhjeaa
open Go.RowKit
set_option linter.unusedVariables false
set_option linter.unusedSimpArgs false

end Go.Proofs.Ytoicpidiejhjeaa

/- ---- HashEq ---- -/
namespace Go.Proofs.Ytoicpidiejhjeaa
open Go.RowKit
set_option linter.unusedVariables false
set_option linter.unusedSimpArgs false

theorem mapM_some {α β : Type} (f : α → Option β) (g : α → β) : ∀ l : List α, (∀ i ∈ l, f i = some (g i)) → l.mapM f = some (l.map g)
  | [], _ => rfl
  | a :: l, h => by
    rw [List.mapM_cons, h a (by simp), mapM_some f g l (fun i hi => h i (by simp [hi]))]
    rfl
theorem lit_wf : ∀ n : Fin 256, (Lit.int .u8 (n.1 : Int)).wf = true := by decide +kernel
theorem flat_one {α β : Type} (f : α → β) : ∀ l : List α, (l.map fun i => [f i]).flatten = l.map f
  | [] => rfl
  | a :: l => by rw [List.map_cons, List.flatten_cons, flat_one f l]; rfl
set_option maxRecDepth 20000 in
theorem hash_lits (R : List UInt8) (hR : R.length = 32) : Try.prog.keyLits 2 34 (bRow R).toList = some (R.map fun b => Lit.int .u8 (b.toNat : Int)) := by
  have hc : Try.prog.cellsOf 34 = 32 := by kernel_rfl
  have hc5 : Try.prog.cellsOf 5 = 1 := by kernel_rfl
  have hz : (bRow R).toList.length = 32 := by rw [Array.length_toList, bRow_size _ (by omega)]
  unfold Program.keyLits
  simp only [Try.underlying34]
  rw [if_pos (hz.trans hc.symm), mapM_some _ (fun i => [Lit.int .u8 ((R.getD i 0).toNat : Int)]) (List.range 32) (fun i hi => ?_)]
  · simp only [Option.map_some]
    rw [flat_one]
    congr 1
    apply List.ext_getElem
    · simp [hR]
    · intro i h1 h2
      have : i < R.length := by simpa using h2
      simp [List.getD, this]
  · have hi' : i < 32 := by simpa using hi
    have e : ((bRow R).toList.drop (i * Try.prog.cellsOf 5)).take (Try.prog.cellsOf 5) = [.int .u8 ((R.getD i 0).toNat : Int)] := by
      rw [hc5, Nat.mul_one, bRow_yRow R hR]
      unfold yRow
      rw [List.drop_eq_getElem_cons (by simp; omega)]
      simp [List.getD, show i < R.length by omega]
    rw [e]
    unfold Program.keyLits
    simp only [Try.underlying5]
    rw [if_pos ⟨trivial, lit_wf ⟨(R.getD i 0).toNat, (R.getD i 0).toNat_lt⟩⟩]
set_option maxRecDepth 20000 in
/-- two hashes: equal just where their bytes are -/
theorem hash_eq (W : World) (R Q : List UInt8) (hR : R.length = 32) (hQ : Q.length = 32) :
    (Op.equalIn 10000 34 (.agg (bRow R)) (.agg (bRow Q))).run Try.prog W = .ok (decide (R = Q)) W := by
  have hk : Try.prog.keyTypeAt 2 34 = true := by kernel_rfl
  have hf : ∀ X : List UInt8, X.length = 32 → (Value.agg (bRow X)).formed Try.prog 34 = true := by
    intro X hX
    have hc : Try.prog.cellsOf 34 = 32 := by kernel_rfl
    have hs := bRow_size X (by omega)
    simp [Value.formed, Try.underlying34, hs, hc]
  obtain ⟨r, hr, hiff⟩ := run_equalIn_deep (P := Try.prog) 9998 2 34 hk W 2 2 (.agg (bRow R)) (.agg (bRow Q)) _ _ (hf R hR) (hf Q hQ) (hash_lits R hR) (hash_lits Q hQ)
  have hinj : (R.map fun b => Lit.int .u8 (b.toNat : Int)) = (Q.map fun b => Lit.int .u8 (b.toNat : Int)) ↔ R = Q := by
    constructor
    · intro h
      refine List.map_inj_right (fun x y hxy => ?_) |>.1 h
      have : (x.toNat : Int) = (y.toNat : Int) := by injection hxy
      exact UInt8.toNat_inj.1 (by omega)
    · intro h; rw [h]
  rw [hinj] at hiff
  have e : r = decide (R = Q) := by
    by_cases h : R = Q
    · rw [decide_eq_true h]; exact hiff.2 h
    · rw [decide_eq_false h]
      cases r
      · rfl
      · exact absurd (hiff.1 rfl) h
  rw [← e]
  exact hr
end Go.Proofs.Ytoicpidiejhjeaa

/- ---- ShaHalf ---- -/
namespace Go.Proofs.Ytoicpidiejhjeaa
open Go.RowKit
set_option linter.unusedVariables false
set_option linter.unusedSimpArgs false

namespace Sha
end Sha
end Go.Proofs.Ytoicpidiejhjeaa

/- ---- ShaRefHalf ---- -/
namespace Go.Proofs.Ytoicpidiejhjeaa
open Go.RowKit
set_option linter.unusedVariables false
set_option linter.unusedSimpArgs false

end Go.Proofs.Ytoicpidiejhjeaa

/- ---- ShaRoot ---- -/
namespace Go.Proofs.Ytoicpidiejhjeaa
open Go.RowKit
set_option linter.unusedVariables false
set_option linter.unusedSimpArgs false

namespace Sha
end Sha
/-- texts lie in memory from here on -/
def Lies (w : World) (B b off : Nat) (L : List (List UInt8)) : Prop := b < B ∧ ∀ i, i < L.length → w.cell? ⟨b, off + i, none⟩ = some (S (L.getD i []))
theorem Lies.take {w : World} {B b off : Nat} {L : List (List UInt8)} (h : Lies w B b off L) (k : Nat) : Lies w B b off (L.take k) :=
  ⟨h.1, fun i hi => by
    rw [List.length_take] at hi
    rw [h.2 i (by omega)]
    simp [List.getD, List.getElem?_take, show i < k by omega]⟩
theorem Lies.drop {w : World} {B b off : Nat} {L : List (List UInt8)} (h : Lies w B b off L) (k : Nat) : Lies w B b (off + k) (L.drop k) :=
  ⟨h.1, fun i hi => by
    rw [List.length_drop] at hi
    rw [Nat.add_assoc, h.2 (k + i) (by omega)]
    simp [List.getD, List.getElem?_drop]⟩
theorem Lies.below {w w' : World} {B C b off : Nat} {L : List (List UInt8)} (h : Lies w B b off L) (hb : Below C w w') (hC : B ≤ C) : Lies w' B b off L :=
  ⟨h.1, fun i hi => (hb.cell (p := ⟨b, off + i, none⟩) (by have := h.1; exact Nat.lt_of_lt_of_le this hC)).trans (h.2 i hi)⟩
theorem Lies.mono {w : World} {B C b off : Nat} {L : List (List UInt8)} (h : Lies w B b off L) (hC : B ≤ C) : Lies w C b off L := ⟨Nat.lt_of_lt_of_le h.1 hC, h.2⟩
/-- no text is too long -/
def Small (L : List (List UInt8)) : Prop := ∀ i, i < L.length → (L.getD i []).length ≤ 1152921504606846000
theorem Small.take {L : List (List UInt8)} (h : Small L) (k : Nat) : Small (L.take k) := fun i hi => by
  rw [List.length_take] at hi
  have := h i (by omega)
  simpa [List.getD, List.getElem?_take, show i < k by omega] using this
theorem Small.drop {L : List (List UInt8)} (h : Small L) (k : Nat) : Small (L.drop k) := fun i hi => by
  rw [List.length_drop] at hi
  have := h (k + i) (by omega)
  simpa [List.getD, List.getElem?_drop] using this
theorem Holds.cellsAt {b : Nat} : ∀ (vs old pre post : List Value) (w : World), old.length = vs.length → Holds w b (pre ++ (old ++ post)).toArray → Holds (w.setCells b pre.length vs) b (pre ++ (vs ++ post)).toArray
  | [], [], pre, post, w, _, h => h
  | v :: vs, x :: old, pre, post, w, hl, h => by
    have h1 := h.set_ pre.length v
    simp only [List.setIfInBounds_toArray] at h1
    rw [List.set_append_right _ _ (Nat.le_refl _), Nat.sub_self, List.cons_append, List.set_cons_zero] at h1
    have h2 := Holds.cellsAt vs old (pre ++ [v]) post _ (by simpa using hl) (by simpa using h1)
    simp only [List.length_append, List.length_singleton, List.append_assoc, List.singleton_append] at h2
    exact h2
  | [], _ :: _, _, _, _, hl, _ => by simp at hl
  | _ :: _, [], _, _, _, hl, _ => by simp at hl
theorem Holds.cells {w : World} {b : Nat} {cs V : Array Value} (h : Holds w b cs) (hs : cs.size = V.size) : Holds (w.setCells b 0 V.toList) b V := by
  have := Holds.cellsAt (b := b) V.toList cs.toList [] [] w (by simpa using hs) (by simpa using h)
  simpa using this
theorem below_cells {B b : Nat} {a : World} (hb : B ≤ b) : ∀ (vs : List Value) (o : Nat) (w : World), Below B a w → Below B a (w.setCells b o vs)
  | [], _, _, h => h
  | v :: vs, o, w, h => below_cells hb vs (o + 1) _ (h.setCell hb _)
end Go.Proofs.Ytoicpidiejhjeaa

/- ---- TxMath ---- -/
/- Transactions as plain data: which there may be, their bytes. -/
namespace Go.Proofs.Ytoicpidiejhjeaa
open Go.RowKit
set_option linter.unusedVariables false
set_option linter.unusedSimpArgs false

structure Tx where
  frm : Int
  nonce : Int
  fee : Int
  to : Int
  data : ByteArray
  lane : Bool
  round : Int
  turn : Int
  bY : List UInt8
  tag : List UInt8
namespace Tx
def head (t : Tx) : List Value := [.int .i64 t.frm, .int .i64 t.nonce, .int .i64 t.fee, .int .i64 t.to, .string t.data, .bool t.lane, .int .i64 t.round, .int .i64 t.turn]
def cells (t : Tx) : List Value := t.head ++ ((bRow t.bY).toList ++ (bRow t.tag).toList)
def arr (t : Tx) : Array Value := t.cells.toArray
def v (t : Tx) : Value := .agg t.arr
def fits (n : Int) : Prop := -9223372036854775808 ≤ n ∧ n ≤ 9223372036854775807
structure Ok (t : Tx) : Prop where
  bY : t.bY.length = 32
  tag : t.tag.length = 32
  data : t.data.size ≤ 140737488351232
  frm : fits t.frm
  nonce : fits t.nonce
  fee : fits t.fee
  to : fits t.to
  round : fits t.round
  turn : fits t.turn
def zero : List UInt8 := List.replicate 32 0
def acct (n : Int) : Bool := decide (0 ≤ n) && decide (n ≤ 63)
def num (n : Int) : Bool := decide (0 ≤ n) && decide (n ≤ 1099511627776)
def plain (t : Tx) : Bool := decide (t.round = 0) && (decide (t.turn = 0) && decide (t.bY = zero))
/-- what is wrong with it -/
def err (t : Tx) : Int :=
  if acct t.frm = false ∨ acct t.to = false then 20
  else if num t.nonce = false ∨ num t.fee = false then 2
  else if (t.lane = true ∧ (num t.round = false ∨ num t.turn = false)) ∨ (t.lane = false ∧ t.plain = false) then 2
  else if 256 < t.data.size then 3 else 0
theorem bRow_len (R : List UInt8) (h : R.length = 32) : (bRow R).toList.length = 32 := by rw [Array.length_toList, bRow_size _ (by omega)]
theorem cells_length {t : Tx} (h : t.Ok) : t.cells.length = 72 := by
  unfold cells head
  simp only [List.length_append, bRow_len _ h.bY, bRow_len _ h.tag, List.length_cons, List.length_nil]
theorem arr_size {t : Tx} (h : t.Ok) : t.arr.size = 72 := by simp [arr, cells_length h]
theorem arr0 (t : Tx) : t.arr[0]? = some (.int .i64 t.frm) := rfl
theorem arr1 (t : Tx) : t.arr[1]? = some (.int .i64 t.nonce) := rfl
theorem arr2 (t : Tx) : t.arr[2]? = some (.int .i64 t.fee) := rfl
theorem arr3 (t : Tx) : t.arr[3]? = some (.int .i64 t.to) := rfl
theorem arr4 (t : Tx) : t.arr[4]? = some (.string t.data) := rfl
theorem arr5 (t : Tx) : t.arr[5]? = some (.bool t.lane) := rfl
theorem arr6 (t : Tx) : t.arr[6]? = some (.int .i64 t.round) := rfl
theorem arr7 (t : Tx) : t.arr[7]? = some (.int .i64 t.turn) := rfl
theorem cells_by {t : Tx} (h : t.Ok) : (t.cells.drop 8).take 32 = (bRow t.bY).toList := by
  show (((bRow t.bY).toList ++ (bRow t.tag).toList)).take 32 = _
  rw [List.take_append_of_le_length (by rw [bRow_len _ h.bY]; omega), List.take_of_length_le (by rw [bRow_len _ h.bY]; omega)]
theorem cells_tag {t : Tx} (h : t.Ok) : (t.cells.drop 40).take 32 = (bRow t.tag).toList := by
  have e : t.cells.drop 40 = ((bRow t.bY).toList ++ (bRow t.tag).toList).drop 32 := rfl
  rw [e, List.drop_left' (bRow_len _ h.bY), List.take_of_length_le (by rw [bRow_len _ h.tag]; omega)]
def hlits (R : List UInt8) : List Lit := R.map fun b => Lit.int .u8 (b.toNat : Int)
def lits (t : Tx) : List Lit := [.int .i64 t.frm, .int .i64 t.nonce, .int .i64 t.fee, .int .i64 t.to, .string t.data.data.toList, .bool t.lane, .int .i64 t.round, .int .i64 t.turn] ++ (hlits t.bY ++ hlits t.tag)
theorem hlits_inj {R Q : List UInt8} (h : hlits R = hlits Q) : R = Q := by
  refine List.map_inj_right (fun x y hxy => ?_) |>.1 h
  have : (x.toNat : Int) = (y.toNat : Int) := by injection hxy
  exact UInt8.toNat_inj.1 (by omega)
theorem lits_inj {t u : Tx} (ht : t.Ok) (hu : u.Ok) (h : t.lits = u.lits) : t = u := by
  obtain ⟨a1, a2, a3, a4, a5, a6, a7, a8, a9, a10⟩ := t
  obtain ⟨b1, b2, b3, b4, b5, b6, b7, b8, b9, b10⟩ := u
  have l1 : a9.length = 32 := ht.bY
  have l2 : b9.length = 32 := hu.bY
  simp only [lits, List.cons_append, List.nil_append, List.cons.injEq, Lit.int.injEq, Lit.string.injEq, Lit.bool.injEq, true_and] at h
  obtain ⟨rfl, rfl, rfl, rfl, h5, rfl, rfl, rfl, h9⟩ := h
  have h5' : a5 = b5 := by
    cases a5; cases b5
    congr 1
    exact Array.toList_inj.1 h5
  subst h5'
  obtain ⟨h9a, h9b⟩ := List.append_inj h9 (by simp [hlits, l1, l2])
  rw [hlits_inj h9a, hlits_inj h9b]
end Tx
theorem int_wf {n : Int} (h : Tx.fits n) : (Lit.int .i64 n).wf = true := by
  unfold Tx.fits at h
  simp [Lit.wf, IntKind.min, IntKind.max, IntKind.signed, IntKind.bits]
  omega
theorem lit_int (d : Nat) {n : Int} (h : Tx.fits n) : Try.prog.keyLits (d + 1) 3 [.int .i64 n] = some [.int .i64 n] := by
  unfold Program.keyLits
  simp only [Try.underlying3]
  rw [if_pos ⟨trivial, int_wf h⟩]
theorem lit_bool (d : Nat) (b : Bool) : Try.prog.keyLits (d + 1) 4 [.bool b] = some [.bool b] := by
  unfold Program.keyLits
  simp only [Try.underlying4]
theorem lit_str (d : Nat) (s : ByteArray) (h : s.size ≤ maxLen) : Try.prog.keyLits (d + 1) 9 [.string s] = some [.string s.data.toList] := by
  unfold Program.keyLits
  simp only [Try.underlying9]
  rw [if_pos h]
theorem tx_lits {t : Tx} (h : t.Ok) : Try.prog.keyLits 3 36 t.cells = some t.lits := by
  have hc : Try.prog.cellsOf 36 = 72 := by kernel_rfl
  have hI : Try.prog.cellsOf 3 = 1 := by kernel_rfl
  have hS : Try.prog.cellsOf 9 = 1 := by kernel_rfl
  have hB : Try.prog.cellsOf 4 = 1 := by kernel_rfl
  have hH : Try.prog.cellsOf 34 = 32 := by kernel_rfl
  have hm : t.data.size ≤ maxLen := by have := h.data; unfold maxLen; omega
  unfold Program.keyLits
  simp only [Try.underlying36]
  rw [if_pos ⟨by rw [hc, Tx.cells_length h], by kernel_rfl⟩]
  have e0 : Try.prog.keyLits 2 3 ((t.cells.drop 0).take (Try.prog.cellsOf 3)) = some [.int .i64 t.frm] := by rw [hI]; exact lit_int 1 h.frm
  have e1 : Try.prog.keyLits 2 3 ((t.cells.drop 1).take (Try.prog.cellsOf 3)) = some [.int .i64 t.nonce] := by rw [hI]; exact lit_int 1 h.nonce
  have e2 : Try.prog.keyLits 2 3 ((t.cells.drop 2).take (Try.prog.cellsOf 3)) = some [.int .i64 t.fee] := by rw [hI]; exact lit_int 1 h.fee
  have e3 : Try.prog.keyLits 2 3 ((t.cells.drop 3).take (Try.prog.cellsOf 3)) = some [.int .i64 t.to] := by rw [hI]; exact lit_int 1 h.to
  have e4 : Try.prog.keyLits 2 9 ((t.cells.drop 4).take (Try.prog.cellsOf 9)) = some [.string t.data.data.toList] := by rw [hS]; exact lit_str 1 _ hm
  have e5 : Try.prog.keyLits 2 4 ((t.cells.drop 5).take (Try.prog.cellsOf 4)) = some [.bool t.lane] := by rw [hB]; exact lit_bool 1 _
  have e6 : Try.prog.keyLits 2 3 ((t.cells.drop 6).take (Try.prog.cellsOf 3)) = some [.int .i64 t.round] := by rw [hI]; exact lit_int 1 h.round
  have e7 : Try.prog.keyLits 2 3 ((t.cells.drop 7).take (Try.prog.cellsOf 3)) = some [.int .i64 t.turn] := by rw [hI]; exact lit_int 1 h.turn
  have e8 : Try.prog.keyLits 2 34 ((t.cells.drop 8).take (Try.prog.cellsOf 34)) = some (Tx.hlits t.bY) := by rw [hH, Tx.cells_by h]; exact hash_lits _ h.bY
  have e9 : Try.prog.keyLits 2 34 ((t.cells.drop 40).take (Try.prog.cellsOf 34)) = some (Tx.hlits t.tag) := by rw [hH, Tx.cells_tag h]; exact hash_lits _ h.tag
  simp only [List.mapM_cons, List.mapM_nil, e0, e1, e2, e3, e4, e5, e6, e7, e8, e9, Option.bind_eq_bind, Option.bind_some, Option.pure_def, Option.map_some]
  simp [Tx.lits]
/-- two transactions: equal just where all is -/
theorem tx_eq (W : World) (t u : Tx) (ht : t.Ok) (hu : u.Ok) : ∃ r : Bool, (Op.equalIn 10000 36 t.v u.v).run Try.prog W = .ok r W ∧ (r = true ↔ t = u) := by
  have hk : Try.prog.keyTypeAt 3 36 = true := by kernel_rfl
  have hf : ∀ x : Tx, x.Ok → x.v.formed Try.prog 36 = true := by
    intro x hx
    have hc : Try.prog.cellsOf 36 = 72 := by kernel_rfl
    have hs := Tx.arr_size hx
    simp [Tx.v, Value.formed, Try.underlying36, hs, hc]
  obtain ⟨r, hr, hiff⟩ := run_equalIn_deep (P := Try.prog) 9997 3 36 hk W 3 3 t.v u.v _ _ (hf t ht) (hf u hu) (by show Try.prog.keyLits 3 _ t.arr.toList = _; exact tx_lits ht) (by show Try.prog.keyLits 3 _ u.arr.toList = _; exact tx_lits hu)
  exact ⟨r, hr, hiff.trans ⟨Tx.lits_inj ht hu, fun h => by rw [h]⟩⟩
end Go.Proofs.Ytoicpidiejhjeaa

/- ---- Row ---- -/
/- A block of the call's own that holds just these values, all of which can be written. -/
namespace Go.Proofs.Ytoicpidiejhjeaa
open Go.RowKit
set_option linter.unusedVariables false
set_option linter.unusedSimpArgs false

def Row (w : World) (B : Nat) (t : TypeId) (xs : List Value) : Prop := w.heap[B]? = some (.cells xs.toArray t (0, 0))
theorem Row.cell {w : World} {B : Nat} {t : TypeId} {xs : List Value} (h : Row w B t xs) (i : Nat) (hi : i < xs.length) : w.cell? ⟨B, i, none⟩ = some xs[i] := by
  unfold Row at h
  simp [World.cell?, h, hi]
theorem Row.free {w : World} {B : Nat} {t : TypeId} {xs : List Value} (h : Row w B t xs) (i : Nat) : w.frozen? ⟨B, i, none⟩ = false := by
  unfold Row at h
  simp [World.frozen?, h]
theorem Row.lt {w : World} {B : Nat} {t : TypeId} {xs : List Value} (h : Row w B t xs) : B < w.heap.size := lt_of_block h
theorem Row.set {w : World} {B : Nat} {t : TypeId} {xs : List Value} (h : Row w B t xs) (i : Nat) (v : Value) (hi : i < xs.length) : Row (w.setCell ⟨B, i, none⟩ v) B t (xs.set i v) := by
  have hlt := h.lt
  unfold Row at h ⊢
  have h' : w.heap[B] = .cells xs.toArray t (0, 0) := by simpa [Array.getElem?_eq_getElem hlt] using h
  show (w.heap.modify B _)[B]? = _
  rw [Array.getElem?_eq_getElem (by simpa using hlt), Array.getElem_modify_self, h']
  simp [Obj.cells, hi]
theorem Row.kept {w w' : World} {B : Nat} {r : Option Nat} {t : TypeId} {xs : List Value} (h : Row w B t xs) (hg : w.grownBy w' r) (hne : some B ≠ r) : Row w' B t xs :=
  (hg.block B h.lt hne).trans h
theorem Row.below {w w' : World} {B : Nat} {t : TypeId} {xs : List Value} (h : Row w B t xs) (hb : Below w.heap.size w w') : Row w' B t xs :=
  (hb.block B h.lt).trans h
theorem Row.new (w : World) (t : TypeId) (xs : List Value) : Row (w.alloc (.cells xs.toArray t)) w.heap.size t xs := heap_alloc_new _ _
theorem grownBy_of_below {w w' : World} (h : Below w.heap.size w w') (r : Option Nat) : w.grownBy w' r := ⟨h.os, h.tape, h.output, h.size, fun k hk _ => h.block k hk⟩
theorem grownBy_set (w : World) (B i : Nat) (v : Value) : w.grownBy (w.setCell ⟨B, i, none⟩ v) (some B) :=
  ⟨rfl, rfl, rfl, by simp [World.setCell], fun k _ hk => Below.heap_setCell _ _ _ _ (fun e => hk (by rw [e]))⟩
theorem grownBy_drew (w : World) (r : Option Nat) : w.grownBy w.drew r := ⟨rfl, rfl, rfl, Nat.le_refl _, fun _ _ _ => rfl⟩
theorem grownBy_drewN (w : World) (n : Nat) (r : Option Nat) : w.grownBy (w.drewN n) r := ⟨rfl, rfl, rfl, Nat.le_refl _, fun _ _ _ => rfl⟩
theorem grownBy_alloc (w : World) (o : Obj) (r : Option Nat) : w.grownBy (w.alloc o) r := ⟨rfl, rfl, rfl, by simp, fun k hk _ => Below.heap_alloc w o k hk⟩
theorem grownBy_refl (w : World) (r : Option Nat) : w.grownBy w r := ⟨rfl, rfl, rfl, Nat.le_refl _, fun _ _ _ => rfl⟩
theorem below_drewN' {B : Nat} {a w : World} (h : Below B a w) (n : Nat) : Below B a (w.drewN n) := ⟨h.os, h.tape, h.output, h.size, h.block⟩
theorem quiet_eq {P : Program} {f : FuncId} {args : Array Value} {w : World} {n : Nat} {v : Value}
    (h : Calls P f args (w.drewN n) fun e w' => e = .returned v ∧ w.drewN n = w') : Calls P f args (w.drewN n) fun e w'' => e = .returned v ∧ ∃ m, w'' = w.drewN m :=
  h.mono fun _ _ ⟨he, hm⟩ => ⟨he, n, hm.symm⟩
abbrev I (n : Int) : Value := .int .i64 n
/-- numbers -/
abbrev Is (L : List Int) : List Value := L.map I
theorem Is_set (L : List Int) (k : Nat) (x : Int) : (Is L).set k (I x) = Is (L.set k x) := (List.map_set (f := I) (l := L) (i := k) (a := x)).symm
theorem Row.num {w : World} {B : Nat} {t : TypeId} {L : List Int} (h : Row w B t (Is L)) (k : Nat) (hk : k < L.length) : w.cell? ⟨B, k, none⟩ = some (.int .i64 (L.getD k 0)) := by
  have := h.cell k (by simpa using hk)
  rw [this]
  simp [List.getD, hk]
theorem Row.setNum {w : World} {B : Nat} {t : TypeId} {L : List Int} (h : Row w B t (Is L)) (k : Nat) (x : Int) (hk : k < L.length) : Row (w.setCell ⟨B, k, none⟩ (.int .i64 x)) B t (Is (L.set k x)) := by
  rw [← Is_set]
  exact h.set k _ (by simpa using hk)
/-- a drawn region that reads, and then does one thing: the world in which it does so, by a name -/
theorem region_named {P : Program} {id : Nat} {Q : Exit → Act → World → Prop} {a : Act} {w : World} {l : List Oper} (n : Nat) (hm : P.follows .mixedOrders = true) (hB : Region.lexTailB .any l.toArray n = true)
    (h : ∀ w3 : World, w3 = w.drew → wpStill P l.toArray w3 (fun a' => wpList P l.toArray Q (l.drop n) a' w3) (l.take n) a) : (Code.region id l.toArray true).wp P Q a w :=
  wp_region_still_tail n hm hB (h _ rfl)
theorem cell_drew {w w3 : World} (h : w3 = w.drew) (b : Nat) (o : Nat) : w3.cell? ⟨b, o, none⟩ = w.cell? ⟨b, o, none⟩ := by subst h; rfl
theorem frozen_drew {w w3 : World} (h : w3 = w.drew) (b : Nat) (o : Nat) : w3.frozen? ⟨b, o, none⟩ = w.frozen? ⟨b, o, none⟩ := by subst h; rfl
end Go.Proofs.Ytoicpidiejhjeaa

/- ---- Fill ---- -/
/- Struct literals: a part laid into the cells, part by part. -/
namespace Go.Proofs.Ytoicpidiejhjeaa
open Go.RowKit
set_option linter.unusedVariables false
set_option linter.unusedSimpArgs false

theorem set_splice (cs : List Value) (off : Nat) (l : List Value) (h : off + l.length ≤ cs.length) :
    (l.toArray.zipIdx.foldl (fun (cs : Array Value) (x : Value × Nat) => cs.setIfInBounds (off + x.2) x.1) cs.toArray) = (cs.take off ++ (l ++ cs.drop (off + l.length))).toArray := by
  have hf : (l.toArray.zipIdx.foldl (fun (cs : Array Value) (x : Value × Nat) => cs.setIfInBounds (off + x.2) x.1) cs.toArray) = ((l.zipIdx 0).foldl (fun cs (x : Value × Nat) => cs.setIfInBounds (off + x.2) x.1) cs.toArray) := by
    rw [← Array.foldl_toList, Array.toList_zipIdx]
  rw [hf]
  obtain ⟨h1, h2⟩ := Go.Great.foldl_set off l 0 cs.toArray
  apply Array.ext_getElem?
  intro k
  rw [h2 k]
  simp only [Nat.add_zero, List.size_toArray, List.getElem?_toArray]
  by_cases hk : off ≤ k ∧ k < off + l.length ∧ k < cs.length
  · rw [if_pos hk, List.getElem?_append_right (by rw [List.length_take]; omega), List.length_take, Nat.min_eq_left (by omega), List.getElem?_append_left (by omega)]
  · rw [if_neg hk]
    by_cases h3 : k < off
    · rw [List.getElem?_append_left (by rw [List.length_take]; omega), List.getElem?_take_of_lt h3]
    · rw [List.getElem?_append_right (by rw [List.length_take]; omega), List.length_take, Nat.min_eq_left (by omega), List.getElem?_append_right (by omega), List.getElem?_drop]
      congr 1
      omega
theorem fill_step (place : Nat → Option (Nat × Nat)) (cs : List Value) (i : Nat) (v : Value) (l : List Value) (rest : List (Nat × Value)) (off size : Nat) (hp : place i = some (off, size)) (hv : v.cells = l.toArray) (hl : l.length = size) (hs : off + size ≤ cs.length) :
    Instr.fill place cs.toArray ((i, v) :: rest) = Instr.fill place (cs.take off ++ (l ++ cs.drop (off + size))).toArray rest := by
  subst hl
  rw [Instr.fill]
  simp only [hp, hv]
  rw [if_neg (by simp; omega), ← set_splice cs off l hs]
theorem fill_end (place : Nat → Option (Nat × Nat)) (cs : List Value) : Instr.fill place cs.toArray [] = some cs.toArray := rfl
end Go.Proofs.Ytoicpidiejhjeaa

/- ---- BuildL ---- -/
/- build and buildSlice, with the parts as lists. -/
namespace Go.Proofs.Ytoicpidiejhjeaa
open Go.RowKit
set_option linter.unusedVariables false
set_option linter.unusedSimpArgs false

theorem wpList_buildL {P : Program} {ops : Array Oper} {rest : List Oper} {o : Oper} {a : Act} {w : World} {Q : Exit → Act → World → Prop} (hg : o.guard = none) (t : TypeId) (parts : List (Nat × Operand)) (ho : o.op = .build t parts.toArray)
    (d : Option Tmp) (hd : o.dst = d) (vs : List (Nat × Value)) (hv : parts.map (fun p => (p.1, a.eval p.2)) = vs) (cells : Array Value) (hf : P.built t vs = some cells)
    (h : wpList P ops Q rest (a.put d (.agg cells)) w) : wpList P ops Q (o :: rest) a w := by
  refine wpList_buildTo hg t parts.toArray ho d hd cells ?_ h
  rw [← hf, ← hv]
  simp
theorem wpList_buildSliceL {P : Program} {ops : Array Oper} {rest : List Oper} {o : Oper} {a : Act} {w : World} {Q : Exit → Act → World → Prop} (hg : o.guard = none) (t e : TypeId) (len : Nat) (parts : List (Nat × Operand)) (ho : o.op = .buildSlice t len parts.toArray)
    (d : Option Tmp) (hd : o.dst = d) (vs : List (Nat × Value)) (hv : parts.map (fun p => (p.1, a.eval p.2)) = vs) (cells : Array Value) (ie : TypeInfo) (z : Value) (size : Nat)
    (hu : P.underlying t = some (.slice e)) (hie : P.info? e = some ie) (hz : ie.zero = some z) (hs : ie.size = size) (hsmall : ¬ len * size > 2 ^ 24) (hpos : ¬ len * size = 0)
    (hf : Instr.fill (fun i => some (i * size, size)) ((Array.range (len * size)).map (z.cells[· % z.cells.size]!)) vs = some cells)
    (h : wpList P ops Q rest (a.put d (.slice (some ⟨w.heap.size, 0, none⟩) len len)) (w.alloc (.cells cells e))) : wpList P ops Q (o :: rest) a w := by
  subst hs hd
  refine wpList_buildSlice hg t e len parts.toArray ho cells ie z hu hie hz hsmall hpos ?_ h
  rw [← hf, ← hv]
  simp
end Go.Proofs.Ytoicpidiejhjeaa

/- ---- TxNum ---- -/
/- tx: account, number, plain. -/
namespace Go.Proofs.Ytoicpidiejhjeaa
open Go.RowKit
set_option linter.unusedVariables false
set_option linter.unusedSimpArgs false

theorem account_any (n : Int) (w : World) :
    Calls Try.prog 48 #[.int .i64 n] w fun e w' => e = .returned (.bool (Tx.acct n)) ∧ w = w' := by
  unfold Tx.acct
  by_cases h : 0 ≤ n
  · have hd : decide (0 ≤ n) = true := by simpa using h
    have Hd := Lib.hid hd
    by_cases h2 : n ≤ 63
    · have hd2 : decide (n ≤ 63) = true := by simpa using h2
      have h3 : n < 64 := by omega
      have Hd2 := Lib.hid hd2
      clear hd hd2
      go_enter Try.func48, Try.ntmps48
      go_wp2
      go_ret
      exact ⟨by first | rfl | (rw [Hd.out, Hd2.out]; rfl) | (rw [Hd2.out]; rfl) | (rw [Hd.out, Hd2.out]; simp [h3]), rfl⟩
    · have hd2 : decide (n ≤ 63) = false := by simpa using h2
      have h3 : ¬ n < 64 := by omega
      have Hd2 := Lib.hid hd2
      clear hd hd2
      go_enter Try.func48, Try.ntmps48
      go_wp2
      go_ret
      exact ⟨by first | rfl | (rw [Hd.out, Hd2.out]; rfl) | (rw [Hd2.out]; rfl) | (rw [Hd.out, Hd2.out]; simp [h3]), rfl⟩
  · have hd : decide (0 ≤ n) = false := by simpa using h
    have Hd := Lib.hid hd
    clear hd
    go_enter Try.func48, Try.ntmps48
    go_wp2
    go_ret
    exact ⟨by rw [Hd.out]; rfl, rfl⟩
theorem number4_any (n : Int) (w : World) :
    Calls Try.prog 49 #[.int .i64 n] w fun e w' => e = .returned (.bool (Tx.num n)) ∧ w = w' := by
  unfold Tx.num
  by_cases h : 0 ≤ n
  · have hd : decide (0 ≤ n) = true := by simpa using h
    have Hd := Lib.hid hd
    clear hd
    go_enter Try.func49, Try.ntmps49
    go_wp2
    go_ret
    exact ⟨by rw [Hd.out]; rfl, rfl⟩
  · have hd : decide (0 ≤ n) = false := by simpa using h
    have Hd := Lib.hid hd
    clear hd
    go_enter Try.func49, Try.ntmps49
    go_wp2
    go_ret
    exact ⟨by rw [Hd.out]; rfl, rfl⟩
theorem within4_any (n m : Int) (w : World) :
    Calls Try.prog 45 #[.int .i64 n, .int .i64 m] w fun e w' => e = .returned (.bool (decide (0 ≤ n) && decide (n ≤ m))) ∧ w = w' := by
  by_cases h : 0 ≤ n
  · have hd : decide (0 ≤ n) = true := by simpa using h
    have Hd := Lib.hid hd
    clear hd
    go_enter Try.func45, Try.ntmps45
    go_wp2
    go_ret
    exact ⟨by rw [Hd.out]; rfl, rfl⟩
  · have hd : decide (0 ≤ n) = false := by simpa using h
    have Hd := Lib.hid hd
    clear hd
    go_enter Try.func45, Try.ntmps45
    go_wp2
    go_ret
    exact ⟨by rw [Hd.out]; rfl, rfl⟩
/-- a transaction lies in a block -/
theorem tx_info : (Try.prog.info? 36).map (·.size) = some 72 := by kernel_rfl
theorem tx_range {w : World} {g : Nat} {T : TypeId} {t : Tx} (h : Row w g T t.cells) : w.rangeAt g 0 t.cells := by
  intro j v hv
  obtain ⟨hlt, he⟩ := List.getElem?_eq_some_iff.1 hv
  rw [Nat.zero_add, h.cell j hlt, he]
theorem wpList_load_tx {P : Program} {ops : Array Oper} {rest : List Oper} {op : Oper} {a : Act} {w : World} {Q : Exit → Act → World → Prop} (hw : Region.wanted op (yielded ops a.tmps) = true) (ty : TypeId) (x : Operand) (ho : op.op = .load ty x)
    (b o : Nat) (hx : a.eval x = .pointer (some ⟨b, o, none⟩)) (cs : List Value) (d : TypeDesc) (hc : w.rangeAt b o cs)
    (hu : P.underlying ty = some d) (hd : d.isRow = true) (hi : (P.info? ty).map (·.size) = some cs.length)
    (h : wpList P ops Q rest (a.put op.dst (.agg cs.toArray)) w) : wpList P ops Q (op :: rest) a w :=
  wpList_step fun K hK => by rw [if_pos hw]; exact wp_load_mid ty x ho b o hx cs d hc hu hd hi (hK _ _ h)
theorem tx_hash_at {w : World} {g : Nat} {T : TypeId} {t : Tx} (ht : t.Ok) (h : Row w g T t.cells) : w.rangeAt g 8 (bRow t.bY).toList ∧ w.rangeAt g 40 (bRow t.tag).toList := by
  constructor
  · intro j v hv
    have hj : j < 32 := by have := (List.getElem?_eq_some_iff.1 hv).1; rw [Tx.bRow_len _ ht.bY] at this; exact this
    have e : t.cells[8 + j]? = some v := by
      rw [← hv, ← Tx.cells_by ht, List.getElem?_take_of_lt hj, List.getElem?_drop]
    obtain ⟨hlt, he⟩ := List.getElem?_eq_some_iff.1 e
    rw [h.cell _ hlt, he]
  · intro j v hv
    have hj : j < 32 := by have := (List.getElem?_eq_some_iff.1 hv).1; rw [Tx.bRow_len _ ht.tag] at this; exact this
    have e : t.cells[40 + j]? = some v := by
      rw [← hv, ← Tx.cells_tag ht, List.getElem?_take_of_lt hj, List.getElem?_drop]
    obtain ⟨hlt, he⟩ := List.getElem?_eq_some_iff.1 e
    rw [h.cell _ hlt, he]
theorem hash_info : (Try.prog.info? 34).map (·.size) = some 32 := by kernel_rfl
/-- a transaction of zeros -/
def Tx.none : Tx := ⟨0, 0, 0, 0, ByteArray.empty, false, 0, 0, Tx.zero, Tx.zero⟩
theorem tx_zero : (Try.prog.info? 36).map (·.zero) = some (some (.agg Tx.none.arr)) := by kernel_rfl
theorem tx_places : (Try.prog.underlying 36).map (fun d => match d with | .struct fields => fields.toList.mapM (fun f => (Try.prog.info? f.type).map fun i => (f.offset, i.size)) | _ => Option.none) = some (some [(0, 1), (1, 1), (2, 1), (3, 1), (4, 1), (5, 1), (6, 1), (7, 1), (8, 32), (40, 32)]) := by kernel_rfl
theorem tx_built (parts : List (Nat × Value)) : Try.prog.built 36 parts = Instr.fill (#[(0, 1), (1, 1), (2, 1), (3, 1), (4, 1), (5, 1), (6, 1), (7, 1), (8, 32), (40, 32)][·]?) Tx.none.cells.toArray parts := by
  obtain ⟨i0, hi, hz⟩ := Option.map_eq_some_iff.1 tx_zero
  have hp := tx_places
  rw [Try.underlying36] at hp
  simp only [Option.map_some, Option.some.injEq] at hp
  unfold Program.built
  rw [hi, Try.underlying36]
  simp only [hz, hp]
  rfl
theorem fits0 : Tx.fits 0 := ⟨by decide, by decide⟩
theorem tx_five (a b c d : Int) (s : ByteArray) (R : List UInt8) (hR : R.length = 32) :
    Try.prog.built 36 [(0, .int .i64 a), (1, .int .i64 b), (2, .int .i64 c), (3, .int .i64 d), (4, .string s), (9, .agg (bRow R))] = some (Tx.arr ⟨a, b, c, d, s, false, 0, 0, Tx.zero, R⟩) := by
  rw [tx_built]
  rw [fill_step _ _ 0 _ [.int .i64 a] _ 0 1 rfl rfl rfl (Nat.le_of_ble_eq_true rfl)]
  rw [fill_step _ _ 1 _ [.int .i64 b] _ 1 1 rfl rfl rfl (Nat.le_of_ble_eq_true rfl)]
  rw [fill_step _ _ 2 _ [.int .i64 c] _ 2 1 rfl rfl rfl (Nat.le_of_ble_eq_true rfl)]
  rw [fill_step _ _ 3 _ [.int .i64 d] _ 3 1 rfl rfl rfl (Nat.le_of_ble_eq_true rfl)]
  rw [fill_step _ _ 4 _ [.string s] _ 4 1 rfl rfl rfl (Nat.le_of_ble_eq_true rfl)]
  rw [fill_step _ _ 9 _ (bRow R).toList _ 40 32 rfl (by rw [Array.toArray_toList]; rfl) (Tx.bRow_len R hR) (Nat.le_of_ble_eq_true rfl), fill_end]
  congr 1
  unfold Tx.arr Tx.cells
  congr 1
  have e : ∀ X : List Value, X ++ ((bRow R).toList ++ []) = X ++ (bRow R).toList := fun X => by rw [List.append_nil]
  exact e _
set_option maxRecDepth 20000 in
theorem plain_any (t : Tx) (ht : t.Ok) (hl : t.lane = false) (w : World) :
    Calls Try.prog 50 #[t.v] w fun e w' => e = .returned (.bool t.plain) ∧ w.grownBy w' Option.none := by
  obtain ⟨r, hr, hiff⟩ : ∃ r : Bool, (∀ W, (Op.equalIn 10000 36 (.agg t.cells.toArray) (.agg (Tx.arr ⟨t.frm, t.nonce, t.fee, t.to, t.data, false, 0, 0, Tx.zero, t.tag⟩))).run Try.prog W = .ok r W) ∧ (r = true ↔ t = ⟨t.frm, t.nonce, t.fee, t.to, t.data, false, 0, 0, Tx.zero, t.tag⟩) := by
    have hu : Tx.Ok ⟨t.frm, t.nonce, t.fee, t.to, t.data, false, 0, 0, Tx.zero, t.tag⟩ := ⟨rfl, ht.tag, ht.data, ht.frm, ht.nonce, ht.fee, ht.to, fits0, fits0⟩
    obtain ⟨r, _, h2⟩ := tx_eq w t _ ht hu
    refine ⟨r, fun W => ?_, h2⟩
    obtain ⟨r', h1', h2'⟩ := tx_eq W t _ ht hu
    have : r' = r := by rw [Bool.eq_iff_iff, h2', h2]
    rw [this] at h1'
    exact h1'
  have hrp : r = t.plain := by
    rw [Bool.eq_iff_iff, hiff]
    unfold Tx.plain
    obtain ⟨a1, a2, a3, a4, a5, a6, a7, a8, a9, a10⟩ := t
    simp only at hl
    subst hl
    simp
  rw [← hrp]
  have hbt := tx_five t.frm t.nonce t.fee t.to t.data t.tag ht.tag
  have hlen := Tx.cells_length ht
  have hrow := Row.new w 36 t.cells
  have hrng := tx_range hrow
  have hht := (tx_hash_at ht hrow).2
  have c0 := hrow.cell 0 (by omega)
  have c1 := hrow.cell 1 (by omega)
  have c2 := hrow.cell 2 (by omega)
  have c3 := hrow.cell 3 (by omega)
  have c4 := hrow.cell 4 (by omega)
  have c0' : (w.alloc (.cells t.cells.toArray 36)).cell? ⟨w.heap.size, 0, Option.none⟩ = some (.int .i64 t.frm) := c0
  have c1' : (w.alloc (.cells t.cells.toArray 36)).cell? ⟨w.heap.size, 1, Option.none⟩ = some (.int .i64 t.nonce) := c1
  have c2' : (w.alloc (.cells t.cells.toArray 36)).cell? ⟨w.heap.size, 2, Option.none⟩ = some (.int .i64 t.fee) := c2
  have c3' : (w.alloc (.cells t.cells.toArray 36)).cell? ⟨w.heap.size, 3, Option.none⟩ = some (.int .i64 t.to) := c3
  have c4' : (w.alloc (.cells t.cells.toArray 36)).cell? ⟨w.heap.size, 4, Option.none⟩ = some (.string t.data) := c4
  have Hbt := Lib.hid hbt
  have HE := Lib.hid ht
  have hC : t.v = .agg t.cells.toArray := rfl
  rw [hC]
  obtain ⟨C, hCe⟩ : ∃ C, C = t.cells := ⟨_, rfl⟩
  rw [← hCe] at hlen hrow hrng hht hr c0' c1' c2' c3' c4' ⊢
  clear c0 c1 c2 c3 c4
  have Hht := Lib.hid hht
  have Hrng := Lib.hid hrng
  have HL := Lib.hid hlen
  have Ht32 := Lib.hid (Tx.bRow_len _ ht.tag)
  clear hbt hiff hrp hlen hrow hrng hht hCe hC ht HE
  go_enter Try.func50, Try.ntmps50
  go_wp2_with (first
    | (with_reducible show wpList _ _ _ (⟨_, .load 36 _, _, _, _, _⟩ :: _) _ _; refine wpList_load_tx rfl 36 (.tmp 1) rfl w.heap.size 0 rfl C _ Hrng.out Try.underlying36 rfl (by rw [tx_info, HL.out]) ?_)
    | (with_reducible show wpList _ _ _ (⟨_, .load 34 _, _, _, _, _⟩ :: _) _ _; refine wpList_load_tx rfl 34 (.tmp 14) rfl w.heap.size 40 rfl (bRow t.tag).toList _ Hht.out Try.underlying34 rfl (by rw [hash_info, Ht32.out]) ?_)
    | (with_reducible show wpList _ _ _ (⟨_, .build 36 _, _, _, _, _⟩ :: _) _ _; refine wpList_buildL rfl 36 [(0, .tmp 5), (1, .tmp 7), (2, .tmp 9), (3, .tmp 11), (4, .tmp 13), (9, .tmp 15)] rfl (some 16) rfl _ rfl _ (by simpa [Act.eval, Act.put] using Hbt.out) ?_))
  go_ret
  exact ⟨rfl, grownBy_alloc _ _ _⟩
end Go.Proofs.Ytoicpidiejhjeaa
