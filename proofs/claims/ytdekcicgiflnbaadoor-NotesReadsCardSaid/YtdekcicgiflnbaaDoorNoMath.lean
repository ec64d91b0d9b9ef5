/- notes, as plain data: items, bids, receipts, batches; their bytes, and what bytes are read as. -/
import Derived.Test.YtdekcicgiflnbaaDoorNoA
import Derived.Laws.Closers25
namespace Go.Proofs.YtdekcicgiflnbaaDoor
open Go.RowKit
set_option linter.unusedVariables false
set_option linter.unusedSimpArgs false

namespace No
abbrev T8 := List UInt8
/-- the first n texts of a list as numbers -/
def raw : Nat → List T8 → Option (List Int)
  | 0, _ => some []
  | _ + 1, [] => none
  | n + 1, s :: r => match Tx.numAll s with
    | none => none
    | some x => (raw n r).map (x :: ·)
/-- the same, each a number that may be -/
def nums : Nat → List T8 → Option (List Int)
  | 0, _ => some []
  | _ + 1, [] => none
  | n + 1, s :: r => match Tx.numAll s with
    | none => none
    | some x => if Tx.num x = true then (nums n r).map (x :: ·) else none
theorem nums_raw : ∀ (n : Nat) (l : List T8), nums n l = (raw n l).bind fun ns => if ns.all Tx.num = true then some ns else none
  | 0, _ => rfl
  | _ + 1, [] => rfl
  | n + 1, s :: r => by
    unfold nums raw
    cases h : Tx.numAll s with
    | none => rfl
    | some x =>
      simp only
      rw [nums_raw n r]
      cases hr : raw n r with
      | none => simp
      | some ns =>
        simp only [Option.bind_some, Option.map_some, List.all_cons, Bool.and_eq_true]
        by_cases h1 : Tx.num x = true
        · by_cases h2 : ns.all Tx.num = true
          · rw [if_pos h1, if_pos h2, if_pos ⟨h1, h2⟩]; rfl
          · rw [if_pos h1, if_neg h2, if_neg (fun h => h2 h.2)]; rfl
        · rw [if_neg h1, if_neg (fun h => h1 h.1)]
theorem raw_len : ∀ (n : Nat) (l : List T8) (ns : List Int), raw n l = some ns → ns.length = n ∧ n ≤ l.length ∧ ∀ x ∈ ns, 0 ≤ x ∧ x ≤ 9223372036854775807
  | 0, _, ns, h => by
    simp only [raw, Option.some.injEq] at h
    subst h
    simp
  | n + 1, [], ns, h => by simp [raw] at h
  | n + 1, s :: r, ns, h => by
    unfold raw at h
    cases hs : Tx.numAll s with
    | none => rw [hs] at h; simp at h
    | some x =>
      rw [hs] at h
      simp only at h
      obtain ⟨m, hm, rfl⟩ := Option.map_eq_some_iff.1 h
      obtain ⟨h1, h2, h3⟩ := raw_len n r m hm
      have hx := Tx.num_numAll hs
      refine ⟨by simp [h1], by simp only [List.length_cons]; omega, fun y hy => ?_⟩
      rcases List.mem_cons.1 hy with rfl | hy
      · exact ⟨hx.1, hx.2.1⟩
      · exact h3 y hy
theorem raw_back : ∀ (n : Nat) (l : List T8) (ns : List Int), raw n l = some ns → l = ns.map (fun x => Oct.num x.toNat) ++ l.drop n
  | 0, l, ns, h => by
    simp only [raw, Option.some.injEq] at h
    subst h
    simp
  | n + 1, [], ns, h => by simp [raw] at h
  | n + 1, s :: r, ns, h => by
    unfold raw at h
    cases hs : Tx.numAll s with
    | none => rw [hs] at h; simp at h
    | some x =>
      rw [hs] at h
      simp only at h
      obtain ⟨m, hm, rfl⟩ := Option.map_eq_some_iff.1 h
      have hx := Tx.num_numAll hs
      have := raw_back n r m hm
      simp only [List.map_cons, List.drop_succ_cons, List.cons_append, hx.2.2]
      rw [← this]
theorem raw_of : ∀ (ns : List Int) (l : List T8), (∀ x ∈ ns, 0 ≤ x ∧ x ≤ 9223372036854775807) → raw ns.length (ns.map (fun x => Oct.num x.toNat) ++ l) = some ns
  | [], l, _ => rfl
  | x :: ns, l, h => by
    have hx := h x (by simp)
    have e : Tx.numAll (Oct.num x.toNat) = some x := by
      rw [Tx.numAll_num (by omega)]
      simp only [Option.some.injEq]
      omega
    simp only [List.length_cons, List.map_cons, List.cons_append, raw, e]
    rw [raw_of ns l (fun y hy => h y (by simp [hy]))]
    rfl
theorem data_eq (d : ByteArray) : (⟨d.data.toList.toArray⟩ : ByteArray) = d := by cases d; rfl
theorem empty_iff (s : ByteArray) : s.toList.isEmpty = true ↔ s.data.toList = [] := by
  rw [← decide_eq_emptyBytes, decide_eq_true_eq]
  constructor
  · rintro rfl; rfl
  · intro h
    have : s.data = #[] := Array.toList_inj.1 h
    cases s
    simp only at this
    subst this
    rfl
theorem num_iff {x : Int} : Tx.num x = true ↔ 0 ≤ x ∧ x ≤ 1099511627776 := by unfold Tx.num; simp
theorem acct_iff {x : Int} : Tx.acct x = true ↔ 0 ≤ x ∧ x ≤ 63 := by unfold Tx.acct; simp
end No

/-- an item -/
structure It where
  kind : Int
  who : Int
  n : Int
  text : ByteArray
namespace It
def v (i : It) : Value := .agg #[.int .i64 i.kind, .int .i64 i.who, .int .i64 i.n, .string i.text]
def ok (i : It) : Bool := Item.ok i.kind i.who i.n i.text
def zero : It := ⟨0, 0, 0, ByteArray.empty⟩
def fields (i : It) : List No.T8 := [Oct.num i.kind.toNat, Oct.num i.who.toNat, Oct.num i.n.toNat, i.text.data.toList]
def textE (i : It) : No.T8 × Int := if i.ok = true then Oct.listE i.fields else ([], 2)
def of (ns : List Int) (rest : List No.T8) : Option It :=
  match ns, rest with
  | [a, b, c], [t] => if (It.mk a b c ⟨t.toArray⟩).ok = true then some ⟨a, b, c, ⟨t.toArray⟩⟩ else none
  | _, _ => none
/-- what bytes are read as -/
def read (s : No.T8) : Option It := (Tx.listAll s).bind fun l => (No.raw 3 l).bind fun ns => of ns (l.drop 3)
theorem ok_iff (i : It) : i.ok = true ↔ (((i.kind = 1 ∨ i.kind = 3) ∧ 0 ≤ i.who ∧ i.who ≤ 64 ∧ i.n = 0 ∧ (i.text.size : Int) ≤ 65472) ∨ (i.kind = 2 ∧ i.who = 0 ∧ 0 ≤ i.n ∧ i.n ≤ 1099511627776 ∧ i.text.data.toList = [])) := by
  unfold ok Item.ok
  split
  · next h =>
    simp only [beq_iff_eq] at h
    simp only [beq_iff_eq, decide_eq_true_eq]
    constructor
    · intro hh; exact .inl ⟨h, hh⟩
    · rintro (⟨_, hh⟩ | ⟨hh, _⟩)
      · exact hh
      · omega
  · next h =>
    simp only [beq_iff_eq] at h
    split
    · next h2 =>
      simp only [beq_iff_eq, No.num_iff] at h2
      constructor
      · intro hh
        refine .inr ⟨h2.1, h2.2.1, h2.2.2.1, h2.2.2.2, ?_⟩
        exact (No.empty_iff _).1 hh
      · rintro (⟨hh, _⟩ | ⟨_, _, _, _, hh⟩)
        · exact absurd hh h
        · exact (No.empty_iff _).2 hh
    · next h2 =>
      simp only [beq_iff_eq, No.num_iff] at h2
      constructor
      · intro hh; cases hh
      · rintro (⟨hh, _⟩ | ⟨h3, h4, h5, h6, _⟩)
        · exact absurd hh h
        · exact absurd ⟨h3, h4, h5, h6⟩ h2
theorem ok_num {i : It} (h : i.ok = true) : Tx.num i.kind = true ∧ Tx.num i.who = true ∧ Tx.num i.n = true := by
  rw [ok_iff] at h
  rw [No.num_iff, No.num_iff, No.num_iff]
  omega
theorem read_text {i : It} {b : No.T8} (h : i.textE = (b, 0)) : read b = some i := by
  unfold textE at h
  split at h
  · next hk =>
    obtain ⟨h1, h2, h3⟩ := ok_num hk
    rw [No.num_iff] at h1 h2 h3
    unfold read
    rw [Tx.listAll_listE h]
    have := No.raw_of [i.kind, i.who, i.n] [i.text.data.toList] (by intro x hx; simp at hx; rcases hx with rfl | rfl | rfl <;> omega)
    simp only [List.length_cons, List.length_nil, List.map_cons, List.map_nil, List.cons_append, List.nil_append] at this
    simp only [Option.bind_some, fields, this, List.drop_succ_cons, List.drop_zero, of, No.data_eq]
    rw [if_pos hk]
  · simp at h
theorem text_read {s : No.T8} {i : It} (h : read s = some i) : i.textE = (s, 0) := by
  unfold read at h
  obtain ⟨l, hl, h⟩ := Option.bind_eq_some_iff.1 h
  obtain ⟨ns, hn, h⟩ := Option.bind_eq_some_iff.1 h
  have hb := No.raw_back 3 l ns hn
  unfold of at h
  split at h
  · next a b c t hd =>
    split at h
    · next hk =>
      simp only [Option.some.injEq] at h
      subst h
      unfold textE
      rw [if_pos hk]
      have e : fields ⟨a, b, c, ⟨t.toArray⟩⟩ = l := by rw [hb, hd]; rfl
      rw [e]
      exact Tx.listE_listAll hl
    · cases h
  · cases h
theorem read_ok {s : No.T8} {i : It} (h : read s = some i) : i.ok = true := by
  unfold read at h
  obtain ⟨l, hl, h⟩ := Option.bind_eq_some_iff.1 h
  obtain ⟨ns, hn, h⟩ := Option.bind_eq_some_iff.1 h
  unfold of at h
  split at h
  · split at h
    · next hk =>
      simp only [Option.some.injEq] at h
      subst h
      exact hk
    · cases h
  · cases h
end It

/-- a bid -/
structure Bd where
  round : Int
  who : Int
  amount : Int
  salt : Int
  tag : List UInt8
namespace Bd
def cells (b : Bd) : List Value := [.int .i64 b.round, .int .i64 b.who, .int .i64 b.amount, .int .i64 b.salt] ++ (bRow b.tag).toList
def v (b : Bd) : Value := .agg b.cells.toArray
def ok (b : Bd) : Bool := Tx.acct b.who && (Tx.num b.round && (Tx.num b.amount && Tx.num b.salt))
def zero : Bd := ⟨0, 0, 0, 0, Tx.zero⟩
def numsL (b : Bd) : List Int := [b.round, b.who, b.amount, b.salt]
def body (b : Bd) : No.T8 := (Oct.listE (b.numsL.map fun x => Oct.num x.toNat)).1
def fields (b : Bd) : List No.T8 := (b.numsL.map fun x => Oct.num x.toNat) ++ [b.tag]
def textE (b : Bd) : No.T8 × Int := if b.ok = true then Oct.listE b.fields else ([], 2)
def of (ns : List Int) (rest : List No.T8) : Option Bd :=
  match ns, rest with
  | [a, b, c, d], [t] => if t.length = 32 ∧ (Bd.mk a b c d t).ok = true then some ⟨a, b, c, d, t⟩ else none
  | _, _ => none
def read (s : No.T8) : Option Bd := (Tx.listAll s).bind fun l => (No.raw 4 l).bind fun ns => of ns (l.drop 4)
def sign (b : Bd) : Bd := { b with tag := (Seal.tag b.who 3 b.body).1 }
def signE (b : Bd) : Bd × Int := if b.ok = true then (b.sign, 0) else (zero, 2)
def check (b : Bd) : Int := if b.ok = true then Seal.check2 b.who 3 b.body b.tag else 2
structure Fits (b : Bd) : Prop where
  tag : b.tag.length = 32
  round : Tx.fits b.round
  who : Tx.fits b.who
  amount : Tx.fits b.amount
  salt : Tx.fits b.salt
theorem ok_iff (b : Bd) : b.ok = true ↔ (0 ≤ b.who ∧ b.who ≤ 63) ∧ (0 ≤ b.round ∧ b.round ≤ 1099511627776) ∧ (0 ≤ b.amount ∧ b.amount ≤ 1099511627776) ∧ (0 ≤ b.salt ∧ b.salt ≤ 1099511627776) := by
  unfold ok
  simp only [Bool.and_eq_true, No.num_iff, No.acct_iff]
theorem ok_nums {b : Bd} (h : b.ok = true) : ∀ x ∈ b.numsL, 0 ≤ x ∧ x ≤ 9223372036854775807 := by
  rw [ok_iff] at h
  intro x hx
  simp [numsL] at hx
  rcases hx with rfl | rfl | rfl | rfl <;> omega
theorem read_text {b : Bd} {s : No.T8} (ht : b.tag.length = 32) (h : b.textE = (s, 0)) : read s = some b := by
  unfold textE at h
  split at h
  · next hk =>
    unfold read
    rw [Tx.listAll_listE h]
    have := No.raw_of b.numsL [b.tag] (ok_nums hk)
    simp only [Option.bind_some, fields]
    rw [show (4 : Nat) = b.numsL.length from rfl, this]
    simp only [Option.bind_some]
    rw [List.drop_left' (by simp)]
    simp only [numsL, of]
    rw [if_pos ⟨ht, hk⟩]
  · simp at h
theorem text_read {s : No.T8} {b : Bd} (h : read s = some b) : b.textE = (s, 0) ∧ b.tag.length = 32 ∧ b.ok = true := by
  unfold read at h
  obtain ⟨l, hl, h⟩ := Option.bind_eq_some_iff.1 h
  obtain ⟨ns, hn, h⟩ := Option.bind_eq_some_iff.1 h
  have hb := No.raw_back 4 l ns hn
  unfold of at h
  split at h
  · next a b c d t hd =>
    split at h
    · next hk =>
      simp only [Option.some.injEq] at h
      subst h
      refine ⟨?_, hk.1, hk.2⟩
      unfold textE
      rw [if_pos hk.2]
      have e : fields ⟨a, b, c, d, t⟩ = l := by rw [hb, hd]; rfl
      rw [e]
      exact Tx.listE_listAll hl
    · cases h
  · cases h
end Bd

/-- a receipt -/
structure Rp where
  index : Int
  kind : Int
  time : Int
  body : ByteArray
  prev : List UInt8
  hash : List UInt8
namespace Rp
def cells (r : Rp) : List Value := [.int .i64 r.index, .int .i64 r.kind, .int .i64 r.time, .string r.body] ++ ((bRow r.prev).toList ++ (bRow r.hash).toList)
def v (r : Rp) : Value := .agg r.cells.toArray
def ok (r : Rp) : Bool := ((r.kind == 1) || (r.kind == 2)) && (Tx.num r.index && (Tx.num r.time && decide ((r.body.size : Int) ≤ 656)))
def zero : Rp := ⟨0, 0, 0, ByteArray.empty, Tx.zero, Tx.zero⟩
def numsL (r : Rp) : List Int := [r.index, r.kind, r.time]
def texts (r : Rp) : List No.T8 := (r.numsL.map fun x => Oct.num x.toNat) ++ [r.body.data.toList]
/-- the hash that it is to have -/
def link (r : Rp) : List UInt8 := Sha.sum (r.prev ++ (Oct.listE r.texts).1)
def linked (r : Rp) : Rp := { r with hash := r.link }
def linkE (r : Rp) : Rp × Int := if r.ok = true then (r.linked, 0) else (zero, 2)
def fields (r : Rp) : List No.T8 := r.texts ++ [r.prev, r.hash]
def textE (r : Rp) : No.T8 × Int := if r.ok = true then (if r.hash = r.link then Oct.listE r.fields else ([], 7)) else ([], 2)
def of (ns : List Int) (rest : List No.T8) : Option Rp :=
  match ns, rest with
  | [a, b, c], [t, p, h] => if (p.length = 32 ∧ h.length = 32) ∧ (Rp.mk a b c ⟨t.toArray⟩ p h).ok = true ∧ h = (Rp.mk a b c ⟨t.toArray⟩ p h).link then some ⟨a, b, c, ⟨t.toArray⟩, p, h⟩ else none
  | _, _ => none
def read (s : No.T8) : Option Rp := (Tx.listAll s).bind fun l => (No.raw 3 l).bind fun ns => of ns (l.drop 3)
structure Fits (r : Rp) : Prop where
  prev : r.prev.length = 32
  hash : r.hash.length = 32
  body : r.body.size ≤ 140737488351232
  index : Tx.fits r.index
  kind : Tx.fits r.kind
  time : Tx.fits r.time
theorem ok_iff (r : Rp) : r.ok = true ↔ (r.kind = 1 ∨ r.kind = 2) ∧ (0 ≤ r.index ∧ r.index ≤ 1099511627776) ∧ (0 ≤ r.time ∧ r.time ≤ 1099511627776) ∧ (r.body.size : Int) ≤ 656 := by
  unfold ok
  simp only [Bool.and_eq_true, Bool.or_eq_true, No.num_iff, beq_iff_eq, decide_eq_true_eq]
theorem ok_nums {r : Rp} (h : r.ok = true) : ∀ x ∈ r.numsL, 0 ≤ x ∧ x ≤ 9223372036854775807 := by
  rw [ok_iff] at h
  intro x hx
  simp [numsL] at hx
  rcases hx with rfl | rfl | rfl <;> omega
theorem ok_num {r : Rp} (h : r.ok = true) : Tx.num r.index = true ∧ Tx.num r.kind = true ∧ Tx.num r.time = true := by
  rw [ok_iff] at h
  rw [No.num_iff, No.num_iff, No.num_iff]
  omega
theorem link_len (r : Rp) : r.link.length = 32 := Sha.sum_len _
theorem link_linked (r : Rp) : r.linked.link = r.link := rfl
theorem ok_linked (r : Rp) : r.linked.ok = r.ok := rfl
theorem read_text {r : Rp} {s : No.T8} (hp : r.prev.length = 32) (h : r.textE = (s, 0)) : read s = some r := by
  unfold textE at h
  split at h
  · next hk =>
    split at h
    · next hh =>
      unfold read
      rw [Tx.listAll_listE h]
      have := No.raw_of r.numsL [r.body.data.toList, r.prev, r.hash] (ok_nums hk)
      have e : r.fields = r.numsL.map (fun x => Oct.num x.toNat) ++ [r.body.data.toList, r.prev, r.hash] := by unfold fields texts; simp
      simp only [Option.bind_some]
      rw [e, show (3 : Nat) = r.numsL.length from rfl, this]
      simp only [Option.bind_some]
      rw [List.drop_left' (by simp)]
      simp only [numsL, of, No.data_eq]
      rw [if_pos ⟨⟨hp, by rw [hh]; exact link_len r⟩, hk, hh⟩]
    · simp at h
  · simp at h
theorem text_read {s : No.T8} {r : Rp} (h : read s = some r) : r.textE = (s, 0) ∧ (r.prev.length = 32 ∧ r.hash.length = 32) ∧ r.ok = true ∧ r.hash = r.link := by
  unfold read at h
  obtain ⟨l, hl, h⟩ := Option.bind_eq_some_iff.1 h
  obtain ⟨ns, hn, h⟩ := Option.bind_eq_some_iff.1 h
  have hb := No.raw_back 3 l ns hn
  unfold of at h
  split at h
  · next a b c t p q hd =>
    split at h
    · next hk =>
      simp only [Option.some.injEq] at h
      subst h
      refine ⟨?_, hk.1, hk.2.1, hk.2.2⟩
      unfold textE
      rw [if_pos hk.2.1, if_pos hk.2.2]
      have e : fields ⟨a, b, c, ⟨t.toArray⟩, p, q⟩ = l := by rw [hb, hd]; rfl
      rw [e]
      exact Tx.listE_listAll hl
    · cases h
  · cases h
end Rp

/-- a batch's part: is it the inbox's, its text -/
abbrev Pt := Bool × List UInt8
namespace Pt
def ok (p : Pt) : Bool := decide (p.2.length ≤ 656) && !(p.1 && !p.2.isEmpty)
def lay (p : Pt) : No.T8 := if p.1 = true then [2] else 1 :: p.2
def of (s : No.T8) : Option Pt := if s = [2] then some (true, []) else match s with
  | c :: r => if c = 1 then some (false, r) else none
  | [] => none
theorem of_lay {p : Pt} (h : Pt.ok p = true) : of (lay p) = some p := by
  obtain ⟨d, t⟩ := p
  cases d
  · unfold lay of
    simp
  · unfold ok at h
    simp at h
    unfold lay of
    simp [h.2]
theorem lay_of {s : No.T8} {p : Pt} (h : of s = some p) : lay p = s := by
  unfold of at h
  split at h
  · next e =>
    simp only [Option.some.injEq] at h
    subst h
    rw [e]; rfl
  · split at h
    · split at h
      · next e =>
        simp only [Option.some.injEq] at h
        subst h
        rw [e]; rfl
      · cases h
    · cases h
def all : List No.T8 → Option (List Pt)
  | [] => some []
  | s :: r => match of s with
    | none => none
    | some p => (all r).map (p :: ·)
theorem all_lay : ∀ {l : List Pt}, l.all ok = true → all (l.map lay) = some l
  | [], _ => rfl
  | p :: l, h => by
    simp only [List.all_cons, Bool.and_eq_true] at h
    simp only [List.map_cons, all, of_lay h.1, all_lay h.2, Option.map_some]
theorem lay_all : ∀ {l : List No.T8} {ps : List Pt}, all l = some ps → ps.map lay = l
  | [], ps, h => by
    simp only [all, Option.some.injEq] at h
    subst h
    rfl
  | s :: r, ps, h => by
    unfold all at h
    cases ho : of s with
    | none => rw [ho] at h; cases h
    | some p =>
      rw [ho] at h
      simp only at h
      obtain ⟨m, hm, rfl⟩ := Option.map_eq_some_iff.1 h
      simp only [List.map_cons, lay_of ho, lay_all hm]
end Pt
/-- a batch -/
structure Bt where
  seq : Int
  first : Int
  before : Int
  parts : List Pt
namespace Bt
def ok (b : Bt) : Bool := (Tx.num b.seq && (Tx.num b.first && Tx.num b.before)) && (decide (b.parts.length ≤ 512) && b.parts.all Pt.ok)
def zero : Bt := ⟨0, 0, 0, []⟩
def numsL (b : Bt) : List Int := [b.seq, b.first, b.before]
def fields (b : Bt) : List No.T8 := (b.numsL.map fun x => Oct.num x.toNat) ++ b.parts.map Pt.lay
def textE (b : Bt) : No.T8 × Int := if b.ok = true then Oct.listE b.fields else ([], 2)
def of (ns : List Int) (rest : List No.T8) : Option Bt :=
  match ns, Pt.all rest with
  | [a, b, c], some ps => if (Bt.mk a b c ps).ok = true then some ⟨a, b, c, ps⟩ else none
  | _, _ => none
def read (s : No.T8) : Option Bt := (Tx.listAll s).bind fun l => (No.raw 3 l).bind fun ns => of ns (l.drop 3)
theorem ok_iff (b : Bt) : b.ok = true ↔ ((0 ≤ b.seq ∧ b.seq ≤ 1099511627776) ∧ (0 ≤ b.first ∧ b.first ≤ 1099511627776) ∧ (0 ≤ b.before ∧ b.before ≤ 1099511627776)) ∧ b.parts.length ≤ 512 ∧ b.parts.all Pt.ok = true := by
  unfold ok
  simp only [Bool.and_eq_true, No.num_iff, decide_eq_true_eq]
theorem ok_nums {b : Bt} (h : b.ok = true) : ∀ x ∈ b.numsL, 0 ≤ x ∧ x ≤ 9223372036854775807 := by
  rw [ok_iff] at h
  intro x hx
  simp [numsL] at hx
  rcases hx with rfl | rfl | rfl <;> omega
theorem read_text {b : Bt} {s : No.T8} (h : b.textE = (s, 0)) : read s = some b := by
  unfold textE at h
  split at h
  · next hk =>
    unfold read
    rw [Tx.listAll_listE h]
    have := No.raw_of b.numsL (b.parts.map Pt.lay) (ok_nums hk)
    simp only [Option.bind_some, fields]
    rw [show (3 : Nat) = b.numsL.length from rfl, this]
    simp only [Option.bind_some]
    rw [List.drop_left' (by simp)]
    have hp := Pt.all_lay ((ok_iff b).1 hk).2.2
    simp only [numsL, of, hp]
    rw [if_pos hk]
  · simp at h
theorem text_read {s : No.T8} {b : Bt} (h : read s = some b) : b.textE = (s, 0) ∧ b.ok = true := by
  unfold read at h
  obtain ⟨l, hl, h⟩ := Option.bind_eq_some_iff.1 h
  obtain ⟨ns, hn, h⟩ := Option.bind_eq_some_iff.1 h
  have hb := No.raw_back 3 l ns hn
  unfold of at h
  split at h
  · next a b c ps hd =>
    split at h
    · next hk =>
      simp only [Option.some.injEq] at h
      subst h
      refine ⟨?_, hk⟩
      unfold textE
      rw [if_pos hk]
      have e : fields ⟨a, b, c, ps⟩ = l := by
        have := Pt.lay_all hd
        unfold fields
        rw [this]
        exact hb.symm
      rw [e]
      exact Tx.listE_listAll hl
    · cases h
  · cases h
end Bt
end Go.Proofs.YtdekcicgiflnbaaDoor
