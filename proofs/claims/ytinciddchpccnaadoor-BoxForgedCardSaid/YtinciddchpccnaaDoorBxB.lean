/- What later texts need of the earlier layers. -/
import Derived.Test.YtinciddchpccnaaDoorBxO
import Derived.Test.YtinciddchpccnaaDoorBxS
import Derived.Test.YtinciddchpccnaaDoorBxT
import Derived.Test.YtinciddchpccnaaDoorBxC
import Derived.Test.YtinciddchpccnaaDoorBxA
import Derived.Laws.ResultCell
import Derived.Laws.Tables
/- ---- NoItemR ---- -/
/- notes: ReadItem. -/
namespace Go.Proofs.YtinciddchpccnaaDoor
open Go.RowKit
set_option linter.unusedVariables false
set_option linter.unusedSimpArgs false

namespace It
theorem cells_len (i : It) : i.cells.length = 4 := rfl
theorem cells_one (i : It) : ∀ v ∈ i.cells, v.oneCell' = true := by
  intro v hv
  simp [cells] at hv
  rcases hv with rfl | rfl | rfl | rfl <;> rfl
theorem read_none {s : No.T8} (h : Tx.listAll s = none) : read s = none := by unfold read; rw [h]; rfl
theorem of_ok {ns : List Int} {rest : List No.T8} {i : It} (h : of ns rest = some i) : i.ok = true ∧ ns = [i.kind, i.who, i.n] := by
  unfold of at h
  split at h
  · split at h
    · next hk =>
      simp only [Option.some.injEq] at h
      subst h
      exact ⟨hk, rfl⟩
    · cases h
  · cases h
theorem read_eq {s : No.T8} {l : List No.T8} (h : Tx.listAll s = some l) : read s = (No.nums 3 l).bind fun ns => of ns (l.drop 3) := by
  unfold read
  rw [h, No.nums_raw]
  simp only [Option.bind_some]
  cases hr : No.raw 3 l with
  | none => rfl
  | some ns =>
    simp only [Option.bind_some]
    by_cases ha : ns.all Tx.num = true
    · rw [if_pos ha]; rfl
    · rw [if_neg ha]
      cases ho : of ns (l.drop 3) with
      | none => rfl
      | some i =>
        obtain ⟨h1, h2⟩ := of_ok ho
        have := ok_num h1
        exact absurd (by rw [h2]; simp [this]) ha
end It
theorem three_of {α : Type} {l : List α} (h : l.length = 3) : ∃ a b c, l = [a, b, c] := by
  match l, h with
  | [a, b, c], _ => exact ⟨a, b, c, rfl⟩
theorem nums_len {n : Nat} {l : List No.T8} {ns : List Int} (h : No.nums n l = some ns) : ns.length = n ∧ n ≤ l.length ∧ ∀ x ∈ ns, Tx.fits x := by
  rw [No.nums_raw] at h
  obtain ⟨m, hm, h2⟩ := Option.bind_eq_some_iff.1 h
  split at h2
  · simp only [Option.some.injEq] at h2
    subst h2
    obtain ⟨h3, h4, h5⟩ := No.raw_len n l m hm
    exact ⟨h3, h4, fun x hx => ⟨by have := h5 x hx; omega, (h5 x hx).2⟩⟩
  · cases h2
theorem listAll_few {s : List UInt8} {l : List (List UInt8)} (h : Tx.listAll s = some l) : l.length ≤ 1024 := by
  have h1 := Tx.listE_listAll h
  unfold Oct.listE at h1
  split at h1
  · simp at h1
  · next hh => omega
end Go.Proofs.YtinciddchpccnaaDoor

/- ---- NoB ---- -/
/- notes: bidMayBe, bidNumbers, WriteBid. -/
/- notes: SignBid, CheckBid. -/
/- notes: ReadBid. -/
namespace Go.Proofs.YtinciddchpccnaaDoor
open Go.RowKit
set_option linter.unusedVariables false
set_option linter.unusedSimpArgs false

namespace Bd
theorem cells_len {b : Bd} (h : b.tag.length = 32) : b.cells.length = 36 := by
  unfold cells
  simp only [List.length_append, Tx.bRow_len _ h, List.length_cons, List.length_nil]
theorem cells_one {b : Bd} (h : b.tag.length = 32) : ∀ v ∈ b.cells, v.oneCell' = true := by
  intro v hv
  unfold cells at hv
  rcases List.mem_append.1 hv with h1 | h1
  · simp at h1
    rcases h1 with rfl | rfl | rfl | rfl <;> rfl
  · exact hash_one _ h v h1
end Bd
end Go.Proofs.YtinciddchpccnaaDoor
namespace Go.Proofs.YtinciddchpccnaaDoor
open Go.RowKit
set_option linter.unusedVariables false
set_option linter.unusedSimpArgs false

namespace Bd
end Bd
end Go.Proofs.YtinciddchpccnaaDoor
namespace Go.Proofs.YtinciddchpccnaaDoor
open Go.RowKit
set_option linter.unusedVariables false
set_option linter.unusedSimpArgs false

namespace Bd
theorem read_none {s : No.T8} (h : Tx.listAll s = none) : read s = none := by unfold read; rw [h]; rfl
theorem ok_num {b : Bd} (h : b.ok = true) : Tx.num b.round = true ∧ Tx.num b.who = true ∧ Tx.num b.amount = true ∧ Tx.num b.salt = true := by
  rw [ok_iff] at h
  rw [No.num_iff, No.num_iff, No.num_iff, No.num_iff]
  omega
theorem of_ok {ns : List Int} {rest : List No.T8} {b : Bd} (h : of ns rest = some b) : b.ok = true ∧ ns = [b.round, b.who, b.amount, b.salt] ∧ rest = [b.tag] ∧ b.tag.length = 32 := by
  unfold of at h
  split at h
  · split at h
    · next hk =>
      simp only [Option.some.injEq] at h
      subst h
      exact ⟨hk.2, rfl, rfl, hk.1⟩
    · cases h
  · cases h
theorem read_eq {s : No.T8} {l : List No.T8} (h : Tx.listAll s = some l) : read s = (No.nums 4 l).bind fun ns => of ns (l.drop 4) := by
  unfold read
  rw [h, No.nums_raw]
  simp only [Option.bind_some]
  cases hr : No.raw 4 l with
  | none => rfl
  | some ns =>
    simp only [Option.bind_some]
    by_cases ha : ns.all Tx.num = true
    · rw [if_pos ha]; rfl
    · rw [if_neg ha]
      cases ho : of ns (l.drop 4) with
      | none => rfl
      | some i =>
        obtain ⟨h1, h2, _⟩ := of_ok ho
        have := ok_num h1
        exact absurd (by rw [h2]; simp [this]) ha
theorem of_no {ns : List Int} {rest : List No.T8} (h : ¬ (rest.length = 1 ∧ No.AllH rest)) : of ns rest = none := by
  cases ho : of ns rest with
  | none => rfl
  | some b =>
    obtain ⟨_, _, h3, h4⟩ := of_ok ho
    exact absurd ⟨by rw [h3]; rfl, fun x hx => by rw [h3] at hx; simp at hx; rw [hx]; exact h4⟩ h
theorem of_yes {a b c d : Int} {t : No.T8} (h : t.length = 32) : of [a, b, c, d] [t] = if (Bd.mk a b c d t).ok = true then some ⟨a, b, c, d, t⟩ else none := by
  unfold of
  simp only [h, true_and]
end Bd
end Go.Proofs.YtinciddchpccnaaDoor

/- ---- NoD ---- -/
/- The reference of layer 5: within, text, list, Item, WriteItem. -/
/- The reference of layer 5: bids. -/
namespace Go.Proofs.YtinciddchpccnaaDoor
open Go.RowKit
set_option linter.unusedVariables false
set_option linter.unusedSimpArgs false

theorem within5_any (n m : Int) (w : World) :
    Calls Tryd.prog 43 #[.int .i64 n, .int .i64 m] w fun e w' => e = .returned (.bool (decide (0 ≤ n) && decide (n ≤ m))) ∧ w = w' := by
  by_cases h : 0 ≤ n
  · have hd : decide (0 ≤ n) = true := by simpa using h
    have Hd := Lib.hid hd
    clear hd
    go_enter Tryd.func43, Tryd.ntmps43
    go_wp2
    go_ret
    exact ⟨by rw [Hd.out]; rfl, rfl⟩
  · have hd : decide (0 ≤ n) = false := by simpa using h
    have Hd := Lib.hid hd
    clear hd
    go_enter Tryd.func43, Tryd.ntmps43
    go_wp2
    go_ret
    exact ⟨by rw [Hd.out]; rfl, rfl⟩
theorem within5_b (n m : Int) (b : Bool) (h : (decide (0 ≤ n) && decide (n ≤ m)) = b) (w : World) :
    Calls Tryd.prog 43 #[.int .i64 n, .int .i64 m] w fun e w' => e = .returned (.bool b) ∧ w = w' := by
  have := within5_any n m w
  rw [h] at this
  exact this
theorem text5_any (n : Int) (w : World) (h0 : 0 ≤ n) (h1 : n ≤ 9223372036854775807) :
    Calls Tryd.prog 44 #[.int .i64 n] w fun e w' => e = .returned (S (Oct.num n.toNat)) ∧ Below w.heap.size w w' := by
  have RN : Hid (∀ W, Calls Tryd.prog 47 #[.int .i64 n] W fun e w' => e = .returned (.tuple #[S (Oct.num n.toNat), .int .i64 0]) ∧ Below W.heap.size W w') := fun W => by
    have := refNumber_any n W h1
    unfold Oct.numE at this
    rw [if_neg (by omega)] at this
    exact this
  go_enter Tryd.func44, Tryd.ntmps44
  go_wp2_with fail
  refine (RN.out _).mono ?_
  rintro _ w1 ⟨rfl, hb1⟩
  have Hb1 := Lib.hid hb1
  clear hb1
  go_wp2_with fail
  go_ret
  exact ⟨rfl, Hb1.out⟩
theorem list5_any (A : Option Addr) (c : Nat) (L : List (List UInt8)) (w : World) (hr : Texts w w.heap.size A L) :
    Calls Tryd.prog 46 #[.slice A L.length c] w fun e w' => e = .returned (.tuple #[S (Oct.listE L).1, .int .i64 (Oct.listE L).2]) ∧ Below w.heap.size w w' := by
  have RL : Hid (Calls Tryd.prog 24 #[.slice A L.length c] w fun e w' => e = .returned (.tuple #[S (Oct.listE L).1, .int .i64 (Oct.listE L).2]) ∧ Below w.heap.size w w') := refList_any A c L w hr
  generalize L.length = m at *
  clear hr
  go_enter Tryd.func46, Tryd.ntmps46
  go_wp2_with fail
  refine RL.out.mono ?_
  rintro _ w1 ⟨rfl, hb1⟩
  have Hb1 := Lib.hid hb1
  clear hb1
  go_wp2_with fail
  go_ret2
  exact ⟨rfl, Hb1.out⟩
theorem list5_own (L : List (List UInt8)) {base k : Nat} {v : Value} {W : World} {xs : List Value} (hx : xs = L.map S) (h : W.ownsRow base 9 1 v (k + 1) xs) (hk : k + 1 = L.length) :
    Calls Tryd.prog 46 #[v] W fun e w' => e = .returned (.tuple #[S (Oct.listE L).1, .int .i64 (Oct.listE L).2]) ∧ Below W.heap.size W w' := by
  subst hx
  rw [hk] at h
  obtain ⟨A, c, hA, hT⟩ := texts_own h
  rw [hA]
  exact list5_any A c L W hT
theorem empty_bytes (s : ByteArray) : s.toList.isEmpty = decide (s.data.toList = []) := by
  rw [Bool.eq_iff_iff, No.empty_iff]
  simp
set_option maxRecDepth 20000 in
theorem item5_a (kd who n : Int) (s : ByteArray) (w : World) (b1 : (decide (0 ≤ who) && decide (who ≤ 64)) = false) :
    Calls Tryd.prog 42 #[.agg #[.int .i64 kd, .int .i64 who, .int .i64 n, .string s]] w fun e w' => e = .returned (.bool false) ∧ Below w.heap.size w w' := by
  have N1 := Lib.hid (within5_b who 64 _ b1)
  clear b1
  go_enter Tryd.func42, Tryd.ntmps42
  go_wp2_with fail
  refine (N1.out _).mono ?_
  rintro _ w1 ⟨rfl, rfl⟩
  go_wp2_with fail
  go_ret
  exact ⟨by first | rfl | (simp; done) | (simp; omega), (Below.refl w.heap.size w).alloc (Nat.le_refl _) _⟩
set_option maxRecDepth 20000 in
theorem item5_b (kd who n : Int) (s : ByteArray) (w : World) (b1 : (decide (0 ≤ who) && decide (who ≤ 64)) = true) (b2 : (decide (0 ≤ n) && decide (n ≤ 1099511627776)) = false) :
    Calls Tryd.prog 42 #[.agg #[.int .i64 kd, .int .i64 who, .int .i64 n, .string s]] w fun e w' => e = .returned (.bool false) ∧ Below w.heap.size w w' := by
  have N1 := Lib.hid (within5_b who 64 _ b1)
  have N2 := Lib.hid (within5_b n 1099511627776 _ b2)
  clear b1 b2
  go_enter Tryd.func42, Tryd.ntmps42
  go_wp2_with fail
  refine (N1.out _).mono ?_
  rintro _ w1 ⟨rfl, rfl⟩
  go_wp2_with fail
  refine (N2.out _).mono ?_
  rintro _ w1 ⟨rfl, rfl⟩
  go_wp2_with fail
  go_ret
  exact ⟨by first | rfl | (simp; done) | (simp; omega), (Below.refl w.heap.size w).alloc (Nat.le_refl _) _⟩
set_option maxRecDepth 20000 in
theorem item5_c (kd who n : Int) (s : ByteArray) (w : World) (b1 : (decide (0 ≤ who) && decide (who ≤ 64)) = true) (b2 : (decide (0 ≤ n) && decide (n ≤ 1099511627776)) = true) (b3 : ¬ (s.size : Int) ≤ 65472) :
    Calls Tryd.prog 42 #[.agg #[.int .i64 kd, .int .i64 who, .int .i64 n, .string s]] w fun e w' => e = .returned (.bool false) ∧ Below w.heap.size w w' := by
  have N1 := Lib.hid (within5_b who 64 _ b1)
  have N2 := Lib.hid (within5_b n 1099511627776 _ b2)
  clear b1 b2
  go_enter Tryd.func42, Tryd.ntmps42
  go_wp2_with fail
  refine (N1.out _).mono ?_
  rintro _ w1 ⟨rfl, rfl⟩
  go_wp2_with fail
  refine (N2.out _).mono ?_
  rintro _ w1 ⟨rfl, rfl⟩
  go_wp2_with fail
  go_ret
  exact ⟨by first | rfl | (simp; done) | (simp; omega), (Below.refl w.heap.size w).alloc (Nat.le_refl _) _⟩
set_option maxRecDepth 20000 in
theorem item5_d (kd who n : Int) (s : ByteArray) (w : World) (b1 : (decide (0 ≤ who) && decide (who ≤ 64)) = true) (b2 : (decide (0 ≤ n) && decide (n ≤ 1099511627776)) = true) (b3 : (s.size : Int) ≤ 65472) (k2 : (kd == 2) = true) (w0 : (who == 0) = false) :
    Calls Tryd.prog 42 #[.agg #[.int .i64 kd, .int .i64 who, .int .i64 n, .string s]] w fun e w' => e = .returned (.bool false) ∧ Below w.heap.size w w' := by
  have N1 := Lib.hid (within5_b who 64 _ b1)
  have N2 := Lib.hid (within5_b n 1099511627776 _ b2)
  clear b1 b2
  go_enter Tryd.func42, Tryd.ntmps42
  go_wp2_with fail
  refine (N1.out _).mono ?_
  rintro _ w1 ⟨rfl, rfl⟩
  go_wp2_with fail
  refine (N2.out _).mono ?_
  rintro _ w1 ⟨rfl, rfl⟩
  go_wp2_with fail
  go_ret
  exact ⟨by first | rfl | (simp; done) | (simp; omega), (Below.refl w.heap.size w).alloc (Nat.le_refl _) _⟩
set_option maxRecDepth 20000 in
theorem item5_e (kd who n : Int) (s : ByteArray) (w : World) (b1 : (decide (0 ≤ who) && decide (who ≤ 64)) = true) (b2 : (decide (0 ≤ n) && decide (n ≤ 1099511627776)) = true) (b3 : (s.size : Int) ≤ 65472) (k2 : (kd == 2) = true) (w0 : (who == 0) = true) :
    Calls Tryd.prog 42 #[.agg #[.int .i64 kd, .int .i64 who, .int .i64 n, .string s]] w fun e w' => e = .returned (.bool s.toList.isEmpty) ∧ Below w.heap.size w w' := by
  have N1 := Lib.hid (within5_b who 64 _ b1)
  have N2 := Lib.hid (within5_b n 1099511627776 _ b2)
  clear b1 b2
  go_enter Tryd.func42, Tryd.ntmps42
  go_wp2_with fail
  refine (N1.out _).mono ?_
  rintro _ w1 ⟨rfl, rfl⟩
  go_wp2_with fail
  refine (N2.out _).mono ?_
  rintro _ w1 ⟨rfl, rfl⟩
  go_wp2_with fail
  go_ret
  exact ⟨by first | rfl | (simp; done) | (simp; omega), (Below.refl w.heap.size w).alloc (Nat.le_refl _) _⟩
set_option maxRecDepth 20000 in
theorem item5_f (kd who n : Int) (s : ByteArray) (w : World) (b1 : (decide (0 ≤ who) && decide (who ≤ 64)) = true) (b2 : (decide (0 ≤ n) && decide (n ≤ 1099511627776)) = true) (b3 : (s.size : Int) ≤ 65472) (k2 : (kd == 2) = false) (k1 : (kd == 1) = true) (n0 : (n == 0) = true) :
    Calls Tryd.prog 42 #[.agg #[.int .i64 kd, .int .i64 who, .int .i64 n, .string s]] w fun e w' => e = .returned (.bool true) ∧ Below w.heap.size w w' := by
  have N1 := Lib.hid (within5_b who 64 _ b1)
  have N2 := Lib.hid (within5_b n 1099511627776 _ b2)
  clear b1 b2
  go_enter Tryd.func42, Tryd.ntmps42
  go_wp2_with fail
  refine (N1.out _).mono ?_
  rintro _ w1 ⟨rfl, rfl⟩
  go_wp2_with fail
  refine (N2.out _).mono ?_
  rintro _ w1 ⟨rfl, rfl⟩
  go_wp2_with fail
  go_ret
  exact ⟨by first | rfl | (simp; done) | (simp; omega), (Below.refl w.heap.size w).alloc (Nat.le_refl _) _⟩
set_option maxRecDepth 20000 in
theorem item5_g (kd who n : Int) (s : ByteArray) (w : World) (b1 : (decide (0 ≤ who) && decide (who ≤ 64)) = true) (b2 : (decide (0 ≤ n) && decide (n ≤ 1099511627776)) = true) (b3 : (s.size : Int) ≤ 65472) (k2 : (kd == 2) = false) (k1 : (kd == 1) = true) (n0 : (n == 0) = false) :
    Calls Tryd.prog 42 #[.agg #[.int .i64 kd, .int .i64 who, .int .i64 n, .string s]] w fun e w' => e = .returned (.bool false) ∧ Below w.heap.size w w' := by
  have N1 := Lib.hid (within5_b who 64 _ b1)
  have N2 := Lib.hid (within5_b n 1099511627776 _ b2)
  clear b1 b2
  go_enter Tryd.func42, Tryd.ntmps42
  go_wp2_with fail
  refine (N1.out _).mono ?_
  rintro _ w1 ⟨rfl, rfl⟩
  go_wp2_with fail
  refine (N2.out _).mono ?_
  rintro _ w1 ⟨rfl, rfl⟩
  go_wp2_with fail
  go_ret
  exact ⟨by first | rfl | (simp; done) | (simp; omega), (Below.refl w.heap.size w).alloc (Nat.le_refl _) _⟩
set_option maxRecDepth 20000 in
theorem item5_h (kd who n : Int) (s : ByteArray) (w : World) (b1 : (decide (0 ≤ who) && decide (who ≤ 64)) = true) (b2 : (decide (0 ≤ n) && decide (n ≤ 1099511627776)) = true) (b3 : (s.size : Int) ≤ 65472) (k2 : (kd == 2) = false) (k1 : (kd == 1) = false) (k3 : (kd == 3) = true) (n0 : (n == 0) = true) :
    Calls Tryd.prog 42 #[.agg #[.int .i64 kd, .int .i64 who, .int .i64 n, .string s]] w fun e w' => e = .returned (.bool true) ∧ Below w.heap.size w w' := by
  have N1 := Lib.hid (within5_b who 64 _ b1)
  have N2 := Lib.hid (within5_b n 1099511627776 _ b2)
  clear b1 b2
  go_enter Tryd.func42, Tryd.ntmps42
  go_wp2_with fail
  refine (N1.out _).mono ?_
  rintro _ w1 ⟨rfl, rfl⟩
  go_wp2_with fail
  refine (N2.out _).mono ?_
  rintro _ w1 ⟨rfl, rfl⟩
  go_wp2_with fail
  go_ret
  exact ⟨by first | rfl | (simp; done) | (simp; omega), (Below.refl w.heap.size w).alloc (Nat.le_refl _) _⟩
set_option maxRecDepth 20000 in
theorem item5_i (kd who n : Int) (s : ByteArray) (w : World) (b1 : (decide (0 ≤ who) && decide (who ≤ 64)) = true) (b2 : (decide (0 ≤ n) && decide (n ≤ 1099511627776)) = true) (b3 : (s.size : Int) ≤ 65472) (k2 : (kd == 2) = false) (k1 : (kd == 1) = false) (k3 : (kd == 3) = true) (n0 : (n == 0) = false) :
    Calls Tryd.prog 42 #[.agg #[.int .i64 kd, .int .i64 who, .int .i64 n, .string s]] w fun e w' => e = .returned (.bool false) ∧ Below w.heap.size w w' := by
  have N1 := Lib.hid (within5_b who 64 _ b1)
  have N2 := Lib.hid (within5_b n 1099511627776 _ b2)
  clear b1 b2
  go_enter Tryd.func42, Tryd.ntmps42
  go_wp2_with fail
  refine (N1.out _).mono ?_
  rintro _ w1 ⟨rfl, rfl⟩
  go_wp2_with fail
  refine (N2.out _).mono ?_
  rintro _ w1 ⟨rfl, rfl⟩
  go_wp2_with fail
  go_ret
  exact ⟨by first | rfl | (simp; done) | (simp; omega), (Below.refl w.heap.size w).alloc (Nat.le_refl _) _⟩
set_option maxRecDepth 20000 in
theorem item5_j (kd who n : Int) (s : ByteArray) (w : World) (b1 : (decide (0 ≤ who) && decide (who ≤ 64)) = true) (b2 : (decide (0 ≤ n) && decide (n ≤ 1099511627776)) = true) (b3 : (s.size : Int) ≤ 65472) (k2 : (kd == 2) = false) (k1 : (kd == 1) = false) (k3 : (kd == 3) = false) :
    Calls Tryd.prog 42 #[.agg #[.int .i64 kd, .int .i64 who, .int .i64 n, .string s]] w fun e w' => e = .returned (.bool false) ∧ Below w.heap.size w w' := by
  have N1 := Lib.hid (within5_b who 64 _ b1)
  have N2 := Lib.hid (within5_b n 1099511627776 _ b2)
  clear b1 b2
  go_enter Tryd.func42, Tryd.ntmps42
  go_wp2_with fail
  refine (N1.out _).mono ?_
  rintro _ w1 ⟨rfl, rfl⟩
  go_wp2_with fail
  refine (N2.out _).mono ?_
  rintro _ w1 ⟨rfl, rfl⟩
  go_wp2_with fail
  go_ret
  exact ⟨by first | rfl | (simp; done) | (simp; omega), (Below.refl w.heap.size w).alloc (Nat.le_refl _) _⟩
theorem item5_any (i : It) (w : World) :
    Calls Tryd.prog 42 #[.agg i.cells.toArray] w fun e w' => e = .returned (.bool i.ok) ∧ Below w.heap.size w w' := by
  obtain ⟨kd, who, n, s⟩ := i
  have hno : ∀ {P : Prop}, ((It.mk kd who n s).ok = true → False) → (It.mk kd who n s).ok = false := fun h => by rw [Bool.eq_false_iff]; exact h
  have hiff := It.ok_iff ⟨kd, who, n, s⟩
  simp only at hiff
  show Calls _ _ #[.agg #[.int .i64 kd, .int .i64 who, .int .i64 n, .string s]] _ _
  rcases Bool.eq_false_or_eq_true (decide (0 ≤ who) && decide (who ≤ 64)) with b1 | b1
  · rcases Bool.eq_false_or_eq_true (decide (0 ≤ n) && decide (n ≤ 1099511627776)) with b2 | b2
    · have c1 := b1
      have c2 := b2
      simp at c1 c2
      by_cases b3 : (s.size : Int) ≤ 65472
      · rcases Bool.eq_false_or_eq_true (kd == 2) with k2 | k2
        · have d2 := k2
          simp at d2
          rcases Bool.eq_false_or_eq_true (who == 0) with w0 | w0
          · have d0 := w0
            simp at d0
            have e : (It.mk kd who n s).ok = s.toList.isEmpty := by
              rw [empty_bytes, Bool.eq_iff_iff, hiff, decide_eq_true_eq]
              constructor
              · rintro (h | h)
                · omega
                · exact h.2.2.2.2
              · intro h; exact .inr ⟨d2, d0, c2.1, c2.2, h⟩
            rw [e]; exact item5_e kd who n s w b1 b2 b3 k2 w0
          · have d0 := w0
            simp at d0
            rw [hno (P := True) (fun h => by rw [hiff] at h; omega)]; exact item5_d kd who n s w b1 b2 b3 k2 w0
        · have d2 := k2
          simp at d2
          rcases Bool.eq_false_or_eq_true (kd == 1) with k1 | k1
          · have d1 := k1
            simp at d1
            rcases Bool.eq_false_or_eq_true (n == 0) with n0 | n0
            · have d0 := n0
              simp at d0
              rw [show (It.mk kd who n s).ok = true by rw [hiff]; omega]; exact item5_f kd who n s w b1 b2 b3 k2 k1 n0
            · have d0 := n0
              simp at d0
              rw [hno (P := True) (fun h => by rw [hiff] at h; omega)]; exact item5_g kd who n s w b1 b2 b3 k2 k1 n0
          · have d1 := k1
            simp at d1
            rcases Bool.eq_false_or_eq_true (kd == 3) with k3 | k3
            · have d3 := k3
              simp at d3
              rcases Bool.eq_false_or_eq_true (n == 0) with n0 | n0
              · have d0 := n0
                simp at d0
                rw [show (It.mk kd who n s).ok = true by rw [hiff]; omega]; exact item5_h kd who n s w b1 b2 b3 k2 k1 k3 n0
              · have d0 := n0
                simp at d0
                rw [hno (P := True) (fun h => by rw [hiff] at h; omega)]; exact item5_i kd who n s w b1 b2 b3 k2 k1 k3 n0
            · have d3 := k3
              simp at d3
              rw [hno (P := True) (fun h => by rw [hiff] at h; omega)]; exact item5_j kd who n s w b1 b2 b3 k2 k1 k3
      · have hs0 : s.data.toList = [] → s.size = 0 := fun h => by
          have : s.data.toList.length = s.size := rfl
          rw [h] at this
          exact this.symm
        rw [hno (P := True) (fun h => by
          rw [hiff] at h
          rcases h with h | h
          · omega
          · have := hs0 h.2.2.2.2; omega)]; exact item5_c kd who n s w b1 b2 b3
    · have c2 := b2
      simp at c2
      rw [hno (P := True) (fun h => by rw [hiff] at h; omega)]; exact item5_b kd who n s w b1 b2
  · have c1 := b1
    simp at c1
    rw [hno (P := True) (fun h => by rw [hiff] at h; omega)]; exact item5_a kd who n s w b1
end Go.Proofs.YtinciddchpccnaaDoor
namespace Go.Proofs.YtinciddchpccnaaDoor
open Go.RowKit
set_option linter.unusedVariables false
set_option linter.unusedSimpArgs false

namespace Bd
end Bd
end Go.Proofs.YtinciddchpccnaaDoor

/- ---- NoC ---- -/
/- notes: linked, receiptTexts, link, Link. -/
/- notes: Link, WriteReceipt. -/
/- notes: WriteReceipt. -/
namespace Go.Proofs.YtinciddchpccnaaDoor
open Go.RowKit
set_option linter.unusedVariables false
set_option linter.unusedSimpArgs false

namespace Rp
theorem cells_one {r : Rp} (h : r.prev.length = 32) (h2 : r.hash.length = 32) : ∀ v ∈ r.cells, v.oneCell' = true := by
  intro v hv
  unfold cells at hv
  rcases List.mem_append.1 hv with h1 | h1
  · simp at h1
    rcases h1 with rfl | rfl | rfl | rfl <;> rfl
  · rcases List.mem_append.1 h1 with h3 | h3
    · exact hash_one _ h v h3
    · exact hash_one _ h2 v h3
end Rp
end Go.Proofs.YtinciddchpccnaaDoor
namespace Go.Proofs.YtinciddchpccnaaDoor
open Go.RowKit
set_option linter.unusedVariables false
set_option linter.unusedSimpArgs false

end Go.Proofs.YtinciddchpccnaaDoor
namespace Go.Proofs.YtinciddchpccnaaDoor
open Go.RowKit
set_option linter.unusedVariables false
set_option linter.unusedSimpArgs false

end Go.Proofs.YtinciddchpccnaaDoor

/- ---- NoReg ---- -/
/- Steps of drawn regions: a struct literal with rows; a row stored. -/
namespace Go.Proofs.YtinciddchpccnaaDoor
open Go.RowKit
set_option linter.unusedVariables false
set_option linter.unusedSimpArgs false

theorem yieldsIf_buildL {P : Program} {ops : Array Oper} {S : World → Prop} {op : Oper} {a : Act} (hw : Region.wanted op (yielded ops a.tmps) = true) (t : TypeId) (parts : List (Nat × Operand)) (ho : op.op = .build t parts.toArray)
    (vs : List (Nat × Value)) (hv : parts.map (fun p => (p.1, a.eval p.2)) = vs) (cells : Array Value) (hf : P.built t vs = some cells) : YieldsIf P ops S op (.agg cells) a :=
  .inl ⟨hw, fun w _ => by
    have e : (parts.toArray.map fun (i, x) => (i, a.eval x)).toList = vs := by rw [← hv]; simp
    have h2 : P.built t ((parts.toArray.map fun (i, x) => (i, a.eval x)).toList) = some cells := by rw [e]; exact hf
    unfold execOp
    simp only [ho, Sem.run_bind, run_build w t _ cells h2, Result.andThen_ok, Sem.run_pure]⟩
theorem wp_store_at {P : Program} {op : Oper} {a : Act} {w : World} {K : Act → World → Prop} {Q : Exit → Act → World → Prop} (ty : TypeId) (x y : Operand) (ho : op.op = .store ty x y)
    (g off : Nat) (l xs : List Value) (T : TypeId) (hx : a.eval x = .pointer (some ⟨g, off, none⟩)) (hy : a.eval y = .agg l.toArray) (hg : Row w g T xs) (hoff : off + l.length ≤ xs.length)
    (hi : (P.info? ty).map (·.size) = some l.length) (h1 : ∀ v ∈ l, v.oneCell' = true)
    (h : ∀ w', Row w' g T (xs.take off ++ (l ++ xs.drop (off + l.length))) → w.grownBy w' (some g) → K (a.put op.dst undef) w') : op.wp P a w K Q := by
  obtain ⟨r1, r2⟩ := row_setCells l off w xs hg hoff
  exact wp_store_mid ty x y ho g off l.toArray hx hy (fun j hj => ⟨by
    have hj' : j < l.length := by simpa using hj
    rw [hg.cell (off + j) (by omega)]; rfl, hg.free _⟩) (by simpa using hi) (all_oneCell_toArray h1) (h _ r1 r2)
end Go.Proofs.YtinciddchpccnaaDoor

/- ---- NoBlocks ---- -/
/- Blocks that a walk holds: each with what it holds, all made since the call began. -/
namespace Go.Proofs.YtinciddchpccnaaDoor
open Go.RowKit
set_option linter.unusedVariables false
set_option linter.unusedSimpArgs false

theorem Row.type {w : World} {B : Nat} {t u : TypeId} {xs ys : List Value} (h : Row w B t xs) (k : Row w B u ys) : t = u := by
  unfold Row at h k
  rw [h] at k
  injection k with k
  injection k
/-- what is in the blocks of a list -/
def Blocks (w0 W : World) (l : List (Nat × TypeId × List Value)) : Prop := Below w0.heap.size w0 W ∧ ∀ x ∈ l, Row W x.1 x.2.1 x.2.2
namespace Blocks
variable {w0 W W' : World} {l : List (Nat × TypeId × List Value)} {g : Nat} {T : TypeId} {C : List Value}
theorem nil (h : Below w0.heap.size w0 W) : Blocks w0 W [] := ⟨h, by simp⟩
theorem step (h : Blocks w0 W l) (hb : Below W.heap.size W W') : Blocks w0 W' l := ⟨two_below' h.1 hb, fun x hx => (h.2 x hx).kept (grownBy_of_below hb none) (by simp)⟩
theorem drew (h : Blocks w0 W l) : Blocks w0 W.drew l := h.step (Below.refl _ _).drew
theorem alloc (h : Blocks w0 W l) (o : Obj) : Blocks w0 (W.alloc o) l := h.step ((Below.refl _ _).alloc (Nat.le_refl _) o)
theorem put (h : Blocks w0 W l) (hg : W.grownBy W' (some g)) (hs : w0.heap.size ≤ g) (hn : ∀ x ∈ l, x.1 ≠ g) : Blocks w0 W' l :=
  ⟨h.1.grown hg h.1.size (fun k hk => by cases hk; exact hs), fun x hx => (h.2 x hx).kept hg (by have := hn x hx; simpa using this)⟩
theorem cons (h : Blocks w0 W l) (hr : Row W g T C) : Blocks w0 W ((g, T, C) :: l) := ⟨h.1, fun x hx => by
  rcases List.mem_cons.1 hx with rfl | hx
  · exact hr
  · exact h.2 x hx⟩
theorem size (h : Blocks w0 W l) : w0.heap.size ≤ W.heap.size := h.1.size
theorem fresh (h : Blocks w0 W l) : ∀ x ∈ l, x.1 ≠ W.heap.size := fun x hx => by have := (h.2 x hx).lt; omega
theorem hd (h : Blocks w0 W ((g, T, C) :: l)) : Row W g T C := h.2 (g, T, C) List.mem_cons_self
theorem tl (h : Blocks w0 W ((g, T, C) :: l)) : Blocks w0 W l := ⟨h.1, fun x hx => h.2 x (List.mem_cons_of_mem _ hx)⟩
/-- a block of another type is none of them -/
theorem other (h : Blocks w0 W l) (hr : Row W g T C) (ht : ∀ x ∈ l, x.2.1 ≠ T) : ∀ x ∈ l, x.1 ≠ g := fun x hx e => ht x hx ((h.2 x hx).type (e ▸ hr))
end Blocks
end Go.Proofs.YtinciddchpccnaaDoor
