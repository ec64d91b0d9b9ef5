/- What later texts need of the earlier layers. -/
import Derived.Test.YtjeooegkfjlejaaDoorEarO
import Derived.Test.YtjeooegkfjlejaaDoorEarS
import Derived.Test.YtjeooegkfjlejaaDoorEarT
import Derived.Test.YtjeooegkfjlejaaDoorEarC
import Derived.Test.YtjeooegkfjlejaaDoorEarA
import Derived.Laws.Tables
import Derived.Laws.ResultCell
/- ---- EarB ---- -/
/- What later texts need of the earlier layers. -/
/- ---- NoItemR ---- -/
/- notes: ReadItem. -/
namespace Go.Proofs.YtjeooegkfjlejaaDoor
open Go.RowKit
set_option linter.unusedVariables false
set_option linter.unusedSimpArgs false

namespace It
theorem cells_len (i : It) : i.cells.length = 4 := rfl
end It
theorem item_info : (Tryd.prog.info? 98).map (·.size) = some 4 := by kernel_rfl
end Go.Proofs.YtjeooegkfjlejaaDoor

/- ---- NoB ---- -/
/- notes: bidMayBe, bidNumbers, WriteBid. -/
/- notes: SignBid, CheckBid. -/
/- notes: ReadBid. -/
namespace Go.Proofs.YtjeooegkfjlejaaDoor
open Go.RowKit
set_option linter.unusedVariables false
set_option linter.unusedSimpArgs false

namespace Bd
theorem cells_len {b : Bd} (h : b.tag.length = 32) : b.cells.length = 36 := by
  unfold cells
  simp only [List.length_append, Tx.bRow_len _ h, List.length_cons, List.length_nil]
end Bd
end Go.Proofs.YtjeooegkfjlejaaDoor
namespace Go.Proofs.YtjeooegkfjlejaaDoor
open Go.RowKit
set_option linter.unusedVariables false
set_option linter.unusedSimpArgs false

namespace Bd
end Bd
end Go.Proofs.YtjeooegkfjlejaaDoor
namespace Go.Proofs.YtjeooegkfjlejaaDoor
open Go.RowKit
set_option linter.unusedVariables false
set_option linter.unusedSimpArgs false

namespace Bd
theorem ok_num {b : Bd} (h : b.ok = true) : Tx.num b.round = true ∧ Tx.num b.who = true ∧ Tx.num b.amount = true ∧ Tx.num b.salt = true := by
  rw [ok_iff] at h
  rw [No.num_iff, No.num_iff, No.num_iff, No.num_iff]
  omega
end Bd
end Go.Proofs.YtjeooegkfjlejaaDoor

/- ---- NoD ---- -/
/- The reference of layer 5: within, text, list, Item, WriteItem. -/
/- The reference of layer 5: bids. -/
namespace Go.Proofs.YtjeooegkfjlejaaDoor
open Go.RowKit
set_option linter.unusedVariables false
set_option linter.unusedSimpArgs false

theorem within5_any (n m : Int) (w : World) :
    Calls Tryd.prog 84 #[.int .i64 n, .int .i64 m] w fun e w' => e = .returned (.bool (decide (0 ≤ n) && decide (n ≤ m))) ∧ w = w' := by
  by_cases h : 0 ≤ n
  · have hd : decide (0 ≤ n) = true := by simpa using h
    have Hd := Lib.hid hd
    clear hd
    go_enter Tryd.func84, Tryd.ntmps84
    go_wp2
    go_ret
    exact ⟨by rw [Hd.out]; rfl, rfl⟩
  · have hd : decide (0 ≤ n) = false := by simpa using h
    have Hd := Lib.hid hd
    clear hd
    go_enter Tryd.func84, Tryd.ntmps84
    go_wp2
    go_ret
    exact ⟨by rw [Hd.out]; rfl, rfl⟩
theorem within5_b (n m : Int) (b : Bool) (h : (decide (0 ≤ n) && decide (n ≤ m)) = b) (w : World) :
    Calls Tryd.prog 84 #[.int .i64 n, .int .i64 m] w fun e w' => e = .returned (.bool b) ∧ w = w' := by
  have := within5_any n m w
  rw [h] at this
  exact this
theorem text5_any (n : Int) (w : World) (h0 : 0 ≤ n) (h1 : n ≤ 9223372036854775807) :
    Calls Tryd.prog 71 #[.int .i64 n] w fun e w' => e = .returned (S (Oct.num n.toNat)) ∧ Below w.heap.size w w' := by
  have RN : Hid (∀ W, Calls Tryd.prog 44 #[.int .i64 n] W fun e w' => e = .returned (.tuple #[S (Oct.num n.toNat), .int .i64 0]) ∧ Below W.heap.size W w') := fun W => by
    have := refNumber_any n W h1
    unfold Oct.numE at this
    rw [if_neg (by omega)] at this
    exact this
  go_enter Tryd.func71, Tryd.ntmps71
  go_wp2_with fail
  refine (RN.out _).mono ?_
  rintro _ w1 ⟨rfl, hb1⟩
  have Hb1 := Lib.hid hb1
  clear hb1
  go_wp2_with fail
  go_ret
  exact ⟨rfl, Hb1.out⟩
theorem list5_any (A : Option Addr) (c : Nat) (L : List (List UInt8)) (w : World) (hr : Texts w w.heap.size A L) :
    Calls Tryd.prog 70 #[.slice A L.length c] w fun e w' => e = .returned (.tuple #[S (Oct.listE L).1, .int .i64 (Oct.listE L).2]) ∧ Below w.heap.size w w' := by
  have RL : Hid (Calls Tryd.prog 45 #[.slice A L.length c] w fun e w' => e = .returned (.tuple #[S (Oct.listE L).1, .int .i64 (Oct.listE L).2]) ∧ Below w.heap.size w w') := refList_any A c L w hr
  generalize L.length = m at *
  clear hr
  go_enter Tryd.func70, Tryd.ntmps70
  go_wp2_with fail
  refine RL.out.mono ?_
  rintro _ w1 ⟨rfl, hb1⟩
  have Hb1 := Lib.hid hb1
  clear hb1
  go_wp2_with fail
  go_ret2
  exact ⟨rfl, Hb1.out⟩
theorem list5_row (L : List (List UInt8)) {W : World} {g : Nat} {xs : List Value} (h : Row W g 9 xs) (hx : xs = L.map S) (n c : Nat) (hn : n = L.length) :
    Calls Tryd.prog 70 #[.slice (some ⟨g, 0, none⟩) n c] W fun e w' => e = .returned (.tuple #[S (Oct.listE L).1, .int .i64 (Oct.listE L).2]) ∧ Below W.heap.size W w' := by
  subst hn hx
  refine list5_any _ c L W fun _ => ⟨g, 0, rfl, h.lt, fun i hi => ?_⟩
  rw [Nat.zero_add, h.cell i (by simpa using hi)]
  simp
theorem empty_bytes (s : ByteArray) : s.toList.isEmpty = decide (s.data.toList = []) := by
  rw [Bool.eq_iff_iff, No.empty_iff]
  simp
set_option maxRecDepth 20000 in
theorem item5_a (kd who n : Int) (s : ByteArray) (w : World) (b1 : (decide (0 ≤ who) && decide (who ≤ 64)) = false) :
    Calls Tryd.prog 63 #[.agg #[.int .i64 kd, .int .i64 who, .int .i64 n, .string s]] w fun e w' => e = .returned (.bool false) ∧ Below w.heap.size w w' := by
  have N1 := Lib.hid (within5_b who 64 _ b1)
  clear b1
  go_enter Tryd.func63, Tryd.ntmps63
  go_wp2_with fail
  refine (N1.out _).mono ?_
  rintro _ w1 ⟨rfl, rfl⟩
  go_wp2_with fail
  go_ret
  exact ⟨by first | rfl | (simp; done) | (simp; omega), (Below.refl w.heap.size w).alloc (Nat.le_refl _) _⟩
set_option maxRecDepth 20000 in
theorem item5_b (kd who n : Int) (s : ByteArray) (w : World) (b1 : (decide (0 ≤ who) && decide (who ≤ 64)) = true) (b2 : (decide (0 ≤ n) && decide (n ≤ 1099511627776)) = false) :
    Calls Tryd.prog 63 #[.agg #[.int .i64 kd, .int .i64 who, .int .i64 n, .string s]] w fun e w' => e = .returned (.bool false) ∧ Below w.heap.size w w' := by
  have N1 := Lib.hid (within5_b who 64 _ b1)
  have N2 := Lib.hid (within5_b n 1099511627776 _ b2)
  clear b1 b2
  go_enter Tryd.func63, Tryd.ntmps63
  go_wp2_with fail
  refine (N1.out _).mono ?_
  rintro _ w1 ⟨rfl, rfl⟩
  go_wp2_with fail
  refine (N2.out _).mono ?_
  rintro _ w1 ⟨rfl, rfl⟩
  go_wp2_with fail
  go_ret
  exact ⟨by first | rfl | (simp; done) | (simp; omega), (Below.refl w.heap.size w).alloc (Nat.le_refl _) _⟩
set_option maxRecDepth 20000 in
theorem item5_c (kd who n : Int) (s : ByteArray) (w : World) (b1 : (decide (0 ≤ who) && decide (who ≤ 64)) = true) (b2 : (decide (0 ≤ n) && decide (n ≤ 1099511627776)) = true) (b3 : ¬ (s.size : Int) ≤ 65472) :
    Calls Tryd.prog 63 #[.agg #[.int .i64 kd, .int .i64 who, .int .i64 n, .string s]] w fun e w' => e = .returned (.bool false) ∧ Below w.heap.size w w' := by
  have N1 := Lib.hid (within5_b who 64 _ b1)
  have N2 := Lib.hid (within5_b n 1099511627776 _ b2)
  clear b1 b2
  go_enter Tryd.func63, Tryd.ntmps63
  go_wp2_with fail
  refine (N1.out _).mono ?_
  rintro _ w1 ⟨rfl, rfl⟩
  go_wp2_with fail
  refine (N2.out _).mono ?_
  rintro _ w1 ⟨rfl, rfl⟩
  go_wp2_with fail
  go_ret
  exact ⟨by first | rfl | (simp; done) | (simp; omega), (Below.refl w.heap.size w).alloc (Nat.le_refl _) _⟩
set_option maxRecDepth 20000 in
theorem item5_d (kd who n : Int) (s : ByteArray) (w : World) (b1 : (decide (0 ≤ who) && decide (who ≤ 64)) = true) (b2 : (decide (0 ≤ n) && decide (n ≤ 1099511627776)) = true) (b3 : (s.size : Int) ≤ 65472) (k2 : (kd == 2) = true) (w0 : (who == 0) = false) :
    Calls Tryd.prog 63 #[.agg #[.int .i64 kd, .int .i64 who, .int .i64 n, .string s]] w fun e w' => e = .returned (.bool false) ∧ Below w.heap.size w w' := by
  have N1 := Lib.hid (within5_b who 64 _ b1)
  have N2 := Lib.hid (within5_b n 1099511627776 _ b2)
  clear b1 b2
  go_enter Tryd.func63, Tryd.ntmps63
  go_wp2_with fail
  refine (N1.out _).mono ?_
  rintro _ w1 ⟨rfl, rfl⟩
  go_wp2_with fail
  refine (N2.out _).mono ?_
  rintro _ w1 ⟨rfl, rfl⟩
  go_wp2_with fail
  go_ret
  exact ⟨by first | rfl | (simp; done) | (simp; omega), (Below.refl w.heap.size w).alloc (Nat.le_refl _) _⟩
set_option maxRecDepth 20000 in
theorem item5_e (kd who n : Int) (s : ByteArray) (w : World) (b1 : (decide (0 ≤ who) && decide (who ≤ 64)) = true) (b2 : (decide (0 ≤ n) && decide (n ≤ 1099511627776)) = true) (b3 : (s.size : Int) ≤ 65472) (k2 : (kd == 2) = true) (w0 : (who == 0) = true) :
    Calls Tryd.prog 63 #[.agg #[.int .i64 kd, .int .i64 who, .int .i64 n, .string s]] w fun e w' => e = .returned (.bool s.toList.isEmpty) ∧ Below w.heap.size w w' := by
  have N1 := Lib.hid (within5_b who 64 _ b1)
  have N2 := Lib.hid (within5_b n 1099511627776 _ b2)
  clear b1 b2
  go_enter Tryd.func63, Tryd.ntmps63
  go_wp2_with fail
  refine (N1.out _).mono ?_
  rintro _ w1 ⟨rfl, rfl⟩
  go_wp2_with fail
  refine (N2.out _).mono ?_
  rintro _ w1 ⟨rfl, rfl⟩
  go_wp2_with fail
  go_ret
  exact ⟨by first | rfl | (simp; done) | (simp; omega), (Below.refl w.heap.size w).alloc (Nat.le_refl _) _⟩
set_option maxRecDepth 20000 in
theorem item5_f (kd who n : Int) (s : ByteArray) (w : World) (b1 : (decide (0 ≤ who) && decide (who ≤ 64)) = true) (b2 : (decide (0 ≤ n) && decide (n ≤ 1099511627776)) = true) (b3 : (s.size : Int) ≤ 65472) (k2 : (kd == 2) = false) (k1 : (kd == 1) = true) (n0 : (n == 0) = true) :
    Calls Tryd.prog 63 #[.agg #[.int .i64 kd, .int .i64 who, .int .i64 n, .string s]] w fun e w' => e = .returned (.bool true) ∧ Below w.heap.size w w' := by
  have N1 := Lib.hid (within5_b who 64 _ b1)
  have N2 := Lib.hid (within5_b n 1099511627776 _ b2)
  clear b1 b2
  go_enter Tryd.func63, Tryd.ntmps63
  go_wp2_with fail
  refine (N1.out _).mono ?_
  rintro _ w1 ⟨rfl, rfl⟩
  go_wp2_with fail
  refine (N2.out _).mono ?_
  rintro _ w1 ⟨rfl, rfl⟩
  go_wp2_with fail
  go_ret
  exact ⟨by first | rfl | (simp; done) | (simp; omega), (Below.refl w.heap.size w).alloc (Nat.le_refl _) _⟩
set_option maxRecDepth 20000 in
theorem item5_g (kd who n : Int) (s : ByteArray) (w : World) (b1 : (decide (0 ≤ who) && decide (who ≤ 64)) = true) (b2 : (decide (0 ≤ n) && decide (n ≤ 1099511627776)) = true) (b3 : (s.size : Int) ≤ 65472) (k2 : (kd == 2) = false) (k1 : (kd == 1) = true) (n0 : (n == 0) = false) :
    Calls Tryd.prog 63 #[.agg #[.int .i64 kd, .int .i64 who, .int .i64 n, .string s]] w fun e w' => e = .returned (.bool false) ∧ Below w.heap.size w w' := by
  have N1 := Lib.hid (within5_b who 64 _ b1)
  have N2 := Lib.hid (within5_b n 1099511627776 _ b2)
  clear b1 b2
  go_enter Tryd.func63, Tryd.ntmps63
  go_wp2_with fail
  refine (N1.out _).mono ?_
  rintro _ w1 ⟨rfl, rfl⟩
  go_wp2_with fail
  refine (N2.out _).mono ?_
  rintro _ w1 ⟨rfl, rfl⟩
  go_wp2_with fail
  go_ret
  exact ⟨by first | rfl | (simp; done) | (simp; omega), (Below.refl w.heap.size w).alloc (Nat.le_refl _) _⟩
set_option maxRecDepth 20000 in
theorem item5_h (kd who n : Int) (s : ByteArray) (w : World) (b1 : (decide (0 ≤ who) && decide (who ≤ 64)) = true) (b2 : (decide (0 ≤ n) && decide (n ≤ 1099511627776)) = true) (b3 : (s.size : Int) ≤ 65472) (k2 : (kd == 2) = false) (k1 : (kd == 1) = false) (k3 : (kd == 3) = true) (n0 : (n == 0) = true) :
    Calls Tryd.prog 63 #[.agg #[.int .i64 kd, .int .i64 who, .int .i64 n, .string s]] w fun e w' => e = .returned (.bool true) ∧ Below w.heap.size w w' := by
  have N1 := Lib.hid (within5_b who 64 _ b1)
  have N2 := Lib.hid (within5_b n 1099511627776 _ b2)
  clear b1 b2
  go_enter Tryd.func63, Tryd.ntmps63
  go_wp2_with fail
  refine (N1.out _).mono ?_
  rintro _ w1 ⟨rfl, rfl⟩
  go_wp2_with fail
  refine (N2.out _).mono ?_
  rintro _ w1 ⟨rfl, rfl⟩
  go_wp2_with fail
  go_ret
  exact ⟨by first | rfl | (simp; done) | (simp; omega), (Below.refl w.heap.size w).alloc (Nat.le_refl _) _⟩
set_option maxRecDepth 20000 in
theorem item5_i (kd who n : Int) (s : ByteArray) (w : World) (b1 : (decide (0 ≤ who) && decide (who ≤ 64)) = true) (b2 : (decide (0 ≤ n) && decide (n ≤ 1099511627776)) = true) (b3 : (s.size : Int) ≤ 65472) (k2 : (kd == 2) = false) (k1 : (kd == 1) = false) (k3 : (kd == 3) = true) (n0 : (n == 0) = false) :
    Calls Tryd.prog 63 #[.agg #[.int .i64 kd, .int .i64 who, .int .i64 n, .string s]] w fun e w' => e = .returned (.bool false) ∧ Below w.heap.size w w' := by
  have N1 := Lib.hid (within5_b who 64 _ b1)
  have N2 := Lib.hid (within5_b n 1099511627776 _ b2)
  clear b1 b2
  go_enter Tryd.func63, Tryd.ntmps63
  go_wp2_with fail
  refine (N1.out _).mono ?_
  rintro _ w1 ⟨rfl, rfl⟩
  go_wp2_with fail
  refine (N2.out _).mono ?_
  rintro _ w1 ⟨rfl, rfl⟩
  go_wp2_with fail
  go_ret
  exact ⟨by first | rfl | (simp; done) | (simp; omega), (Below.refl w.heap.size w).alloc (Nat.le_refl _) _⟩
set_option maxRecDepth 20000 in
theorem item5_j (kd who n : Int) (s : ByteArray) (w : World) (b1 : (decide (0 ≤ who) && decide (who ≤ 64)) = true) (b2 : (decide (0 ≤ n) && decide (n ≤ 1099511627776)) = true) (b3 : (s.size : Int) ≤ 65472) (k2 : (kd == 2) = false) (k1 : (kd == 1) = false) (k3 : (kd == 3) = false) :
    Calls Tryd.prog 63 #[.agg #[.int .i64 kd, .int .i64 who, .int .i64 n, .string s]] w fun e w' => e = .returned (.bool false) ∧ Below w.heap.size w w' := by
  have N1 := Lib.hid (within5_b who 64 _ b1)
  have N2 := Lib.hid (within5_b n 1099511627776 _ b2)
  clear b1 b2
  go_enter Tryd.func63, Tryd.ntmps63
  go_wp2_with fail
  refine (N1.out _).mono ?_
  rintro _ w1 ⟨rfl, rfl⟩
  go_wp2_with fail
  refine (N2.out _).mono ?_
  rintro _ w1 ⟨rfl, rfl⟩
  go_wp2_with fail
  go_ret
  exact ⟨by first | rfl | (simp; done) | (simp; omega), (Below.refl w.heap.size w).alloc (Nat.le_refl _) _⟩
theorem item5_any (i : It) (w : World) :
    Calls Tryd.prog 63 #[.agg i.cells.toArray] w fun e w' => e = .returned (.bool i.ok) ∧ Below w.heap.size w w' := by
  obtain ⟨kd, who, n, s⟩ := i
  have hno : ∀ {P : Prop}, ((It.mk kd who n s).ok = true → False) → (It.mk kd who n s).ok = false := fun h => by rw [Bool.eq_false_iff]; exact h
  have hiff := It.ok_iff ⟨kd, who, n, s⟩
  simp only at hiff
  show Calls _ _ #[.agg #[.int .i64 kd, .int .i64 who, .int .i64 n, .string s]] _ _
  rcases Bool.eq_false_or_eq_true (decide (0 ≤ who) && decide (who ≤ 64)) with b1 | b1
  · rcases Bool.eq_false_or_eq_true (decide (0 ≤ n) && decide (n ≤ 1099511627776)) with b2 | b2
    · have c1 := b1
      have c2 := b2
      simp at c1 c2
      by_cases b3 : (s.size : Int) ≤ 65472
      · rcases Bool.eq_false_or_eq_true (kd == 2) with k2 | k2
        · have d2 := k2
          simp at d2
          rcases Bool.eq_false_or_eq_true (who == 0) with w0 | w0
          · have d0 := w0
            simp at d0
            have e : (It.mk kd who n s).ok = s.toList.isEmpty := by
              rw [empty_bytes, Bool.eq_iff_iff, hiff, decide_eq_true_eq]
              constructor
              · rintro (h | h)
                · omega
                · exact h.2.2.2.2
              · intro h; exact .inr ⟨d2, d0, c2.1, c2.2, h⟩
            rw [e]; exact item5_e kd who n s w b1 b2 b3 k2 w0
          · have d0 := w0
            simp at d0
            rw [hno (P := True) (fun h => by rw [hiff] at h; omega)]; exact item5_d kd who n s w b1 b2 b3 k2 w0
        · have d2 := k2
          simp at d2
          rcases Bool.eq_false_or_eq_true (kd == 1) with k1 | k1
          · have d1 := k1
            simp at d1
            rcases Bool.eq_false_or_eq_true (n == 0) with n0 | n0
            · have d0 := n0
              simp at d0
              rw [show (It.mk kd who n s).ok = true by rw [hiff]; omega]; exact item5_f kd who n s w b1 b2 b3 k2 k1 n0
            · have d0 := n0
              simp at d0
              rw [hno (P := True) (fun h => by rw [hiff] at h; omega)]; exact item5_g kd who n s w b1 b2 b3 k2 k1 n0
          · have d1 := k1
            simp at d1
            rcases Bool.eq_false_or_eq_true (kd == 3) with k3 | k3
            · have d3 := k3
              simp at d3
              rcases Bool.eq_false_or_eq_true (n == 0) with n0 | n0
              · have d0 := n0
                simp at d0
                rw [show (It.mk kd who n s).ok = true by rw [hiff]; omega]; exact item5_h kd who n s w b1 b2 b3 k2 k1 k3 n0
              · have d0 := n0
                simp at d0
                rw [hno (P := True) (fun h => by rw [hiff] at h; omega)]; exact item5_i kd who n s w b1 b2 b3 k2 k1 k3 n0
            · have d3 := k3
              simp at d3
              rw [hno (P := True) (fun h => by rw [hiff] at h; omega)]; exact item5_j kd who n s w b1 b2 b3 k2 k1 k3
      · have hs0 : s.data.toList = [] → s.size = 0 := fun h => by
          have : s.data.toList.length = s.size := rfl
          rw [h] at this
          exact this.symm
        rw [hno (P := True) (fun h => by
          rw [hiff] at h
          rcases h with h | h
          · omega
          · have := hs0 h.2.2.2.2; omega)]; exact item5_c kd who n s w b1 b2 b3
    · have c2 := b2
      simp at c2
      rw [hno (P := True) (fun h => by rw [hiff] at h; omega)]; exact item5_b kd who n s w b1 b2
  · have c1 := b1
    simp at c1
    rw [hno (P := True) (fun h => by rw [hiff] at h; omega)]; exact item5_a kd who n s w b1
set_option maxRecDepth 20000 in
theorem rwriteItem_no (i : It) (w : World) (h : i.ok = false) :
    Calls Tryd.prog 54 #[.agg i.cells.toArray] w fun e w' => e = .returned (.tuple #[S [], .int .i64 2]) ∧ Below w.heap.size w w' := by
  have MB := Lib.hid (fun W => item5_any i W)
  rw [h] at MB
  have Hrow0 := Lib.hid (Row.new w 98 i.cells)
  have HL := Lib.hid (It.cells_len i)
  generalize i.cells = C at *
  clear h
  go_enter Tryd.func54, Tryd.ntmps54
  go_wp2_with (with_reducible show wpList _ _ _ (⟨_, .load 98 _, _, _, _, _⟩ :: _) _ _; refine wpList_load_tx rfl 98 (.tmp 1) rfl w.heap.size 0 rfl C _ (row_range Hrow0.out) Tryd.underlying98 rfl (by rw [item_info, HL.out]) ?_)
  refine (MB.out _).mono ?_
  rintro _ w1 ⟨rfl, hb1⟩
  have Hb1 := Lib.hid (tx_below (grownBy_of_below hb1 none))
  clear hb1
  go_wp2_with fail
  go_ret2
  exact ⟨rfl, Hb1.out⟩
set_option maxRecDepth 20000 in
set_option maxHeartbeats 1600000 in
theorem rwriteItem_ok (i : It) (w : World) (h : i.ok = true) :
    Calls Tryd.prog 54 #[.agg i.cells.toArray] w fun e w' => e = .returned (.tuple #[S (Oct.listE i.fields).1, .int .i64 (Oct.listE i.fields).2]) ∧ Below w.heap.size w w' := by
  have hn := It.ok_num h
  simp only [No.num_iff] at hn
  have T0 := Lib.hid (fun W => text5_any i.kind W hn.1.1 (by omega))
  have T1 := Lib.hid (fun W => text5_any i.who W hn.2.1.1 (by omega))
  have T2 := Lib.hid (fun W => text5_any i.n W hn.2.2.1 (by omega))
  have MB := Lib.hid (fun W => item5_any i W)
  rw [h] at MB
  have Hrow0 := Lib.hid (Row.new w 98 i.cells)
  have HL := Lib.hid (It.cells_len i)
  have BX : Hid (∀ (W : World) (g : Nat) (T : TypeId), Row W g T i.cells → W.cell? ⟨g, 0, none⟩ = some (.int .i64 i.kind) ∧ W.cell? ⟨g, 1, none⟩ = some (.int .i64 i.who) ∧ W.cell? ⟨g, 2, none⟩ = some (.int .i64 i.n) ∧ W.cell? ⟨g, 3, none⟩ = some (.string i.text)) := fun W g T h => ⟨h.cell 0 (by simp [It.cells]), h.cell 1 (by simp [It.cells]), h.cell 2 (by simp [It.cells]), h.cell 3 (by simp [It.cells])⟩
  have hff : [S (Oct.num i.kind.toNat), S (Oct.num i.who.toNat), S (Oct.num i.n.toNat), .string i.text] = i.fields.map S := rfl
  have Hff := Lib.hid hff
  have Hfl : Hid (4 = i.fields.length) := (rfl : 4 = i.fields.length)
  generalize i.fields = L at *
  generalize i.cells = C at *
  generalize Oct.num i.kind.toNat = t0 at *
  generalize Oct.num i.who.toNat = t1 at *
  generalize Oct.num i.n.toNat = t2 at *
  generalize i.kind = kd at *
  generalize i.who = who at *
  generalize i.n = n at *
  generalize i.text = tx at *
  clear h hn hff
  go_enter Tryd.func54, Tryd.ntmps54
  go_wp2_with (with_reducible show wpList _ _ _ (⟨_, .load 98 _, _, _, _, _⟩ :: _) _ _; refine wpList_load_tx rfl 98 (.tmp 1) rfl w.heap.size 0 rfl C _ (row_range Hrow0.out) Tryd.underlying98 rfl (by rw [item_info, HL.out]) ?_)
  refine (MB.out _).mono ?_
  rintro _ w1 ⟨rfl, hb1⟩
  have HS0 := Lib.hid ((rowIn_call hb1).drew)
  clear hb1
  go_wp2_with fail
  refine wp_region_held_drew (S := fun w' => RowIn w w' w.heap.size 98 C) (by kernel_rfl) (HS0.out) (fun hHeld => ?_)
  generalize w1.drew = w9 at *
  refine wpAnyH_take (i := 0) (v := .pointer (some ⟨w.heap.size, 0, none⟩)) rfl (by kernel_rfl) (by kernel_rfl) (by kernel_rfl) (fun _ _ _ h => h) (Or.inl ⟨by rfl, fun w' hSw => by go_simp⟩) hHeld ?_
  try simp only [Act.put, List.getElem_toArray, List.getElem_cons_succ, List.getElem_cons_zero, List.setIfInBounds_toArray, List.set_cons_zero, List.set_cons_succ]
  refine wpAnyH_take (i := 1) (v := .int .i64 kd) rfl (by kernel_rfl) (by kernel_rfl) (by kernel_rfl) (fun _ _ _ h => h) (Or.inl ⟨by rfl, fun w' hSw => by have hq := hSw; have hc := (BX.out _ _ _ hq.1).1; go_simp⟩) hHeld ?_
  try simp only [Act.put, List.getElem_toArray, List.getElem_cons_succ, List.getElem_cons_zero, List.setIfInBounds_toArray, List.set_cons_zero, List.set_cons_succ]
  refine wpAnyH_take (i := 3) (v := .pointer (some ⟨w.heap.size, 1, none⟩)) rfl (by kernel_rfl) (by kernel_rfl) (by kernel_rfl) (fun _ _ _ h => h) (Or.inl ⟨by rfl, fun w' hSw => by go_simp⟩) hHeld ?_
  try simp only [Act.put, List.getElem_toArray, List.getElem_cons_succ, List.getElem_cons_zero, List.setIfInBounds_toArray, List.set_cons_zero, List.set_cons_succ]
  refine wpAnyH_take (i := 4) (v := .int .i64 who) rfl (by kernel_rfl) (by kernel_rfl) (by kernel_rfl) (fun _ _ _ h => h) (Or.inl ⟨by rfl, fun w' hSw => by have hq := hSw; have hc := (BX.out _ _ _ hq.1).2.1; go_simp⟩) hHeld ?_
  try simp only [Act.put, List.getElem_toArray, List.getElem_cons_succ, List.getElem_cons_zero, List.setIfInBounds_toArray, List.set_cons_zero, List.set_cons_succ]
  refine wpAnyH_take (i := 6) (v := .pointer (some ⟨w.heap.size, 2, none⟩)) rfl (by kernel_rfl) (by kernel_rfl) (by kernel_rfl) (fun _ _ _ h => h) (Or.inl ⟨by rfl, fun w' hSw => by go_simp⟩) hHeld ?_
  try simp only [Act.put, List.getElem_toArray, List.getElem_cons_succ, List.getElem_cons_zero, List.setIfInBounds_toArray, List.set_cons_zero, List.set_cons_succ]
  refine wpAnyH_take (i := 7) (v := .int .i64 n) rfl (by kernel_rfl) (by kernel_rfl) (by kernel_rfl) (fun _ _ _ h => h) (Or.inl ⟨by rfl, fun w' hSw => by have hq := hSw; have hc := (BX.out _ _ _ hq.1).2.2.1; go_simp⟩) hHeld ?_
  try simp only [Act.put, List.getElem_toArray, List.getElem_cons_succ, List.getElem_cons_zero, List.setIfInBounds_toArray, List.set_cons_zero, List.set_cons_succ]
  refine wpAnyH_take (i := 9) (v := .pointer (some ⟨w.heap.size, 3, none⟩)) rfl (by kernel_rfl) (by kernel_rfl) (by kernel_rfl) (fun _ _ _ h => h) (Or.inl ⟨by rfl, fun w' hSw => by go_simp⟩) hHeld ?_
  try simp only [Act.put, List.getElem_toArray, List.getElem_cons_succ, List.getElem_cons_zero, List.setIfInBounds_toArray, List.set_cons_zero, List.set_cons_succ]
  refine wpAnyH_take (i := 10) (v := .string tx) rfl (by kernel_rfl) (by kernel_rfl) (by kernel_rfl) (fun _ _ _ h => h) (Or.inl ⟨by rfl, fun w' hSw => by have hq := hSw; have hc := (BX.out _ _ _ hq.1).2.2.2; go_simp⟩) hHeld ?_
  try simp only [Act.put, List.getElem_toArray, List.getElem_cons_succ, List.getElem_cons_zero, List.setIfInBounds_toArray, List.set_cons_zero, List.set_cons_succ]
  refine wpAnyH_ready (rs := [2]) (by kernel_rfl) (by simp) (AllReadyH.cons rfl (fun K1 hK1 => ?_) AllReadyH.nil)
  try simp only [Act.put, List.getElem_toArray, List.getElem_cons_succ, List.getElem_cons_zero, List.setIfInBounds_toArray, List.set_cons_zero, List.set_cons_succ]
  go_simp
  refine Calls.mono (T0.out _) ?_
  rintro e wc1 ⟨rfl, hc2⟩
  refine hK1.out _ _ (hHeld.step hc2) (fun hHeld => ?_)
  clear hK1 K1
  try simp only [Act.put, List.getElem_toArray, List.getElem_cons_succ, List.getElem_cons_zero, List.setIfInBounds_toArray, List.set_cons_zero, List.set_cons_succ]
  refine wpAnyH_ready (rs := [5]) (by kernel_rfl) (by simp) (AllReadyH.cons rfl (fun K1 hK1 => ?_) AllReadyH.nil)
  try simp only [Act.put, List.getElem_toArray, List.getElem_cons_succ, List.getElem_cons_zero, List.setIfInBounds_toArray, List.set_cons_zero, List.set_cons_succ]
  go_simp
  refine Calls.mono (T1.out _) ?_
  rintro e wc3 ⟨rfl, hc4⟩
  refine hK1.out _ _ (hHeld.step hc4) (fun hHeld => ?_)
  clear hK1 K1
  try simp only [Act.put, List.getElem_toArray, List.getElem_cons_succ, List.getElem_cons_zero, List.setIfInBounds_toArray, List.set_cons_zero, List.set_cons_succ]
  refine wpAnyH_ready (rs := [8]) (by kernel_rfl) (by simp) (AllReadyH.cons rfl (fun K1 hK1 => ?_) AllReadyH.nil)
  try simp only [Act.put, List.getElem_toArray, List.getElem_cons_succ, List.getElem_cons_zero, List.setIfInBounds_toArray, List.set_cons_zero, List.set_cons_succ]
  go_simp
  refine Calls.mono (T2.out _) ?_
  rintro e wc5 ⟨rfl, hc6⟩
  refine hK1.out _ _ (hHeld.step hc6) (fun hHeld => ?_)
  clear hK1 K1
  try simp only [Act.put, List.getElem_toArray, List.getElem_cons_succ, List.getElem_cons_zero, List.setIfInBounds_toArray, List.set_cons_zero, List.set_cons_succ]
  refine wpAnyH_ready (rs := [11]) (by kernel_rfl) (by simp) (AllReadyH.cons rfl (fun K1 hK1 => ?_) AllReadyH.nil)
  try simp only [Act.put, List.getElem_toArray, List.getElem_cons_succ, List.getElem_cons_zero, List.setIfInBounds_toArray, List.set_cons_zero, List.set_cons_succ]
  go_simp
  have hd8 := (Below.refl wc5.heap.size wc5).alloc (Nat.le_refl _) (.cells #[S t0, S t1, S t2, .string tx] 9)
  have r2 : Row (wc5.alloc (.cells #[S t0, S t1, S t2, .string tx] 9)) wc5.heap.size 9 ([S t0, S t1, S t2, .string tx]) := Row.new wc5 9 ([S t0, S t1, S t2, .string tx])
  have hHeld2 := hHeld.step hd8
  generalize wc5.alloc (.cells #[S t0, S t1, S t2, .string tx] 9) = wb7 at *
  obtain ⟨gb9, gb9e⟩ : ∃ gb9, gb9 = wc5.heap.size := ⟨_, rfl⟩
  rw [← gb9e] at r2 ⊢
  refine hK1.out _ _ (hHeld2) (fun hHeld => ?_)
  clear hK1 K1
  try simp only [Act.put, List.getElem_toArray, List.getElem_cons_succ, List.getElem_cons_zero, List.setIfInBounds_toArray, List.set_cons_zero, List.set_cons_succ]
  clear hHeld2 gb9e
  refine wpAnyH_ready (rs := [12]) (by kernel_rfl) (by simp) (AllReadyH.cons rfl (fun K1 hK1 => ?_) AllReadyH.nil)
  try simp only [Act.put, List.getElem_toArray, List.getElem_cons_succ, List.getElem_cons_zero, List.setIfInBounds_toArray, List.set_cons_zero, List.set_cons_succ]
  go_simp
  refine Calls.mono (list5_row L r2 Hff.out 4 4 Hfl.out) ?_
  rintro e wl10 ⟨rfl, hl11⟩
  clear r2
  refine hK1.out _ _ (hHeld.step hl11) (fun hHeld => ?_)
  clear hK1 K1
  try simp only [Act.put, List.getElem_toArray, List.getElem_cons_succ, List.getElem_cons_zero, List.setIfInBounds_toArray, List.set_cons_zero, List.set_cons_succ]
  refine wpAnyH_take (i := 13) (v := S (Oct.listE L).1) rfl (by kernel_rfl) (by kernel_rfl) (by kernel_rfl) (fun _ _ _ h => h) (Or.inl ⟨by rfl, fun w' hSw => by go_simp⟩) hHeld ?_
  try simp only [Act.put, List.getElem_toArray, List.getElem_cons_succ, List.getElem_cons_zero, List.setIfInBounds_toArray, List.set_cons_zero, List.set_cons_succ]
  refine wpAnyH_take (i := 14) (v := .int .i64 (Oct.listE L).2) rfl (by kernel_rfl) (by kernel_rfl) (by kernel_rfl) (fun _ _ _ h => h) (Or.inl ⟨by rfl, fun w' hSw => by go_simp⟩) hHeld ?_
  try simp only [Act.put, List.getElem_toArray, List.getElem_cons_succ, List.getElem_cons_zero, List.setIfInBounds_toArray, List.set_cons_zero, List.set_cons_succ]
  refine wpAnyH_take (i := 15) (v := S (Oct.listE L).1) rfl (by kernel_rfl) (by kernel_rfl) (by kernel_rfl) (fun _ _ _ h => h) (Or.inl ⟨by rfl, fun w' hSw => by go_simp⟩) hHeld ?_
  try simp only [Act.put, List.getElem_toArray, List.getElem_cons_succ, List.getElem_cons_zero, List.setIfInBounds_toArray, List.set_cons_zero, List.set_cons_succ]
  refine wpAnyH_take (i := 16) (v := .int .i64 (Oct.listE L).2) rfl (by kernel_rfl) (by kernel_rfl) (by kernel_rfl) (fun _ _ _ h => h) (Or.inl ⟨by rfl, fun w' hSw => by go_simp⟩) hHeld ?_
  try simp only [Act.put, List.getElem_toArray, List.getElem_cons_succ, List.getElem_cons_zero, List.setIfInBounds_toArray, List.set_cons_zero, List.set_cons_succ]
  refine wpAnyH_done (by kernel_rfl) ?_ _
  have Hbe := Lib.hid hHeld.2
  clear hHeld
  go_wp2_with fail
  go_ret2
  exact ⟨rfl, Hbe.out⟩
theorem rwriteItem_any (i : It) (w : World) :
    Calls Tryd.prog 54 #[i.v] w fun e w' => e = .returned (two i.textE.1 i.textE.2) ∧ Below w.heap.size w w' := by
  unfold It.textE
  rcases Bool.eq_false_or_eq_true i.ok with h | h
  · rw [if_pos h]; exact rwriteItem_ok i w h
  · rw [if_neg (by rw [h]; simp)]; exact rwriteItem_no i w h
end Go.Proofs.YtjeooegkfjlejaaDoor
namespace Go.Proofs.YtjeooegkfjlejaaDoor
open Go.RowKit
set_option linter.unusedVariables false
set_option linter.unusedSimpArgs false

namespace Bd
end Bd
end Go.Proofs.YtjeooegkfjlejaaDoor

/- ---- NoReg ---- -/
/- Steps of drawn regions: a struct literal with rows; a row stored. -/
namespace Go.Proofs.YtjeooegkfjlejaaDoor
open Go.RowKit
set_option linter.unusedVariables false
set_option linter.unusedSimpArgs false

theorem yieldsIf_buildL {P : Program} {ops : Array Oper} {S : World → Prop} {op : Oper} {a : Act} (hw : Region.wanted op (yielded ops a.tmps) = true) (t : TypeId) (parts : List (Nat × Operand)) (ho : op.op = .build t parts.toArray)
    (vs : List (Nat × Value)) (hv : parts.map (fun p => (p.1, a.eval p.2)) = vs) (cells : Array Value) (hf : P.built t vs = some cells) : YieldsIf P ops S op (.agg cells) a :=
  .inl ⟨hw, fun w _ => by
    have e : (parts.toArray.map fun (i, x) => (i, a.eval x)).toList = vs := by rw [← hv]; simp
    have h2 : P.built t ((parts.toArray.map fun (i, x) => (i, a.eval x)).toList) = some cells := by rw [e]; exact hf
    unfold execOp
    simp only [ho, Sem.run_bind, run_build w t _ cells h2, Result.andThen_ok, Sem.run_pure]⟩
theorem wp_store_at {P : Program} {op : Oper} {a : Act} {w : World} {K : Act → World → Prop} {Q : Exit → Act → World → Prop} (ty : TypeId) (x y : Operand) (ho : op.op = .store ty x y)
    (g off : Nat) (l xs : List Value) (T : TypeId) (hx : a.eval x = .pointer (some ⟨g, off, none⟩)) (hy : a.eval y = .agg l.toArray) (hg : Row w g T xs) (hoff : off + l.length ≤ xs.length)
    (hi : (P.info? ty).map (·.size) = some l.length) (h1 : ∀ v ∈ l, v.oneCell' = true)
    (h : ∀ w', Row w' g T (xs.take off ++ (l ++ xs.drop (off + l.length))) → w.grownBy w' (some g) → K (a.put op.dst undef) w') : op.wp P a w K Q := by
  obtain ⟨r1, r2⟩ := row_setCells l off w xs hg hoff
  exact wp_store_mid ty x y ho g off l.toArray hx hy (fun j hj => ⟨by
    have hj' : j < l.length := by simpa using hj
    rw [hg.cell (off + j) (by omega)]; rfl, hg.free _⟩) (by simpa using hi) (all_oneCell_toArray h1) (h _ r1 r2)
end Go.Proofs.YtjeooegkfjlejaaDoor

/- ---- NoBlocks ---- -/
/- Blocks that a walk holds: each with what it holds, all made since the call began. -/
namespace Go.Proofs.YtjeooegkfjlejaaDoor
open Go.RowKit
set_option linter.unusedVariables false
set_option linter.unusedSimpArgs false

theorem Row.type {w : World} {B : Nat} {t u : TypeId} {xs ys : List Value} (h : Row w B t xs) (k : Row w B u ys) : t = u := by
  unfold Row at h k
  rw [h] at k
  injection k with k
  injection k
/-- what is in the blocks of a list -/
def Blocks (w0 W : World) (l : List (Nat × TypeId × List Value)) : Prop := Below w0.heap.size w0 W ∧ ∀ x ∈ l, Row W x.1 x.2.1 x.2.2
namespace Blocks
variable {w0 W W' : World} {l : List (Nat × TypeId × List Value)} {g : Nat} {T : TypeId} {C : List Value}
theorem nil (h : Below w0.heap.size w0 W) : Blocks w0 W [] := ⟨h, by simp⟩
theorem step (h : Blocks w0 W l) (hb : Below W.heap.size W W') : Blocks w0 W' l := ⟨two_below' h.1 hb, fun x hx => (h.2 x hx).kept (grownBy_of_below hb none) (by simp)⟩
theorem drew (h : Blocks w0 W l) : Blocks w0 W.drew l := h.step (Below.refl _ _).drew
theorem alloc (h : Blocks w0 W l) (o : Obj) : Blocks w0 (W.alloc o) l := h.step ((Below.refl _ _).alloc (Nat.le_refl _) o)
theorem put (h : Blocks w0 W l) (hg : W.grownBy W' (some g)) (hs : w0.heap.size ≤ g) (hn : ∀ x ∈ l, x.1 ≠ g) : Blocks w0 W' l :=
  ⟨h.1.grown hg h.1.size (fun k hk => by cases hk; exact hs), fun x hx => (h.2 x hx).kept hg (by have := hn x hx; simpa using this)⟩
theorem cons (h : Blocks w0 W l) (hr : Row W g T C) : Blocks w0 W ((g, T, C) :: l) := ⟨h.1, fun x hx => by
  rcases List.mem_cons.1 hx with rfl | hx
  · exact hr
  · exact h.2 x hx⟩
theorem size (h : Blocks w0 W l) : w0.heap.size ≤ W.heap.size := h.1.size
theorem fresh (h : Blocks w0 W l) : ∀ x ∈ l, x.1 ≠ W.heap.size := fun x hx => by have := (h.2 x hx).lt; omega
theorem hd (h : Blocks w0 W ((g, T, C) :: l)) : Row W g T C := h.2 (g, T, C) List.mem_cons_self
end Blocks
end Go.Proofs.YtjeooegkfjlejaaDoor
