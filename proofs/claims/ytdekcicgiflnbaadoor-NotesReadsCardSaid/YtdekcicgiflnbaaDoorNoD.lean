/- The reference of layer 5: within, text, list, Item, WriteItem. -/
/- The reference of layer 5: bids. -/
import Derived.Test.YtdekcicgiflnbaaDoorNoItemR
import Derived.Test.YtdekcicgiflnbaaDoorTxRef
import Derived.Test.YtdekcicgiflnbaaDoorNoB
import Derived.Test.YtdekcicgiflnbaaDoorTxSigns
namespace Go.Proofs.YtdekcicgiflnbaaDoor
open Go.RowKit
set_option linter.unusedVariables false
set_option linter.unusedSimpArgs false

theorem within5_any (n m : Int) (w : World) :
    Calls Tryd.prog 80 #[.int .i64 n, .int .i64 m] w fun e w' => e = .returned (.bool (decide (0 ≤ n) && decide (n ≤ m))) ∧ w = w' := by
  by_cases h : 0 ≤ n
  · have hd : decide (0 ≤ n) = true := by simpa using h
    have Hd := Lib.hid hd
    clear hd
    go_enter Tryd.func80, Tryd.ntmps80
    go_wp2
    go_ret
    exact ⟨by rw [Hd.out]; rfl, rfl⟩
  · have hd : decide (0 ≤ n) = false := by simpa using h
    have Hd := Lib.hid hd
    clear hd
    go_enter Tryd.func80, Tryd.ntmps80
    go_wp2
    go_ret
    exact ⟨by rw [Hd.out]; rfl, rfl⟩
theorem within5_b (n m : Int) (b : Bool) (h : (decide (0 ≤ n) && decide (n ≤ m)) = b) (w : World) :
    Calls Tryd.prog 80 #[.int .i64 n, .int .i64 m] w fun e w' => e = .returned (.bool b) ∧ w = w' := by
  have := within5_any n m w
  rw [h] at this
  exact this
theorem text5_any (n : Int) (w : World) (h0 : 0 ≤ n) (h1 : n ≤ 9223372036854775807) :
    Calls Tryd.prog 76 #[.int .i64 n] w fun e w' => e = .returned (S (Oct.num n.toNat)) ∧ Below w.heap.size w w' := by
  have RN : Hid (∀ W, Calls Tryd.prog 96 #[.int .i64 n] W fun e w' => e = .returned (.tuple #[S (Oct.num n.toNat), .int .i64 0]) ∧ Below W.heap.size W w') := fun W => by
    have := refNumber_any n W h1
    unfold Oct.numE at this
    rw [if_neg (by omega)] at this
    exact this
  go_enter Tryd.func76, Tryd.ntmps76
  go_wp2_with fail
  refine (RN.out _).mono ?_
  rintro _ w1 ⟨rfl, hb1⟩
  have Hb1 := Lib.hid hb1
  clear hb1
  go_wp2_with fail
  go_ret
  exact ⟨rfl, Hb1.out⟩
theorem list5_any (A : Option Addr) (c : Nat) (L : List (List UInt8)) (w : World) (hr : Texts w w.heap.size A L) :
    Calls Tryd.prog 75 #[.slice A L.length c] w fun e w' => e = .returned (.tuple #[S (Oct.listE L).1, .int .i64 (Oct.listE L).2]) ∧ Below w.heap.size w w' := by
  have RL : Hid (Calls Tryd.prog 58 #[.slice A L.length c] w fun e w' => e = .returned (.tuple #[S (Oct.listE L).1, .int .i64 (Oct.listE L).2]) ∧ Below w.heap.size w w') := refList_any A c L w hr
  generalize L.length = m at *
  clear hr
  go_enter Tryd.func75, Tryd.ntmps75
  go_wp2_with fail
  refine RL.out.mono ?_
  rintro _ w1 ⟨rfl, hb1⟩
  have Hb1 := Lib.hid hb1
  clear hb1
  go_wp2_with fail
  go_ret2
  exact ⟨rfl, Hb1.out⟩
theorem list5_row (L : List (List UInt8)) {W : World} {g : Nat} {xs : List Value} (h : Row W g 9 xs) (hx : xs = L.map S) (n c : Nat) (hn : n = L.length) :
    Calls Tryd.prog 75 #[.slice (some ⟨g, 0, none⟩) n c] W fun e w' => e = .returned (.tuple #[S (Oct.listE L).1, .int .i64 (Oct.listE L).2]) ∧ Below W.heap.size W w' := by
  subst hn hx
  refine list5_any _ c L W fun _ => ⟨g, 0, rfl, h.lt, fun i hi => ?_⟩
  rw [Nat.zero_add, h.cell i (by simpa using hi)]
  simp
theorem list5_own (L : List (List UInt8)) {base k : Nat} {v : Value} {W : World} {xs : List Value} (hx : xs = L.map S) (h : W.ownsRow base 9 1 v (k + 1) xs) (hk : k + 1 = L.length) :
    Calls Tryd.prog 75 #[v] W fun e w' => e = .returned (.tuple #[S (Oct.listE L).1, .int .i64 (Oct.listE L).2]) ∧ Below W.heap.size W w' := by
  subst hx
  rw [hk] at h
  obtain ⟨A, c, hA, hT⟩ := texts_own h
  rw [hA]
  exact list5_any A c L W hT
theorem empty_bytes (s : ByteArray) : s.toList.isEmpty = decide (s.data.toList = []) := by
  rw [Bool.eq_iff_iff, No.empty_iff]
  simp
set_option maxRecDepth 20000 in
theorem item5_a (kd who n : Int) (s : ByteArray) (w : World) (b1 : (decide (0 ≤ who) && decide (who ≤ 64)) = false) :
    Calls Tryd.prog 86 #[.agg #[.int .i64 kd, .int .i64 who, .int .i64 n, .string s]] w fun e w' => e = .returned (.bool false) ∧ Below w.heap.size w w' := by
  have N1 := Lib.hid (within5_b who 64 _ b1)
  clear b1
  go_enter Tryd.func86, Tryd.ntmps86
  go_wp2_with fail
  refine (N1.out _).mono ?_
  rintro _ w1 ⟨rfl, rfl⟩
  go_wp2_with fail
  go_ret
  exact ⟨by first | rfl | (simp; done) | (simp; omega), (Below.refl w.heap.size w).alloc (Nat.le_refl _) _⟩
set_option maxRecDepth 20000 in
theorem item5_b (kd who n : Int) (s : ByteArray) (w : World) (b1 : (decide (0 ≤ who) && decide (who ≤ 64)) = true) (b2 : (decide (0 ≤ n) && decide (n ≤ 1099511627776)) = false) :
    Calls Tryd.prog 86 #[.agg #[.int .i64 kd, .int .i64 who, .int .i64 n, .string s]] w fun e w' => e = .returned (.bool false) ∧ Below w.heap.size w w' := by
  have N1 := Lib.hid (within5_b who 64 _ b1)
  have N2 := Lib.hid (within5_b n 1099511627776 _ b2)
  clear b1 b2
  go_enter Tryd.func86, Tryd.ntmps86
  go_wp2_with fail
  refine (N1.out _).mono ?_
  rintro _ w1 ⟨rfl, rfl⟩
  go_wp2_with fail
  refine (N2.out _).mono ?_
  rintro _ w1 ⟨rfl, rfl⟩
  go_wp2_with fail
  go_ret
  exact ⟨by first | rfl | (simp; done) | (simp; omega), (Below.refl w.heap.size w).alloc (Nat.le_refl _) _⟩
set_option maxRecDepth 20000 in
theorem item5_c (kd who n : Int) (s : ByteArray) (w : World) (b1 : (decide (0 ≤ who) && decide (who ≤ 64)) = true) (b2 : (decide (0 ≤ n) && decide (n ≤ 1099511627776)) = true) (b3 : ¬ (s.size : Int) ≤ 65472) :
    Calls Tryd.prog 86 #[.agg #[.int .i64 kd, .int .i64 who, .int .i64 n, .string s]] w fun e w' => e = .returned (.bool false) ∧ Below w.heap.size w w' := by
  have N1 := Lib.hid (within5_b who 64 _ b1)
  have N2 := Lib.hid (within5_b n 1099511627776 _ b2)
  clear b1 b2
  go_enter Tryd.func86, Tryd.ntmps86
  go_wp2_with fail
  refine (N1.out _).mono ?_
  rintro _ w1 ⟨rfl, rfl⟩
  go_wp2_with fail
  refine (N2.out _).mono ?_
  rintro _ w1 ⟨rfl, rfl⟩
  go_wp2_with fail
  go_ret
  exact ⟨by first | rfl | (simp; done) | (simp; omega), (Below.refl w.heap.size w).alloc (Nat.le_refl _) _⟩
set_option maxRecDepth 20000 in
theorem item5_d (kd who n : Int) (s : ByteArray) (w : World) (b1 : (decide (0 ≤ who) && decide (who ≤ 64)) = true) (b2 : (decide (0 ≤ n) && decide (n ≤ 1099511627776)) = true) (b3 : (s.size : Int) ≤ 65472) (k2 : (kd == 2) = true) (w0 : (who == 0) = false) :
    Calls Tryd.prog 86 #[.agg #[.int .i64 kd, .int .i64 who, .int .i64 n, .string s]] w fun e w' => e = .returned (.bool false) ∧ Below w.heap.size w w' := by
  have N1 := Lib.hid (within5_b who 64 _ b1)
  have N2 := Lib.hid (within5_b n 1099511627776 _ b2)
  clear b1 b2
  go_enter Tryd.func86, Tryd.ntmps86
  go_wp2_with fail
  refine (N1.out _).mono ?_
  rintro _ w1 ⟨rfl, rfl⟩
  go_wp2_with fail
  refine (N2.out _).mono ?_
  rintro _ w1 ⟨rfl, rfl⟩
  go_wp2_with fail
  go_ret
  exact ⟨by first | rfl | (simp; done) | (simp; omega), (Below.refl w.heap.size w).alloc (Nat.le_refl _) _⟩
set_option maxRecDepth 20000 in
theorem item5_e (kd who n : Int) (s : ByteArray) (w : World) (b1 : (decide (0 ≤ who) && decide (who ≤ 64)) = true) (b2 : (decide (0 ≤ n) && decide (n ≤ 1099511627776)) = true) (b3 : (s.size : Int) ≤ 65472) (k2 : (kd == 2) = true) (w0 : (who == 0) = true) :
    Calls Tryd.prog 86 #[.agg #[.int .i64 kd, .int .i64 who, .int .i64 n, .string s]] w fun e w' => e = .returned (.bool s.toList.isEmpty) ∧ Below w.heap.size w w' := by
  have N1 := Lib.hid (within5_b who 64 _ b1)
  have N2 := Lib.hid (within5_b n 1099511627776 _ b2)
  clear b1 b2
  go_enter Tryd.func86, Tryd.ntmps86
  go_wp2_with fail
  refine (N1.out _).mono ?_
  rintro _ w1 ⟨rfl, rfl⟩
  go_wp2_with fail
  refine (N2.out _).mono ?_
  rintro _ w1 ⟨rfl, rfl⟩
  go_wp2_with fail
  go_ret
  exact ⟨by first | rfl | (simp; done) | (simp; omega), (Below.refl w.heap.size w).alloc (Nat.le_refl _) _⟩
set_option maxRecDepth 20000 in
theorem item5_f (kd who n : Int) (s : ByteArray) (w : World) (b1 : (decide (0 ≤ who) && decide (who ≤ 64)) = true) (b2 : (decide (0 ≤ n) && decide (n ≤ 1099511627776)) = true) (b3 : (s.size : Int) ≤ 65472) (k2 : (kd == 2) = false) (k1 : (kd == 1) = true) (n0 : (n == 0) = true) :
    Calls Tryd.prog 86 #[.agg #[.int .i64 kd, .int .i64 who, .int .i64 n, .string s]] w fun e w' => e = .returned (.bool true) ∧ Below w.heap.size w w' := by
  have N1 := Lib.hid (within5_b who 64 _ b1)
  have N2 := Lib.hid (within5_b n 1099511627776 _ b2)
  clear b1 b2
  go_enter Tryd.func86, Tryd.ntmps86
  go_wp2_with fail
  refine (N1.out _).mono ?_
  rintro _ w1 ⟨rfl, rfl⟩
  go_wp2_with fail
  refine (N2.out _).mono ?_
  rintro _ w1 ⟨rfl, rfl⟩
  go_wp2_with fail
  go_ret
  exact ⟨by first | rfl | (simp; done) | (simp; omega), (Below.refl w.heap.size w).alloc (Nat.le_refl _) _⟩
set_option maxRecDepth 20000 in
theorem item5_g (kd who n : Int) (s : ByteArray) (w : World) (b1 : (decide (0 ≤ who) && decide (who ≤ 64)) = true) (b2 : (decide (0 ≤ n) && decide (n ≤ 1099511627776)) = true) (b3 : (s.size : Int) ≤ 65472) (k2 : (kd == 2) = false) (k1 : (kd == 1) = true) (n0 : (n == 0) = false) :
    Calls Tryd.prog 86 #[.agg #[.int .i64 kd, .int .i64 who, .int .i64 n, .string s]] w fun e w' => e = .returned (.bool false) ∧ Below w.heap.size w w' := by
  have N1 := Lib.hid (within5_b who 64 _ b1)
  have N2 := Lib.hid (within5_b n 1099511627776 _ b2)
  clear b1 b2
  go_enter Tryd.func86, Tryd.ntmps86
  go_wp2_with fail
  refine (N1.out _).mono ?_
  rintro _ w1 ⟨rfl, rfl⟩
  go_wp2_with fail
  refine (N2.out _).mono ?_
  rintro _ w1 ⟨rfl, rfl⟩
  go_wp2_with fail
  go_ret
  exact ⟨by first | rfl | (simp; done) | (simp; omega), (Below.refl w.heap.size w).alloc (Nat.le_refl _) _⟩
set_option maxRecDepth 20000 in
theorem item5_h (kd who n : Int) (s : ByteArray) (w : World) (b1 : (decide (0 ≤ who) && decide (who ≤ 64)) = true) (b2 : (decide (0 ≤ n) && decide (n ≤ 1099511627776)) = true) (b3 : (s.size : Int) ≤ 65472) (k2 : (kd == 2) = false) (k1 : (kd == 1) = false) (k3 : (kd == 3) = true) (n0 : (n == 0) = true) :
    Calls Tryd.prog 86 #[.agg #[.int .i64 kd, .int .i64 who, .int .i64 n, .string s]] w fun e w' => e = .returned (.bool true) ∧ Below w.heap.size w w' := by
  have N1 := Lib.hid (within5_b who 64 _ b1)
  have N2 := Lib.hid (within5_b n 1099511627776 _ b2)
  clear b1 b2
  go_enter Tryd.func86, Tryd.ntmps86
  go_wp2_with fail
  refine (N1.out _).mono ?_
  rintro _ w1 ⟨rfl, rfl⟩
  go_wp2_with fail
  refine (N2.out _).mono ?_
  rintro _ w1 ⟨rfl, rfl⟩
  go_wp2_with fail
  go_ret
  exact ⟨by first | rfl | (simp; done) | (simp; omega), (Below.refl w.heap.size w).alloc (Nat.le_refl _) _⟩
set_option maxRecDepth 20000 in
theorem item5_i (kd who n : Int) (s : ByteArray) (w : World) (b1 : (decide (0 ≤ who) && decide (who ≤ 64)) = true) (b2 : (decide (0 ≤ n) && decide (n ≤ 1099511627776)) = true) (b3 : (s.size : Int) ≤ 65472) (k2 : (kd == 2) = false) (k1 : (kd == 1) = false) (k3 : (kd == 3) = true) (n0 : (n == 0) = false) :
    Calls Tryd.prog 86 #[.agg #[.int .i64 kd, .int .i64 who, .int .i64 n, .string s]] w fun e w' => e = .returned (.bool false) ∧ Below w.heap.size w w' := by
  have N1 := Lib.hid (within5_b who 64 _ b1)
  have N2 := Lib.hid (within5_b n 1099511627776 _ b2)
  clear b1 b2
  go_enter Tryd.func86, Tryd.ntmps86
  go_wp2_with fail
  refine (N1.out _).mono ?_
  rintro _ w1 ⟨rfl, rfl⟩
  go_wp2_with fail
  refine (N2.out _).mono ?_
  rintro _ w1 ⟨rfl, rfl⟩
  go_wp2_with fail
  go_ret
  exact ⟨by first | rfl | (simp; done) | (simp; omega), (Below.refl w.heap.size w).alloc (Nat.le_refl _) _⟩
set_option maxRecDepth 20000 in
theorem item5_j (kd who n : Int) (s : ByteArray) (w : World) (b1 : (decide (0 ≤ who) && decide (who ≤ 64)) = true) (b2 : (decide (0 ≤ n) && decide (n ≤ 1099511627776)) = true) (b3 : (s.size : Int) ≤ 65472) (k2 : (kd == 2) = false) (k1 : (kd == 1) = false) (k3 : (kd == 3) = false) :
    Calls Tryd.prog 86 #[.agg #[.int .i64 kd, .int .i64 who, .int .i64 n, .string s]] w fun e w' => e = .returned (.bool false) ∧ Below w.heap.size w w' := by
  have N1 := Lib.hid (within5_b who 64 _ b1)
  have N2 := Lib.hid (within5_b n 1099511627776 _ b2)
  clear b1 b2
  go_enter Tryd.func86, Tryd.ntmps86
  go_wp2_with fail
  refine (N1.out _).mono ?_
  rintro _ w1 ⟨rfl, rfl⟩
  go_wp2_with fail
  refine (N2.out _).mono ?_
  rintro _ w1 ⟨rfl, rfl⟩
  go_wp2_with fail
  go_ret
  exact ⟨by first | rfl | (simp; done) | (simp; omega), (Below.refl w.heap.size w).alloc (Nat.le_refl _) _⟩
theorem item5_any (i : It) (w : World) :
    Calls Tryd.prog 86 #[.agg i.cells.toArray] w fun e w' => e = .returned (.bool i.ok) ∧ Below w.heap.size w w' := by
  obtain ⟨kd, who, n, s⟩ := i
  have hno : ∀ {P : Prop}, ((It.mk kd who n s).ok = true → False) → (It.mk kd who n s).ok = false := fun h => by rw [Bool.eq_false_iff]; exact h
  have hiff := It.ok_iff ⟨kd, who, n, s⟩
  simp only at hiff
  show Calls _ _ #[.agg #[.int .i64 kd, .int .i64 who, .int .i64 n, .string s]] _ _
  rcases Bool.eq_false_or_eq_true (decide (0 ≤ who) && decide (who ≤ 64)) with b1 | b1
  · rcases Bool.eq_false_or_eq_true (decide (0 ≤ n) && decide (n ≤ 1099511627776)) with b2 | b2
    · have c1 := b1
      have c2 := b2
      simp at c1 c2
      by_cases b3 : (s.size : Int) ≤ 65472
      · rcases Bool.eq_false_or_eq_true (kd == 2) with k2 | k2
        · have d2 := k2
          simp at d2
          rcases Bool.eq_false_or_eq_true (who == 0) with w0 | w0
          · have d0 := w0
            simp at d0
            have e : (It.mk kd who n s).ok = s.toList.isEmpty := by
              rw [empty_bytes, Bool.eq_iff_iff, hiff, decide_eq_true_eq]
              constructor
              · rintro (h | h)
                · omega
                · exact h.2.2.2.2
              · intro h; exact .inr ⟨d2, d0, c2.1, c2.2, h⟩
            rw [e]; exact item5_e kd who n s w b1 b2 b3 k2 w0
          · have d0 := w0
            simp at d0
            rw [hno (P := True) (fun h => by rw [hiff] at h; omega)]; exact item5_d kd who n s w b1 b2 b3 k2 w0
        · have d2 := k2
          simp at d2
          rcases Bool.eq_false_or_eq_true (kd == 1) with k1 | k1
          · have d1 := k1
            simp at d1
            rcases Bool.eq_false_or_eq_true (n == 0) with n0 | n0
            · have d0 := n0
              simp at d0
              rw [show (It.mk kd who n s).ok = true by rw [hiff]; omega]; exact item5_f kd who n s w b1 b2 b3 k2 k1 n0
            · have d0 := n0
              simp at d0
              rw [hno (P := True) (fun h => by rw [hiff] at h; omega)]; exact item5_g kd who n s w b1 b2 b3 k2 k1 n0
          · have d1 := k1
            simp at d1
            rcases Bool.eq_false_or_eq_true (kd == 3) with k3 | k3
            · have d3 := k3
              simp at d3
              rcases Bool.eq_false_or_eq_true (n == 0) with n0 | n0
              · have d0 := n0
                simp at d0
                rw [show (It.mk kd who n s).ok = true by rw [hiff]; omega]; exact item5_h kd who n s w b1 b2 b3 k2 k1 k3 n0
              · have d0 := n0
                simp at d0
                rw [hno (P := True) (fun h => by rw [hiff] at h; omega)]; exact item5_i kd who n s w b1 b2 b3 k2 k1 k3 n0
            · have d3 := k3
              simp at d3
              rw [hno (P := True) (fun h => by rw [hiff] at h; omega)]; exact item5_j kd who n s w b1 b2 b3 k2 k1 k3
      · have hs0 : s.data.toList = [] → s.size = 0 := fun h => by
          have : s.data.toList.length = s.size := rfl
          rw [h] at this
          exact this.symm
        rw [hno (P := True) (fun h => by
          rw [hiff] at h
          rcases h with h | h
          · omega
          · have := hs0 h.2.2.2.2; omega)]; exact item5_c kd who n s w b1 b2 b3
    · have c2 := b2
      simp at c2
      rw [hno (P := True) (fun h => by rw [hiff] at h; omega)]; exact item5_b kd who n s w b1 b2
  · have c1 := b1
    simp at c1
    rw [hno (P := True) (fun h => by rw [hiff] at h; omega)]; exact item5_a kd who n s w b1
set_option maxRecDepth 20000 in
theorem rwriteItem_no (i : It) (w : World) (h : i.ok = false) :
    Calls Tryd.prog 44 #[.agg i.cells.toArray] w fun e w' => e = .returned (.tuple #[S [], .int .i64 2]) ∧ Below w.heap.size w w' := by
  have MB := Lib.hid (fun W => item5_any i W)
  rw [h] at MB
  have Hrow0 := Lib.hid (Row.new w 59 i.cells)
  have HL := Lib.hid (It.cells_len i)
  generalize i.cells = C at *
  clear h
  go_enter Tryd.func44, Tryd.ntmps44
  go_wp2_with (with_reducible show wpList _ _ _ (⟨_, .load 59 _, _, _, _, _⟩ :: _) _ _; refine wpList_load_tx rfl 59 (.tmp 1) rfl w.heap.size 0 rfl C _ (row_range Hrow0.out) Tryd.underlying59 rfl (by rw [item_info, HL.out]) ?_)
  refine (MB.out _).mono ?_
  rintro _ w1 ⟨rfl, hb1⟩
  have Hb1 := Lib.hid (tx_below (grownBy_of_below hb1 none))
  clear hb1
  go_wp2_with fail
  go_ret2
  exact ⟨rfl, Hb1.out⟩
set_option maxRecDepth 20000 in
set_option maxHeartbeats 1600000 in
theorem rwriteItem_ok (i : It) (w : World) (h : i.ok = true) :
    Calls Tryd.prog 44 #[.agg i.cells.toArray] w fun e w' => e = .returned (.tuple #[S (Oct.listE i.fields).1, .int .i64 (Oct.listE i.fields).2]) ∧ Below w.heap.size w w' := by
  have hn := It.ok_num h
  simp only [No.num_iff] at hn
  have T0 := Lib.hid (fun W => text5_any i.kind W hn.1.1 (by omega))
  have T1 := Lib.hid (fun W => text5_any i.who W hn.2.1.1 (by omega))
  have T2 := Lib.hid (fun W => text5_any i.n W hn.2.2.1 (by omega))
  have MB := Lib.hid (fun W => item5_any i W)
  rw [h] at MB
  have Hrow0 := Lib.hid (Row.new w 59 i.cells)
  have HL := Lib.hid (It.cells_len i)
  have BX : Hid (∀ (W : World) (g : Nat) (T : TypeId), Row W g T i.cells → W.cell? ⟨g, 0, none⟩ = some (.int .i64 i.kind) ∧ W.cell? ⟨g, 1, none⟩ = some (.int .i64 i.who) ∧ W.cell? ⟨g, 2, none⟩ = some (.int .i64 i.n) ∧ W.cell? ⟨g, 3, none⟩ = some (.string i.text)) := fun W g T h => ⟨h.cell 0 (by simp [It.cells]), h.cell 1 (by simp [It.cells]), h.cell 2 (by simp [It.cells]), h.cell 3 (by simp [It.cells])⟩
  have hff : [S (Oct.num i.kind.toNat), S (Oct.num i.who.toNat), S (Oct.num i.n.toNat), .string i.text] = i.fields.map S := rfl
  have Hff := Lib.hid hff
  have Hfl : Hid (4 = i.fields.length) := (rfl : 4 = i.fields.length)
  generalize i.fields = L at *
  generalize i.cells = C at *
  generalize Oct.num i.kind.toNat = t0 at *
  generalize Oct.num i.who.toNat = t1 at *
  generalize Oct.num i.n.toNat = t2 at *
  generalize i.kind = kd at *
  generalize i.who = who at *
  generalize i.n = n at *
  generalize i.text = tx at *
  clear h hn hff
  go_enter Tryd.func44, Tryd.ntmps44
  go_wp2_with (with_reducible show wpList _ _ _ (⟨_, .load 59 _, _, _, _, _⟩ :: _) _ _; refine wpList_load_tx rfl 59 (.tmp 1) rfl w.heap.size 0 rfl C _ (row_range Hrow0.out) Tryd.underlying59 rfl (by rw [item_info, HL.out]) ?_)
  refine (MB.out _).mono ?_
  rintro _ w1 ⟨rfl, hb1⟩
  have HS0 := Lib.hid ((rowIn_call hb1).drew)
  clear hb1
  go_wp2_with fail
  refine wp_region_held_drew (S := fun w' => RowIn w w' w.heap.size 59 C) (by kernel_rfl) (HS0.out) (fun hHeld => ?_)
  generalize w1.drew = w9 at *
  refine wpAnyH_take (i := 0) (v := .pointer (some ⟨w.heap.size, 0, none⟩)) rfl (by kernel_rfl) (by kernel_rfl) (by kernel_rfl) (fun _ _ _ h => h) (Or.inl ⟨by rfl, fun w' hSw => by go_simp⟩) hHeld ?_
  try simp only [Act.put, List.getElem_toArray, List.getElem_cons_succ, List.getElem_cons_zero, List.setIfInBounds_toArray, List.set_cons_zero, List.set_cons_succ]
  refine wpAnyH_take (i := 1) (v := .int .i64 kd) rfl (by kernel_rfl) (by kernel_rfl) (by kernel_rfl) (fun _ _ _ h => h) (Or.inl ⟨by rfl, fun w' hSw => by have hq := hSw; have hc := (BX.out _ _ _ hq.1).1; go_simp⟩) hHeld ?_
  try simp only [Act.put, List.getElem_toArray, List.getElem_cons_succ, List.getElem_cons_zero, List.setIfInBounds_toArray, List.set_cons_zero, List.set_cons_succ]
  refine wpAnyH_take (i := 3) (v := .pointer (some ⟨w.heap.size, 1, none⟩)) rfl (by kernel_rfl) (by kernel_rfl) (by kernel_rfl) (fun _ _ _ h => h) (Or.inl ⟨by rfl, fun w' hSw => by go_simp⟩) hHeld ?_
  try simp only [Act.put, List.getElem_toArray, List.getElem_cons_succ, List.getElem_cons_zero, List.setIfInBounds_toArray, List.set_cons_zero, List.set_cons_succ]
  refine wpAnyH_take (i := 4) (v := .int .i64 who) rfl (by kernel_rfl) (by kernel_rfl) (by kernel_rfl) (fun _ _ _ h => h) (Or.inl ⟨by rfl, fun w' hSw => by have hq := hSw; have hc := (BX.out _ _ _ hq.1).2.1; go_simp⟩) hHeld ?_
  try simp only [Act.put, List.getElem_toArray, List.getElem_cons_succ, List.getElem_cons_zero, List.setIfInBounds_toArray, List.set_cons_zero, List.set_cons_succ]
  refine wpAnyH_take (i := 6) (v := .pointer (some ⟨w.heap.size, 2, none⟩)) rfl (by kernel_rfl) (by kernel_rfl) (by kernel_rfl) (fun _ _ _ h => h) (Or.inl ⟨by rfl, fun w' hSw => by go_simp⟩) hHeld ?_
  try simp only [Act.put, List.getElem_toArray, List.getElem_cons_succ, List.getElem_cons_zero, List.setIfInBounds_toArray, List.set_cons_zero, List.set_cons_succ]
  refine wpAnyH_take (i := 7) (v := .int .i64 n) rfl (by kernel_rfl) (by kernel_rfl) (by kernel_rfl) (fun _ _ _ h => h) (Or.inl ⟨by rfl, fun w' hSw => by have hq := hSw; have hc := (BX.out _ _ _ hq.1).2.2.1; go_simp⟩) hHeld ?_
  try simp only [Act.put, List.getElem_toArray, List.getElem_cons_succ, List.getElem_cons_zero, List.setIfInBounds_toArray, List.set_cons_zero, List.set_cons_succ]
  refine wpAnyH_take (i := 9) (v := .pointer (some ⟨w.heap.size, 3, none⟩)) rfl (by kernel_rfl) (by kernel_rfl) (by kernel_rfl) (fun _ _ _ h => h) (Or.inl ⟨by rfl, fun w' hSw => by go_simp⟩) hHeld ?_
  try simp only [Act.put, List.getElem_toArray, List.getElem_cons_succ, List.getElem_cons_zero, List.setIfInBounds_toArray, List.set_cons_zero, List.set_cons_succ]
  refine wpAnyH_take (i := 10) (v := .string tx) rfl (by kernel_rfl) (by kernel_rfl) (by kernel_rfl) (fun _ _ _ h => h) (Or.inl ⟨by rfl, fun w' hSw => by have hq := hSw; have hc := (BX.out _ _ _ hq.1).2.2.2; go_simp⟩) hHeld ?_
  try simp only [Act.put, List.getElem_toArray, List.getElem_cons_succ, List.getElem_cons_zero, List.setIfInBounds_toArray, List.set_cons_zero, List.set_cons_succ]
  refine wpAnyH_ready (rs := [2]) (by kernel_rfl) (by simp) (AllReadyH.cons rfl (fun K1 hK1 => ?_) AllReadyH.nil)
  try simp only [Act.put, List.getElem_toArray, List.getElem_cons_succ, List.getElem_cons_zero, List.setIfInBounds_toArray, List.set_cons_zero, List.set_cons_succ]
  go_simp
  refine Calls.mono (T0.out _) ?_
  rintro e wc1 ⟨rfl, hc2⟩
  refine hK1.out _ _ (hHeld.step hc2) (fun hHeld => ?_)
  clear hK1 K1
  try simp only [Act.put, List.getElem_toArray, List.getElem_cons_succ, List.getElem_cons_zero, List.setIfInBounds_toArray, List.set_cons_zero, List.set_cons_succ]
  refine wpAnyH_ready (rs := [5]) (by kernel_rfl) (by simp) (AllReadyH.cons rfl (fun K1 hK1 => ?_) AllReadyH.nil)
  try simp only [Act.put, List.getElem_toArray, List.getElem_cons_succ, List.getElem_cons_zero, List.setIfInBounds_toArray, List.set_cons_zero, List.set_cons_succ]
  go_simp
  refine Calls.mono (T1.out _) ?_
  rintro e wc3 ⟨rfl, hc4⟩
  refine hK1.out _ _ (hHeld.step hc4) (fun hHeld => ?_)
  clear hK1 K1
  try simp only [Act.put, List.getElem_toArray, List.getElem_cons_succ, List.getElem_cons_zero, List.setIfInBounds_toArray, List.set_cons_zero, List.set_cons_succ]
  refine wpAnyH_ready (rs := [8]) (by kernel_rfl) (by simp) (AllReadyH.cons rfl (fun K1 hK1 => ?_) AllReadyH.nil)
  try simp only [Act.put, List.getElem_toArray, List.getElem_cons_succ, List.getElem_cons_zero, List.setIfInBounds_toArray, List.set_cons_zero, List.set_cons_succ]
  go_simp
  refine Calls.mono (T2.out _) ?_
  rintro e wc5 ⟨rfl, hc6⟩
  refine hK1.out _ _ (hHeld.step hc6) (fun hHeld => ?_)
  clear hK1 K1
  try simp only [Act.put, List.getElem_toArray, List.getElem_cons_succ, List.getElem_cons_zero, List.setIfInBounds_toArray, List.set_cons_zero, List.set_cons_succ]
  refine wpAnyH_ready (rs := [11]) (by kernel_rfl) (by simp) (AllReadyH.cons rfl (fun K1 hK1 => ?_) AllReadyH.nil)
  try simp only [Act.put, List.getElem_toArray, List.getElem_cons_succ, List.getElem_cons_zero, List.setIfInBounds_toArray, List.set_cons_zero, List.set_cons_succ]
  go_simp
  have hd8 := (Below.refl wc5.heap.size wc5).alloc (Nat.le_refl _) (.cells #[S t0, S t1, S t2, .string tx] 9)
  have r2 : Row (wc5.alloc (.cells #[S t0, S t1, S t2, .string tx] 9)) wc5.heap.size 9 ([S t0, S t1, S t2, .string tx]) := Row.new wc5 9 ([S t0, S t1, S t2, .string tx])
  have hHeld2 := hHeld.step hd8
  generalize wc5.alloc (.cells #[S t0, S t1, S t2, .string tx] 9) = wb7 at *
  obtain ⟨gb9, gb9e⟩ : ∃ gb9, gb9 = wc5.heap.size := ⟨_, rfl⟩
  rw [← gb9e] at r2 ⊢
  refine hK1.out _ _ (hHeld2) (fun hHeld => ?_)
  clear hK1 K1
  try simp only [Act.put, List.getElem_toArray, List.getElem_cons_succ, List.getElem_cons_zero, List.setIfInBounds_toArray, List.set_cons_zero, List.set_cons_succ]
  clear hHeld2 gb9e
  refine wpAnyH_ready (rs := [12]) (by kernel_rfl) (by simp) (AllReadyH.cons rfl (fun K1 hK1 => ?_) AllReadyH.nil)
  try simp only [Act.put, List.getElem_toArray, List.getElem_cons_succ, List.getElem_cons_zero, List.setIfInBounds_toArray, List.set_cons_zero, List.set_cons_succ]
  go_simp
  refine Calls.mono (list5_row L r2 Hff.out 4 4 Hfl.out) ?_
  rintro e wl10 ⟨rfl, hl11⟩
  clear r2
  refine hK1.out _ _ (hHeld.step hl11) (fun hHeld => ?_)
  clear hK1 K1
  try simp only [Act.put, List.getElem_toArray, List.getElem_cons_succ, List.getElem_cons_zero, List.setIfInBounds_toArray, List.set_cons_zero, List.set_cons_succ]
  refine wpAnyH_take (i := 13) (v := S (Oct.listE L).1) rfl (by kernel_rfl) (by kernel_rfl) (by kernel_rfl) (fun _ _ _ h => h) (Or.inl ⟨by rfl, fun w' hSw => by go_simp⟩) hHeld ?_
  try simp only [Act.put, List.getElem_toArray, List.getElem_cons_succ, List.getElem_cons_zero, List.setIfInBounds_toArray, List.set_cons_zero, List.set_cons_succ]
  refine wpAnyH_take (i := 14) (v := .int .i64 (Oct.listE L).2) rfl (by kernel_rfl) (by kernel_rfl) (by kernel_rfl) (fun _ _ _ h => h) (Or.inl ⟨by rfl, fun w' hSw => by go_simp⟩) hHeld ?_
  try simp only [Act.put, List.getElem_toArray, List.getElem_cons_succ, List.getElem_cons_zero, List.setIfInBounds_toArray, List.set_cons_zero, List.set_cons_succ]
  refine wpAnyH_take (i := 15) (v := S (Oct.listE L).1) rfl (by kernel_rfl) (by kernel_rfl) (by kernel_rfl) (fun _ _ _ h => h) (Or.inl ⟨by rfl, fun w' hSw => by go_simp⟩) hHeld ?_
  try simp only [Act.put, List.getElem_toArray, List.getElem_cons_succ, List.getElem_cons_zero, List.setIfInBounds_toArray, List.set_cons_zero, List.set_cons_succ]
  refine wpAnyH_take (i := 16) (v := .int .i64 (Oct.listE L).2) rfl (by kernel_rfl) (by kernel_rfl) (by kernel_rfl) (fun _ _ _ h => h) (Or.inl ⟨by rfl, fun w' hSw => by go_simp⟩) hHeld ?_
  try simp only [Act.put, List.getElem_toArray, List.getElem_cons_succ, List.getElem_cons_zero, List.setIfInBounds_toArray, List.set_cons_zero, List.set_cons_succ]
  refine wpAnyH_done (by kernel_rfl) ?_ _
  have Hbe := Lib.hid hHeld.2
  clear hHeld
  go_wp2_with fail
  go_ret2
  exact ⟨rfl, Hbe.out⟩
theorem rwriteItem_any (i : It) (w : World) :
    Calls Tryd.prog 44 #[i.v] w fun e w' => e = .returned (two i.textE.1 i.textE.2) ∧ Below w.heap.size w w' := by
  unfold It.textE
  rcases Bool.eq_false_or_eq_true i.ok with h | h
  · rw [if_pos h]; exact rwriteItem_ok i w h
  · rw [if_neg (by rw [h]; simp)]; exact rwriteItem_no i w h
end Go.Proofs.YtdekcicgiflnbaaDoor
namespace Go.Proofs.YtdekcicgiflnbaaDoor
open Go.RowKit
set_option linter.unusedVariables false
set_option linter.unusedSimpArgs false

set_option maxRecDepth 20000 in
theorem bid5_0 (b : Bd) (w : World) (h0 : Tx.num b.round = false) :
    Calls Tryd.prog 74 #[.agg b.cells.toArray] w fun e w' => e = .returned (.bool false) ∧ Below w.heap.size w w' := by
  obtain ⟨c0, c1, c2, c3⟩ := bid_box (Row.new w 41 b.cells)
  have N0 := Lib.hid (within5_b b.round 1099511627776 _ h0)
  generalize b.cells = C at *
  clear h0
  go_enter Tryd.func74, Tryd.ntmps74
  go_wp2_with fail
  refine (N0.out _).mono ?_
  rintro _ w1 ⟨rfl, rfl⟩
  go_wp2_with fail
  go_ret
  exact ⟨rfl, (Below.refl w.heap.size w).alloc (Nat.le_refl _) _⟩
set_option maxRecDepth 20000 in
theorem bid5_1 (b : Bd) (w : World) (h0 : Tx.num b.round = true) (h1 : Tx.acct b.who = false) :
    Calls Tryd.prog 74 #[.agg b.cells.toArray] w fun e w' => e = .returned (.bool false) ∧ Below w.heap.size w w' := by
  obtain ⟨c0, c1, c2, c3⟩ := bid_box (Row.new w 41 b.cells)
  have N0 := Lib.hid (within5_b b.round 1099511627776 _ h0)
  have N1 := Lib.hid (within5_b b.who 63 _ h1)
  generalize b.cells = C at *
  clear h0 h1
  go_enter Tryd.func74, Tryd.ntmps74
  go_wp2_with fail
  refine (N0.out _).mono ?_
  rintro _ w1 ⟨rfl, rfl⟩
  go_wp2_with fail
  refine (N1.out _).mono ?_
  rintro _ w1 ⟨rfl, rfl⟩
  go_wp2_with fail
  go_ret
  exact ⟨rfl, (Below.refl w.heap.size w).alloc (Nat.le_refl _) _⟩
set_option maxRecDepth 20000 in
theorem bid5_2 (b : Bd) (w : World) (h0 : Tx.num b.round = true) (h1 : Tx.acct b.who = true) (h2 : Tx.num b.amount = false) :
    Calls Tryd.prog 74 #[.agg b.cells.toArray] w fun e w' => e = .returned (.bool false) ∧ Below w.heap.size w w' := by
  obtain ⟨c0, c1, c2, c3⟩ := bid_box (Row.new w 41 b.cells)
  have N0 := Lib.hid (within5_b b.round 1099511627776 _ h0)
  have N1 := Lib.hid (within5_b b.who 63 _ h1)
  have N2 := Lib.hid (within5_b b.amount 1099511627776 _ h2)
  generalize b.cells = C at *
  clear h0 h1 h2
  go_enter Tryd.func74, Tryd.ntmps74
  go_wp2_with fail
  refine (N0.out _).mono ?_
  rintro _ w1 ⟨rfl, rfl⟩
  go_wp2_with fail
  refine (N1.out _).mono ?_
  rintro _ w1 ⟨rfl, rfl⟩
  go_wp2_with fail
  refine (N2.out _).mono ?_
  rintro _ w1 ⟨rfl, rfl⟩
  go_wp2_with fail
  go_ret
  exact ⟨rfl, (Below.refl w.heap.size w).alloc (Nat.le_refl _) _⟩
set_option maxRecDepth 20000 in
theorem bid5_3 (b : Bd) (w : World) (h0 : Tx.num b.round = true) (h1 : Tx.acct b.who = true) (h2 : Tx.num b.amount = true) (h3 : Tx.num b.salt = false) :
    Calls Tryd.prog 74 #[.agg b.cells.toArray] w fun e w' => e = .returned (.bool false) ∧ Below w.heap.size w w' := by
  obtain ⟨c0, c1, c2, c3⟩ := bid_box (Row.new w 41 b.cells)
  have N0 := Lib.hid (within5_b b.round 1099511627776 _ h0)
  have N1 := Lib.hid (within5_b b.who 63 _ h1)
  have N2 := Lib.hid (within5_b b.amount 1099511627776 _ h2)
  have N3 := Lib.hid (within5_b b.salt 1099511627776 _ h3)
  generalize b.cells = C at *
  clear h0 h1 h2 h3
  go_enter Tryd.func74, Tryd.ntmps74
  go_wp2_with fail
  refine (N0.out _).mono ?_
  rintro _ w1 ⟨rfl, rfl⟩
  go_wp2_with fail
  refine (N1.out _).mono ?_
  rintro _ w1 ⟨rfl, rfl⟩
  go_wp2_with fail
  refine (N2.out _).mono ?_
  rintro _ w1 ⟨rfl, rfl⟩
  go_wp2_with fail
  refine (N3.out _).mono ?_
  rintro _ w1 ⟨rfl, rfl⟩
  go_wp2_with fail
  go_ret
  exact ⟨rfl, (Below.refl w.heap.size w).alloc (Nat.le_refl _) _⟩
set_option maxRecDepth 20000 in
theorem bid5_4 (b : Bd) (w : World) (h0 : Tx.num b.round = true) (h1 : Tx.acct b.who = true) (h2 : Tx.num b.amount = true) (h3 : Tx.num b.salt = true) :
    Calls Tryd.prog 74 #[.agg b.cells.toArray] w fun e w' => e = .returned (.bool true) ∧ Below w.heap.size w w' := by
  obtain ⟨c0, c1, c2, c3⟩ := bid_box (Row.new w 41 b.cells)
  have N0 := Lib.hid (within5_b b.round 1099511627776 _ h0)
  have N1 := Lib.hid (within5_b b.who 63 _ h1)
  have N2 := Lib.hid (within5_b b.amount 1099511627776 _ h2)
  have N3 := Lib.hid (within5_b b.salt 1099511627776 _ h3)
  generalize b.cells = C at *
  clear h0 h1 h2 h3
  go_enter Tryd.func74, Tryd.ntmps74
  go_wp2_with fail
  refine (N0.out _).mono ?_
  rintro _ w1 ⟨rfl, rfl⟩
  go_wp2_with fail
  refine (N1.out _).mono ?_
  rintro _ w1 ⟨rfl, rfl⟩
  go_wp2_with fail
  refine (N2.out _).mono ?_
  rintro _ w1 ⟨rfl, rfl⟩
  go_wp2_with fail
  refine (N3.out _).mono ?_
  rintro _ w1 ⟨rfl, rfl⟩
  go_wp2_with fail
  go_ret
  exact ⟨rfl, (Below.refl w.heap.size w).alloc (Nat.le_refl _) _⟩
theorem bid5_any (b : Bd) (w : World) :
    Calls Tryd.prog 74 #[.agg b.cells.toArray] w fun e w' => e = .returned (.bool b.ok) ∧ Below w.heap.size w w' := by
  unfold Bd.ok
  rcases Bool.eq_false_or_eq_true (Tx.num b.round) with h0 | h0
  · rcases Bool.eq_false_or_eq_true (Tx.acct b.who) with h1 | h1
    · rcases Bool.eq_false_or_eq_true (Tx.num b.amount) with h2 | h2
      · rcases Bool.eq_false_or_eq_true (Tx.num b.salt) with h3 | h3
        · rw [h0, h1, h2, h3]; exact bid5_4 b w h0 h1 h2 h3
        · rw [h0, h1, h2, h3]; exact bid5_3 b w h0 h1 h2 h3
      · rw [h0, h1, h2]; exact bid5_2 b w h0 h1 h2
    · rw [h0, h1]; exact bid5_1 b w h0 h1
  · rw [h0, Bool.false_and, Bool.and_false]; exact bid5_0 b w h0
set_option maxRecDepth 20000 in
theorem rwriteBid_no (b : Bd) (w : World) (ht : b.tag.length = 32) (h : b.ok = false) :
    Calls Tryd.prog 31 #[.agg b.cells.toArray] w fun e w' => e = .returned (.tuple #[S [], .int .i64 2]) ∧ Below w.heap.size w w' := by
  have MB := Lib.hid (fun W => bid5_any b W)
  rw [h] at MB
  have HL := Lib.hid (Bd.cells_len ht)
  have Hrow0 := Lib.hid (Row.new w 41 b.cells)
  generalize b.cells = C at *
  clear h
  go_enter Tryd.func31, Tryd.ntmps31
  go_wp2_with (with_reducible show wpList _ _ _ (⟨_, .load 41 _, _, _, _, _⟩ :: _) _ _; refine wpList_load_tx rfl 41 (.tmp 1) rfl w.heap.size 0 rfl C _ (row_range Hrow0.out) Tryd.underlying41 rfl (by rw [bid_info, HL.out]) ?_)
  refine (MB.out _).mono ?_
  rintro _ w1 ⟨rfl, hb1⟩
  have Hb1 := Lib.hid (tx_below (grownBy_of_below hb1 none))
  clear hb1
  go_wp2_with fail
  go_ret2
  exact ⟨rfl, Hb1.out⟩
set_option maxRecDepth 20000 in
set_option maxHeartbeats 1600000 in
theorem rwriteBid_ok (b : Bd) (w : World) (ht : b.tag.length = 32) (h : b.ok = true) :
    Calls Tryd.prog 31 #[.agg b.cells.toArray] w fun e w' => e = .returned (.tuple #[S (Oct.listE b.fields).1, .int .i64 (Oct.listE b.fields).2]) ∧ Below w.heap.size w w' := by
  have hB := (Bd.ok_iff b).1 h
  have T0 := Lib.hid (fun W => text5_any b.round W hB.2.1.1 (by omega))
  have T1 := Lib.hid (fun W => text5_any b.who W hB.1.1 (by omega))
  have T2 := Lib.hid (fun W => text5_any b.amount W hB.2.2.1.1 (by omega))
  have T3 := Lib.hid (fun W => text5_any b.salt W hB.2.2.2.1 (by omega))
  have MB := Lib.hid (fun W => bid5_any b W)
  have BX : Hid (∀ (W : World) (g : Nat) (T : TypeId), Row W g T b.cells → W.cell? ⟨g, 0, none⟩ = some (.int .i64 b.round) ∧ W.cell? ⟨g, 1, none⟩ = some (.int .i64 b.who) ∧ W.cell? ⟨g, 2, none⟩ = some (.int .i64 b.amount) ∧ W.cell? ⟨g, 3, none⟩ = some (.int .i64 b.salt)) := fun W g T h => bid_box h
  have BT : Hid (∀ (W : World) (g : Nat) (T : TypeId), Row W g T b.cells → W.rangeAt g 4 (bRow b.tag).toList) := fun W g T h => bid_tag h
  have HL := Lib.hid (Bd.cells_len ht)
  have Hrow0 := Lib.hid (Row.new w 41 b.cells)
  have HB32 := Lib.hid (Tx.bRow_len _ ht)
  have HT := Lib.hid ht
  rw [h] at MB
  have BY := Lib.hid (fun W => bytes_any b.tag W ht)
  have hff : [S (Oct.num b.round.toNat), S (Oct.num b.who.toNat), S (Oct.num b.amount.toNat), S (Oct.num b.salt.toNat), S b.tag] = b.fields.map S := rfl
  have Hff := Lib.hid hff
  have Hfl : Hid (5 = b.fields.length) := (rfl : 5 = b.fields.length)
  generalize b.fields = L at *
  generalize b.cells = C at *
  generalize Oct.num b.round.toNat = t0 at *
  generalize Oct.num b.who.toNat = t1 at *
  generalize Oct.num b.amount.toNat = t2 at *
  generalize Oct.num b.salt.toNat = t3 at *
  clear h hB hff ht
  have hu23 := Tryd.underlying23
  have hi23 : (Tryd.prog.info? 23).map (·.size) = some (bRow b.tag).toList.length := by rw [hash_info, HB32.out]
  go_enter Tryd.func31, Tryd.ntmps31
  go_wp2_with (with_reducible show wpList _ _ _ (⟨_, .load 41 _, _, _, _, _⟩ :: _) _ _; refine wpList_load_tx rfl 41 (.tmp 1) rfl w.heap.size 0 rfl C _ (row_range Hrow0.out) Tryd.underlying41 rfl (by rw [bid_info, HL.out]) ?_)
  refine (MB.out _).mono ?_
  rintro _ w1 ⟨rfl, hb1⟩
  have HS0 := Lib.hid ((rowIn_call hb1).drew)
  clear hb1
  go_wp2_with fail
  refine wp_region_held_drew (S := fun w' => RowIn w w' w.heap.size 41 C) (by kernel_rfl) (HS0.out) (fun hHeld => ?_)
  generalize w1.drew = w9 at *
  refine wpAnyH_take (i := 0) (v := .pointer (some ⟨w.heap.size, 0, none⟩)) rfl (by kernel_rfl) (by kernel_rfl) (by kernel_rfl) (fun _ _ _ h => h) (Or.inl ⟨by rfl, fun w' hSw => by go_simp⟩) hHeld ?_
  try simp only [Act.put, List.getElem_toArray, List.getElem_cons_succ, List.getElem_cons_zero, List.setIfInBounds_toArray, List.set_cons_zero, List.set_cons_succ]
  refine wpAnyH_take (i := 1) (v := .int .i64 b.round) rfl (by kernel_rfl) (by kernel_rfl) (by kernel_rfl) (fun _ _ _ h => h) (Or.inl ⟨by rfl, fun w' hSw => by have hq := hSw; have hc := (BX.out _ _ _ hq.1).1; go_simp⟩) hHeld ?_
  try simp only [Act.put, List.getElem_toArray, List.getElem_cons_succ, List.getElem_cons_zero, List.setIfInBounds_toArray, List.set_cons_zero, List.set_cons_succ]
  refine wpAnyH_take (i := 3) (v := .pointer (some ⟨w.heap.size, 1, none⟩)) rfl (by kernel_rfl) (by kernel_rfl) (by kernel_rfl) (fun _ _ _ h => h) (Or.inl ⟨by rfl, fun w' hSw => by go_simp⟩) hHeld ?_
  try simp only [Act.put, List.getElem_toArray, List.getElem_cons_succ, List.getElem_cons_zero, List.setIfInBounds_toArray, List.set_cons_zero, List.set_cons_succ]
  refine wpAnyH_take (i := 4) (v := .int .i64 b.who) rfl (by kernel_rfl) (by kernel_rfl) (by kernel_rfl) (fun _ _ _ h => h) (Or.inl ⟨by rfl, fun w' hSw => by have hq := hSw; have hc := (BX.out _ _ _ hq.1).2.1; go_simp⟩) hHeld ?_
  try simp only [Act.put, List.getElem_toArray, List.getElem_cons_succ, List.getElem_cons_zero, List.setIfInBounds_toArray, List.set_cons_zero, List.set_cons_succ]
  refine wpAnyH_take (i := 6) (v := .pointer (some ⟨w.heap.size, 2, none⟩)) rfl (by kernel_rfl) (by kernel_rfl) (by kernel_rfl) (fun _ _ _ h => h) (Or.inl ⟨by rfl, fun w' hSw => by go_simp⟩) hHeld ?_
  try simp only [Act.put, List.getElem_toArray, List.getElem_cons_succ, List.getElem_cons_zero, List.setIfInBounds_toArray, List.set_cons_zero, List.set_cons_succ]
  refine wpAnyH_take (i := 7) (v := .int .i64 b.amount) rfl (by kernel_rfl) (by kernel_rfl) (by kernel_rfl) (fun _ _ _ h => h) (Or.inl ⟨by rfl, fun w' hSw => by have hq := hSw; have hc := (BX.out _ _ _ hq.1).2.2.1; go_simp⟩) hHeld ?_
  try simp only [Act.put, List.getElem_toArray, List.getElem_cons_succ, List.getElem_cons_zero, List.setIfInBounds_toArray, List.set_cons_zero, List.set_cons_succ]
  refine wpAnyH_take (i := 9) (v := .pointer (some ⟨w.heap.size, 3, none⟩)) rfl (by kernel_rfl) (by kernel_rfl) (by kernel_rfl) (fun _ _ _ h => h) (Or.inl ⟨by rfl, fun w' hSw => by go_simp⟩) hHeld ?_
  try simp only [Act.put, List.getElem_toArray, List.getElem_cons_succ, List.getElem_cons_zero, List.setIfInBounds_toArray, List.set_cons_zero, List.set_cons_succ]
  refine wpAnyH_take (i := 10) (v := .int .i64 b.salt) rfl (by kernel_rfl) (by kernel_rfl) (by kernel_rfl) (fun _ _ _ h => h) (Or.inl ⟨by rfl, fun w' hSw => by have hq := hSw; have hc := (BX.out _ _ _ hq.1).2.2.2; go_simp⟩) hHeld ?_
  try simp only [Act.put, List.getElem_toArray, List.getElem_cons_succ, List.getElem_cons_zero, List.setIfInBounds_toArray, List.set_cons_zero, List.set_cons_succ]
  refine wpAnyH_take (i := 12) (v := .pointer (some ⟨w.heap.size, 4, none⟩)) rfl (by kernel_rfl) (by kernel_rfl) (by kernel_rfl) (fun _ _ _ h => h) (Or.inl ⟨by rfl, fun w' hSw => by go_simp⟩) hHeld ?_
  try simp only [Act.put, List.getElem_toArray, List.getElem_cons_succ, List.getElem_cons_zero, List.setIfInBounds_toArray, List.set_cons_zero, List.set_cons_succ]
  refine' wpAnyH_take (i := 13) (v := _) rfl (by kernel_rfl) (by kernel_rfl) (by kernel_rfl) (fun _ _ _ h => h) (yieldsIf_load_mid (by rfl) _ _ rfl w.heap.size 4 rfl (bRow b.tag).toList _ (fun w' hSw => (BT.out _ _ _ hSw.1)) hu23 rfl hi23) hHeld ?_
  try simp only [Act.put, List.getElem_toArray, List.getElem_cons_succ, List.getElem_cons_zero, List.setIfInBounds_toArray, List.set_cons_zero, List.set_cons_succ]
  refine wpAnyH_ready (rs := [2]) (by kernel_rfl) (by simp) (AllReadyH.cons rfl (fun K1 hK1 => ?_) AllReadyH.nil)
  try simp only [Act.put, List.getElem_toArray, List.getElem_cons_succ, List.getElem_cons_zero, List.setIfInBounds_toArray, List.set_cons_zero, List.set_cons_succ]
  go_simp
  refine Calls.mono (T0.out _) ?_
  rintro e wc1 ⟨rfl, hc2⟩
  refine hK1.out _ _ (hHeld.step hc2) (fun hHeld => ?_)
  clear hK1 K1
  try simp only [Act.put, List.getElem_toArray, List.getElem_cons_succ, List.getElem_cons_zero, List.setIfInBounds_toArray, List.set_cons_zero, List.set_cons_succ]
  refine wpAnyH_ready (rs := [5]) (by kernel_rfl) (by simp) (AllReadyH.cons rfl (fun K1 hK1 => ?_) AllReadyH.nil)
  try simp only [Act.put, List.getElem_toArray, List.getElem_cons_succ, List.getElem_cons_zero, List.setIfInBounds_toArray, List.set_cons_zero, List.set_cons_succ]
  go_simp
  refine Calls.mono (T1.out _) ?_
  rintro e wc3 ⟨rfl, hc4⟩
  refine hK1.out _ _ (hHeld.step hc4) (fun hHeld => ?_)
  clear hK1 K1
  try simp only [Act.put, List.getElem_toArray, List.getElem_cons_succ, List.getElem_cons_zero, List.setIfInBounds_toArray, List.set_cons_zero, List.set_cons_succ]
  refine wpAnyH_ready (rs := [8]) (by kernel_rfl) (by simp) (AllReadyH.cons rfl (fun K1 hK1 => ?_) AllReadyH.nil)
  try simp only [Act.put, List.getElem_toArray, List.getElem_cons_succ, List.getElem_cons_zero, List.setIfInBounds_toArray, List.set_cons_zero, List.set_cons_succ]
  go_simp
  refine Calls.mono (T2.out _) ?_
  rintro e wc5 ⟨rfl, hc6⟩
  refine hK1.out _ _ (hHeld.step hc6) (fun hHeld => ?_)
  clear hK1 K1
  try simp only [Act.put, List.getElem_toArray, List.getElem_cons_succ, List.getElem_cons_zero, List.setIfInBounds_toArray, List.set_cons_zero, List.set_cons_succ]
  refine wpAnyH_ready (rs := [11]) (by kernel_rfl) (by simp) (AllReadyH.cons rfl (fun K1 hK1 => ?_) AllReadyH.nil)
  try simp only [Act.put, List.getElem_toArray, List.getElem_cons_succ, List.getElem_cons_zero, List.setIfInBounds_toArray, List.set_cons_zero, List.set_cons_succ]
  go_simp
  refine Calls.mono (T3.out _) ?_
  rintro e wc7 ⟨rfl, hc8⟩
  refine hK1.out _ _ (hHeld.step hc8) (fun hHeld => ?_)
  clear hK1 K1
  try simp only [Act.put, List.getElem_toArray, List.getElem_cons_succ, List.getElem_cons_zero, List.setIfInBounds_toArray, List.set_cons_zero, List.set_cons_succ]
  refine wpAnyH_ready (rs := [14]) (by kernel_rfl) (by simp) (AllReadyH.cons rfl (fun K1 hK1 => ?_) AllReadyH.nil)
  try simp only [Act.put, List.getElem_toArray, List.getElem_cons_succ, List.getElem_cons_zero, List.setIfInBounds_toArray, List.set_cons_zero, List.set_cons_succ]
  go_simp
  refine Calls.mono (BY.out _) ?_
  rintro e wc9 ⟨rfl, hc10⟩
  refine hK1.out _ _ (hHeld.step hc10) (fun hHeld => ?_)
  clear hK1 K1
  try simp only [Act.put, List.getElem_toArray, List.getElem_cons_succ, List.getElem_cons_zero, List.setIfInBounds_toArray, List.set_cons_zero, List.set_cons_succ]
  refine wpAnyH_ready (rs := [15]) (by kernel_rfl) (by simp) (AllReadyH.cons rfl (fun K1 hK1 => ?_) AllReadyH.nil)
  try simp only [Act.put, List.getElem_toArray, List.getElem_cons_succ, List.getElem_cons_zero, List.setIfInBounds_toArray, List.set_cons_zero, List.set_cons_succ]
  go_simp
  have hd12 := (Below.refl wc9.heap.size wc9).alloc (Nat.le_refl _) (.cells #[S t0, S t1, S t2, S t3, S b.tag] 9)
  have r2 : Row (wc9.alloc (.cells #[S t0, S t1, S t2, S t3, S b.tag] 9)) wc9.heap.size 9 ([S t0, S t1, S t2, S t3, S b.tag]) := Row.new wc9 9 ([S t0, S t1, S t2, S t3, S b.tag])
  have hHeld2 := hHeld.step hd12
  generalize wc9.alloc (.cells #[S t0, S t1, S t2, S t3, S b.tag] 9) = wb11 at *
  obtain ⟨gb13, gb13e⟩ : ∃ gb13, gb13 = wc9.heap.size := ⟨_, rfl⟩
  rw [← gb13e] at r2 ⊢
  refine hK1.out _ _ (hHeld2) (fun hHeld => ?_)
  clear hK1 K1
  try simp only [Act.put, List.getElem_toArray, List.getElem_cons_succ, List.getElem_cons_zero, List.setIfInBounds_toArray, List.set_cons_zero, List.set_cons_succ]
  clear hHeld2 gb13e
  refine wpAnyH_ready (rs := [16]) (by kernel_rfl) (by simp) (AllReadyH.cons rfl (fun K1 hK1 => ?_) AllReadyH.nil)
  try simp only [Act.put, List.getElem_toArray, List.getElem_cons_succ, List.getElem_cons_zero, List.setIfInBounds_toArray, List.set_cons_zero, List.set_cons_succ]
  go_simp
  refine Calls.mono (list5_row L r2 Hff.out 5 5 Hfl.out) ?_
  rintro e wl14 ⟨rfl, hl15⟩
  clear r2
  refine hK1.out _ _ (hHeld.step hl15) (fun hHeld => ?_)
  clear hK1 K1
  try simp only [Act.put, List.getElem_toArray, List.getElem_cons_succ, List.getElem_cons_zero, List.setIfInBounds_toArray, List.set_cons_zero, List.set_cons_succ]
  refine wpAnyH_take (i := 17) (v := S (Oct.listE L).1) rfl (by kernel_rfl) (by kernel_rfl) (by kernel_rfl) (fun _ _ _ h => h) (Or.inl ⟨by rfl, fun w' hSw => by go_simp⟩) hHeld ?_
  try simp only [Act.put, List.getElem_toArray, List.getElem_cons_succ, List.getElem_cons_zero, List.setIfInBounds_toArray, List.set_cons_zero, List.set_cons_succ]
  refine wpAnyH_take (i := 18) (v := .int .i64 (Oct.listE L).2) rfl (by kernel_rfl) (by kernel_rfl) (by kernel_rfl) (fun _ _ _ h => h) (Or.inl ⟨by rfl, fun w' hSw => by go_simp⟩) hHeld ?_
  try simp only [Act.put, List.getElem_toArray, List.getElem_cons_succ, List.getElem_cons_zero, List.setIfInBounds_toArray, List.set_cons_zero, List.set_cons_succ]
  refine wpAnyH_take (i := 19) (v := S (Oct.listE L).1) rfl (by kernel_rfl) (by kernel_rfl) (by kernel_rfl) (fun _ _ _ h => h) (Or.inl ⟨by rfl, fun w' hSw => by go_simp⟩) hHeld ?_
  try simp only [Act.put, List.getElem_toArray, List.getElem_cons_succ, List.getElem_cons_zero, List.setIfInBounds_toArray, List.set_cons_zero, List.set_cons_succ]
  refine wpAnyH_take (i := 20) (v := .int .i64 (Oct.listE L).2) rfl (by kernel_rfl) (by kernel_rfl) (by kernel_rfl) (fun _ _ _ h => h) (Or.inl ⟨by rfl, fun w' hSw => by go_simp⟩) hHeld ?_
  try simp only [Act.put, List.getElem_toArray, List.getElem_cons_succ, List.getElem_cons_zero, List.setIfInBounds_toArray, List.set_cons_zero, List.set_cons_succ]
  refine wpAnyH_done (by kernel_rfl) ?_ _
  have Hbe := Lib.hid hHeld.2
  clear hHeld hu23 hi23
  go_wp2_with fail
  go_ret2
  exact ⟨rfl, Hbe.out⟩
theorem rwriteBid_any (b : Bd) (ht : b.tag.length = 32) (w : World) :
    Calls Tryd.prog 31 #[b.v] w fun e w' => e = .returned (two b.textE.1 b.textE.2) ∧ Below w.heap.size w w' := by
  unfold Bd.textE
  rcases Bool.eq_false_or_eq_true b.ok with h | h
  · rw [if_pos h]; exact rwriteBid_ok b w ht h
  · rw [if_neg (by rw [h]; simp)]; exact rwriteBid_no b w ht h
set_option maxRecDepth 20000 in
theorem rsignBid_no (b : Bd) (ht : b.tag.length = 32) (w : World) (h : b.ok = false) :
    Calls Tryd.prog 33 #[.agg b.cells.toArray] w fun e w' => e = .returned (Bd.pairV b.signE) ∧ Below w.heap.size w w' := by
  have MB := Lib.hid (fun W => bid5_any b W)
  rw [h] at MB
  have HZL := Lib.hid (Bd.cells_len (b := Bd.zero) rfl)
  have HZ1 := Lib.hid (Bd.cells_one (b := Bd.zero) rfl)
  have HL := Lib.hid (Bd.cells_len ht)
  have Hrow0 := Lib.hid (Row.new w 41 b.cells)
  have hzv : ∀ W : World, (zeroValue 41).run Tryd.prog W = .ok (.agg Bd.zero.cells.toArray) W := fun W => by kernel_rfl
  have he : Bd.pairV b.signE = .tuple #[.agg Bd.zero.cells.toArray, .int .i64 2] := by unfold Bd.signE; rw [if_neg (by rw [h]; simp)]; rfl
  have He := Lib.hid he
  generalize Bd.pairV b.signE = NE at *
  generalize b.cells = C at *
  clear ht h he
  go_enter Tryd.func33, Tryd.ntmps33
  go_wp2_with (with_reducible show wpList _ _ _ (⟨_, .load 41 _, _, _, _, _⟩ :: _) _ _; refine wpList_load_tx rfl 41 (.tmp 1) rfl w.heap.size 0 rfl C _ (World.rangeAt_alloc (row_range Hrow0.out) _) Tryd.underlying41 rfl (by rw [bid_info, HL.out]) ?_)
  refine calls_named ?_
  intro w1 hw1
  have hb1 : Below w.heap.size w w1 := by rw [hw1]; exact (row_two w C.toArray Bd.zero.cells.toArray 41 41).2.1
  have hr1 : Row w1 (w.heap.size + 1) 41 Bd.zero.cells := by rw [hw1]; exact (row_two w C.toArray Bd.zero.cells.toArray 41 41).1
  clear hw1 hzv
  refine (MB.out w1).mono ?_
  rintro _ w2 ⟨rfl, hb2⟩
  have hg2 := grownBy_of_below hb2 none
  have Hr2 := Lib.hid (hr1.kept hg2 (by simp))
  have Hb2 := Lib.hid (two_below' hb1 hb2)
  clear hb1 hr1 hb2 hg2
  go_wp2_with (first
    | (with_reducible show wpList _ _ _ (⟨_, .build 41 _, _, _, _, _⟩ :: _) _ _; refine wpList_buildL rfl 41 [] rfl (some 11) rfl _ rfl _ Bd.zero_built0 ?_)
    | (with_reducible show wpList _ _ _ (⟨_, .store 41 _ _, _, _, _, _⟩ :: _) _ _
       refine wpList_store_at rfl 41 (.tmp 2) (.tmp 11) rfl (w.heap.size + 1) 0 Bd.zero.cells _ _ rfl rfl Hr2.out (by have := HZL.out; omega) (by rw [bid_info, HZL.out]) HZ1.out ?_
       intro wZ hrZ hgZ
       rw [splice_all rfl] at hrZ
       have HrZ := Lib.hid hrZ
       have HbZ := Lib.hid (below_own Hb2.out hgZ (fun k hk => by cases hk; omega))
       clear hrZ hgZ))
  refine bodyPost_ret (results_rowL rfl _ _ (w.heap.size + 1) 41 _ _ rfl HrZ.out Tryd.underlying41 rfl (by rw [bid_info, List.size_toArray, HZL.out]) _ rfl) rfl ⟨?_, HbZ.out⟩
  rw [He.out]
  exact rfl
/-- two blocks as they were -/
def BidIn2 (w0 W : World) (C Z : List Value) : Prop := RowIn w0 W w0.heap.size 41 C ∧ Row W (w0.heap.size + 1) 41 Z
theorem BidIn2.step {w0 W W' : World} {C Z : List Value} (h : BidIn2 w0 W C Z) (hb : Below W.heap.size W W') : BidIn2 w0 W' C Z :=
  ⟨h.1.step hb, h.2.kept (grownBy_of_below hb none) (by simp)⟩
set_option maxRecDepth 20000 in
set_option maxHeartbeats 1600000 in
theorem rsignBid_ok (hRS : RefSum) (b : Bd) (ht : b.tag.length = 32) (w : World) (h : b.ok = true) :
    Calls Tryd.prog 33 #[.agg b.cells.toArray] w fun e w' => e = .returned (Bd.pairV b.signE) ∧ Below w.heap.size w w' := by
  have hB := (Bd.ok_iff b).1 h
  have T0 := Lib.hid (fun W => text5_any b.round W hB.2.1.1 (by omega))
  have T1 := Lib.hid (fun W => text5_any b.who W hB.1.1 (by omega))
  have T2 := Lib.hid (fun W => text5_any b.amount W hB.2.2.1.1 (by omega))
  have T3 := Lib.hid (fun W => text5_any b.salt W hB.2.2.2.1 (by omega))
  have MB := Lib.hid (fun W => bid5_any b W)
  have BX : Hid (∀ (W : World) (g : Nat) (T : TypeId), Row W g T b.cells → W.cell? ⟨g, 0, none⟩ = some (.int .i64 b.round) ∧ W.cell? ⟨g, 1, none⟩ = some (.int .i64 b.who) ∧ W.cell? ⟨g, 2, none⟩ = some (.int .i64 b.amount) ∧ W.cell? ⟨g, 3, none⟩ = some (.int .i64 b.salt)) := fun W g T h => bid_box h
  have BT : Hid (∀ (W : World) (g : Nat) (T : TypeId), Row W g T b.cells → W.rangeAt g 4 (bRow b.tag).toList) := fun W g T h => bid_tag h
  have HL := Lib.hid (Bd.cells_len ht)
  have Hrow0 := Lib.hid (Row.new w 41 b.cells)
  have HB32 := Lib.hid (Tx.bRow_len _ ht)
  have HT := Lib.hid ht
  rw [h] at MB
  have HZL := Lib.hid (Bd.cells_len (b := Bd.zero) rfl)
  have HZ1 := Lib.hid (Bd.cells_one (b := Bd.zero) rfl)
  have hbl := b.body_len
  have TG : Hid (∀ W, Calls Tryd.prog 67 #[.int .i64 b.who, .int .i64 3, S b.body] W fun e w' => e = .returned (.tuple #[.agg (bRow (Seal.tag b.who 3 b.body).1), .int .i64 (Seal.tag b.who 3 b.body).2]) ∧ Below W.heap.size W w') := fun W => refTag_any hRS b.who 3 ⟨b.body.toArray⟩ W (by show b.body.length ≤ _; omega)
  have Hcl := Lib.hid (Bd.put_tag ht (Seal.tag b.who 3 b.body).1 (Seal.tag_len _ _ _))
  have hce : Bd.cells { b with tag := (Seal.tag b.who 3 b.body).1 } = b.sign.cells := rfl
  rw [hce] at Hcl
  have htl := Seal.tag_len b.who 3 b.body
  have HDL := Lib.hid (Bd.cells_len (b := b.sign) htl)
  have HD1 := Lib.hid (Bd.cells_one (b := b.sign) htl)
  have HR := Lib.hid htl
  have HR32 := Lib.hid (Tx.bRow_len _ htl)
  have HZ32 := Lib.hid (Tx.bRow_len Tx.zero rfl)
  have hzv : ∀ W : World, (zeroValue 41).run Tryd.prog W = .ok (.agg Bd.zero.cells.toArray) W := fun W => by kernel_rfl
  have he : Bd.pairV b.signE = .tuple #[.agg b.sign.cells.toArray, .int .i64 0] := by unfold Bd.signE; rw [if_pos h]; rfl
  rw [he]
  have LB : Hid (∀ (W : World) (g : Nat), Row W g 9 [S (Oct.num b.round.toNat), S (Oct.num b.who.toNat), S (Oct.num b.amount.toNat), S (Oct.num b.salt.toNat)] → Calls Tryd.prog 75 #[.slice (some ⟨g, 0, none⟩) 4 4] W fun e w' => e = .returned (.tuple #[S b.body, .int .i64 (Oct.listE (b.numsL.map fun x => Oct.num x.toNat)).2]) ∧ Below W.heap.size W w') := fun W g h => list5_row (b.numsL.map fun (x : Int) => Oct.num x.toNat) h rfl 4 4 rfl
  generalize (Oct.listE (b.numsL.map fun x => Oct.num x.toNat)).2 = en at *
  generalize b.sign.cells = D at *
  generalize (Seal.tag b.who 3 b.body).2 = tn at *
  generalize (Seal.tag b.who 3 b.body).1 = R at *
  generalize b.body = bs at *
  generalize b.cells = C at *
  generalize Oct.num b.round.toNat = t0 at *
  generalize Oct.num b.who.toNat = t1 at *
  generalize Oct.num b.amount.toNat = t2 at *
  generalize Oct.num b.salt.toNat = t3 at *
  clear h hB ht he hce htl hbl
  go_enter Tryd.func33, Tryd.ntmps33
  go_wp2_with (with_reducible show wpList _ _ _ (⟨_, .load 41 _, _, _, _, _⟩ :: _) _ _; refine wpList_load_tx rfl 41 (.tmp 1) rfl w.heap.size 0 rfl C _ (World.rangeAt_alloc (row_range Hrow0.out) _) Tryd.underlying41 rfl (by rw [bid_info, HL.out]) ?_)
  refine calls_named ?_
  intro w1 hw1
  have hb1 : Below w.heap.size w w1 := by rw [hw1]; exact (row_two w C.toArray Bd.zero.cells.toArray 41 41).2.1
  have hr1 : Row w1 (w.heap.size + 1) 41 Bd.zero.cells := by rw [hw1]; exact (row_two w C.toArray Bd.zero.cells.toArray 41 41).1
  have hq1 : Row w1 w.heap.size 41 C := by rw [hw1]; exact (row_two w C.toArray Bd.zero.cells.toArray 41 41).2.2
  clear hw1 hzv
  refine (MB.out w1).mono ?_
  rintro _ w2 ⟨rfl, hb2⟩
  have HS0 : Hid (BidIn2 w w2.drew C Bd.zero.cells) := BidIn2.step (W := w2) (BidIn2.step (W := w1) ⟨⟨hq1, hb1⟩, hr1⟩ hb2) (Below.refl _ _).drew
  clear hb1 hr1 hq1 hb2
  go_wp2_with fail
  refine wp_region_held_drew (S := fun w' => BidIn2 w w' C Bd.zero.cells) (by kernel_rfl) (HS0.out) (fun hHeld => ?_)
  generalize w2.drew = w9 at *
  refine wpAnyH_take (i := 0) (v := .pointer (some ⟨w.heap.size, 0, none⟩)) rfl (by kernel_rfl) (by kernel_rfl) (by kernel_rfl) (fun _ _ _ h => h) (Or.inl ⟨by rfl, fun w' hSw => by go_simp⟩) hHeld ?_
  try simp only [Act.put, List.getElem_toArray, List.getElem_cons_succ, List.getElem_cons_zero, List.setIfInBounds_toArray, List.set_cons_zero, List.set_cons_succ]
  refine wpAnyH_take (i := 1) (v := .int .i64 b.round) rfl (by kernel_rfl) (by kernel_rfl) (by kernel_rfl) (fun _ _ _ h => h) (Or.inl ⟨by rfl, fun w' hSw => by have hq := hSw; have hc := (BX.out _ _ _ hq.1.1).1; go_simp⟩) hHeld ?_
  try simp only [Act.put, List.getElem_toArray, List.getElem_cons_succ, List.getElem_cons_zero, List.setIfInBounds_toArray, List.set_cons_zero, List.set_cons_succ]
  refine wpAnyH_take (i := 3) (v := .pointer (some ⟨w.heap.size, 1, none⟩)) rfl (by kernel_rfl) (by kernel_rfl) (by kernel_rfl) (fun _ _ _ h => h) (Or.inl ⟨by rfl, fun w' hSw => by go_simp⟩) hHeld ?_
  try simp only [Act.put, List.getElem_toArray, List.getElem_cons_succ, List.getElem_cons_zero, List.setIfInBounds_toArray, List.set_cons_zero, List.set_cons_succ]
  refine wpAnyH_take (i := 4) (v := .int .i64 b.who) rfl (by kernel_rfl) (by kernel_rfl) (by kernel_rfl) (fun _ _ _ h => h) (Or.inl ⟨by rfl, fun w' hSw => by have hq := hSw; have hc := (BX.out _ _ _ hq.1.1).2.1; go_simp⟩) hHeld ?_
  try simp only [Act.put, List.getElem_toArray, List.getElem_cons_succ, List.getElem_cons_zero, List.setIfInBounds_toArray, List.set_cons_zero, List.set_cons_succ]
  refine wpAnyH_take (i := 6) (v := .pointer (some ⟨w.heap.size, 2, none⟩)) rfl (by kernel_rfl) (by kernel_rfl) (by kernel_rfl) (fun _ _ _ h => h) (Or.inl ⟨by rfl, fun w' hSw => by go_simp⟩) hHeld ?_
  try simp only [Act.put, List.getElem_toArray, List.getElem_cons_succ, List.getElem_cons_zero, List.setIfInBounds_toArray, List.set_cons_zero, List.set_cons_succ]
  refine wpAnyH_take (i := 7) (v := .int .i64 b.amount) rfl (by kernel_rfl) (by kernel_rfl) (by kernel_rfl) (fun _ _ _ h => h) (Or.inl ⟨by rfl, fun w' hSw => by have hq := hSw; have hc := (BX.out _ _ _ hq.1.1).2.2.1; go_simp⟩) hHeld ?_
  try simp only [Act.put, List.getElem_toArray, List.getElem_cons_succ, List.getElem_cons_zero, List.setIfInBounds_toArray, List.set_cons_zero, List.set_cons_succ]
  refine wpAnyH_take (i := 9) (v := .pointer (some ⟨w.heap.size, 3, none⟩)) rfl (by kernel_rfl) (by kernel_rfl) (by kernel_rfl) (fun _ _ _ h => h) (Or.inl ⟨by rfl, fun w' hSw => by go_simp⟩) hHeld ?_
  try simp only [Act.put, List.getElem_toArray, List.getElem_cons_succ, List.getElem_cons_zero, List.setIfInBounds_toArray, List.set_cons_zero, List.set_cons_succ]
  refine wpAnyH_take (i := 10) (v := .int .i64 b.salt) rfl (by kernel_rfl) (by kernel_rfl) (by kernel_rfl) (fun _ _ _ h => h) (Or.inl ⟨by rfl, fun w' hSw => by have hq := hSw; have hc := (BX.out _ _ _ hq.1.1).2.2.2; go_simp⟩) hHeld ?_
  try simp only [Act.put, List.getElem_toArray, List.getElem_cons_succ, List.getElem_cons_zero, List.setIfInBounds_toArray, List.set_cons_zero, List.set_cons_succ]
  refine wpAnyH_ready (rs := [2]) (by kernel_rfl) (by simp) (AllReadyH.cons rfl (fun K1 hK1 => ?_) AllReadyH.nil)
  try simp only [Act.put, List.getElem_toArray, List.getElem_cons_succ, List.getElem_cons_zero, List.setIfInBounds_toArray, List.set_cons_zero, List.set_cons_succ]
  go_simp
  refine Calls.mono (T0.out _) ?_
  rintro e wc1 ⟨rfl, hc2⟩
  refine hK1.out _ _ (hHeld.step hc2) (fun hHeld => ?_)
  clear hK1 K1
  try simp only [Act.put, List.getElem_toArray, List.getElem_cons_succ, List.getElem_cons_zero, List.setIfInBounds_toArray, List.set_cons_zero, List.set_cons_succ]
  refine wpAnyH_ready (rs := [5]) (by kernel_rfl) (by simp) (AllReadyH.cons rfl (fun K1 hK1 => ?_) AllReadyH.nil)
  try simp only [Act.put, List.getElem_toArray, List.getElem_cons_succ, List.getElem_cons_zero, List.setIfInBounds_toArray, List.set_cons_zero, List.set_cons_succ]
  go_simp
  refine Calls.mono (T1.out _) ?_
  rintro e wc3 ⟨rfl, hc4⟩
  refine hK1.out _ _ (hHeld.step hc4) (fun hHeld => ?_)
  clear hK1 K1
  try simp only [Act.put, List.getElem_toArray, List.getElem_cons_succ, List.getElem_cons_zero, List.setIfInBounds_toArray, List.set_cons_zero, List.set_cons_succ]
  refine wpAnyH_ready (rs := [8]) (by kernel_rfl) (by simp) (AllReadyH.cons rfl (fun K1 hK1 => ?_) AllReadyH.nil)
  try simp only [Act.put, List.getElem_toArray, List.getElem_cons_succ, List.getElem_cons_zero, List.setIfInBounds_toArray, List.set_cons_zero, List.set_cons_succ]
  go_simp
  refine Calls.mono (T2.out _) ?_
  rintro e wc5 ⟨rfl, hc6⟩
  refine hK1.out _ _ (hHeld.step hc6) (fun hHeld => ?_)
  clear hK1 K1
  try simp only [Act.put, List.getElem_toArray, List.getElem_cons_succ, List.getElem_cons_zero, List.setIfInBounds_toArray, List.set_cons_zero, List.set_cons_succ]
  refine wpAnyH_ready (rs := [11]) (by kernel_rfl) (by simp) (AllReadyH.cons rfl (fun K1 hK1 => ?_) AllReadyH.nil)
  try simp only [Act.put, List.getElem_toArray, List.getElem_cons_succ, List.getElem_cons_zero, List.setIfInBounds_toArray, List.set_cons_zero, List.set_cons_succ]
  go_simp
  refine Calls.mono (T3.out _) ?_
  rintro e wc7 ⟨rfl, hc8⟩
  refine hK1.out _ _ (hHeld.step hc8) (fun hHeld => ?_)
  clear hK1 K1
  try simp only [Act.put, List.getElem_toArray, List.getElem_cons_succ, List.getElem_cons_zero, List.setIfInBounds_toArray, List.set_cons_zero, List.set_cons_succ]
  refine wpAnyH_ready (rs := [12]) (by kernel_rfl) (by simp) (AllReadyH.cons rfl (fun K1 hK1 => ?_) AllReadyH.nil)
  try simp only [Act.put, List.getElem_toArray, List.getElem_cons_succ, List.getElem_cons_zero, List.setIfInBounds_toArray, List.set_cons_zero, List.set_cons_succ]
  go_simp
  have hd10 := (Below.refl wc7.heap.size wc7).alloc (Nat.le_refl _) (.cells #[S t0, S t1, S t2, S t3] 9)
  have r2 : Row (wc7.alloc (.cells #[S t0, S t1, S t2, S t3] 9)) wc7.heap.size 9 ([S t0, S t1, S t2, S t3]) := Row.new wc7 9 ([S t0, S t1, S t2, S t3])
  have hHeld2 := hHeld.step hd10
  generalize wc7.alloc (.cells #[S t0, S t1, S t2, S t3] 9) = wb9 at *
  obtain ⟨gb11, gb11e⟩ : ∃ gb11, gb11 = wc7.heap.size := ⟨_, rfl⟩
  rw [← gb11e] at r2 ⊢
  refine hK1.out _ _ (hHeld2) (fun hHeld => ?_)
  clear hK1 K1
  try simp only [Act.put, List.getElem_toArray, List.getElem_cons_succ, List.getElem_cons_zero, List.setIfInBounds_toArray, List.set_cons_zero, List.set_cons_succ]
  clear hHeld2 gb11e
  refine wpAnyH_ready (rs := [13]) (by kernel_rfl) (by simp) (AllReadyH.cons rfl (fun K1 hK1 => ?_) AllReadyH.nil)
  try simp only [Act.put, List.getElem_toArray, List.getElem_cons_succ, List.getElem_cons_zero, List.setIfInBounds_toArray, List.set_cons_zero, List.set_cons_succ]
  go_simp
  refine Calls.mono (LB.out _ _ r2) ?_
  rintro e wl12 ⟨rfl, hl13⟩
  clear r2
  refine hK1.out _ _ (hHeld.step hl13) (fun hHeld => ?_)
  clear hK1 K1
  try simp only [Act.put, List.getElem_toArray, List.getElem_cons_succ, List.getElem_cons_zero, List.setIfInBounds_toArray, List.set_cons_zero, List.set_cons_succ]
  refine wpAnyH_take (i := 14) (v := .tuple #[S bs, .int .i64 en]) rfl (by kernel_rfl) (by kernel_rfl) (by kernel_rfl) (fun _ _ _ h => h) (Or.inl ⟨by rfl, fun w' hSw => by go_simp⟩) hHeld ?_
  try simp only [Act.put, List.getElem_toArray, List.getElem_cons_succ, List.getElem_cons_zero, List.setIfInBounds_toArray, List.set_cons_zero, List.set_cons_succ]
  refine wpAnyH_take (i := 15) (v := S bs) rfl (by kernel_rfl) (by kernel_rfl) (by kernel_rfl) (fun _ _ _ h => h) (Or.inl ⟨by rfl, fun w' hSw => by go_simp⟩) hHeld ?_
  try simp only [Act.put, List.getElem_toArray, List.getElem_cons_succ, List.getElem_cons_zero, List.setIfInBounds_toArray, List.set_cons_zero, List.set_cons_succ]
  refine wpAnyH_take (i := 16) (v := .int .i64 en) rfl (by kernel_rfl) (by kernel_rfl) (by kernel_rfl) (fun _ _ _ h => h) (Or.inl ⟨by rfl, fun w' hSw => by go_simp⟩) hHeld ?_
  try simp only [Act.put, List.getElem_toArray, List.getElem_cons_succ, List.getElem_cons_zero, List.setIfInBounds_toArray, List.set_cons_zero, List.set_cons_succ]
  refine wpAnyH_take (i := 17) (v := S bs) rfl (by kernel_rfl) (by kernel_rfl) (by kernel_rfl) (fun _ _ _ h => h) (Or.inl ⟨by rfl, fun w' hSw => by go_simp⟩) hHeld ?_
  try simp only [Act.put, List.getElem_toArray, List.getElem_cons_succ, List.getElem_cons_zero, List.setIfInBounds_toArray, List.set_cons_zero, List.set_cons_succ]
  refine wpAnyH_take (i := 18) (v := .int .i64 en) rfl (by kernel_rfl) (by kernel_rfl) (by kernel_rfl) (fun _ _ _ h => h) (Or.inl ⟨by rfl, fun w' hSw => by go_simp⟩) hHeld ?_
  try simp only [Act.put, List.getElem_toArray, List.getElem_cons_succ, List.getElem_cons_zero, List.setIfInBounds_toArray, List.set_cons_zero, List.set_cons_succ]
  refine wpAnyH_done (by kernel_rfl) ?_ _
  have Hq4 := Lib.hid hHeld.1.1
  have Hb4 := Lib.hid hHeld.1.2
  have Hr4 := Lib.hid hHeld.2
  have c1 := (BX.out _ _ _ Hq4.out).2.1
  clear hHeld
  go_wp2_with fail
  refine (TG.out _).mono ?_
  rintro _ w5 ⟨rfl, hb5⟩
  have hg5 := grownBy_of_below hb5 none
  have Hr5 := Lib.hid (Hr4.out.kept hg5 (by simp))
  have Hq5 := Lib.hid (Hq4.out.kept hg5 (by simp))
  have Hb5 := Lib.hid (two_below' Hb4.out hb5)
  have hlt5 := Hr5.out.lt
  have hzh := hash_zv
  have HN5 := Lib.hid (Row.new w5 23 (bRow Tx.zero).toList)
  have hgA := grownBy_alloc w5 (.cells (bRow Tx.zero) 23) none
  have HrA := Lib.hid (Hr5.out.kept hgA (by simp))
  have HqA := Lib.hid (Hq5.out.kept hgA (by simp))
  have HbA := Lib.hid (below_own Hb5.out hgA (fun k hk => by cases hk))
  have HbS := Lib.hid Hb5.out.size
  clear hb5 hg5 c1 hgA
  go_wp2_with (first
    | (with_reducible show wpList _ _ _ (⟨_, .store 23 (.tmp 6) _, _, _, _, _⟩ :: _) _ _
       refine wpList_store_at rfl 23 (.tmp 6) (.tmp 34) rfl w5.heap.size 0 (bRow R).toList _ _ rfl rfl HN5.out (by have := HR32.out; have := HZ32.out; omega) (by rw [hash_info, HR32.out]) (hash_one R HR.out) ?_
       intro w6 hr6 hg6
       rw [splice_all (HR32.out.trans HZ32.out.symm)] at hr6
       have Hh6 := Lib.hid hr6
       have Hq6 := Lib.hid (HqA.out.kept hg6 (by simp; omega))
       have Hr6 := Lib.hid (HrA.out.kept hg6 (by simp; omega))
       have Hb6 := Lib.hid (below_own HbA.out hg6 (fun k hk => by cases hk; exact HbS.out))
       clear hr6 hg6)
    | (with_reducible show wpList _ _ _ (⟨_, .load 23 _, _, _, _, _⟩ :: _) _ _; refine wpList_load_tx rfl 23 (.tmp 6) rfl w5.heap.size 0 rfl (bRow R).toList _ (row_range Hh6.out) Tryd.underlying23 rfl (by rw [hash_info, HR32.out]) ?_)
    | (with_reducible show wpList _ _ _ (⟨_, .store 23 (.tmp 37) _, _, _, _, _⟩ :: _) _ _
       refine wpList_store_at rfl 23 (.tmp 37) (.tmp 36) rfl w.heap.size 4 (bRow R).toList _ _ rfl rfl Hq6.out (by rw [HR32.out, HL.out]; decide) (by rw [hash_info, HR32.out]) (hash_one R HR.out) ?_
       intro w7 hr7 hg7
       rw [Hcl.out] at hr7
       have Hq7 := Lib.hid hr7
       have Hr7 := Lib.hid (Hr6.out.kept hg7 (by simp))
       have Hb7 := Lib.hid (below_own Hb6.out hg7 (fun k hk => by cases hk; exact Nat.le_refl _))
       clear hr7 hg7)
    | (with_reducible show wpList _ _ _ (⟨_, .load 41 _, _, _, _, _⟩ :: _) _ _; refine wpList_load_tx rfl 41 (.tmp 1) rfl w.heap.size 0 rfl D _ (row_range Hq7.out) Tryd.underlying41 rfl (by rw [bid_info, HDL.out]) ?_)
    | (with_reducible show wpList _ _ _ (⟨_, .store 41 _ _, _, _, _, _⟩ :: _) _ _
       refine wpList_store_at rfl 41 (.tmp 2) (.tmp 38) rfl (w.heap.size + 1) 0 D _ _ rfl rfl Hr7.out (by have := HZL.out; have := HDL.out; omega) (by rw [bid_info, HDL.out]) HD1.out ?_
       intro w8 hr8 hg8
       rw [splice_all (HDL.out.trans HZL.out.symm)] at hr8
       have Hr8 := Lib.hid hr8
       have Hb8 := Lib.hid (below_own Hb7.out hg8 (fun k hk => by cases hk; omega))
       clear hr8 hg8))
  refine bodyPost_ret (results_rowL rfl _ _ (w.heap.size + 1) 41 _ _ rfl Hr8.out Tryd.underlying41 rfl (by rw [bid_info, List.size_toArray, HDL.out]) _ rfl) rfl ⟨rfl, Hb8.out⟩
theorem rsignBid_any (hRS : RefSum) (b : Bd) (ht : b.tag.length = 32) (w : World) :
    Calls Tryd.prog 33 #[.agg b.cells.toArray] w fun e w' => e = .returned (Bd.pairV b.signE) ∧ Below w.heap.size w w' := by
  rcases Bool.eq_false_or_eq_true b.ok with h | h
  · exact rsignBid_ok hRS b ht w h
  · exact rsignBid_no b ht w h
namespace Bd
def lits (b : Bd) : List Lit := [.int .i64 b.round, .int .i64 b.who, .int .i64 b.amount, .int .i64 b.salt] ++ Tx.hlits b.tag
theorem lits_inj {a b : Bd} (h : a.lits = b.lits) : a = b := by
  obtain ⟨a1, a2, a3, a4, a5⟩ := a
  obtain ⟨b1, b2, b3, b4, b5⟩ := b
  simp only [lits, List.cons_append, List.nil_append, List.cons.injEq, Lit.int.injEq, true_and] at h
  obtain ⟨rfl, rfl, rfl, rfl, h5⟩ := h
  rw [Tx.hlits_inj h5]
end Bd
theorem bid_lits {b : Bd} (h : b.Fits) : Tryd.prog.keyLits 3 41 b.cells = some b.lits := by
  have hc : Tryd.prog.cellsOf 41 = 36 := by kernel_rfl
  have hI : Tryd.prog.cellsOf 3 = 1 := by kernel_rfl
  have hH : Tryd.prog.cellsOf 23 = 32 := by kernel_rfl
  unfold Program.keyLits
  simp only [Tryd.underlying41]
  rw [if_pos ⟨by rw [hc, Bd.cells_len h.tag], by kernel_rfl⟩]
  have e0 : Tryd.prog.keyLits 2 3 ((b.cells.drop 0).take (Tryd.prog.cellsOf 3)) = some [.int .i64 b.round] := by rw [hI]; exact lit_int 1 h.round
  have e1 : Tryd.prog.keyLits 2 3 ((b.cells.drop 1).take (Tryd.prog.cellsOf 3)) = some [.int .i64 b.who] := by rw [hI]; exact lit_int 1 h.who
  have e2 : Tryd.prog.keyLits 2 3 ((b.cells.drop 2).take (Tryd.prog.cellsOf 3)) = some [.int .i64 b.amount] := by rw [hI]; exact lit_int 1 h.amount
  have e3 : Tryd.prog.keyLits 2 3 ((b.cells.drop 3).take (Tryd.prog.cellsOf 3)) = some [.int .i64 b.salt] := by rw [hI]; exact lit_int 1 h.salt
  have e4 : Tryd.prog.keyLits 2 23 ((b.cells.drop 4).take (Tryd.prog.cellsOf 23)) = some (Tx.hlits b.tag) := by rw [hH, Bd.cells_tag, List.take_of_length_le (by rw [Tx.bRow_len _ h.tag]; omega)]; exact hash_lits _ h.tag
  simp only [List.mapM_cons, List.mapM_nil, e0, e1, e2, e3, e4, Option.bind_eq_bind, Option.bind_some, Option.pure_def, Option.map_some]
  simp [Bd.lits]
/-- two bids: equal just where all is -/
theorem bid_eq (W : World) (a b : Bd) (ha : a.Fits) (hb : b.Fits) : ∃ r : Bool, (Op.equalIn 10000 41 (.agg a.cells.toArray) (.agg b.cells.toArray)).run Tryd.prog W = .ok r W ∧ (r = true ↔ a = b) := by
  have hk : Tryd.prog.keyTypeAt 3 41 = true := by kernel_rfl
  have hf : ∀ x : Bd, x.Fits → (Value.agg x.cells.toArray).formed Tryd.prog 41 = true := by
    intro x hx
    have hc : Tryd.prog.cellsOf 41 = 36 := by kernel_rfl
    have hs := Bd.cells_len hx.tag
    simp [Value.formed, Tryd.underlying41, hs, hc]
  obtain ⟨r, hr, hiff⟩ := run_equalIn_deep (P := Tryd.prog) 9997 3 41 hk W 3 3 (.agg a.cells.toArray) (.agg b.cells.toArray) _ _ (hf a ha) (hf b hb) (by show Tryd.prog.keyLits 3 _ a.cells.toArray.toList = _; exact bid_lits ha) (by show Tryd.prog.keyLits 3 _ b.cells.toArray.toList = _; exact bid_lits hb)
  exact ⟨r, hr, hiff.trans ⟨Bd.lits_inj, fun h => by rw [h]⟩⟩
theorem bid_eqD (W : World) (a b : Bd) (ha : a.Fits) (hb : b.Fits) {v : Bool} (h : v = true ↔ a = b) : (Op.equalIn 10000 41 (.agg a.cells.toArray) (.agg b.cells.toArray)).run Tryd.prog W = .ok v W := by
  obtain ⟨r, hr, hi⟩ := bid_eq W a b ha hb
  rw [hr]
  have : r = v := by rw [Bool.eq_iff_iff, hi, h]
  rw [this]
theorem Bd.sign_fits {b : Bd} (h : b.Fits) : b.sign.Fits := ⟨Seal.tag_len _ _ _, h.round, h.who, h.amount, h.salt⟩
theorem Bd.check_ok {b : Bd} (h : b.ok = true) (v : Bool) (hv : v = true ↔ b.sign = b) : b.check = if v = true then 0 else 21 := by
  have hk := (Bd.ok_iff b).1 h
  unfold Bd.check Seal.check2
  rw [if_pos h, tag_err0 b.who 3 b.body hk.1.1 hk.1.2 (by omega) (by omega), if_neg (by simp)]
  have e : b.sign = b ↔ (Seal.tag b.who 3 b.body).1 = b.tag := by
    constructor
    · intro h2
      have := congrArg Bd.tag h2
      exact this
    · intro h2
      unfold Bd.sign
      rw [h2]
  cases v
  · have h2 : (Seal.tag b.who 3 b.body).1 ≠ b.tag := fun h3 => by have := hv.2 (e.2 h3); cases this
    rw [if_pos h2, if_neg (by simp)]
  · rw [if_pos rfl, if_neg (by simpa using e.1 (hv.1 rfl))]
set_option maxRecDepth 20000 in
set_option maxHeartbeats 1600000 in
theorem rcheckBid_any (hRS : RefSum) (b : Bd) (hf : b.Fits) (w : World) :
    Calls Tryd.prog 36 #[.agg b.cells.toArray] w fun e w' => e = .returned (.int .i64 b.check) ∧ Below w.heap.size w w' := by
  have SB := Lib.hid (fun W => rsignBid_any hRS b hf.tag W)
  have HL := Lib.hid (Bd.cells_len hf.tag)
  have Hrow0 := Lib.hid (Row.new w 41 b.cells)
  have HZL := Lib.hid (Bd.cells_len (b := Bd.zero) rfl)
  have hzv : ∀ W : World, (zeroValue 41).run Tryd.prog W = .ok (.agg Bd.zero.cells.toArray) W := fun W => by kernel_rfl
  obtain ⟨s, hs⟩ : ∃ s : Bd, s = b.signE.1 := ⟨_, rfl⟩
  obtain ⟨n, hn⟩ : ∃ n : Int, n = b.signE.2 := ⟨_, rfl⟩
  have hp : Bd.pairV b.signE = .tuple #[.agg s.cells.toArray, .int .i64 n] := by rw [hs, hn]; rfl
  rw [hp] at SB
  have hsf : s.Fits := by
    rw [hs]
    unfold Bd.signE
    split
    · exact Bd.sign_fits hf
    · exact ⟨rfl, fits0, fits0, fits0, fits0⟩
  have HSL := Lib.hid (Bd.cells_len hsf.tag)
  have HS1 := Lib.hid (Bd.cells_one hsf.tag)
  rcases Bool.eq_false_or_eq_true b.ok with hk | hk
  · have hn0 : n = 0 := by rw [hn]; unfold Bd.signE; rw [if_pos hk]
    have hsb : s = b.sign := by rw [hs]; unfold Bd.signE; rw [if_pos hk]
    obtain ⟨v, _, hv⟩ := bid_eq w s b hsf hf
    have heq := fun W => bid_eqD W s b hsf hf hv
    have hce : b.check = if v = true then 0 else 21 := Bd.check_ok hk v (by rw [← hsb]; exact hv)
    rw [hce]
    subst hn0
    generalize b.cells = C at *
    generalize s.cells = D at *
    clear hs hn hp hsf hf hk hsb hv hce
    cases v
    all_goals
      go_enter Tryd.func36, Tryd.ntmps36
      go_wp2_with (with_reducible show wpList _ _ _ (⟨_, .load 41 _, _, _, _, _⟩ :: _) _ _; refine wpList_load_tx rfl 41 (.tmp 1) rfl w.heap.size 0 rfl C _ (row_range Hrow0.out) Tryd.underlying41 rfl (by rw [bid_info, HL.out]) ?_)
      refine (SB.out _).mono ?_
      rintro _ w1 ⟨rfl, hb1⟩
      have hg1 := grownBy_of_below hb1 none
      have hq1 := Hrow0.out.kept hg1 (by simp)
      have Hb1 := Lib.hid (tx_below hg1)
      have Hz1 := Lib.hid (Row.new w1 41 Bd.zero.cells)
      have HqA := Lib.hid (hq1.kept (grownBy_alloc w1 (.cells Bd.zero.cells.toArray 41) none) (by simp))
      have HbA := Lib.hid (below_own Hb1.out (grownBy_alloc w1 (.cells Bd.zero.cells.toArray 41) none) (fun k hk => by cases hk))
      have hne : w.heap.size ≠ w1.heap.size := by have := hq1.lt; omega
      have Hne := Lib.hid hne
      have HbS := Lib.hid Hb1.out.size
      clear hb1 hg1 hq1 hne
      go_wp2_with (first
        | (with_reducible show wpList _ _ _ (⟨_, .store 41 _ _, _, _, _, _⟩ :: _) _ _
           refine wpList_store_at rfl 41 (.tmp 3) (.tmp 8) rfl w1.heap.size 0 D _ _ rfl rfl Hz1.out (by have := HZL.out; have := HSL.out; omega) (by rw [bid_info, HSL.out]) HS1.out ?_
           intro w2 hr2 hg2
           rw [splice_all (HSL.out.trans HZL.out.symm)] at hr2
           have Hr2 := Lib.hid hr2
           have Hq2 := Lib.hid (HqA.out.kept hg2 (by simpa using Hne.out))
           have Hb2 := Lib.hid (below_own HbA.out hg2 (fun k hk => by cases hk; exact HbS.out))
           clear hr2 hg2)
        | (with_reducible show wpList _ _ _ (⟨_, .load 41 (.tmp 3), _, _, _, _⟩ :: _) _ _; refine wpList_load_tx rfl 41 (.tmp 3) rfl w1.heap.size 0 rfl D _ (row_range Hr2.out) Tryd.underlying41 rfl (by rw [bid_info, HSL.out]) ?_)
        | (with_reducible show wpList _ _ _ (⟨_, .load 41 (.tmp 1), _, _, _, _⟩ :: _) _ _; refine wpList_load_tx rfl 41 (.tmp 1) rfl w.heap.size 0 rfl C _ (row_range Hq2.out) Tryd.underlying41 rfl (by rw [bid_info, HL.out]) ?_))
      go_ret
      exact ⟨rfl, Hb2.out⟩
  · have hn0 : n = 2 := by rw [hn]; unfold Bd.signE; rw [if_neg (by rw [hk]; simp)]
    have hce : b.check = 2 := by unfold Bd.check; rw [if_neg (by rw [hk]; simp)]
    rw [hce]
    subst hn0
    generalize b.cells = C at *
    generalize s.cells = D at *
    clear hs hn hp hsf hf hk hce
    go_enter Tryd.func36, Tryd.ntmps36
    go_wp2_with (with_reducible show wpList _ _ _ (⟨_, .load 41 _, _, _, _, _⟩ :: _) _ _; refine wpList_load_tx rfl 41 (.tmp 1) rfl w.heap.size 0 rfl C _ (row_range Hrow0.out) Tryd.underlying41 rfl (by rw [bid_info, HL.out]) ?_)
    refine (SB.out _).mono ?_
    rintro _ w1 ⟨rfl, hb1⟩
    have hg1 := grownBy_of_below hb1 none
    have Hb1 := Lib.hid (tx_below hg1)
    have Hz1 := Lib.hid (Row.new w1 41 Bd.zero.cells)
    have HbA := Lib.hid (below_own Hb1.out (grownBy_alloc w1 (.cells Bd.zero.cells.toArray 41) none) (fun k hk => by cases hk))
    have HbS := Lib.hid Hb1.out.size
    clear hb1 hg1
    go_wp2_with (with_reducible show wpList _ _ _ (⟨_, .store 41 _ _, _, _, _, _⟩ :: _) _ _
                 refine wpList_store_at rfl 41 (.tmp 3) (.tmp 8) rfl w1.heap.size 0 D _ _ rfl rfl Hz1.out (by have := HZL.out; have := HSL.out; omega) (by rw [bid_info, HSL.out]) HS1.out ?_
                 intro w2 hr2 hg2
                 have Hb2 := Lib.hid (below_own HbA.out hg2 (fun k hk => by cases hk; exact HbS.out))
                 clear hr2 hg2)
    go_ret
    exact ⟨rfl, Hb2.out⟩
end Go.Proofs.YtdekcicgiflnbaaDoor
