/- notes: number, account, fields. -/
/- notes: numbers. -/
/- notes: itemMayBe. -/
import Derived.Test.YtdekcicgiflnbaaDoorTxCap
namespace Go.Proofs.YtdekcicgiflnbaaDoor
open Go.RowKit
set_option linter.unusedVariables false
set_option linter.unusedSimpArgs false

theorem naccount_any (n : Int) (w : World) :
    Calls Tryd.prog 111 #[.int .i64 n] w fun e w' => e = .returned (.bool (Tx.acct n)) ∧ w = w' := by
  unfold Tx.acct
  by_cases h : 0 ≤ n
  · have hd : decide (0 ≤ n) = true := by simpa using h
    have Hd := Lib.hid hd
    by_cases h2 : n ≤ 63
    · have hd2 : decide (n ≤ 63) = true := by simpa using h2
      have h3 : n < 64 := by omega
      have Hd2 := Lib.hid hd2
      clear hd hd2
      go_enter Tryd.func111, Tryd.ntmps111
      go_wp2
      go_ret
      exact ⟨by first | rfl | (rw [Hd.out, Hd2.out]; rfl) | (rw [Hd2.out]; rfl) | (rw [Hd.out, Hd2.out]; simp [h3]), rfl⟩
    · have hd2 : decide (n ≤ 63) = false := by simpa using h2
      have h3 : ¬ n < 64 := by omega
      have Hd2 := Lib.hid hd2
      clear hd hd2
      go_enter Tryd.func111, Tryd.ntmps111
      go_wp2
      go_ret
      exact ⟨by first | rfl | (rw [Hd.out, Hd2.out]; rfl) | (rw [Hd2.out]; rfl) | (rw [Hd.out, Hd2.out]; simp [h3]), rfl⟩
  · have hd : decide (0 ≤ n) = false := by simpa using h
    have Hd := Lib.hid hd
    clear hd
    go_enter Tryd.func111, Tryd.ntmps111
    go_wp2
    go_ret
    exact ⟨by rw [Hd.out]; rfl, rfl⟩
theorem nnumber_any (n : Int) (w : World) :
    Calls Tryd.prog 112 #[.int .i64 n] w fun e w' => e = .returned (.bool (Tx.num n)) ∧ w = w' := by
  unfold Tx.num
  by_cases h : 0 ≤ n
  · have hd : decide (0 ≤ n) = true := by simpa using h
    have Hd := Lib.hid hd
    clear hd
    go_enter Tryd.func112, Tryd.ntmps112
    go_wp2
    go_ret
    exact ⟨by rw [Hd.out]; rfl, rfl⟩
  · have hd : decide (0 ≤ n) = false := by simpa using h
    have Hd := Lib.hid hd
    clear hd
    go_enter Tryd.func112, Tryd.ntmps112
    go_wp2
    go_ret
    exact ⟨by rw [Hd.out]; rfl, rfl⟩
set_option maxRecDepth 20000 in
theorem fields_any (s : ByteArray) (w : World) (hs : s.size ≤ 9223372036854775807) :
    Calls Tryd.prog 87 #[.string s] w fun e w' => (match Tx.listAll s.data.toList with
      | some L => ∃ v, e = .returned (.tuple #[v, .bool true]) ∧ Cap.TextsV w' v L
      | none => ∃ v, e = .returned (.tuple #[v, .bool false])) ∧ Below w.heap.size w w' := by
  have RL := Cap.ReadList_any s 0 w hs
  unfold Cap.ListEnds at RL
  have hq : (s.data.toList.length : Int) = (s.size : Int) := by rw [Array.length_toList]; rfl
  unfold Tx.listAll
  rw [hq]
  generalize (Oct.rdList s.data.toList 0).2.1 = q at *
  generalize (Oct.rdList s.data.toList 0).2.2 = er at *
  generalize (Oct.rdList s.data.toList 0).1 = L at *
  have HRL := Lib.hid RL
  clear hq RL
  by_cases h0 : er = 0
  · subst h0
    by_cases h1 : q = (s.size : Int)
    · rw [if_pos ⟨rfl, h1⟩]
      have d1 : (q == (s.size : Int)) = true := by simpa using h1
      have D1 := Lib.hid d1
      clear h1 d1
      go_enter Tryd.func87, Tryd.ntmps87
      go_wp2_with fail
      refine HRL.out.mono ?_
      rintro _ w1 ⟨v, rfl, hT, hb⟩
      have HTx := Lib.hid hT
      have Hb := Lib.hid hb
      clear hT hb
      have d1 := D1.out
      go_wp2_with fail
      go_ret2
      exact ⟨⟨v, by first | rfl | rw [D1.out], HTx.out⟩, Hb.out⟩
    · rw [if_neg (fun h => h1 h.2)]
      have d1 : (q == (s.size : Int)) = false := by simpa using h1
      have D1 := Lib.hid d1
      clear h1 d1
      go_enter Tryd.func87, Tryd.ntmps87
      go_wp2_with fail
      refine HRL.out.mono ?_
      rintro _ w1 ⟨v, rfl, hT, hb⟩
      have Hb := Lib.hid hb
      clear hT hb
      have d1 := D1.out
      go_wp2_with fail
      go_ret2
      exact ⟨⟨v, by first | rfl | rw [D1.out]⟩, Hb.out⟩
  · rw [if_neg (fun h => h0 h.1)]
    have d0 : (er == 0) = false := by simpa using h0
    have D0 := Lib.hid d0
    clear h0 d0
    go_enter Tryd.func87, Tryd.ntmps87
    go_wp2_with fail
    refine HRL.out.mono ?_
    rintro _ w1 ⟨v, rfl, hT, hb⟩
    have Hb := Lib.hid hb
    clear hT hb
    have d0 := D0.out
    go_wp2_with fail
    go_ret2
    exact ⟨⟨v, by first | rfl | rw [D0.out]⟩, Hb.out⟩
end Go.Proofs.YtdekcicgiflnbaaDoor
namespace Go.Proofs.YtdekcicgiflnbaaDoor
open Go.RowKit
set_option linter.unusedVariables false
set_option linter.unusedSimpArgs false

theorem row_apart {w w1 : World} {base nb n : Nat} {e t : TypeId} {size : Nat} {v : Value} {xs ys : List Value} (h : Row w nb t ys) (hlt : nb < base) (hown : w.ownsRow base e size v n xs) (hg : w.grownBy w1 v.ownBlock) : Row w1 nb t ys :=
  h.kept hg (fun hh => by have := (hown.lt nb hh.symm).1; omega)
theorem below_row {w w1 w2 : World} {base n : Nat} {e : TypeId} {size : Nat} {v : Value} {xs : List Value} (hb : Below base w w1) (hs : base ≤ w1.heap.size) (hown : w1.ownsRow base e size v n xs) (hg : w1.grownBy w2 v.ownBlock) : Below base w w2 :=
  hb.grown hg hs (fun k hk => (hown.lt k hk).1)
set_option maxRecDepth 20000 in
set_option maxHeartbeats 400000 in
theorem numbers_any (ns : List Int) (c : Nat) (hns : ∀ n ∈ ns, 0 ≤ n ∧ n ≤ 9223372036854775807) (w : World) (nb : Nat) (hN : Row w nb 3 (Is ns)) (hlen : ns.length ≤ 900) :
    Calls Tryd.prog 83 #[.slice (some ⟨nb, 0, none⟩) ns.length c] w fun e w' => ∃ v, e = .returned v ∧ w'.ownsRow w.heap.size 9 1 v ns.length ((ns.map fun n => Oct.num n.toNat).map S) ∧ Below w.heap.size w w' := by
  obtain ⟨i0, hi, h2⟩ := Option.map_eq_some_iff.1 str_info5
  simp only [Prod.mk.injEq] at h2
  obtain ⟨hz, hs, hby⟩ := h2
  have Hi := Lib.hid hi
  have Hz := Lib.hid hz
  have Hs := Lib.hid hs
  have Hby := Lib.hid hby
  have HN := Lib.hid hN
  have Hns := Lib.hid hns
  have hnb := hN.lt
  obtain ⟨m, hm⟩ : ∃ m, m = ns.length := ⟨_, rfl⟩
  rw [← hm] at hlen ⊢
  have Hm := Lib.hid hm
  clear hi hz hs hby hN hns hm
  go_enter Tryd.func83, Tryd.ntmps83
  go_wp2_with (with_reducible show wpList _ _ _ (⟨_, .makeSlice _ _ _, _, _, _, _⟩ :: _) _ _
               refine wpList_make_own w rfl _ _ 73 rfl w.heap.size 9 i0 (.string ByteArray.empty) 1 Tryd.underlying73 Hi.out Hz.out Hs.out .i64 .i64 ((m : Int) + 2) (m + 2) rfl rfl (by omega) (by rw [Hby.out]; omega) (by unfold maxLen; omega) (Nat.le_refl _) ?_
               intro w1 hown1 hg1
               have Hown1 := Lib.hid hown1
               have HN1 := Lib.hid (HN.out.kept hg1 (by simp))
               have Hb1 := Lib.hid ((Below.refl w.heap.size w).grown hg1 (Nat.le_refl _) (fun k hk => by cases hk))
               clear hown1 hg1)
  go_loopw [3, 14] (fun v i wr => ∃ k : Nat, k ≤ m ∧ i = .int .i64 k ∧ wr.ownsRow w.heap.size 9 1 v k (((ns.take k).map fun n => Oct.num n.toNat).map S) ∧ Row wr nb 3 (Is ns) ∧ Below w.heap.size w wr) (fun _ i _ => m - (intOf i).toNat)
  case atStart => exact ⟨0, Nat.zero_le _, rfl, by simpa using Hown1.out, HN1.out, Hb1.out⟩
  case round =>
    obtain ⟨k, hk, rfl, hown, hNr, hbr⟩ := hrel
    have HNr := Lib.hid hNr
    have Hbr := Lib.hid hbr
    have Hown := Lib.hid hown
    clear hNr hbr hown Hown1 HN1 Hb1 HN
    by_cases hlt : k < m
    · have hki : (k : Int) < (m : Int) := by omega
      have hkn : k < ns.length := by rw [← Hm.out]; exact hlt
      have cn := HNr.out.num k hkn
      obtain ⟨x, hx⟩ : ∃ x, x = ns.getD k 0 := ⟨_, rfl⟩
      have hxn : ns[k] = x := by rw [hx]; simp [List.getD, hkn]
      have hxb := Hns.out x (by rw [← hxn]; exact List.getElem_mem hkn)
      have htk : ((ns.take (k + 1)).map fun n => Oct.num n.toNat).map S = ((ns.take k).map fun n => Oct.num n.toNat).map S ++ [S (Oct.num x.toNat)] := by
        rw [List.take_succ_eq_append_getElem hkn, List.map_append, List.map_append, hxn]; rfl
      rw [← hx] at cn
      have Htk := Lib.hid htk
      generalize ((ns.take k).map fun n => Oct.num n.toNat).map S = K at *
      clear htk hx hxn hkn
      go_wp2_with fail
      refine (number_ok x _ hxb.1 hxb.2).mono ?_
      rintro _ w1 ⟨rfl, hb1⟩
      have hg1 := grownBy_of_below hb1 none
      have hown1 := Hown.out.kept hg1 (by cases u3.ownBlock <;> simp)
      have hN1 := HNr.out.kept hg1 (by simp)
      have hb1' := two_below' Hbr.out hb1
      have hown2 := hown1.alloc (.cells #[S (Oct.num x.toNat)] 9)
      have hN2 := hN1.kept (grownBy_alloc w1 (.cells #[S (Oct.num x.toNat)] 9) none) (by simp)
      have hb2 : Below w.heap.size w (w1.alloc (.cells #[S (Oct.num x.toNat)] 9)) := hb1'.alloc hb1'.size _
      have hsz2 : w.heap.size ≤ (w1.alloc (.cells #[S (Oct.num x.toNat)] 9)).heap.size := hb2.size
      have hk63 : k + 1 ≤ maxLen := by unfold maxLen; omega
      have hk48 : ((k + 1) + (k + 1) / 4 + 192) * 16 ≤ 281474976710656 := by omega
      have Hown2 := Lib.hid hown2
      have HN2 := Lib.hid hN2
      have Hb2 := Lib.hid hb2
      clear hb1 hg1 hown1 hN1 hb1' hown2 hN2 hb2 Hown HNr Hbr cn
      go_wp2_with (at_builtin; refine wpList_append_own_wide _ rfl (.tmp 23) (.tmp 25) 73 rfl w.heap.size 9 i0 (.string ByteArray.empty) 1 16 Tryd.underlying73 Hi.out Hz.out Hs.out Hby.out rfl (by decide) _ _ _ rfl Hown2.out ⟨w1.heap.size, 0, none⟩ 1 1 [S (Oct.num x.toNat)] rfl rfl (one_text _ _ _) (one_textc _) hk63 hk48 hsz2 ?_
                   intro v' w3 hown3 hgrow3 _
                   obtain ⟨g, cap, rfl⟩ := ownsRow_succ hown3
                   have HN3 := Lib.hid (row_apart HN2.out hnb Hown2.out hgrow3)
                   have Hb3 := Lib.hid (below_row Hb2.out hsz2 Hown2.out hgrow3)
                   have Hown3 := Lib.hid hown3
                   clear hown3 hgrow3)
      refine ⟨⟨k + 1, hlt, by go_num, by rw [Htk.out]; exact Hown3.out, HN3.out, Hb3.out⟩, by simp [intOf]; omega⟩
    · have hki : (m : Int) ≤ (k : Int) := by omega
      have ekm : k = m := by omega
      subst ekm
      have hown := Hown.out
      rw [List.take_of_length_le (by rw [← Hm.out]; omega)] at hown
      have Hown' := Lib.hid hown
      clear hown
      go_wp2_with fail
      go_ret
      exact ⟨_, rfl, Hown'.out, Hbr.out⟩
end Go.Proofs.YtdekcicgiflnbaaDoor
namespace Go.Proofs.YtdekcicgiflnbaaDoor
open Go.RowKit
set_option linter.unusedVariables false
set_option linter.unusedSimpArgs false

def Item.v (kd who n : Int) (s : ByteArray) : Value := .agg #[.int .i64 kd, .int .i64 who, .int .i64 n, .string s]
theorem item_a10 (kd who n : Int) (s : ByteArray) (w : World) (k1 : (kd == 1) = true) (b0 : ¬ 0 ≤ who) : Calls Tryd.prog 85 #[.agg #[.int .i64 kd, .int .i64 who, .int .i64 n, .string s]] w fun e w' => e = .returned (.bool false) ∧ Below w.heap.size w w' := by
  go_enter Tryd.func85, Tryd.ntmps85
  go_wp2_with fail
  go_ret
  exact ⟨by first | rfl | (simp; done) | (simp; omega), (Below.refl w.heap.size w).alloc (Nat.le_refl _) _⟩
theorem item_a11 (kd who n : Int) (s : ByteArray) (w : World) (k1 : (kd == 1) = true) (b0 : 0 ≤ who) (b1 : ¬ who ≤ 64) : Calls Tryd.prog 85 #[.agg #[.int .i64 kd, .int .i64 who, .int .i64 n, .string s]] w fun e w' => e = .returned (.bool false) ∧ Below w.heap.size w w' := by
  go_enter Tryd.func85, Tryd.ntmps85
  go_wp2_with fail
  go_ret
  exact ⟨by first | rfl | (simp; done) | (simp; omega), (Below.refl w.heap.size w).alloc (Nat.le_refl _) _⟩
theorem item_a12 (kd who n : Int) (s : ByteArray) (w : World) (k1 : (kd == 1) = true) (b0 : 0 ≤ who) (b1 : who ≤ 64) (n0 : (n == 0) = false) : Calls Tryd.prog 85 #[.agg #[.int .i64 kd, .int .i64 who, .int .i64 n, .string s]] w fun e w' => e = .returned (.bool false) ∧ Below w.heap.size w w' := by
  go_enter Tryd.func85, Tryd.ntmps85
  go_wp2_with fail
  go_ret
  exact ⟨by first | rfl | (simp; done) | (simp; omega), (Below.refl w.heap.size w).alloc (Nat.le_refl _) _⟩
theorem item_a13 (kd who n : Int) (s : ByteArray) (w : World) (k1 : (kd == 1) = true) (b0 : 0 ≤ who) (b1 : who ≤ 64) (n0 : (n == 0) = true) (t0 : ¬ (s.size : Int) ≤ 65472) : Calls Tryd.prog 85 #[.agg #[.int .i64 kd, .int .i64 who, .int .i64 n, .string s]] w fun e w' => e = .returned (.bool false) ∧ Below w.heap.size w w' := by
  go_enter Tryd.func85, Tryd.ntmps85
  go_wp2_with fail
  go_ret
  exact ⟨by first | rfl | (simp; done) | (simp; omega), (Below.refl w.heap.size w).alloc (Nat.le_refl _) _⟩
theorem item_a14 (kd who n : Int) (s : ByteArray) (w : World) (k1 : (kd == 1) = true) (b0 : 0 ≤ who) (b1 : who ≤ 64) (n0 : (n == 0) = true) (t0 : (s.size : Int) ≤ 65472) : Calls Tryd.prog 85 #[.agg #[.int .i64 kd, .int .i64 who, .int .i64 n, .string s]] w fun e w' => e = .returned (.bool true) ∧ Below w.heap.size w w' := by
  go_enter Tryd.func85, Tryd.ntmps85
  go_wp2_with fail
  go_ret
  exact ⟨by first | rfl | (simp; done) | (simp; omega), (Below.refl w.heap.size w).alloc (Nat.le_refl _) _⟩
theorem item_a30 (kd who n : Int) (s : ByteArray) (w : World) (k1 : (kd == 1) = false) (k3 : (kd == 3) = true) (b0 : ¬ 0 ≤ who) : Calls Tryd.prog 85 #[.agg #[.int .i64 kd, .int .i64 who, .int .i64 n, .string s]] w fun e w' => e = .returned (.bool false) ∧ Below w.heap.size w w' := by
  go_enter Tryd.func85, Tryd.ntmps85
  go_wp2_with fail
  go_ret
  exact ⟨by first | rfl | (simp; done) | (simp; omega), (Below.refl w.heap.size w).alloc (Nat.le_refl _) _⟩
theorem item_a31 (kd who n : Int) (s : ByteArray) (w : World) (k1 : (kd == 1) = false) (k3 : (kd == 3) = true) (b0 : 0 ≤ who) (b1 : ¬ who ≤ 64) : Calls Tryd.prog 85 #[.agg #[.int .i64 kd, .int .i64 who, .int .i64 n, .string s]] w fun e w' => e = .returned (.bool false) ∧ Below w.heap.size w w' := by
  go_enter Tryd.func85, Tryd.ntmps85
  go_wp2_with fail
  go_ret
  exact ⟨by first | rfl | (simp; done) | (simp; omega), (Below.refl w.heap.size w).alloc (Nat.le_refl _) _⟩
theorem item_a32 (kd who n : Int) (s : ByteArray) (w : World) (k1 : (kd == 1) = false) (k3 : (kd == 3) = true) (b0 : 0 ≤ who) (b1 : who ≤ 64) (n0 : (n == 0) = false) : Calls Tryd.prog 85 #[.agg #[.int .i64 kd, .int .i64 who, .int .i64 n, .string s]] w fun e w' => e = .returned (.bool false) ∧ Below w.heap.size w w' := by
  go_enter Tryd.func85, Tryd.ntmps85
  go_wp2_with fail
  go_ret
  exact ⟨by first | rfl | (simp; done) | (simp; omega), (Below.refl w.heap.size w).alloc (Nat.le_refl _) _⟩
theorem item_a33 (kd who n : Int) (s : ByteArray) (w : World) (k1 : (kd == 1) = false) (k3 : (kd == 3) = true) (b0 : 0 ≤ who) (b1 : who ≤ 64) (n0 : (n == 0) = true) (t0 : ¬ (s.size : Int) ≤ 65472) : Calls Tryd.prog 85 #[.agg #[.int .i64 kd, .int .i64 who, .int .i64 n, .string s]] w fun e w' => e = .returned (.bool false) ∧ Below w.heap.size w w' := by
  go_enter Tryd.func85, Tryd.ntmps85
  go_wp2_with fail
  go_ret
  exact ⟨by first | rfl | (simp; done) | (simp; omega), (Below.refl w.heap.size w).alloc (Nat.le_refl _) _⟩
theorem item_a34 (kd who n : Int) (s : ByteArray) (w : World) (k1 : (kd == 1) = false) (k3 : (kd == 3) = true) (b0 : 0 ≤ who) (b1 : who ≤ 64) (n0 : (n == 0) = true) (t0 : (s.size : Int) ≤ 65472) : Calls Tryd.prog 85 #[.agg #[.int .i64 kd, .int .i64 who, .int .i64 n, .string s]] w fun e w' => e = .returned (.bool true) ∧ Below w.heap.size w w' := by
  go_enter Tryd.func85, Tryd.ntmps85
  go_wp2_with fail
  go_ret
  exact ⟨by first | rfl | (simp; done) | (simp; omega), (Below.refl w.heap.size w).alloc (Nat.le_refl _) _⟩
theorem item_d (kd who n : Int) (s : ByteArray) (w : World) (k1 : (kd == 1) = false) (k3 : (kd == 3) = false) (k2 : (kd == 2) = false) : Calls Tryd.prog 85 #[.agg #[.int .i64 kd, .int .i64 who, .int .i64 n, .string s]] w fun e w' => e = .returned (.bool false) ∧ Below w.heap.size w w' := by
  go_enter Tryd.func85, Tryd.ntmps85
  go_wp2_with fail
  go_ret
  exact ⟨by first | rfl | (simp; done), (Below.refl w.heap.size w).alloc (Nat.le_refl _) _⟩
theorem item_c0 (kd who n : Int) (s : ByteArray) (w : World) (k1 : (kd == 1) = false) (k3 : (kd == 3) = false) (k2 : (kd == 2) = true) (b0 : (who == 0) = false) : Calls Tryd.prog 85 #[.agg #[.int .i64 kd, .int .i64 who, .int .i64 n, .string s]] w fun e w' => e = .returned (.bool false) ∧ Below w.heap.size w w' := by
  go_enter Tryd.func85, Tryd.ntmps85
  go_wp2_with fail
  go_ret
  exact ⟨by first | rfl | (simp; done), (Below.refl w.heap.size w).alloc (Nat.le_refl _) _⟩
theorem item_c1 (kd who n : Int) (s : ByteArray) (w : World) (k1 : (kd == 1) = false) (k3 : (kd == 3) = false) (k2 : (kd == 2) = true) (b0 : (who == 0) = true) (nn : Tx.num n = false) : Calls Tryd.prog 85 #[.agg #[.int .i64 kd, .int .i64 who, .int .i64 n, .string s]] w fun e w' => e = .returned (.bool false) ∧ Below w.heap.size w w' := by
  have NN := fun W => nnumber_any n W
  rw [nn] at NN
  clear nn
  go_enter Tryd.func85, Tryd.ntmps85
  go_wp2_with fail
  refine (NN _).mono ?_
  rintro _ w1 ⟨rfl, rfl⟩
  go_wp2_with fail
  go_ret
  exact ⟨by first | rfl | (simp; done), (Below.refl w.heap.size w).alloc (Nat.le_refl _) _⟩
theorem item_c2 (kd who n : Int) (s : ByteArray) (w : World) (k1 : (kd == 1) = false) (k3 : (kd == 3) = false) (k2 : (kd == 2) = true) (b0 : (who == 0) = true) (nn : Tx.num n = true) : Calls Tryd.prog 85 #[.agg #[.int .i64 kd, .int .i64 who, .int .i64 n, .string s]] w fun e w' => e = .returned (.bool s.toList.isEmpty) ∧ Below w.heap.size w w' := by
  have NN := fun W => nnumber_any n W
  rw [nn] at NN
  clear nn
  go_enter Tryd.func85, Tryd.ntmps85
  go_wp2_with fail
  refine (NN _).mono ?_
  rintro _ w1 ⟨rfl, rfl⟩
  go_wp2_with fail
  go_ret
  exact ⟨by first | rfl | (simp; done), (Below.refl w.heap.size w).alloc (Nat.le_refl _) _⟩
/-- which items there may be -/
def Item.ok (kd who n : Int) (s : ByteArray) : Bool :=
  if (kd == 1) = true ∨ (kd == 3) = true then decide (0 ≤ who ∧ who ≤ 64 ∧ (n == 0) = true ∧ (s.size : Int) ≤ 65472)
  else if (kd == 2) = true ∧ (who == 0) = true ∧ Tx.num n = true then s.toList.isEmpty else false
theorem itemMayBe_any (kd who n : Int) (s : ByteArray) (w : World) : Calls Tryd.prog 85 #[.agg #[.int .i64 kd, .int .i64 who, .int .i64 n, .string s]] w fun e w' => e = .returned (.bool (Item.ok kd who n s)) ∧ Below w.heap.size w w' := by
  unfold Item.ok
  rcases Bool.eq_false_or_eq_true (kd == 1) with k1 | k1
  · rw [if_pos (.inl k1)]
    by_cases b0 : 0 ≤ who
    · by_cases b1 : who ≤ 64
      · rcases Bool.eq_false_or_eq_true (n == 0) with n0 | n0
        · by_cases t0 : (s.size : Int) ≤ 65472
          · rw [decide_eq_true ⟨b0, b1, n0, t0⟩]; exact item_a14 kd who n s w k1 b0 b1 n0 t0
          · rw [decide_eq_false (fun h => t0 h.2.2.2)]; exact item_a13 kd who n s w k1 b0 b1 n0 t0
        · rw [decide_eq_false (fun h => by rw [n0] at h; exact absurd h.2.2.1 (by simp))]; exact item_a12 kd who n s w k1 b0 b1 n0
      · rw [decide_eq_false (fun h => b1 h.2.1)]; exact item_a11 kd who n s w k1 b0 b1
    · rw [decide_eq_false (fun h => b0 h.1)]; exact item_a10 kd who n s w k1 b0
  rcases Bool.eq_false_or_eq_true (kd == 3) with k3 | k3
  · rw [if_pos (.inr k3)]
    by_cases b0 : 0 ≤ who
    · by_cases b1 : who ≤ 64
      · rcases Bool.eq_false_or_eq_true (n == 0) with n0 | n0
        · by_cases t0 : (s.size : Int) ≤ 65472
          · rw [decide_eq_true ⟨b0, b1, n0, t0⟩]; exact item_a34 kd who n s w k1 k3 b0 b1 n0 t0
          · rw [decide_eq_false (fun h => t0 h.2.2.2)]; exact item_a33 kd who n s w k1 k3 b0 b1 n0 t0
        · rw [decide_eq_false (fun h => by rw [n0] at h; exact absurd h.2.2.1 (by simp))]; exact item_a32 kd who n s w k1 k3 b0 b1 n0
      · rw [decide_eq_false (fun h => b1 h.2.1)]; exact item_a31 kd who n s w k1 k3 b0 b1
    · rw [decide_eq_false (fun h => b0 h.1)]; exact item_a30 kd who n s w k1 k3 b0
  rw [if_neg (by simp [k1, k3])]
  rcases Bool.eq_false_or_eq_true (kd == 2) with k2 | k2
  · rcases Bool.eq_false_or_eq_true (who == 0) with b0 | b0
    · rcases Bool.eq_false_or_eq_true (Tx.num n) with nn | nn
      · rw [if_pos ⟨k2, b0, nn⟩]; exact item_c2 kd who n s w k1 k3 k2 b0 nn
      · rw [if_neg (by simp [nn])]; exact item_c1 kd who n s w k1 k3 k2 b0 nn
    · rw [if_neg (by simp [b0])]; exact item_c0 kd who n s w k1 k3 k2 b0
  · rw [if_neg (by simp [k2])]; exact item_d kd who n s w k1 k3 k2
end Go.Proofs.YtdekcicgiflnbaaDoor
