/- notes: number, account, fields. -/
import Derived.Test.YtdekcicgiflnbaaDoorTxCap
namespace Go.Proofs.YtdekcicgiflnbaaDoor
open Go.RowKit
set_option linter.unusedVariables false
set_option linter.unusedSimpArgs false

theorem naccount_any (n : Int) (w : World) :
    Calls Tryd.prog 111 #[.int .i64 n] w fun e w' => e = .returned (.bool (Tx.acct n)) ∧ w = w' := by
  unfold Tx.acct
  by_cases h : 0 ≤ n
  · have hd : decide (0 ≤ n) = true := by simpa using h
    have Hd := Lib.hid hd
    by_cases h2 : n ≤ 63
    · have hd2 : decide (n ≤ 63) = true := by simpa using h2
      have h3 : n < 64 := by omega
      have Hd2 := Lib.hid hd2
      clear hd hd2
      go_enter Tryd.func111, Tryd.ntmps111
      go_wp2
      go_ret
      exact ⟨by first | rfl | (rw [Hd.out, Hd2.out]; rfl) | (rw [Hd2.out]; rfl) | (rw [Hd.out, Hd2.out]; simp [h3]), rfl⟩
    · have hd2 : decide (n ≤ 63) = false := by simpa using h2
      have h3 : ¬ n < 64 := by omega
      have Hd2 := Lib.hid hd2
      clear hd hd2
      go_enter Tryd.func111, Tryd.ntmps111
      go_wp2
      go_ret
      exact ⟨by first | rfl | (rw [Hd.out, Hd2.out]; rfl) | (rw [Hd2.out]; rfl) | (rw [Hd.out, Hd2.out]; simp [h3]), rfl⟩
  · have hd : decide (0 ≤ n) = false := by simpa using h
    have Hd := Lib.hid hd
    clear hd
    go_enter Tryd.func111, Tryd.ntmps111
    go_wp2
    go_ret
    exact ⟨by rw [Hd.out]; rfl, rfl⟩
theorem nnumber_any (n : Int) (w : World) :
    Calls Tryd.prog 112 #[.int .i64 n] w fun e w' => e = .returned (.bool (Tx.num n)) ∧ w = w' := by
  unfold Tx.num
  by_cases h : 0 ≤ n
  · have hd : decide (0 ≤ n) = true := by simpa using h
    have Hd := Lib.hid hd
    clear hd
    go_enter Tryd.func112, Tryd.ntmps112
    go_wp2
    go_ret
    exact ⟨by rw [Hd.out]; rfl, rfl⟩
  · have hd : decide (0 ≤ n) = false := by simpa using h
    have Hd := Lib.hid hd
    clear hd
    go_enter Tryd.func112, Tryd.ntmps112
    go_wp2
    go_ret
    exact ⟨by rw [Hd.out]; rfl, rfl⟩
set_option maxRecDepth 20000 in
theorem fields_any (s : ByteArray) (w : World) (hs : s.size ≤ 9223372036854775807) :
    Calls Tryd.prog 87 #[.string s] w fun e w' => (match Tx.listAll s.data.toList with
      | some L => ∃ v, e = .returned (.tuple #[v, .bool true]) ∧ Cap.TextsV w' v L
      | none => ∃ v, e = .returned (.tuple #[v, .bool false])) ∧ Below w.heap.size w w' := by
  have RL := Cap.ReadList_any s 0 w hs
  unfold Cap.ListEnds at RL
  have hq : (s.data.toList.length : Int) = (s.size : Int) := by rw [Array.length_toList]; rfl
  unfold Tx.listAll
  rw [hq]
  generalize (Oct.rdList s.data.toList 0).2.1 = q at *
  generalize (Oct.rdList s.data.toList 0).2.2 = er at *
  generalize (Oct.rdList s.data.toList 0).1 = L at *
  have HRL := Lib.hid RL
  clear hq RL
  by_cases h0 : er = 0
  · subst h0
    by_cases h1 : q = (s.size : Int)
    · rw [if_pos ⟨rfl, h1⟩]
      have d1 : (q == (s.size : Int)) = true := by simpa using h1
      have D1 := Lib.hid d1
      clear h1 d1
      go_enter Tryd.func87, Tryd.ntmps87
      go_wp2_with fail
      refine HRL.out.mono ?_
      rintro _ w1 ⟨v, rfl, hT, hb⟩
      have HTx := Lib.hid hT
      have Hb := Lib.hid hb
      clear hT hb
      have d1 := D1.out
      go_wp2_with fail
      go_ret2
      exact ⟨⟨v, by first | rfl | rw [D1.out], HTx.out⟩, Hb.out⟩
    · rw [if_neg (fun h => h1 h.2)]
      have d1 : (q == (s.size : Int)) = false := by simpa using h1
      have D1 := Lib.hid d1
      clear h1 d1
      go_enter Tryd.func87, Tryd.ntmps87
      go_wp2_with fail
      refine HRL.out.mono ?_
      rintro _ w1 ⟨v, rfl, hT, hb⟩
      have Hb := Lib.hid hb
      clear hT hb
      have d1 := D1.out
      go_wp2_with fail
      go_ret2
      exact ⟨⟨v, by first | rfl | rw [D1.out]⟩, Hb.out⟩
  · rw [if_neg (fun h => h0 h.1)]
    have d0 : (er == 0) = false := by simpa using h0
    have D0 := Lib.hid d0
    clear h0 d0
    go_enter Tryd.func87, Tryd.ntmps87
    go_wp2_with fail
    refine HRL.out.mono ?_
    rintro _ w1 ⟨v, rfl, hT, hb⟩
    have Hb := Lib.hid hb
    clear hT hb
    have d0 := D0.out
    go_wp2_with fail
    go_ret2
    exact ⟨⟨v, by first | rfl | rw [D0.out]⟩, Hb.out⟩
end Go.Proofs.YtdekcicgiflnbaaDoor
