/- The reference of layer 4 and 5: List, Number, numbers. -/
import Derived.Test.YtoicpidiejhjeaaDoorSlX
import Derived.Test.YtoicpidiejhjeaaDoorNoBlocks
import Derived.Test.YtoicpidiejhjeaaDoorNoReg
namespace Go.Proofs.YtoicpidiejhjeaaDoor
open Go.RowKit
set_option linter.unusedVariables false
set_option linter.unusedSimpArgs false

def NumIs (s : List UInt8) (x n : Int) : Prop := (n = 0 ∧ Tx.numAll s = some x) ∨ ((n != 0) = true ∧ Tx.numAll s = none)
def ListIs (s : List UInt8) (L : List (List UInt8)) (n : Int) : Prop := (n = 0 ∧ Tx.listAll s = some L) ∨ ((n != 0) = true ∧ Tx.listAll s = none ∧ L = [])
set_option maxRecDepth 20000 in
/-- a number that is all of a text -/
theorem rnumber4_any (s : ByteArray) (w : World) (hs : s.size ≤ 140737488351232) :
    Calls Tryd.prog 41 #[.string s] w fun e w' => ∃ (x n : Int), e = .returned (.tuple #[.int .i64 x, .int .i64 n]) ∧ NumIs s.data.toList x n ∧ w = w' := by
  have RN := refReadNumber_any s 0 w hs
  have hq : (s.data.toList.length : Int) = (s.size : Int) := by rw [Array.length_toList]; rfl
  unfold rdNumV three at RN
  have hN : ∀ x n : Int, ((n = 0 ∧ (if (Oct.rdNum s.data.toList 0).2.2 = 0 ∧ (Oct.rdNum s.data.toList 0).2.1 = s.data.toList.length then some (Oct.rdNum s.data.toList 0).1 else none) = some x) ∨ ((n != 0) = true ∧ (if (Oct.rdNum s.data.toList 0).2.2 = 0 ∧ (Oct.rdNum s.data.toList 0).2.1 = s.data.toList.length then some (Oct.rdNum s.data.toList 0).1 else none) = none)) → NumIs s.data.toList x n := fun x n h => h
  rcases hrd : Oct.rdNum s.data.toList 0 with ⟨x, q, n⟩
  have hok := Oct.rdNum_ok hrd
  rw [hrd, hq] at hN
  rw [hrd] at RN
  simp only at RN hN
  rw [hq] at hok
  have HRN := Lib.hid RN
  have HNm := Lib.hid hN
  clear RN hrd hq hN
  rcases hok with ⟨hn, rfl, rfl⟩ | ⟨rfl, _, _, _, _, hqs, _⟩
  · have d0 : (n == 0) = false := by simpa using hn
    have HE : Hid ((n != 0) = true) := Lib.hid (by simpa using hn)
    go_enter Tryd.func41, Tryd.ntmps41
    go_wp2_with fail
    refine HRN.out.mono ?_
    rintro _ w1 ⟨rfl, rfl⟩
    go_wp2_with fail
    go_ret2
    exact ⟨0, n, rfl, HNm.out _ _ (.inr ⟨HE.out, if_neg (fun h => hn h.1)⟩), rfl⟩
  · by_cases hlt : q < (s.size : Int)
    · have hne : q ≠ (s.size : Int) := by omega
      have HNe := Lib.hid hne
      clear hne hqs
      go_enter Tryd.func41, Tryd.ntmps41
      go_wp2_with fail
      refine HRN.out.mono ?_
      rintro _ w1 ⟨rfl, rfl⟩
      go_wp2_with fail
      go_ret2
      exact ⟨0, 6, rfl, HNm.out _ _ (.inr ⟨rfl, if_neg (fun h => HNe.out h.2)⟩), rfl⟩
    · obtain rfl : q = (s.size : Int) := by omega
      clear hlt hqs
      go_enter Tryd.func41, Tryd.ntmps41
      go_wp2_with fail
      refine HRN.out.mono ?_
      rintro _ w1 ⟨rfl, rfl⟩
      go_wp2_with fail
      go_ret2
      exact ⟨x, 0, rfl, HNm.out _ _ (.inl ⟨rfl, by simp⟩), rfl⟩
set_option maxRecDepth 20000 in
/-- a list that is all of a text -/
theorem rlist4_any (s : ByteArray) (w : World) (hs : s.size ≤ 140737488351232) :
    Calls Tryd.prog 40 #[.string s] w fun e w' => ∃ (L : List (List UInt8)) (v : Value) (n : Int), e = .returned (.tuple #[v, .int .i64 n]) ∧ TextsV w' v L ∧ ListIs s.data.toList L n ∧ Below w.heap.size w w' := by
  have RN := refReadList_any s 0 w hs
  have hq : (s.data.toList.length : Int) = (s.size : Int) := by rw [Array.length_toList]; rfl
  unfold ListEnds at RN
  have hN : ∀ (L : List (List UInt8)) (n : Int), ((n = 0 ∧ (if (Oct.rdList s.data.toList 0).2.2 = 0 ∧ (Oct.rdList s.data.toList 0).2.1 = s.data.toList.length then some (Oct.rdList s.data.toList 0).1 else none) = some L) ∨ ((n != 0) = true ∧ (if (Oct.rdList s.data.toList 0).2.2 = 0 ∧ (Oct.rdList s.data.toList 0).2.1 = s.data.toList.length then some (Oct.rdList s.data.toList 0).1 else none) = none ∧ L = [])) → ListIs s.data.toList L n := fun x n h => h
  rcases hrd : Oct.rdList s.data.toList 0 with ⟨L, q, n⟩
  have hok := Oct.rdList_ok hrd
  rw [hrd, hq] at hN
  rw [hrd] at RN
  simp only at RN hN
  rw [hq] at hok
  have HRN := Lib.hid RN
  have HNm := Lib.hid hN
  clear RN hrd hq hN
  have nilV : ∀ W : World, TextsV W (.slice none 0 0) [] := fun W => ⟨none, 0, rfl, fun h => absurd rfl h⟩
  have HNV := Lib.hid nilV
  clear nilV
  rcases hok with ⟨hn, rfl, rfl⟩ | ⟨rfl, _, _, hqs, _⟩
  · have d0 : (n == 0) = false := by simpa using hn
    have HE : Hid ((n != 0) = true) := Lib.hid (by simpa using hn)
    go_enter Tryd.func40, Tryd.ntmps40
    go_wp2_with fail
    refine HRN.out.mono ?_
    rintro _ w1 ⟨v, rfl, hT, hb⟩
    have HT := Lib.hid hT
    have HB := Lib.hid hb
    clear hT hb
    go_wp2_with fail
    go_ret2
    exact ⟨[], v, n, rfl, HT.out, HNm.out _ _ (.inr ⟨HE.out, if_neg (fun h => hn h.1), rfl⟩), HB.out⟩
  · by_cases hlt : q < (s.size : Int)
    · have hne : q ≠ (s.size : Int) := by omega
      have HNe := Lib.hid hne
      clear hne hqs
      go_enter Tryd.func40, Tryd.ntmps40
      go_wp2_with fail
      refine HRN.out.mono ?_
      rintro _ w1 ⟨v, rfl, hT, hb⟩
      have HB := Lib.hid hb
      clear hT hb
      go_wp2_with fail
      go_ret2
      exact ⟨[], _, 6, rfl, HNV.out _, HNm.out _ _ (.inr ⟨rfl, if_neg (fun h => HNe.out h.2), rfl⟩), HB.out⟩
    · obtain rfl : q = (s.size : Int) := by omega
      clear hlt hqs
      go_enter Tryd.func40, Tryd.ntmps40
      go_wp2_with fail
      refine HRN.out.mono ?_
      rintro _ w1 ⟨v, rfl, hT, hb⟩
      have HT := Lib.hid hT
      have HB := Lib.hid hb
      clear hT hb
      go_wp2_with fail
      go_ret2
      exact ⟨L, v, 0, rfl, HT.out, HNm.out _ _ (.inl ⟨rfl, by simp⟩), HB.out⟩
theorem int_info5 : (Tryd.prog.info? 3).map (fun i => (i.zero, i.size, i.bytes)) = some (some (.int .i64 0), 1, 8) := by kernel_rfl
theorem int5 : ∃ i0 : TypeInfo, Tryd.prog.info? 3 = some i0 ∧ i0.zero = some (.int .i64 0) ∧ i0.size = 1 ∧ i0.bytes = 8 := by
  obtain ⟨i0, hi, h2⟩ := Option.map_eq_some_iff.1 int_info5
  simp only [Prod.mk.injEq] at h2
  exact ⟨i0, hi, h2.1, h2.2.1, h2.2.2⟩
theorem one_int (w : World) (t : TypeId) (x : Int) : ∀ j u, [Value.int .i64 x][j]? = some u → (w.alloc (.cells #[.int .i64 x] t)).cell? ((⟨w.heap.size, 0, none⟩ : Addr).add j) = some u := by
  intro j u hj
  match j, hj with
  | 0, hj => simp at hj; subst hj; simp [Addr.add]
theorem one_intc (x : Int) : ∀ u ∈ [Value.int .i64 x], u.oneCell' = true := by
  intro u hu
  simp at hu
  subst hu
  rfl
end Go.Proofs.YtoicpidiejhjeaaDoor
