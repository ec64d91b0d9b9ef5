/- Layer 14's law BankSums: what it returns. -/
import Derived.Test.YtfkejndiobafeaaBankCases
namespace Go.Proofs.Ytfkejndiobafeaa
open Go.RowKit
set_option linter.unusedVariables false
set_option linter.unusedSimpArgs false

set_option maxRecDepth 20000 in
set_option maxHeartbeats 1600000 in
theorem bankSums_any (v : Value) (l : List BAct) (w : World) (hl : ActsV w v l) (hlen : l.length ≤ 9223372036854775807) :
    Calls Try.prog 4 #[v] w fun e w' => e = .returned (.bool true) ∧ Below w.heap.size w w' := by
  obtain ⟨A, c, rfl, hL⟩ := hl
  have HL := Lib.hid hL
  clear hL
  go_enter Try.func4, Try.ntmps4
  go_wp2_with fail
  refine (bankNew_any _).mono ?_
  rintro e w1 ⟨rfl, hB1, hg1⟩
  have hb1 : Below w.heap.size w w1 := below_of_grown0 (Below.refl w.heap.size w) hg1 (Nat.le_refl _)
  have HB1 := Lib.hid hB1
  have Hb1 := Lib.hid hb1
  clear hB1 hg1 hb1
  go_wp2_with fail
  refine (awake14_any _).mono ?_
  rintro e w2 ⟨rfl, hb2⟩
  have hB2 := HB1.out.kept (grownBy_of_below hb2 none) (by simp)
  have hb2' := Hb1.out.trans (hb2.mono Hb1.out.size)
  have HB2 := Lib.hid hB2
  have Hb2 := Lib.hid hb2'
  clear hB2 hb2 hb2'
  go_wp2_with fail
  go_loopw [4, 5] (fun s i wr => ∃ k : Nat, k ≤ l.length ∧ k ≤ 200 ∧ i = .int .i64 k ∧ s = .int .i64 (Bank.sum (acts (l.take k))) ∧ BankAt wr w.heap.size (acts (l.take k)) ∧ Below w.heap.size w wr) (fun _ i _ => 200 - (intOf i).toNat)
  case atStart => exact ⟨0, Nat.zero_le _, Nat.zero_le _, rfl, rfl, HB2.out, Hb2.out⟩
  case round =>
    obtain ⟨k, hk, hk2, rfl, rfl, hB, hb⟩ := hrel
    have hok := hB.2
    have hsum := Bank.sum_ok hok
    have HB := Lib.hid hB
    have Hb := Lib.hid hb
    clear hB hb
    by_cases hlt : k < l.length ∧ k < 200
    · obtain ⟨hlt, hlt2⟩ := hlt
      have hki : (k : Int) < (l.length : Int) := by omega
      have hki2 : (k : Int) < 200 := by omega
      have hne : l ≠ [] := by intro e; rw [e] at hlt; simp at hlt
      obtain ⟨b, off, rfl, hblt, hc⟩ := HL.out hne
      obtain ⟨c0, c1, c2, c3⟩ := hc k hlt
      have hac := Bank.act_cases (acts (l.take k)) l[k] hok
      have has := acts_succ l k hlt
      obtain ⟨y, hy⟩ : ∃ y, y = l[k] := ⟨_, rfl⟩
      rw [← hy] at c0 c1 c2 c3 hac has
      obtain ⟨yk, ya, yb, yn⟩ := y
      have d0 := (Hb.out.cell (p := ⟨b, off + k * 4, none⟩) hblt).trans c0
      have d1 := (Hb.out.cell (p := ⟨b, off + k * 4 + 1, none⟩) hblt).trans c1
      have d2 := (Hb.out.cell (p := ⟨b, off + k * 4 + 2, none⟩) hblt).trans c2
      have d3 := (Hb.out.cell (p := ⟨b, off + k * 4 + 3, none⟩) hblt).trans c3
      have D0 := Lib.hid d0
      have D3 := Lib.hid d3
      clear hc hne hok hy c0 c1 c2 c3
      generalize acts (l.take k) = L at *
      have Has := Lib.hid has
      clear has
      rcases hac with ⟨L1, e1, hs, -⟩ | ⟨e, he, e1⟩
      · have E1 := Lib.hid e1
        have h1 := act_ok (x := ⟨yk, ya, yb, yn⟩) HB.out.2
        rw [e1] at h1
        have hs1 := Bank.sum_ok h1
        unfold Bank.delta at hs
        simp only at hs
        have Hs := Lib.hid hs
        clear e1 h1 hs
        go_wp2_with fail
        refine (do_any ⟨yk, ya, yb, yn⟩ _ _ _ HB.out).mono ?_
        rintro _ w3 ⟨rfl, hB3, hg3⟩
        rw [E1.out] at hB3 ⊢
        have hbw : b ≠ w.heap.size := by omega
        have hbr : b < wr.heap.size := Nat.lt_of_lt_of_le hblt Hb.out.size
        have hb3 := below_of_grown Hb.out hg3 (Nat.le_refl _) Hb.out.size
        have d0 := (World.cell?_of_block (a := ⟨b, off + k * 4, none⟩) (hg3.block b hbr (by simpa using hbw))).trans D0.out
        have d3 := (World.cell?_of_block (a := ⟨b, off + k * 4 + 3, none⟩) (hg3.block b hbr (by simpa using hbw))).trans D3.out
        have HB3 := Lib.hid hB3
        have Hb3 := Lib.hid hb3
        clear hB3 hg3 hb3
        by_cases h0 : yk = 0
        · subst h0
          have hsn : Bank.sum L1 = Bank.sum L + yn := by have := Hs.out; rw [if_pos (.inl rfl)] at this; exact this
          have Hsn := Lib.hid hsn
          have hb1 : 0 ≤ Bank.sum L + yn := by omega
          have hb2 : Bank.sum L + yn ≤ 70368744177664 := by omega
          clear hsn
          go_wp2_with fail
          refine ⟨⟨k + 1, hlt, hlt2, by go_num, by rw [Has.out, E1.out, Hsn.out], by rw [Has.out, E1.out]; exact HB3.out, Hb3.out⟩, by simp [intOf]; omega⟩
        · by_cases h1 : yk = 1
          · subst h1
            have hsn : Bank.sum L1 = Bank.sum L + yn := by have := Hs.out; rw [if_pos (.inr rfl)] at this; exact this
            have Hsn := Lib.hid hsn
            have hb1 : 0 ≤ Bank.sum L + yn := by omega
            have hb2 : Bank.sum L + yn ≤ 70368744177664 := by omega
            clear hsn h0
            go_wp2_with fail
            refine ⟨⟨k + 1, hlt, hlt2, by go_num, by rw [Has.out, E1.out, Hsn.out], by rw [Has.out, E1.out]; exact HB3.out, Hb3.out⟩, by simp [intOf]; omega⟩
          · have hk0 : (yk == 0) = false := by simpa using h0
            have hk1 : (yk == 1) = false := by simpa using h1
            by_cases h2 : yk = 2
            · subst h2
              have hsn : Bank.sum L1 = Bank.sum L - yn := by have := Hs.out; rw [if_neg (by decide), if_pos rfl] at this; omega
              have Hsn := Lib.hid hsn
              have hb1 : 0 ≤ Bank.sum L - yn := by omega
              have hb2 : Bank.sum L - yn ≤ 70368744177664 := by omega
              clear hsn h0 h1
              go_wp2_with fail
              refine ⟨⟨k + 1, hlt, hlt2, by go_num, by rw [Has.out, E1.out, Hsn.out], by rw [Has.out, E1.out]; exact HB3.out, Hb3.out⟩, by simp [intOf]; omega⟩
            · have hk2' : (yk == 2) = false := by simpa using h2
              have hsn : Bank.sum L1 = Bank.sum L := by have := Hs.out; rw [if_neg (by rintro (h | h) <;> contradiction), if_neg h2] at this; omega
              have Hsn := Lib.hid hsn
              clear hsn h0 h1 h2
              go_wp2_with fail
              refine ⟨⟨k + 1, hlt, hlt2, by go_num, by rw [Has.out, E1.out, Hsn.out], by rw [Has.out, E1.out]; exact HB3.out, Hb3.out⟩, by simp [intOf]; omega⟩
      · have E1 := Lib.hid e1
        have he' : (e == 0) = false := by simpa using he
        clear e1 he
        go_wp2_with fail
        refine (do_any ⟨yk, ya, yb, yn⟩ _ _ _ HB.out).mono ?_
        rintro _ w3 ⟨rfl, hB3, hg3⟩
        rw [E1.out] at hB3 ⊢
        have hb3 := below_of_grown Hb.out hg3 (Nat.le_refl _) Hb.out.size
        have HB3 := Lib.hid hB3
        have Hb3 := Lib.hid hb3
        clear hB3 hg3 hb3
        go_wp2_with fail
        refine ⟨⟨k + 1, hlt, hlt2, by go_num, by rw [Has.out, E1.out], by rw [Has.out, E1.out]; exact HB3.out, Hb3.out⟩, by simp [intOf]; omega⟩
    · have hsel : ((k : Int) < (l.length : Int) ∧ decide (k < l.length) = true ∧ decide ((k : Int) < 200) = false) ∨ ((l.length : Int) ≤ (k : Int) ∧ decide (k < l.length) = false ∧ True) := by
        by_cases h : k < l.length
        · exact .inl ⟨by omega, by simp only [decide_eq_true_eq]; omega, by simp only [decide_eq_false_iff_not]; omega⟩
        · exact .inr ⟨by omega, by simp only [decide_eq_false_iff_not]; omega, trivial⟩
      generalize acts (l.take k) = L at *
      have hlen64 := hok.1
      have Hok := Lib.hid hok
      have Hlen64 := Lib.hid hlen64
      clear hok hlen64 hlt
      rcases hsel with ⟨hd0, hd1, hd2⟩ | ⟨hd0, hd1, hd2⟩
      all_goals
        go_wp2_with fail
        refine (bankAll_any _ _ _ HB.out).mono ?_
        rintro _ w3 ⟨rfl, hS, hg⟩
        have hB3 := HB.out.kept hg (by simp)
        have hb3 := below_of_grown0 Hb.out hg Hb.out.size
        generalize wr.heap.size = S0 at *
        have HB3 := Lib.hid hB3
        have HS := Lib.hid hS
        have Hb3 := Lib.hid hb3
        clear hS hg hB3 hb3
        go_wp2_with fail
        generalize w3 = wo at *
        go_loopw [7, 8] (fun s i wr => ∃ k : Nat, k ≤ 64 ∧ i = .int .i64 k ∧ s = .int .i64 (Bank.sum (L.take k)) ∧ ∃ n, wr = wo.drewN n) (fun _ i _ => 64 - (intOf i).toNat)
        case atStart => exact ⟨0, Nat.zero_le _, rfl, rfl, 0, rfl⟩
        case round =>
          obtain ⟨q, hq, rfl, rfl, n, hw⟩ := hrel
          have hBr : BankAt wr w.heap.size L := by rw [hw]; exact HB3.out.kept (grownBy_drewN _ _ none) (by simp)
          have hSr : Row wr S0 3 (Is L) := by rw [hw]; exact HS.out.kept (grownBy_drewN _ _ none) (by simp)
          have hbr : Below w.heap.size w wr := by rw [hw]; exact below_drewN' Hb3.out _
          have HBr := Lib.hid hBr
          have Hw := Lib.hid hw
          have Hbr := Lib.hid hbr
          clear hBr hw hbr
          by_cases hql : q < 64
          · have hqi : (q : Int) < 64 := by omega
            have hcell := hSr.num q (by rw [Hlen64.out]; exact hql)
            have hbd := Bank.sum_bound Hok.out q hq
            have hx := Hok.out.2 q hql
            have hs := Bank.sum_take_succ L q (by rw [Hlen64.out]; exact hql)
            have ho : ofV L (q : Int) = L.getD q 0 := by
              unfold ofV
              rw [if_pos (Bank.okW_iff.2 (by omega))]; rfl
            generalize L.getD q 0 = x at *
            generalize Bank.sum (L.take q) = sm at *
            have Ho := Lib.hid ho
            have Hs2 := Lib.hid hs
            have hsm : sm ≤ 70368744177664 := by omega
            have hd : decide (x < 0) = false := by simp only [decide_eq_false_iff_not]; omega
            have hof : ∀ n, Calls Try.prog 17 #[.pointer (some ⟨w.heap.size, 0, none⟩), .int .i64 (q : Int)] (wr.drewN n) fun e w' => e = .returned (.int .i64 x) ∧ wr.drewN n = w' := fun n => by
              have := bankOf_any (q : Int) (wr.drewN n) w.heap.size L (HBr.out.kept (grownBy_drewN _ _ none) (by simp))
              rw [Ho.out] at this
              exact this
            have Hof := Lib.hid hof
            clear ho hs hSr hof
            go_wp2_with fail
            go_quiet ((with_reducible exact quiet_eq (Hof.out _)))
            obtain ⟨w5, hw5⟩ : ∃ w5, w5 = wr.drewN nq := ⟨_, rfl⟩
            rw [← hw5]
            have hcell := (show w5.cell? ⟨S0, q, none⟩ = some (.int .i64 x) from by rw [hw5]; exact hcell)
            have Hw5 := Lib.hid hw5
            clear hw5
            go_wp2_with fail
            refine ⟨⟨q + 1, hql, by go_num, by rw [Hs2.out], n + nq, ?_⟩, by simp [intOf]; omega⟩
            rw [Hw5.out, Hw.out]
            exact World.drewN_drewN _ _ _
          · obtain rfl : q = 64 := by omega
            have htk : L.take 64 = L := List.take_of_length_le (by rw [Hlen64.out]; omega)
            rw [htk]
            clear hSr htk
            go_wp2_with fail
            refine (bankTotal_any _ _ _ HBr.out).mono ?_
            rintro _ w6 ⟨rfl, rfl⟩
            go_wp2_with fail
            go_ret
            exact ⟨rfl, Hbr.out⟩
end Go.Proofs.Ytfkejndiobafeaa
