/- notes: batchMayBe. -/
/- notes: WriteBatch. -/
import Derived.Test.YtdekcicgiflnbaaDoorNoB
import Derived.Test.YtdekcicgiflnbaaDoorNoA
namespace Go.Proofs.YtdekcicgiflnbaaDoor
open Go.RowKit
set_option linter.unusedVariables false
set_option linter.unusedSimpArgs false

/-- parts in memory -/
def PartsAt (w : World) (B : Nat) (A : Option Addr) (P : List Pt) : Prop :=
  P ≠ [] → ∃ b off, A = some ⟨b, off, none⟩ ∧ b < B ∧ ∀ i (h : i < P.length), w.cell? ⟨b, off + i * 2, none⟩ = some (.bool (P[i]).1) ∧ w.cell? ⟨b, off + i * 2 + 1, none⟩ = some (S (P[i]).2)
theorem PartsAt.below {w w' : World} {B : Nat} {A : Option Addr} {P : List Pt} (h : PartsAt w B A P) (hb : Below B w w') : PartsAt w' B A P := fun hne => by
  obtain ⟨b, off, h1, h2, h3⟩ := h hne
  exact ⟨b, off, h1, h2, fun i hi => ⟨(hb.cell (p := ⟨b, off + i * 2, none⟩) h2).trans (h3 i hi).1, (hb.cell (p := ⟨b, off + i * 2 + 1, none⟩) h2).trans (h3 i hi).2⟩⟩
theorem PartsAt.grown {w w' : World} {B : Nat} {A : Option Addr} {P : List Pt} {r : Option Nat} (h : PartsAt w B A P) (hg : w.grownBy w' r) (hr : ∀ k, r = some k → B ≤ k) : PartsAt w' B A P := fun hne => by
  obtain ⟨b, off, h1, h2, h3⟩ := h hne
  have hne : some b ≠ r := fun e => by have := hr b e.symm; omega
  exact ⟨b, off, h1, h2, fun i hi => ⟨hg.cell (h3 i hi).1 hne, hg.cell (h3 i hi).2 hne⟩⟩
theorem PartsAt.mono {w : World} {B B' : Nat} {A : Option Addr} {P : List Pt} (h : PartsAt w B A P) (hB : B ≤ B') : PartsAt w B' A P := fun hne => by
  obtain ⟨b, off, h1, h2, h3⟩ := h hne
  exact ⟨b, off, h1, by omega, h3⟩
theorem part_info : (Tryd.prog.info? 98).map (·.size) = some 2 := by kernel_rfl
/-- a batch's cells -/
def Bt.cells (b : Bt) (A : Option Addr) (cap : Nat) : List Value := [.int .i64 b.seq, .int .i64 b.first, .int .i64 b.before, .slice A b.parts.length cap]
theorem pt_ok_iff (d : Bool) (t : No.T8) : Pt.ok (d, t) = (decide (t.length ≤ 656) && !(d && !t.isEmpty)) := rfl
set_option maxRecDepth 20000 in
theorem batchMayBe_0 (b : Bt) (A : Option Addr) (cap : Nat) (w : World) (h0 : Tx.num b.seq = false) :
    Calls Tryd.prog 82 #[.agg (b.cells A cap).toArray] w fun e w' => e = .returned (.bool false) ∧ Below w.heap.size w w' := by
  unfold Bt.cells
  have N0 : Hid (∀ W, Calls Tryd.prog 112 #[.int .i64 b.seq] W fun e w' => e = .returned (.bool false) ∧ W = w') := fun W => by have := nnumber_any b.seq W; rw [h0] at this; exact this
  clear h0
  go_enter Tryd.func82, Tryd.ntmps82
  go_wp2_with fail
  refine (N0.out _).mono ?_
  rintro _ w1 ⟨rfl, rfl⟩
  go_wp2_with fail
  go_ret
  exact ⟨rfl, (Below.refl w.heap.size w).alloc (Nat.le_refl _) _⟩
set_option maxRecDepth 20000 in
theorem batchMayBe_1 (b : Bt) (A : Option Addr) (cap : Nat) (w : World) (h0 : Tx.num b.seq = true) (h1 : Tx.num b.first = false) :
    Calls Tryd.prog 82 #[.agg (b.cells A cap).toArray] w fun e w' => e = .returned (.bool false) ∧ Below w.heap.size w w' := by
  unfold Bt.cells
  have N0 : Hid (∀ W, Calls Tryd.prog 112 #[.int .i64 b.seq] W fun e w' => e = .returned (.bool true) ∧ W = w') := fun W => by have := nnumber_any b.seq W; rw [h0] at this; exact this
  have N1 : Hid (∀ W, Calls Tryd.prog 112 #[.int .i64 b.first] W fun e w' => e = .returned (.bool false) ∧ W = w') := fun W => by have := nnumber_any b.first W; rw [h1] at this; exact this
  clear h0 h1
  go_enter Tryd.func82, Tryd.ntmps82
  go_wp2_with fail
  refine (N0.out _).mono ?_
  rintro _ w1 ⟨rfl, rfl⟩
  go_wp2_with fail
  refine (N1.out _).mono ?_
  rintro _ w1 ⟨rfl, rfl⟩
  go_wp2_with fail
  go_ret
  exact ⟨rfl, (Below.refl w.heap.size w).alloc (Nat.le_refl _) _⟩
set_option maxRecDepth 20000 in
theorem batchMayBe_2 (b : Bt) (A : Option Addr) (cap : Nat) (w : World) (h0 : Tx.num b.seq = true) (h1 : Tx.num b.first = true) (h2 : Tx.num b.before = false) :
    Calls Tryd.prog 82 #[.agg (b.cells A cap).toArray] w fun e w' => e = .returned (.bool false) ∧ Below w.heap.size w w' := by
  unfold Bt.cells
  have N0 : Hid (∀ W, Calls Tryd.prog 112 #[.int .i64 b.seq] W fun e w' => e = .returned (.bool true) ∧ W = w') := fun W => by have := nnumber_any b.seq W; rw [h0] at this; exact this
  have N1 : Hid (∀ W, Calls Tryd.prog 112 #[.int .i64 b.first] W fun e w' => e = .returned (.bool true) ∧ W = w') := fun W => by have := nnumber_any b.first W; rw [h1] at this; exact this
  have N2 : Hid (∀ W, Calls Tryd.prog 112 #[.int .i64 b.before] W fun e w' => e = .returned (.bool false) ∧ W = w') := fun W => by have := nnumber_any b.before W; rw [h2] at this; exact this
  clear h0 h1 h2
  go_enter Tryd.func82, Tryd.ntmps82
  go_wp2_with fail
  refine (N0.out _).mono ?_
  rintro _ w1 ⟨rfl, rfl⟩
  go_wp2_with fail
  refine (N1.out _).mono ?_
  rintro _ w1 ⟨rfl, rfl⟩
  go_wp2_with fail
  refine (N2.out _).mono ?_
  rintro _ w1 ⟨rfl, rfl⟩
  go_wp2_with fail
  go_ret
  exact ⟨rfl, (Below.refl w.heap.size w).alloc (Nat.le_refl _) _⟩
set_option maxRecDepth 20000 in
set_option maxHeartbeats 1600000 in
theorem batchMayBe_3 (b : Bt) (A : Option Addr) (cap : Nat) (w : World) (h0 : Tx.num b.seq = true) (h1 : Tx.num b.first = true) (h2 : Tx.num b.before = true) (hP : PartsAt w w.heap.size A b.parts) :
    Calls Tryd.prog 82 #[.agg (b.cells A cap).toArray] w fun e w' => e = .returned (.bool (decide (b.parts.length ≤ 512) && b.parts.all Pt.ok)) ∧ Below w.heap.size w w' := by
  unfold Bt.cells
  have N0 : Hid (∀ W, Calls Tryd.prog 112 #[.int .i64 b.seq] W fun e w' => e = .returned (.bool true) ∧ W = w') := fun W => by have := nnumber_any b.seq W; rw [h0] at this; exact this
  have N1 : Hid (∀ W, Calls Tryd.prog 112 #[.int .i64 b.first] W fun e w' => e = .returned (.bool true) ∧ W = w') := fun W => by have := nnumber_any b.first W; rw [h1] at this; exact this
  have N2 : Hid (∀ W, Calls Tryd.prog 112 #[.int .i64 b.before] W fun e w' => e = .returned (.bool true) ∧ W = w') := fun W => by have := nnumber_any b.before W; rw [h2] at this; exact this
  generalize b.parts = P at *
  obtain ⟨n, hn⟩ : ∃ n, n = P.length := ⟨_, rfl⟩
  obtain ⟨F, hF⟩ : ∃ F, F = (decide (P.length ≤ 512) && P.all Pt.ok) := ⟨_, rfl⟩
  rw [← hF, ← hn]
  have HN := Lib.hid hn
  have HF := Lib.hid hF
  have HP := Lib.hid hP
  clear h0 h1 h2 hn hF hP
  by_cases hm : n ≤ 512
  · have hmi : ¬ ((512 : Int) < (n : Int)) := by omega
    have Hb0 := Lib.hid ((Below.refl w.heap.size w).alloc (Nat.le_refl _) (.cells #[.int .i64 b.seq, .int .i64 b.first, .int .i64 b.before, .slice A n cap] 55))
    go_enter Tryd.func82, Tryd.ntmps82
    go_wp2_with fail
    refine (N0.out _).mono ?_
    rintro _ w1 ⟨rfl, rfl⟩
    go_wp2_with fail
    refine (N1.out _).mono ?_
    rintro _ w1 ⟨rfl, rfl⟩
    go_wp2_with fail
    refine (N2.out _).mono ?_
    rintro _ w1 ⟨rfl, rfl⟩
    go_wp2_with fail
    go_loopw [30] (fun i wr => ∃ k : Nat, k ≤ n ∧ i = .int .i64 k ∧ (∀ j (h : j < P.length), j < k → Pt.ok P[j] = true) ∧ Below w.heap.size w wr) (fun i _ => n - (intOf i).toNat)
    case atStart => exact ⟨0, Nat.zero_le _, rfl, fun j h h1 => by omega, Hb0.out⟩
    case round =>
      obtain ⟨k, hk, rfl, hall, hbr⟩ := hrel
      have Hall := Lib.hid hall
      have Hbr := Lib.hid hbr
      clear hall hbr Hb0
      by_cases hkn : k < n
      · have hki : (k : Int) < (n : Int) := by omega
        have hkl : k < P.length := by rw [← HN.out]; exact hkn
        obtain ⟨bb, off, rfl, hbb, hc⟩ := (HP.out.below Hbr.out) (by intro e; rw [e] at hkl; simp at hkl)
        obtain ⟨c0, c1⟩ := hc k hkl
        obtain ⟨d, t, hdt⟩ : ∃ d t, P[k] = (d, t) := ⟨_, _, rfl⟩
        rw [hdt] at c0 c1
        simp only at c0 c1
        have Hdt := Lib.hid hdt
        have hok := pt_ok_iff d t
        have Hba := Lib.hid (Hbr.out.alloc Hbr.out.size (.cells #[.bool d, S t] 98))
        clear hc hdt
        by_cases ht : t.length ≤ 656
        · have hti : ¬ ((656 : Int) < (t.length : Int)) := by omega
          rw [decide_eq_true ht, Bool.true_and] at hok
          rcases Bool.eq_false_or_eq_true d with hd | hd
          · subst hd
            rcases Bool.eq_false_or_eq_true t.isEmpty with hte | hte
            · obtain rfl : t = [] := List.isEmpty_iff.1 hte
              have hall2 : ∀ j (h : j < P.length), j < k + 1 → Pt.ok P[j] = true := fun j h hj => by
                by_cases e : j = k
                · subst e; rw [Hdt.out, hok]; rfl
                · exact Hall.out j h (by omega)
              have Hall2 := Lib.hid hall2
              clear hall2 hok hte
              go_wp2_with fail
              refine ⟨⟨k + 1, hkn, by go_num, Hall2.out, Hba.out⟩, by simp [intOf]; omega⟩
            · have hFf : F = false := by
                rw [HF.out, Bool.and_eq_false_iff]
                refine .inr ?_
                rw [List.all_eq_false]
                exact ⟨P[k], List.getElem_mem _, by rw [Hdt.out, hok, hte]; simp⟩
              have HFf := Lib.hid hFf
              clear hFf hok
              go_wp2_with fail
              go_ret
              exact ⟨by rw [HFf.out]; rfl, Hba.out⟩
          · subst hd
            have hall2 : ∀ j (h : j < P.length), j < k + 1 → Pt.ok P[j] = true := fun j h hj => by
              by_cases e : j = k
              · subst e; rw [Hdt.out, hok]; rfl
              · exact Hall.out j h (by omega)
            have Hall2 := Lib.hid hall2
            clear hall2 hok
            go_wp2_with fail
            refine ⟨⟨k + 1, hkn, by go_num, Hall2.out, Hba.out⟩, by simp [intOf]; omega⟩
        · have hti : ((656 : Int) < (t.length : Int)) := by omega
          have hFf : F = false := by
            rw [HF.out, Bool.and_eq_false_iff]
            refine .inr ?_
            rw [List.all_eq_false]
            exact ⟨P[k], List.getElem_mem _, by rw [Hdt.out, hok, decide_eq_false ht]; simp⟩
          have HFf := Lib.hid hFf
          clear hFf hok
          go_wp2_with fail
          go_ret
          exact ⟨by rw [HFf.out]; rfl, Hba.out⟩
      · have hki : (n : Int) ≤ (k : Int) := by omega
        obtain rfl : k = n := by omega
        have hFt : F = true := by
          rw [HF.out, ← HN.out, decide_eq_true hm, Bool.true_and, List.all_eq_true]
          intro x hx
          obtain ⟨j, hj, rfl⟩ := List.mem_iff_getElem.1 hx
          exact Hall.out j hj (by rw [HN.out]; exact hj)
        have HFt := Lib.hid hFt
        clear hFt
        go_wp2_with fail
        go_ret
        exact ⟨by rw [HFt.out]; rfl, Hbr.out⟩
  · have hmi : ((512 : Int) < (n : Int)) := by omega
    have hFf : F = false := by rw [HF.out, ← HN.out, decide_eq_false hm]; rfl
    have HFf := Lib.hid hFf
    clear hFf
    go_enter Tryd.func82, Tryd.ntmps82
    go_wp2_with fail
    refine (N0.out _).mono ?_
    rintro _ w1 ⟨rfl, rfl⟩
    go_wp2_with fail
    refine (N1.out _).mono ?_
    rintro _ w1 ⟨rfl, rfl⟩
    go_wp2_with fail
    refine (N2.out _).mono ?_
    rintro _ w1 ⟨rfl, rfl⟩
    go_wp2_with fail
    go_ret
    exact ⟨by rw [HFf.out]; rfl, (Below.refl w.heap.size w).alloc (Nat.le_refl _) _⟩
end Go.Proofs.YtdekcicgiflnbaaDoor
namespace Go.Proofs.YtdekcicgiflnbaaDoor
open Go.RowKit
set_option linter.unusedVariables false
set_option linter.unusedSimpArgs false

theorem batchMayBe_any (b : Bt) (A : Option Addr) (cap : Nat) (w : World) (hP : PartsAt w w.heap.size A b.parts) :
    Calls Tryd.prog 82 #[.agg (b.cells A cap).toArray] w fun e w' => e = .returned (.bool b.ok) ∧ Below w.heap.size w w' := by
  unfold Bt.ok
  rcases Bool.eq_false_or_eq_true (Tx.num b.seq) with h0 | h0
  · rcases Bool.eq_false_or_eq_true (Tx.num b.first) with h1 | h1
    · rcases Bool.eq_false_or_eq_true (Tx.num b.before) with h2 | h2
      · rw [h0, h1, h2]; exact batchMayBe_3 b A cap w h0 h1 h2 hP
      · rw [h0, h1, h2]; exact batchMayBe_2 b A cap w h0 h1 h2
    · rw [h0, h1]; exact batchMayBe_1 b A cap w h0 h1
  · rw [h0]; exact batchMayBe_0 b A cap w h0
theorem batch_info : (Tryd.prog.info? 55).map (·.size) = some 4 := by kernel_rfl
theorem Bt.cells_len (b : Bt) (A : Option Addr) (cap : Nat) : (b.cells A cap).length = 4 := rfl
theorem Bt.cells_one (b : Bt) (A : Option Addr) (cap : Nat) : ∀ v ∈ b.cells A cap, v.oneCell' = true := by
  intro v hv
  simp [Bt.cells] at hv
  rcases hv with rfl | rfl | rfl | rfl <;> rfl
theorem cat_one (t : List UInt8) : (⟨#[1]⟩ ++ ⟨t.toArray⟩ : ByteArray) = ⟨(1 :: t).toArray⟩ := by
  have h : ∀ a b : ByteArray, a.data = b.data → a = b := fun a b h => by cases a; cases b; simp only at h; rw [h]
  apply h
  rw [ByteArray.data_append]
  simp
set_option maxRecDepth 20000 in
theorem writeBatch_no (b : Bt) (A : Option Addr) (cap : Nat) (w : World) (hP : PartsAt w w.heap.size A b.parts) (h : b.ok = false) :
    Calls Tryd.prog 41 #[.agg (b.cells A cap).toArray] w fun e w' => e = .returned (.tuple #[S [], .int .i64 2]) ∧ Below w.heap.size w w' := by
  have MB := batchMayBe_any b A cap (w.alloc (.cells (b.cells A cap).toArray 55)) ((hP.grown (grownBy_alloc w _ none) (fun k hk => by cases hk)).mono (by simp))
  rw [h] at MB
  have HMB := Lib.hid MB
  have Hrow0 := Lib.hid (Row.new w 55 (b.cells A cap))
  have HL := Lib.hid (b.cells_len A cap)
  generalize b.cells A cap = C at *
  clear h MB hP
  go_enter Tryd.func41, Tryd.ntmps41
  go_wp2_with (with_reducible show wpList _ _ _ (⟨_, .load 55 _, _, _, _, _⟩ :: _) _ _; refine wpList_load_tx rfl 55 (.tmp 1) rfl w.heap.size 0 rfl C _ (row_range Hrow0.out) Tryd.underlying55 rfl (by rw [batch_info, HL.out]) ?_)
  refine HMB.out.mono ?_
  rintro _ w1 ⟨rfl, hb1⟩
  have Hb1 := Lib.hid (tx_below (grownBy_of_below hb1 none))
  clear hb1
  go_wp2_with fail
  go_ret2
  exact ⟨rfl, Hb1.out⟩
set_option maxRecDepth 20000 in
set_option maxHeartbeats 1600000 in
theorem writeBatch_ok (b : Bt) (A : Option Addr) (cap : Nat) (w : World) (hP : PartsAt w w.heap.size A b.parts) (h : b.ok = true) :
    Calls Tryd.prog 41 #[.agg (b.cells A cap).toArray] w fun e w' => e = .returned (.tuple #[S (Oct.listE b.fields).1, .int .i64 (Oct.listE b.fields).2]) ∧ Below w.heap.size w w' := by
  obtain ⟨i0, hi, hz, hs, hby⟩ := str5
  have Hi := Lib.hid hi
  have Hz := Lib.hid hz
  have Hs := Lib.hid hs
  have Hby := Lib.hid hby
  have MB := batchMayBe_any b A cap (w.alloc (.cells (b.cells A cap).toArray 55)) ((hP.grown (grownBy_alloc w _ none) (fun k hk => by cases hk)).mono (by simp))
  rw [h] at MB
  have HMB := Lib.hid MB
  have hB := Bt.ok_nums h
  have hn5 := ((Bt.ok_iff b).1 h).2.1
  have hall := ((Bt.ok_iff b).1 h).2.2
  have NB : Hid (∀ (W : World) (nb : Nat), Row W nb 3 (Is b.numsL) → Calls Tryd.prog 83 #[.slice (some ⟨nb, 0, none⟩) 3 3] W fun e w' => ∃ v, e = .returned v ∧ w'.ownsRow W.heap.size 9 1 v 3 ((b.numsL.map fun x => Oct.num x.toNat).map S) ∧ Below W.heap.size W w') := fun W nb hN =>
    numbers_any b.numsL 3 hB W nb hN (by simp [Bt.numsL])
  have hff : b.fields.map S = (b.numsL.map fun x => Oct.num x.toNat).map S ++ (b.parts.map Pt.lay).map S := by unfold Bt.fields; rw [List.map_append]
  have hfl : b.fields.length = 3 + b.parts.length := by unfold Bt.fields; rw [List.length_append, List.length_map, List.length_map]; rfl
  have hnl : Is b.numsL = [.int .i64 b.seq, .int .i64 b.first, .int .i64 b.before] := rfl
  have Hnl := Lib.hid hnl
  have hrow0 := Row.new w 55 (b.cells A cap)
  have HL := Lib.hid (b.cells_len A cap)
  have hC : b.cells A cap = [.int .i64 b.seq, .int .i64 b.first, .int .i64 b.before, .slice A b.parts.length cap] := rfl
  have HC := Lib.hid hC
  have Hff := Lib.hid hff
  have Hfl := Lib.hid hfl
  have Hrow0 := Lib.hid hrow0
  have HP := Lib.hid hP
  have Hall := Lib.hid hall
  generalize b.fields = L at *
  generalize (b.numsL.map fun x => Oct.num x.toNat).map S = NS at *
  generalize b.numsL = NL at *
  generalize b.cells A cap = C at *
  generalize b.parts = P at *
  obtain ⟨n, hn⟩ : ∃ n, n = P.length := ⟨_, rfl⟩
  rw [← hn] at hn5 HC Hfl
  have HN := Lib.hid hn
  clear hi hz hs hby h MB hP hB hall hff hfl hnl hrow0 hC hn
  go_enter Tryd.func41, Tryd.ntmps41
  go_wp2_with (with_reducible show wpList _ _ _ (⟨_, .load 55 _, _, _, _, _⟩ :: _) _ _; refine wpList_load_tx rfl 55 (.tmp 1) rfl w.heap.size 0 rfl C _ (row_range Hrow0.out) Tryd.underlying55 rfl (by rw [batch_info, HL.out]) ?_)
  refine HMB.out.mono ?_
  rintro _ w1 ⟨rfl, hb1⟩
  have hg1 := grownBy_of_below hb1 none
  have hr1 := Hrow0.out.kept hg1 (by simp)
  have Hb1 := Lib.hid (tx_below hg1)
  rw [HC.out] at hr1
  have c0 := hr1.cell 0 (by simp)
  have c1 := hr1.cell 1 (by simp)
  have c2 := hr1.cell 2 (by simp)
  simp only [List.getElem_cons_zero, List.getElem_cons_succ] at c0 c1 c2
  have Hr1 := Lib.hid hr1
  clear hb1 hg1 hr1
  go_wp2_with fail
  refine calls_named ?_
  intro w2 hw2
  have hr2 : Row w2 w1.heap.size 3 (Is NL) := by rw [hw2, Hnl.out]; exact Row.new w1 3 _
  have hb2 : Below w1.heap.size w1 w2 := by rw [hw2]; exact (Below.refl _ _).alloc (Nat.le_refl _) _
  clear hw2 c0 c1 c2
  refine (NB.out w2 _ hr2).mono ?_
  rintro _ w3 ⟨v, rfl, hown, hb3⟩
  have hb23 := hb2.trans (hb3.mono hb2.size)
  have hb13 := two_below' Hb1.out hb23
  have hr3 := Hr1.out.kept (grownBy_of_below hb23 none) (by simp)
  have c3 := hr3.cell 3 (by simp)
  simp only [List.getElem_cons_zero, List.getElem_cons_succ] at c3
  have Hb3 := Lib.hid hb13
  have Hown := Lib.hid (hown.mono (Nat.le_trans Hb1.out.size hb2.size))
  clear hr2 hb2 hown hb3 hb23 hb13 hr3
  go_wp2_with fail
  go_loopw [4, 21] (fun v i wr => ∃ k : Nat, k ≤ n ∧ i = .int .i64 k ∧ wr.ownsRow w.heap.size 9 1 v (3 + k) (NS ++ ((P.take k).map Pt.lay).map S) ∧ Below w.heap.size w wr) (fun _ i _ => n - (intOf i).toNat)
  case atStart => exact ⟨0, Nat.zero_le _, rfl, by simpa using Hown.out, Hb3.out⟩
  case round =>
    obtain ⟨k, hk, rfl, hown, hbr⟩ := hrel
    clear Hown Hb3 c3
    have Hown := Lib.hid hown
    have Hbr := Lib.hid hbr
    clear hown hbr
    by_cases hkn : k < n
    · have hki : (k : Int) < (n : Int) := by omega
      have hkl : k < P.length := by rw [← HN.out]; exact hkn
      obtain ⟨bb, off, rfl, hbb, hc⟩ := (HP.out.below Hbr.out) (by intro e; rw [e] at hkl; simp at hkl)
      obtain ⟨c0, c1⟩ := hc k hkl
      obtain ⟨d, t, hdt⟩ : ∃ d t, P[k] = (d, t) := ⟨_, _, rfl⟩
      have htk : NS ++ ((P.take (k + 1)).map Pt.lay).map S = (NS ++ ((P.take k).map Pt.lay).map S) ++ [S (Pt.lay (d, t))] := by
        rw [List.take_succ_eq_append_getElem hkl, List.map_append, List.map_append, hdt, ← List.append_assoc]; rfl
      have htok : Pt.ok (d, t) = true := by rw [← hdt]; exact List.all_eq_true.1 Hall.out _ (List.getElem_mem _)
      rw [hdt] at c0 c1
      simp only at c0 c1
      have hti : t.length ≤ 656 := by rw [pt_ok_iff] at htok; simp at htok; exact htok.1
      have Htk := Lib.hid htk
      generalize NS ++ ((P.take k).map Pt.lay).map S = KS at *
      clear hc hdt htk htok
      rcases Bool.eq_false_or_eq_true d with hd | hd
      · subst hd
        have hown2 := (Hown.out.alloc (.cells #[.bool true, S t] 98)).alloc (.cells #[S [2]] 9)
        have hb2 : Below w.heap.size w ((wr.alloc (.cells #[.bool true, S t] 98)).alloc (.cells #[S [2]] 9)) := (Hbr.out.alloc Hbr.out.size _).alloc (Nat.le_trans Hbr.out.size (by simp)) _
        have hsz2 : w.heap.size ≤ ((wr.alloc (.cells #[.bool true, S t] 98)).alloc (.cells #[S [2]] 9)).heap.size := hb2.size
        have hone := one_text (wr.alloc (.cells #[.bool true, S t] 98)) 9 [2]
        rw [show (wr.alloc (.cells #[.bool true, S t] 98)).heap.size = wr.heap.size + 1 by simp] at hone
        have hk63 : (3 + k) + 1 ≤ maxLen := by unfold maxLen; omega
        have hk48 : (((3 + k) + 1) + ((3 + k) + 1) / 4 + 192) * 16 ≤ 281474976710656 := by omega
        have Hown2 := Lib.hid hown2
        have Hb2 := Lib.hid hb2
        have Hone := Lib.hid hone
        have Htk2 := Lib.hid (Htk.out.trans (by rw [show Pt.lay (true, t) = [2] from rfl] : _ = KS ++ [S [2]]))
        clear hown2 hb2 hone hti
        go_wp2_with (at_builtin; refine wpList_append_own_wide _ rfl (.tmp 27) (.tmp 28) 73 rfl w.heap.size 9 i0 (.string ByteArray.empty) 1 16 Tryd.underlying73 Hi.out Hz.out Hs.out Hby.out rfl (by decide) _ _ _ rfl Hown2.out ⟨wr.heap.size + 1, 0, none⟩ 1 1 [S [2]] rfl rfl Hone.out (one_textc _) hk63 hk48 hsz2 ?_
                     intro v' w3 hown3 hgrow3 _
                     obtain ⟨g, cp, rfl⟩ := ownsRow_succ hown3
                     have Hb3 := Lib.hid (below_row Hb2.out hsz2 Hown2.out hgrow3)
                     have Hown3 := Lib.hid hown3
                     clear hown3 hgrow3)
        refine ⟨⟨k + 1, hkn, by go_num, by rw [Htk2.out]; exact Hown3.out, Hb3.out⟩, by simp [intOf]; omega⟩
      · subst hd
        have hbig : ¬ (9223372036854775807 < 1 + t.length) := by omega
        have hcat := cat_one t
        have hown2 := (Hown.out.alloc (.cells #[.bool false, S t] 98)).alloc (.cells #[S (1 :: t)] 9)
        have hb2 : Below w.heap.size w ((wr.alloc (.cells #[.bool false, S t] 98)).alloc (.cells #[S (1 :: t)] 9)) := (Hbr.out.alloc Hbr.out.size _).alloc (Nat.le_trans Hbr.out.size (by simp)) _
        have hsz2 : w.heap.size ≤ ((wr.alloc (.cells #[.bool false, S t] 98)).alloc (.cells #[S (1 :: t)] 9)).heap.size := hb2.size
        have hone := one_text (wr.alloc (.cells #[.bool false, S t] 98)) 9 (1 :: t)
        rw [show (wr.alloc (.cells #[.bool false, S t] 98)).heap.size = wr.heap.size + 1 by simp] at hone
        have hk63 : (3 + k) + 1 ≤ maxLen := by unfold maxLen; omega
        have hk48 : (((3 + k) + 1) + ((3 + k) + 1) / 4 + 192) * 16 ≤ 281474976710656 := by omega
        have Hown2 := Lib.hid hown2
        have Hb2 := Lib.hid hb2
        have Hone := Lib.hid hone
        have Htk2 := Lib.hid (Htk.out.trans (by rw [show Pt.lay (false, t) = (1 :: t) from rfl] : _ = KS ++ [S (1 :: t)]))
        clear hown2 hb2 hone hti
        go_wp2_with (at_builtin; refine wpList_append_own_wide _ rfl (.tmp 30) (.tmp 34) 73 rfl w.heap.size 9 i0 (.string ByteArray.empty) 1 16 Tryd.underlying73 Hi.out Hz.out Hs.out Hby.out rfl (by decide) _ _ _ rfl Hown2.out ⟨wr.heap.size + 1, 0, none⟩ 1 1 [S (1 :: t)] rfl rfl Hone.out (one_textc _) hk63 hk48 hsz2 ?_
                     intro v' w3 hown3 hgrow3 _
                     obtain ⟨g, cp, rfl⟩ := ownsRow_succ hown3
                     have Hb3 := Lib.hid (below_row Hb2.out hsz2 Hown2.out hgrow3)
                     have Hown3 := Lib.hid hown3
                     clear hown3 hgrow3)
        refine ⟨⟨k + 1, hkn, by go_num, by rw [Htk2.out]; exact Hown3.out, Hb3.out⟩, by simp [intOf]; omega⟩
    · have hki : (n : Int) ≤ (k : Int) := by omega
      obtain rfl : k = n := by omega
      have hfin : NS ++ ((P.take k).map Pt.lay).map S = L.map S := by
        rw [Hff.out, HN.out, List.take_length]
      have hown := Hown.out
      rw [hfin, show 3 + k = (2 + k) + 1 by omega] at hown
      have Hown := Lib.hid hown
      have Hlen : Hid ((2 + k) + 1 = L.length) := Lib.hid (by rw [Hfl.out]; omega)
      clear hfin hown
      go_wp2_with fail
      refine (list_owned L rfl Hown.out Hlen.out).mono ?_
      rintro _ w5 ⟨rfl, hb5⟩
      have Hb5 := Lib.hid (two_below' Hbr.out hb5)
      clear hb5
      go_wp2_with fail
      go_ret2
      exact ⟨rfl, Hb5.out⟩
theorem writeBatch_any (b : Bt) (A : Option Addr) (cap : Nat) (w : World) (hP : PartsAt w w.heap.size A b.parts) :
    Calls Tryd.prog 41 #[.agg (b.cells A cap).toArray] w fun e w' => e = .returned (two b.textE.1 b.textE.2) ∧ Below w.heap.size w w' := by
  unfold Bt.textE
  rcases Bool.eq_false_or_eq_true b.ok with h | h
  · rw [if_pos h]; exact writeBatch_ok b A cap w hP h
  · rw [if_neg (by rw [h]; simp)]; exact writeBatch_no b A cap w hP h
end Go.Proofs.YtdekcicgiflnbaaDoor
