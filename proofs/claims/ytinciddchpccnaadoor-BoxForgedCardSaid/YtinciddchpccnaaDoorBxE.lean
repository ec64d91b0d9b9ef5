/- What later texts need of the earlier layers. -/
import Derived.Test.YtinciddchpccnaaDoorBxO
import Derived.Test.YtinciddchpccnaaDoorBxS
import Derived.Test.YtinciddchpccnaaDoorBxT
import Derived.Test.YtinciddchpccnaaDoorBxC
import Derived.Test.YtinciddchpccnaaDoorBxA
import Derived.Test.YtinciddchpccnaaDoorBxB
import Derived.BigQuiet
import Derived.WalkMore
/- ---- NoF ---- -/
/- notes: batchMayBe. -/
/- notes: WriteBatch. -/
namespace Go.Proofs.YtinciddchpccnaaDoor
open Go.RowKit
set_option linter.unusedVariables false
set_option linter.unusedSimpArgs false

/-- parts in memory -/
def PartsAt (w : World) (B : Nat) (A : Option Addr) (P : List Pt) : Prop :=
  P ≠ [] → ∃ b off, A = some ⟨b, off, none⟩ ∧ b < B ∧ ∀ i (h : i < P.length), w.cell? ⟨b, off + i * 2, none⟩ = some (.bool (P[i]).1) ∧ w.cell? ⟨b, off + i * 2 + 1, none⟩ = some (S (P[i]).2)
theorem PartsAt.below {w w' : World} {B : Nat} {A : Option Addr} {P : List Pt} (h : PartsAt w B A P) (hb : Below B w w') : PartsAt w' B A P := fun hne => by
  obtain ⟨b, off, h1, h2, h3⟩ := h hne
  exact ⟨b, off, h1, h2, fun i hi => ⟨(hb.cell (p := ⟨b, off + i * 2, none⟩) h2).trans (h3 i hi).1, (hb.cell (p := ⟨b, off + i * 2 + 1, none⟩) h2).trans (h3 i hi).2⟩⟩
theorem PartsAt.grown {w w' : World} {B : Nat} {A : Option Addr} {P : List Pt} {r : Option Nat} (h : PartsAt w B A P) (hg : w.grownBy w' r) (hr : ∀ k, r = some k → B ≤ k) : PartsAt w' B A P := fun hne => by
  obtain ⟨b, off, h1, h2, h3⟩ := h hne
  have hne : some b ≠ r := fun e => by have := hr b e.symm; omega
  exact ⟨b, off, h1, h2, fun i hi => ⟨hg.cell (h3 i hi).1 hne, hg.cell (h3 i hi).2 hne⟩⟩
theorem PartsAt.mono {w : World} {B B' : Nat} {A : Option Addr} {P : List Pt} (h : PartsAt w B A P) (hB : B ≤ B') : PartsAt w B' A P := fun hne => by
  obtain ⟨b, off, h1, h2, h3⟩ := h hne
  exact ⟨b, off, h1, by omega, h3⟩
theorem part_info : (Tryd.prog.info? 57).map (·.size) = some 2 := by kernel_rfl
/-- a batch's cells -/
def Bt.cells (b : Bt) (A : Option Addr) (cap : Nat) : List Value := [.int .i64 b.seq, .int .i64 b.first, .int .i64 b.before, .slice A b.parts.length cap]
theorem pt_ok_iff (d : Bool) (t : No.T8) : Pt.ok (d, t) = (decide (t.length ≤ 656) && !(d && !t.isEmpty)) := rfl
set_option maxRecDepth 20000 in
theorem batchMayBe_0 (b : Bt) (A : Option Addr) (cap : Nat) (w : World) (h0 : Tx.num b.seq = false) :
    Calls Tryd.prog 56 #[.agg (b.cells A cap).toArray] w fun e w' => e = .returned (.bool false) ∧ Below w.heap.size w w' := by
  unfold Bt.cells
  have N0 : Hid (∀ W, Calls Tryd.prog 84 #[.int .i64 b.seq] W fun e w' => e = .returned (.bool false) ∧ W = w') := fun W => by have := nnumber_any b.seq W; rw [h0] at this; exact this
  clear h0
  go_enter Tryd.func56, Tryd.ntmps56
  go_wp2_with fail
  refine (N0.out _).mono ?_
  rintro _ w1 ⟨rfl, rfl⟩
  go_wp2_with fail
  go_ret
  exact ⟨rfl, (Below.refl w.heap.size w).alloc (Nat.le_refl _) _⟩
set_option maxRecDepth 20000 in
theorem batchMayBe_1 (b : Bt) (A : Option Addr) (cap : Nat) (w : World) (h0 : Tx.num b.seq = true) (h1 : Tx.num b.first = false) :
    Calls Tryd.prog 56 #[.agg (b.cells A cap).toArray] w fun e w' => e = .returned (.bool false) ∧ Below w.heap.size w w' := by
  unfold Bt.cells
  have N0 : Hid (∀ W, Calls Tryd.prog 84 #[.int .i64 b.seq] W fun e w' => e = .returned (.bool true) ∧ W = w') := fun W => by have := nnumber_any b.seq W; rw [h0] at this; exact this
  have N1 : Hid (∀ W, Calls Tryd.prog 84 #[.int .i64 b.first] W fun e w' => e = .returned (.bool false) ∧ W = w') := fun W => by have := nnumber_any b.first W; rw [h1] at this; exact this
  clear h0 h1
  go_enter Tryd.func56, Tryd.ntmps56
  go_wp2_with fail
  refine (N0.out _).mono ?_
  rintro _ w1 ⟨rfl, rfl⟩
  go_wp2_with fail
  refine (N1.out _).mono ?_
  rintro _ w1 ⟨rfl, rfl⟩
  go_wp2_with fail
  go_ret
  exact ⟨rfl, (Below.refl w.heap.size w).alloc (Nat.le_refl _) _⟩
set_option maxRecDepth 20000 in
theorem batchMayBe_2 (b : Bt) (A : Option Addr) (cap : Nat) (w : World) (h0 : Tx.num b.seq = true) (h1 : Tx.num b.first = true) (h2 : Tx.num b.before = false) :
    Calls Tryd.prog 56 #[.agg (b.cells A cap).toArray] w fun e w' => e = .returned (.bool false) ∧ Below w.heap.size w w' := by
  unfold Bt.cells
  have N0 : Hid (∀ W, Calls Tryd.prog 84 #[.int .i64 b.seq] W fun e w' => e = .returned (.bool true) ∧ W = w') := fun W => by have := nnumber_any b.seq W; rw [h0] at this; exact this
  have N1 : Hid (∀ W, Calls Tryd.prog 84 #[.int .i64 b.first] W fun e w' => e = .returned (.bool true) ∧ W = w') := fun W => by have := nnumber_any b.first W; rw [h1] at this; exact this
  have N2 : Hid (∀ W, Calls Tryd.prog 84 #[.int .i64 b.before] W fun e w' => e = .returned (.bool false) ∧ W = w') := fun W => by have := nnumber_any b.before W; rw [h2] at this; exact this
  clear h0 h1 h2
  go_enter Tryd.func56, Tryd.ntmps56
  go_wp2_with fail
  refine (N0.out _).mono ?_
  rintro _ w1 ⟨rfl, rfl⟩
  go_wp2_with fail
  refine (N1.out _).mono ?_
  rintro _ w1 ⟨rfl, rfl⟩
  go_wp2_with fail
  refine (N2.out _).mono ?_
  rintro _ w1 ⟨rfl, rfl⟩
  go_wp2_with fail
  go_ret
  exact ⟨rfl, (Below.refl w.heap.size w).alloc (Nat.le_refl _) _⟩
set_option maxRecDepth 20000 in
set_option maxHeartbeats 1600000 in
theorem batchMayBe_3 (b : Bt) (A : Option Addr) (cap : Nat) (w : World) (h0 : Tx.num b.seq = true) (h1 : Tx.num b.first = true) (h2 : Tx.num b.before = true) (hP : PartsAt w w.heap.size A b.parts) :
    Calls Tryd.prog 56 #[.agg (b.cells A cap).toArray] w fun e w' => e = .returned (.bool (decide (b.parts.length ≤ 512) && b.parts.all Pt.ok)) ∧ Below w.heap.size w w' := by
  unfold Bt.cells
  have N0 : Hid (∀ W, Calls Tryd.prog 84 #[.int .i64 b.seq] W fun e w' => e = .returned (.bool true) ∧ W = w') := fun W => by have := nnumber_any b.seq W; rw [h0] at this; exact this
  have N1 : Hid (∀ W, Calls Tryd.prog 84 #[.int .i64 b.first] W fun e w' => e = .returned (.bool true) ∧ W = w') := fun W => by have := nnumber_any b.first W; rw [h1] at this; exact this
  have N2 : Hid (∀ W, Calls Tryd.prog 84 #[.int .i64 b.before] W fun e w' => e = .returned (.bool true) ∧ W = w') := fun W => by have := nnumber_any b.before W; rw [h2] at this; exact this
  generalize b.parts = P at *
  obtain ⟨n, hn⟩ : ∃ n, n = P.length := ⟨_, rfl⟩
  obtain ⟨F, hF⟩ : ∃ F, F = (decide (P.length ≤ 512) && P.all Pt.ok) := ⟨_, rfl⟩
  rw [← hF, ← hn]
  have HN := Lib.hid hn
  have HF := Lib.hid hF
  have HP := Lib.hid hP
  clear h0 h1 h2 hn hF hP
  by_cases hm : n ≤ 512
  · have hmi : ¬ ((512 : Int) < (n : Int)) := by omega
    have Hb0 := Lib.hid ((Below.refl w.heap.size w).alloc (Nat.le_refl _) (.cells #[.int .i64 b.seq, .int .i64 b.first, .int .i64 b.before, .slice A n cap] 24))
    go_enter Tryd.func56, Tryd.ntmps56
    go_wp2_with fail
    refine (N0.out _).mono ?_
    rintro _ w1 ⟨rfl, rfl⟩
    go_wp2_with fail
    refine (N1.out _).mono ?_
    rintro _ w1 ⟨rfl, rfl⟩
    go_wp2_with fail
    refine (N2.out _).mono ?_
    rintro _ w1 ⟨rfl, rfl⟩
    go_wp2_with fail
    go_loopw [30] (fun i wr => ∃ k : Nat, k ≤ n ∧ i = .int .i64 k ∧ (∀ j (h : j < P.length), j < k → Pt.ok P[j] = true) ∧ Below w.heap.size w wr) (fun i _ => n - (intOf i).toNat)
    case atStart => exact ⟨0, Nat.zero_le _, rfl, fun j h h1 => by omega, Hb0.out⟩
    case round =>
      obtain ⟨k, hk, rfl, hall, hbr⟩ := hrel
      have Hall := Lib.hid hall
      have Hbr := Lib.hid hbr
      clear hall hbr Hb0
      by_cases hkn : k < n
      · have hki : (k : Int) < (n : Int) := by omega
        have hkl : k < P.length := by rw [← HN.out]; exact hkn
        obtain ⟨bb, off, rfl, hbb, hc⟩ := (HP.out.below Hbr.out) (by intro e; rw [e] at hkl; simp at hkl)
        obtain ⟨c0, c1⟩ := hc k hkl
        obtain ⟨d, t, hdt⟩ : ∃ d t, P[k] = (d, t) := ⟨_, _, rfl⟩
        rw [hdt] at c0 c1
        simp only at c0 c1
        have Hdt := Lib.hid hdt
        have hok := pt_ok_iff d t
        have Hba := Lib.hid (Hbr.out.alloc Hbr.out.size (.cells #[.bool d, S t] 57))
        clear hc hdt
        by_cases ht : t.length ≤ 656
        · have hti : ¬ ((656 : Int) < (t.length : Int)) := by omega
          rw [decide_eq_true ht, Bool.true_and] at hok
          rcases Bool.eq_false_or_eq_true d with hd | hd
          · subst hd
            rcases Bool.eq_false_or_eq_true t.isEmpty with hte | hte
            · obtain rfl : t = [] := List.isEmpty_iff.1 hte
              have hall2 : ∀ j (h : j < P.length), j < k + 1 → Pt.ok P[j] = true := fun j h hj => by
                by_cases e : j = k
                · subst e; rw [Hdt.out, hok]; rfl
                · exact Hall.out j h (by omega)
              have Hall2 := Lib.hid hall2
              clear hall2 hok hte
              go_wp2_with fail
              refine ⟨⟨k + 1, hkn, by go_num, Hall2.out, Hba.out⟩, by simp [intOf]; omega⟩
            · have hFf : F = false := by
                rw [HF.out, Bool.and_eq_false_iff]
                refine .inr ?_
                rw [List.all_eq_false]
                exact ⟨P[k], List.getElem_mem _, by rw [Hdt.out, hok, hte]; simp⟩
              have HFf := Lib.hid hFf
              clear hFf hok
              go_wp2_with fail
              go_ret
              exact ⟨by rw [HFf.out]; rfl, Hba.out⟩
          · subst hd
            have hall2 : ∀ j (h : j < P.length), j < k + 1 → Pt.ok P[j] = true := fun j h hj => by
              by_cases e : j = k
              · subst e; rw [Hdt.out, hok]; rfl
              · exact Hall.out j h (by omega)
            have Hall2 := Lib.hid hall2
            clear hall2 hok
            go_wp2_with fail
            refine ⟨⟨k + 1, hkn, by go_num, Hall2.out, Hba.out⟩, by simp [intOf]; omega⟩
        · have hti : ((656 : Int) < (t.length : Int)) := by omega
          have hFf : F = false := by
            rw [HF.out, Bool.and_eq_false_iff]
            refine .inr ?_
            rw [List.all_eq_false]
            exact ⟨P[k], List.getElem_mem _, by rw [Hdt.out, hok, decide_eq_false ht]; simp⟩
          have HFf := Lib.hid hFf
          clear hFf hok
          go_wp2_with fail
          go_ret
          exact ⟨by rw [HFf.out]; rfl, Hba.out⟩
      · have hki : (n : Int) ≤ (k : Int) := by omega
        obtain rfl : k = n := by omega
        have hFt : F = true := by
          rw [HF.out, ← HN.out, decide_eq_true hm, Bool.true_and, List.all_eq_true]
          intro x hx
          obtain ⟨j, hj, rfl⟩ := List.mem_iff_getElem.1 hx
          exact Hall.out j hj (by rw [HN.out]; exact hj)
        have HFt := Lib.hid hFt
        clear hFt
        go_wp2_with fail
        go_ret
        exact ⟨by rw [HFt.out]; rfl, Hbr.out⟩
  · have hmi : ((512 : Int) < (n : Int)) := by omega
    have hFf : F = false := by rw [HF.out, ← HN.out, decide_eq_false hm]; rfl
    have HFf := Lib.hid hFf
    clear hFf
    go_enter Tryd.func56, Tryd.ntmps56
    go_wp2_with fail
    refine (N0.out _).mono ?_
    rintro _ w1 ⟨rfl, rfl⟩
    go_wp2_with fail
    refine (N1.out _).mono ?_
    rintro _ w1 ⟨rfl, rfl⟩
    go_wp2_with fail
    refine (N2.out _).mono ?_
    rintro _ w1 ⟨rfl, rfl⟩
    go_wp2_with fail
    go_ret
    exact ⟨by rw [HFf.out]; rfl, (Below.refl w.heap.size w).alloc (Nat.le_refl _) _⟩
end Go.Proofs.YtinciddchpccnaaDoor
namespace Go.Proofs.YtinciddchpccnaaDoor
open Go.RowKit
set_option linter.unusedVariables false
set_option linter.unusedSimpArgs false

theorem batchMayBe_any (b : Bt) (A : Option Addr) (cap : Nat) (w : World) (hP : PartsAt w w.heap.size A b.parts) :
    Calls Tryd.prog 56 #[.agg (b.cells A cap).toArray] w fun e w' => e = .returned (.bool b.ok) ∧ Below w.heap.size w w' := by
  unfold Bt.ok
  rcases Bool.eq_false_or_eq_true (Tx.num b.seq) with h0 | h0
  · rcases Bool.eq_false_or_eq_true (Tx.num b.first) with h1 | h1
    · rcases Bool.eq_false_or_eq_true (Tx.num b.before) with h2 | h2
      · rw [h0, h1, h2]; exact batchMayBe_3 b A cap w h0 h1 h2 hP
      · rw [h0, h1, h2]; exact batchMayBe_2 b A cap w h0 h1 h2
    · rw [h0, h1]; exact batchMayBe_1 b A cap w h0 h1
  · rw [h0]; exact batchMayBe_0 b A cap w h0
theorem batch_info : (Tryd.prog.info? 24).map (·.size) = some 4 := by kernel_rfl
theorem Bt.cells_len (b : Bt) (A : Option Addr) (cap : Nat) : (b.cells A cap).length = 4 := rfl
theorem Bt.cells_one (b : Bt) (A : Option Addr) (cap : Nat) : ∀ v ∈ b.cells A cap, v.oneCell' = true := by
  intro v hv
  simp [Bt.cells] at hv
  rcases hv with rfl | rfl | rfl | rfl <;> rfl
theorem cat_one (t : List UInt8) : (⟨#[1]⟩ ++ ⟨t.toArray⟩ : ByteArray) = ⟨(1 :: t).toArray⟩ := by
  have h : ∀ a b : ByteArray, a.data = b.data → a = b := fun a b h => by cases a; cases b; simp only at h; rw [h]
  apply h
  rw [ByteArray.data_append]
  simp
set_option maxRecDepth 20000 in
theorem writeBatch_no (b : Bt) (A : Option Addr) (cap : Nat) (w : World) (hP : PartsAt w w.heap.size A b.parts) (h : b.ok = false) :
    Calls Tryd.prog 27 #[.agg (b.cells A cap).toArray] w fun e w' => e = .returned (.tuple #[S [], .int .i64 2]) ∧ Below w.heap.size w w' := by
  have MB := batchMayBe_any b A cap (w.alloc (.cells (b.cells A cap).toArray 24)) ((hP.grown (grownBy_alloc w _ none) (fun k hk => by cases hk)).mono (by simp))
  rw [h] at MB
  have HMB := Lib.hid MB
  have Hrow0 := Lib.hid (Row.new w 24 (b.cells A cap))
  have HL := Lib.hid (b.cells_len A cap)
  generalize b.cells A cap = C at *
  clear h MB hP
  go_enter Tryd.func27, Tryd.ntmps27
  go_wp2_with (with_reducible show wpList _ _ _ (⟨_, .load 24 _, _, _, _, _⟩ :: _) _ _; refine wpList_load_tx rfl 24 (.tmp 1) rfl w.heap.size 0 rfl C _ (row_range Hrow0.out) Tryd.underlying24 rfl (by rw [batch_info, HL.out]) ?_)
  refine HMB.out.mono ?_
  rintro _ w1 ⟨rfl, hb1⟩
  have Hb1 := Lib.hid (tx_below (grownBy_of_below hb1 none))
  clear hb1
  go_wp2_with fail
  go_ret2
  exact ⟨rfl, Hb1.out⟩
set_option maxRecDepth 20000 in
set_option maxHeartbeats 1600000 in
theorem writeBatch_ok (b : Bt) (A : Option Addr) (cap : Nat) (w : World) (hP : PartsAt w w.heap.size A b.parts) (h : b.ok = true) :
    Calls Tryd.prog 27 #[.agg (b.cells A cap).toArray] w fun e w' => e = .returned (.tuple #[S (Oct.listE b.fields).1, .int .i64 (Oct.listE b.fields).2]) ∧ Below w.heap.size w w' := by
  obtain ⟨i0, hi, hz, hs, hby⟩ := str5
  have Hi := Lib.hid hi
  have Hz := Lib.hid hz
  have Hs := Lib.hid hs
  have Hby := Lib.hid hby
  have MB := batchMayBe_any b A cap (w.alloc (.cells (b.cells A cap).toArray 24)) ((hP.grown (grownBy_alloc w _ none) (fun k hk => by cases hk)).mono (by simp))
  rw [h] at MB
  have HMB := Lib.hid MB
  have hB := Bt.ok_nums h
  have hn5 := ((Bt.ok_iff b).1 h).2.1
  have hall := ((Bt.ok_iff b).1 h).2.2
  have NB : Hid (∀ (W : World) (nb : Nat), Row W nb 3 (Is b.numsL) → Calls Tryd.prog 57 #[.slice (some ⟨nb, 0, none⟩) 3 3] W fun e w' => ∃ v, e = .returned v ∧ w'.ownsRow W.heap.size 9 1 v 3 ((b.numsL.map fun x => Oct.num x.toNat).map S) ∧ Below W.heap.size W w') := fun W nb hN =>
    numbers_any b.numsL 3 hB W nb hN (by simp [Bt.numsL])
  have hff : b.fields.map S = (b.numsL.map fun x => Oct.num x.toNat).map S ++ (b.parts.map Pt.lay).map S := by unfold Bt.fields; rw [List.map_append]
  have hfl : b.fields.length = 3 + b.parts.length := by unfold Bt.fields; rw [List.length_append, List.length_map, List.length_map]; rfl
  have hnl : Is b.numsL = [.int .i64 b.seq, .int .i64 b.first, .int .i64 b.before] := rfl
  have Hnl := Lib.hid hnl
  have hrow0 := Row.new w 24 (b.cells A cap)
  have HL := Lib.hid (b.cells_len A cap)
  have hC : b.cells A cap = [.int .i64 b.seq, .int .i64 b.first, .int .i64 b.before, .slice A b.parts.length cap] := rfl
  have HC := Lib.hid hC
  have Hff := Lib.hid hff
  have Hfl := Lib.hid hfl
  have Hrow0 := Lib.hid hrow0
  have HP := Lib.hid hP
  have Hall := Lib.hid hall
  generalize b.fields = L at *
  generalize (b.numsL.map fun x => Oct.num x.toNat).map S = NS at *
  generalize b.numsL = NL at *
  generalize b.cells A cap = C at *
  generalize b.parts = P at *
  obtain ⟨n, hn⟩ : ∃ n, n = P.length := ⟨_, rfl⟩
  rw [← hn] at hn5 HC Hfl
  have HN := Lib.hid hn
  clear hi hz hs hby h MB hP hB hall hff hfl hnl hrow0 hC hn
  go_enter Tryd.func27, Tryd.ntmps27
  go_wp2_with (with_reducible show wpList _ _ _ (⟨_, .load 24 _, _, _, _, _⟩ :: _) _ _; refine wpList_load_tx rfl 24 (.tmp 1) rfl w.heap.size 0 rfl C _ (row_range Hrow0.out) Tryd.underlying24 rfl (by rw [batch_info, HL.out]) ?_)
  refine HMB.out.mono ?_
  rintro _ w1 ⟨rfl, hb1⟩
  have hg1 := grownBy_of_below hb1 none
  have hr1 := Hrow0.out.kept hg1 (by simp)
  have Hb1 := Lib.hid (tx_below hg1)
  rw [HC.out] at hr1
  have c0 := hr1.cell 0 (by simp)
  have c1 := hr1.cell 1 (by simp)
  have c2 := hr1.cell 2 (by simp)
  simp only [List.getElem_cons_zero, List.getElem_cons_succ] at c0 c1 c2
  have Hr1 := Lib.hid hr1
  clear hb1 hg1 hr1
  go_wp2_with fail
  refine calls_named ?_
  intro w2 hw2
  have hr2 : Row w2 w1.heap.size 3 (Is NL) := by rw [hw2, Hnl.out]; exact Row.new w1 3 _
  have hb2 : Below w1.heap.size w1 w2 := by rw [hw2]; exact (Below.refl _ _).alloc (Nat.le_refl _) _
  clear hw2 c0 c1 c2
  refine (NB.out w2 _ hr2).mono ?_
  rintro _ w3 ⟨v, rfl, hown, hb3⟩
  have hb23 := hb2.trans (hb3.mono hb2.size)
  have hb13 := two_below' Hb1.out hb23
  have hr3 := Hr1.out.kept (grownBy_of_below hb23 none) (by simp)
  have c3 := hr3.cell 3 (by simp)
  simp only [List.getElem_cons_zero, List.getElem_cons_succ] at c3
  have Hb3 := Lib.hid hb13
  have Hown := Lib.hid (hown.mono (Nat.le_trans Hb1.out.size hb2.size))
  clear hr2 hb2 hown hb3 hb23 hb13 hr3
  go_wp2_with fail
  go_loopw [4, 21] (fun v i wr => ∃ k : Nat, k ≤ n ∧ i = .int .i64 k ∧ wr.ownsRow w.heap.size 9 1 v (3 + k) (NS ++ ((P.take k).map Pt.lay).map S) ∧ Below w.heap.size w wr) (fun _ i _ => n - (intOf i).toNat)
  case atStart => exact ⟨0, Nat.zero_le _, rfl, by simpa using Hown.out, Hb3.out⟩
  case round =>
    obtain ⟨k, hk, rfl, hown, hbr⟩ := hrel
    clear Hown Hb3 c3
    have Hown := Lib.hid hown
    have Hbr := Lib.hid hbr
    clear hown hbr
    by_cases hkn : k < n
    · have hki : (k : Int) < (n : Int) := by omega
      have hkl : k < P.length := by rw [← HN.out]; exact hkn
      obtain ⟨bb, off, rfl, hbb, hc⟩ := (HP.out.below Hbr.out) (by intro e; rw [e] at hkl; simp at hkl)
      obtain ⟨c0, c1⟩ := hc k hkl
      obtain ⟨d, t, hdt⟩ : ∃ d t, P[k] = (d, t) := ⟨_, _, rfl⟩
      have htk : NS ++ ((P.take (k + 1)).map Pt.lay).map S = (NS ++ ((P.take k).map Pt.lay).map S) ++ [S (Pt.lay (d, t))] := by
        rw [List.take_succ_eq_append_getElem hkl, List.map_append, List.map_append, hdt, ← List.append_assoc]; rfl
      have htok : Pt.ok (d, t) = true := by rw [← hdt]; exact List.all_eq_true.1 Hall.out _ (List.getElem_mem _)
      rw [hdt] at c0 c1
      simp only at c0 c1
      have hti : t.length ≤ 656 := by rw [pt_ok_iff] at htok; simp at htok; exact htok.1
      have Htk := Lib.hid htk
      generalize NS ++ ((P.take k).map Pt.lay).map S = KS at *
      clear hc hdt htk htok
      rcases Bool.eq_false_or_eq_true d with hd | hd
      · subst hd
        have hown2 := (Hown.out.alloc (.cells #[.bool true, S t] 57)).alloc (.cells #[S [2]] 9)
        have hb2 : Below w.heap.size w ((wr.alloc (.cells #[.bool true, S t] 57)).alloc (.cells #[S [2]] 9)) := (Hbr.out.alloc Hbr.out.size _).alloc (Nat.le_trans Hbr.out.size (by simp)) _
        have hsz2 : w.heap.size ≤ ((wr.alloc (.cells #[.bool true, S t] 57)).alloc (.cells #[S [2]] 9)).heap.size := hb2.size
        have hone := one_text (wr.alloc (.cells #[.bool true, S t] 57)) 9 [2]
        rw [show (wr.alloc (.cells #[.bool true, S t] 57)).heap.size = wr.heap.size + 1 by simp] at hone
        have hk63 : (3 + k) + 1 ≤ maxLen := by unfold maxLen; omega
        have hk48 : (((3 + k) + 1) + ((3 + k) + 1) / 4 + 192) * 16 ≤ 281474976710656 := by omega
        have Hown2 := Lib.hid hown2
        have Hb2 := Lib.hid hb2
        have Hone := Lib.hid hone
        have Htk2 := Lib.hid (Htk.out.trans (by rw [show Pt.lay (true, t) = [2] from rfl] : _ = KS ++ [S [2]]))
        clear hown2 hb2 hone hti
        go_wp2_with (at_builtin; refine wpList_append_own_wide _ rfl (.tmp 27) (.tmp 28) 45 rfl w.heap.size 9 i0 (.string ByteArray.empty) 1 16 Tryd.underlying45 Hi.out Hz.out Hs.out Hby.out rfl (by decide) _ _ _ rfl Hown2.out ⟨wr.heap.size + 1, 0, none⟩ 1 1 [S [2]] rfl rfl Hone.out (one_textc _) hk63 hk48 hsz2 ?_
                     intro v' w3 hown3 hgrow3 _
                     obtain ⟨g, cp, rfl⟩ := ownsRow_succ hown3
                     have Hb3 := Lib.hid (below_row Hb2.out hsz2 Hown2.out hgrow3)
                     have Hown3 := Lib.hid hown3
                     clear hown3 hgrow3)
        refine ⟨⟨k + 1, hkn, by go_num, by rw [Htk2.out]; exact Hown3.out, Hb3.out⟩, by simp [intOf]; omega⟩
      · subst hd
        have hbig : ¬ (9223372036854775807 < 1 + t.length) := by omega
        have hcat := cat_one t
        have hown2 := (Hown.out.alloc (.cells #[.bool false, S t] 57)).alloc (.cells #[S (1 :: t)] 9)
        have hb2 : Below w.heap.size w ((wr.alloc (.cells #[.bool false, S t] 57)).alloc (.cells #[S (1 :: t)] 9)) := (Hbr.out.alloc Hbr.out.size _).alloc (Nat.le_trans Hbr.out.size (by simp)) _
        have hsz2 : w.heap.size ≤ ((wr.alloc (.cells #[.bool false, S t] 57)).alloc (.cells #[S (1 :: t)] 9)).heap.size := hb2.size
        have hone := one_text (wr.alloc (.cells #[.bool false, S t] 57)) 9 (1 :: t)
        rw [show (wr.alloc (.cells #[.bool false, S t] 57)).heap.size = wr.heap.size + 1 by simp] at hone
        have hk63 : (3 + k) + 1 ≤ maxLen := by unfold maxLen; omega
        have hk48 : (((3 + k) + 1) + ((3 + k) + 1) / 4 + 192) * 16 ≤ 281474976710656 := by omega
        have Hown2 := Lib.hid hown2
        have Hb2 := Lib.hid hb2
        have Hone := Lib.hid hone
        have Htk2 := Lib.hid (Htk.out.trans (by rw [show Pt.lay (false, t) = (1 :: t) from rfl] : _ = KS ++ [S (1 :: t)]))
        clear hown2 hb2 hone hti
        go_wp2_with (at_builtin; refine wpList_append_own_wide _ rfl (.tmp 30) (.tmp 34) 45 rfl w.heap.size 9 i0 (.string ByteArray.empty) 1 16 Tryd.underlying45 Hi.out Hz.out Hs.out Hby.out rfl (by decide) _ _ _ rfl Hown2.out ⟨wr.heap.size + 1, 0, none⟩ 1 1 [S (1 :: t)] rfl rfl Hone.out (one_textc _) hk63 hk48 hsz2 ?_
                     intro v' w3 hown3 hgrow3 _
                     obtain ⟨g, cp, rfl⟩ := ownsRow_succ hown3
                     have Hb3 := Lib.hid (below_row Hb2.out hsz2 Hown2.out hgrow3)
                     have Hown3 := Lib.hid hown3
                     clear hown3 hgrow3)
        refine ⟨⟨k + 1, hkn, by go_num, by rw [Htk2.out]; exact Hown3.out, Hb3.out⟩, by simp [intOf]; omega⟩
    · have hki : (n : Int) ≤ (k : Int) := by omega
      obtain rfl : k = n := by omega
      have hfin : NS ++ ((P.take k).map Pt.lay).map S = L.map S := by
        rw [Hff.out, HN.out, List.take_length]
      have hown := Hown.out
      rw [hfin, show 3 + k = (2 + k) + 1 by omega] at hown
      have Hown := Lib.hid hown
      have Hlen : Hid ((2 + k) + 1 = L.length) := Lib.hid (by rw [Hfl.out]; omega)
      clear hfin hown
      go_wp2_with fail
      refine (list_owned L rfl Hown.out Hlen.out).mono ?_
      rintro _ w5 ⟨rfl, hb5⟩
      have Hb5 := Lib.hid (two_below' Hbr.out hb5)
      clear hb5
      go_wp2_with fail
      go_ret2
      exact ⟨rfl, Hb5.out⟩
theorem writeBatch_any (b : Bt) (A : Option Addr) (cap : Nat) (w : World) (hP : PartsAt w w.heap.size A b.parts) :
    Calls Tryd.prog 27 #[.agg (b.cells A cap).toArray] w fun e w' => e = .returned (two b.textE.1 b.textE.2) ∧ Below w.heap.size w w' := by
  unfold Bt.textE
  rcases Bool.eq_false_or_eq_true b.ok with h | h
  · rw [if_pos h]; exact writeBatch_ok b A cap w hP h
  · rw [if_neg (by rw [h]; simp)]; exact writeBatch_no b A cap w hP h
end Go.Proofs.YtinciddchpccnaaDoor

/- ---- NoG ---- -/
/- The reference of layer 5: a part's text. -/
/- The reference of layer 5: WriteBatch. -/
namespace Go.Proofs.YtinciddchpccnaaDoor
open Go.RowKit
set_option linter.unusedVariables false
set_option linter.unusedSimpArgs false

theorem part5_d (t : List UInt8) (w : World) :
    Calls Tryd.prog 45 #[.agg #[.bool true, S t]] w fun e w' => e = .returned (.tuple #[S [2], .bool t.isEmpty]) ∧ Below w.heap.size w w' := by
  go_enter Tryd.func45, Tryd.ntmps45
  go_wp2_with fail
  go_quiet (fail)
  go_wp2_with fail
  go_ret2
  exact ⟨rfl, below_drewN' ((Below.refl w.heap.size w).alloc (Nat.le_refl _) _) _⟩
theorem part5_t (t : List UInt8) (ht : t.length ≤ 140737488351232) (w : World) :
    Calls Tryd.prog 45 #[.agg #[.bool false, S t]] w fun e w' => e = .returned (.tuple #[S (1 :: t), .bool (decide ((t.length : Int) ≤ 656))]) ∧ Below w.heap.size w w' := by
  have hbig : ¬ (9223372036854775807 < 1 + t.length) := by omega
  have hcat := cat_one t
  clear ht
  go_enter Tryd.func45, Tryd.ntmps45
  go_wp2_with fail
  go_quiet (fail)
  go_wp2_with fail
  go_ret2
  exact ⟨rfl, below_drewN' ((Below.refl w.heap.size w).alloc (Nat.le_refl _) _) _⟩
theorem part5_any (d : Bool) (t : List UInt8) (ht : t.length ≤ 140737488351232) (w : World) :
    Calls Tryd.prog 45 #[.agg #[.bool d, S t]] w fun e w' => e = .returned (.tuple #[S (Pt.lay (d, t)), .bool (Pt.ok (d, t))]) ∧ Below w.heap.size w w' := by
  cases d with
  | true =>
    have : Pt.ok (true, t) = t.isEmpty := by rw [pt_ok_iff]; cases t <;> simp
    rw [this]; exact part5_d t w
  | false =>
    have : Pt.ok (false, t) = decide ((t.length : Int) ≤ 656) := by
      rw [pt_ok_iff, Bool.eq_iff_iff]
      simp
      omega
    rw [this]; exact part5_t t ht w
end Go.Proofs.YtinciddchpccnaaDoor
namespace Go.Proofs.YtinciddchpccnaaDoor
open Go.RowKit
set_option linter.unusedVariables false
set_option linter.unusedSimpArgs false

structure Bt.Fits (b : Bt) : Prop where
  seq : Tx.fits b.seq
  first : Tx.fits b.first
  before : Tx.fits b.before
  texts : ∀ p ∈ b.parts, p.2.length ≤ 140737488351232
theorem bt_box {b : Bt} {A : Option Addr} {cap : Nat} {W : World} {g : Nat} {T : TypeId} (h : Row W g T (b.cells A cap)) : W.cell? ⟨g, 0, none⟩ = some (.int .i64 b.seq) ∧ W.cell? ⟨g, 1, none⟩ = some (.int .i64 b.first) ∧ W.cell? ⟨g, 2, none⟩ = some (.int .i64 b.before) ∧ W.cell? ⟨g, 3, none⟩ = some (.slice A b.parts.length cap) :=
  ⟨h.cell 0 (by simp [Bt.cells]), h.cell 1 (by simp [Bt.cells]), h.cell 2 (by simp [Bt.cells]), h.cell 3 (by simp [Bt.cells])⟩
set_option maxRecDepth 20000 in
theorem rwriteBatch_0 (b : Bt) (A : Option Addr) (cap : Nat) (w : World) (h0 : Tx.num b.seq = false) :
    Calls Tryd.prog 19 #[.agg (b.cells A cap).toArray] w fun e w' => e = .returned (.tuple #[S [], .int .i64 2]) ∧ Below w.heap.size w w' := by
  obtain ⟨c0, c1, c2, c3⟩ := bt_box (Row.new w 24 (b.cells A cap))
  have N0 := Lib.hid (within5_b b.seq 1099511627776 _ h0)
  generalize b.cells A cap = C at *
  clear h0
  go_enter Tryd.func19, Tryd.ntmps19
  go_wp2_with fail
  refine (N0.out _).mono ?_
  rintro _ w1 ⟨rfl, rfl⟩
  go_wp2_with fail
  go_ret2
  exact ⟨rfl, (Below.refl w.heap.size w).alloc (Nat.le_refl _) _⟩
set_option maxRecDepth 20000 in
theorem rwriteBatch_1 (b : Bt) (A : Option Addr) (cap : Nat) (w : World) (h0 : Tx.num b.seq = true) (h1 : Tx.num b.first = false) :
    Calls Tryd.prog 19 #[.agg (b.cells A cap).toArray] w fun e w' => e = .returned (.tuple #[S [], .int .i64 2]) ∧ Below w.heap.size w w' := by
  obtain ⟨c0, c1, c2, c3⟩ := bt_box (Row.new w 24 (b.cells A cap))
  have N0 := Lib.hid (within5_b b.seq 1099511627776 _ h0)
  have N1 := Lib.hid (within5_b b.first 1099511627776 _ h1)
  generalize b.cells A cap = C at *
  clear h0 h1
  go_enter Tryd.func19, Tryd.ntmps19
  go_wp2_with fail
  refine (N0.out _).mono ?_
  rintro _ w1 ⟨rfl, rfl⟩
  go_wp2_with fail
  refine (N1.out _).mono ?_
  rintro _ w1 ⟨rfl, rfl⟩
  go_wp2_with fail
  go_ret2
  exact ⟨rfl, (Below.refl w.heap.size w).alloc (Nat.le_refl _) _⟩
set_option maxRecDepth 20000 in
theorem rwriteBatch_2 (b : Bt) (A : Option Addr) (cap : Nat) (w : World) (h0 : Tx.num b.seq = true) (h1 : Tx.num b.first = true) (h2 : Tx.num b.before = false) :
    Calls Tryd.prog 19 #[.agg (b.cells A cap).toArray] w fun e w' => e = .returned (.tuple #[S [], .int .i64 2]) ∧ Below w.heap.size w w' := by
  obtain ⟨c0, c1, c2, c3⟩ := bt_box (Row.new w 24 (b.cells A cap))
  have N0 := Lib.hid (within5_b b.seq 1099511627776 _ h0)
  have N1 := Lib.hid (within5_b b.first 1099511627776 _ h1)
  have N2 := Lib.hid (within5_b b.before 1099511627776 _ h2)
  generalize b.cells A cap = C at *
  clear h0 h1 h2
  go_enter Tryd.func19, Tryd.ntmps19
  go_wp2_with fail
  refine (N0.out _).mono ?_
  rintro _ w1 ⟨rfl, rfl⟩
  go_wp2_with fail
  refine (N1.out _).mono ?_
  rintro _ w1 ⟨rfl, rfl⟩
  go_wp2_with fail
  refine (N2.out _).mono ?_
  rintro _ w1 ⟨rfl, rfl⟩
  go_wp2_with fail
  go_ret2
  exact ⟨rfl, (Below.refl w.heap.size w).alloc (Nat.le_refl _) _⟩
set_option maxRecDepth 20000 in
theorem rwriteBatch_3 (b : Bt) (A : Option Addr) (cap : Nat) (w : World) (h0 : Tx.num b.seq = true) (h1 : Tx.num b.first = true) (h2 : Tx.num b.before = true) (h3 : ¬ b.parts.length ≤ 512) :
    Calls Tryd.prog 19 #[.agg (b.cells A cap).toArray] w fun e w' => e = .returned (.tuple #[S [], .int .i64 2]) ∧ Below w.heap.size w w' := by
  obtain ⟨c0, c1, c2, c3⟩ := bt_box (Row.new w 24 (b.cells A cap))
  have hgt : (512 : Int) < (b.parts.length : Int) := by omega
  have N0 := Lib.hid (within5_b b.seq 1099511627776 _ h0)
  have N1 := Lib.hid (within5_b b.first 1099511627776 _ h1)
  have N2 := Lib.hid (within5_b b.before 1099511627776 _ h2)
  generalize b.cells A cap = C at *
  clear h0 h1 h2 h3
  go_enter Tryd.func19, Tryd.ntmps19
  go_wp2_with fail
  refine (N0.out _).mono ?_
  rintro _ w1 ⟨rfl, rfl⟩
  go_wp2_with fail
  refine (N1.out _).mono ?_
  rintro _ w1 ⟨rfl, rfl⟩
  go_wp2_with fail
  refine (N2.out _).mono ?_
  rintro _ w1 ⟨rfl, rfl⟩
  go_wp2_with fail
  go_ret2
  exact ⟨rfl, (Below.refl w.heap.size w).alloc (Nat.le_refl _) _⟩
set_option maxRecDepth 20000 in
set_option maxHeartbeats 1600000 in
theorem rwriteBatch_4 (b : Bt) (A : Option Addr) (cap : Nat) (hf : b.Fits) (w : World) (hP : PartsAt w w.heap.size A b.parts) (h0 : Tx.num b.seq = true) (h1 : Tx.num b.first = true) (h2 : Tx.num b.before = true) (h3 : b.parts.length ≤ 512) (RV : Value)
    (hbad : ∀ k (h : k < b.parts.length), Pt.ok b.parts[k] = false → RV = .tuple #[S [], .int .i64 2])
    (hgood : (∀ k (h : k < b.parts.length), Pt.ok b.parts[k] = true) → RV = .tuple #[S (Oct.listE b.fields).1, .int .i64 (Oct.listE b.fields).2]) :
    Calls Tryd.prog 19 #[.agg (b.cells A cap).toArray] w fun e w' => e = .returned RV ∧ Below w.heap.size w w' := by
  obtain ⟨i0, hi, hz, hs, hby⟩ := str5
  have Hi := Lib.hid hi
  have Hz := Lib.hid hz
  have Hs := Lib.hid hs
  have Hby := Lib.hid hby
  obtain ⟨c0, c1, c2, c3⟩ := bt_box (Row.new w 24 (b.cells A cap))
  have hle : (b.parts.length : Int) ≤ 512 := by omega
  have hB := No.num_iff.1 h0
  have hB1 := No.num_iff.1 h1
  have hB2 := No.num_iff.1 h2
  have T0 := Lib.hid (fun W => text5_any b.seq W hB.1 (by omega))
  have T1 := Lib.hid (fun W => text5_any b.first W hB1.1 (by omega))
  have T2 := Lib.hid (fun W => text5_any b.before W hB2.1 (by omega))
  have N0 := Lib.hid (within5_b b.seq 1099511627776 _ h0)
  have N1 := Lib.hid (within5_b b.first 1099511627776 _ h1)
  have N2 := Lib.hid (within5_b b.before 1099511627776 _ h2)
  have BX : Hid (∀ (W : World) (g : Nat) (T : TypeId), Row W g T (b.cells A cap) → W.cell? ⟨g, 0, none⟩ = some (.int .i64 b.seq) ∧ W.cell? ⟨g, 1, none⟩ = some (.int .i64 b.first) ∧ W.cell? ⟨g, 2, none⟩ = some (.int .i64 b.before) ∧ W.cell? ⟨g, 3, none⟩ = some (.slice A b.parts.length cap)) := fun W g T h => bt_box h
  have hff : b.fields.map S = [S (Oct.num b.seq.toNat), S (Oct.num b.first.toNat), S (Oct.num b.before.toNat)] ++ (b.parts.map Pt.lay).map S := by unfold Bt.fields; rw [List.map_append]; rfl
  have hfl : b.fields.length = 3 + b.parts.length := by unfold Bt.fields; rw [List.length_append, List.length_map, List.length_map]; rfl
  have HPT := Lib.hid (fun p (hp : p ∈ b.parts) => part5_any p.1 p.2 (hf.texts p hp))
  have Hrow0 := Lib.hid (Row.new w 24 (b.cells A cap))
  have HP := Lib.hid hP
  have Hff := Lib.hid hff
  have Hfl := Lib.hid hfl
  have Hbad := Lib.hid hbad
  have Hgood := Lib.hid hgood
  generalize b.fields = L at *
  generalize b.cells A cap = C at *
  generalize Oct.num b.seq.toNat = t0 at *
  generalize Oct.num b.first.toNat = t1 at *
  generalize Oct.num b.before.toNat = t2 at *
  generalize b.parts = P at *
  obtain ⟨n, hn⟩ : ∃ n, n = P.length := ⟨_, rfl⟩
  rw [← hn] at BX c3 h3 hle Hfl
  have HN := Lib.hid hn
  have HB0 : Hid (Below w.heap.size w (w.alloc (.cells C.toArray 24))) := (Below.refl w.heap.size w).alloc (Nat.le_refl _) _
  clear hi hz hs hby hP hff hfl hn hbad hgood h0 h1 h2 hB hB1 hB2 hf
  go_enter Tryd.func19, Tryd.ntmps19
  go_wp2_with fail
  refine (N0.out _).mono ?_
  rintro _ w1 ⟨rfl, rfl⟩
  go_wp2_with fail
  refine (N1.out _).mono ?_
  rintro _ w1 ⟨rfl, rfl⟩
  go_wp2_with fail
  refine (N2.out _).mono ?_
  rintro _ w1 ⟨rfl, rfl⟩
  go_wp2_with fail
  have HS0 : Hid (RowIn w (w.alloc (.cells C.toArray 24)).drew w.heap.size 24 C) := RowIn.drew ⟨Hrow0.out, HB0.out⟩
  refine wp_region_held_drew (S := fun w' => RowIn w w' w.heap.size 24 C) (by kernel_rfl) (HS0.out) (fun hHeld => ?_)
  generalize (w.alloc (.cells C.toArray 24)).drew = w9 at *
  refine wpAnyH_take (i := 0) (v := .pointer (some ⟨w.heap.size, 0, none⟩)) rfl (by kernel_rfl) (by kernel_rfl) (by kernel_rfl) (fun _ _ _ h => h) (Or.inl ⟨by rfl, fun w' hSw => by go_simp⟩) hHeld ?_
  try simp only [Act.put, List.getElem_toArray, List.getElem_cons_succ, List.getElem_cons_zero, List.setIfInBounds_toArray, List.set_cons_zero, List.set_cons_succ]
  refine wpAnyH_take (i := 1) (v := .int .i64 b.seq) rfl (by kernel_rfl) (by kernel_rfl) (by kernel_rfl) (fun _ _ _ h => h) (Or.inl ⟨by rfl, fun w' hSw => by have hq := hSw; have hc := (BX.out _ _ _ hq.1).1; go_simp⟩) hHeld ?_
  try simp only [Act.put, List.getElem_toArray, List.getElem_cons_succ, List.getElem_cons_zero, List.setIfInBounds_toArray, List.set_cons_zero, List.set_cons_succ]
  refine wpAnyH_take (i := 3) (v := .pointer (some ⟨w.heap.size, 1, none⟩)) rfl (by kernel_rfl) (by kernel_rfl) (by kernel_rfl) (fun _ _ _ h => h) (Or.inl ⟨by rfl, fun w' hSw => by go_simp⟩) hHeld ?_
  try simp only [Act.put, List.getElem_toArray, List.getElem_cons_succ, List.getElem_cons_zero, List.setIfInBounds_toArray, List.set_cons_zero, List.set_cons_succ]
  refine wpAnyH_take (i := 4) (v := .int .i64 b.first) rfl (by kernel_rfl) (by kernel_rfl) (by kernel_rfl) (fun _ _ _ h => h) (Or.inl ⟨by rfl, fun w' hSw => by have hq := hSw; have hc := (BX.out _ _ _ hq.1).2.1; go_simp⟩) hHeld ?_
  try simp only [Act.put, List.getElem_toArray, List.getElem_cons_succ, List.getElem_cons_zero, List.setIfInBounds_toArray, List.set_cons_zero, List.set_cons_succ]
  refine wpAnyH_take (i := 6) (v := .pointer (some ⟨w.heap.size, 2, none⟩)) rfl (by kernel_rfl) (by kernel_rfl) (by kernel_rfl) (fun _ _ _ h => h) (Or.inl ⟨by rfl, fun w' hSw => by go_simp⟩) hHeld ?_
  try simp only [Act.put, List.getElem_toArray, List.getElem_cons_succ, List.getElem_cons_zero, List.setIfInBounds_toArray, List.set_cons_zero, List.set_cons_succ]
  refine wpAnyH_take (i := 7) (v := .int .i64 b.before) rfl (by kernel_rfl) (by kernel_rfl) (by kernel_rfl) (fun _ _ _ h => h) (Or.inl ⟨by rfl, fun w' hSw => by have hq := hSw; have hc := (BX.out _ _ _ hq.1).2.2.1; go_simp⟩) hHeld ?_
  try simp only [Act.put, List.getElem_toArray, List.getElem_cons_succ, List.getElem_cons_zero, List.setIfInBounds_toArray, List.set_cons_zero, List.set_cons_succ]
  refine wpAnyH_ready (rs := [2]) (by kernel_rfl) (by simp) (AllReadyH.cons rfl (fun K1 hK1 => ?_) AllReadyH.nil)
  try simp only [Act.put, List.getElem_toArray, List.getElem_cons_succ, List.getElem_cons_zero, List.setIfInBounds_toArray, List.set_cons_zero, List.set_cons_succ]
  go_simp
  refine Calls.mono (T0.out _) ?_
  rintro e wc1 ⟨rfl, hc2⟩
  refine hK1.out _ _ (hHeld.step hc2) (fun hHeld => ?_)
  clear hK1 K1
  try simp only [Act.put, List.getElem_toArray, List.getElem_cons_succ, List.getElem_cons_zero, List.setIfInBounds_toArray, List.set_cons_zero, List.set_cons_succ]
  refine wpAnyH_ready (rs := [5]) (by kernel_rfl) (by simp) (AllReadyH.cons rfl (fun K1 hK1 => ?_) AllReadyH.nil)
  try simp only [Act.put, List.getElem_toArray, List.getElem_cons_succ, List.getElem_cons_zero, List.setIfInBounds_toArray, List.set_cons_zero, List.set_cons_succ]
  go_simp
  refine Calls.mono (T1.out _) ?_
  rintro e wc3 ⟨rfl, hc4⟩
  refine hK1.out _ _ (hHeld.step hc4) (fun hHeld => ?_)
  clear hK1 K1
  try simp only [Act.put, List.getElem_toArray, List.getElem_cons_succ, List.getElem_cons_zero, List.setIfInBounds_toArray, List.set_cons_zero, List.set_cons_succ]
  refine wpAnyH_ready (rs := [8]) (by kernel_rfl) (by simp) (AllReadyH.cons rfl (fun K1 hK1 => ?_) AllReadyH.nil)
  try simp only [Act.put, List.getElem_toArray, List.getElem_cons_succ, List.getElem_cons_zero, List.setIfInBounds_toArray, List.set_cons_zero, List.set_cons_succ]
  go_simp
  refine Calls.mono (T2.out _) ?_
  rintro e wc5 ⟨rfl, hc6⟩
  refine hK1.out _ _ (hHeld.step hc6) (fun hHeld => ?_)
  clear hK1 K1
  try simp only [Act.put, List.getElem_toArray, List.getElem_cons_succ, List.getElem_cons_zero, List.setIfInBounds_toArray, List.set_cons_zero, List.set_cons_succ]
  refine wpAnyH_ready (rs := [9]) (by kernel_rfl) (by simp) (AllReadyH.cons rfl (fun K1 hK1 => ?_) AllReadyH.nil)
  try simp only [Act.put, List.getElem_toArray, List.getElem_cons_succ, List.getElem_cons_zero, List.setIfInBounds_toArray, List.set_cons_zero, List.set_cons_succ]
  go_simp
  have hd8 := (Below.refl wc5.heap.size wc5).alloc (Nat.le_refl _) (.cells #[S t0, S t1, S t2] 9)
  have r2 : (wc5.alloc (.cells #[S t0, S t1, S t2] 9)).ownsRow w.heap.size 9 1 (.slice (some ⟨wc5.heap.size, 0, none⟩) 3 3) 3 [S t0, S t1, S t2] := own_lit wc5 w.heap.size 3 [t0, t1, t2] rfl hHeld.2.size (by decide)
  have hHeld2 := hHeld.step hd8
  generalize wc5.alloc (.cells #[S t0, S t1, S t2] 9) = wb7 at *
  obtain ⟨gb9, gb9e⟩ : ∃ gb9, gb9 = wc5.heap.size := ⟨_, rfl⟩
  rw [← gb9e] at r2 ⊢
  refine hK1.out _ _ (hHeld2) (fun hHeld => ?_)
  clear hK1 K1
  try simp only [Act.put, List.getElem_toArray, List.getElem_cons_succ, List.getElem_cons_zero, List.setIfInBounds_toArray, List.set_cons_zero, List.set_cons_succ]
  clear hHeld2 gb9e
  refine wpAnyH_take (i := 10) (v := .slice (some ⟨gb9, 0, none⟩) 3 3) rfl (by kernel_rfl) (by kernel_rfl) (by kernel_rfl) (fun _ _ _ h => h) (Or.inl ⟨by rfl, fun w' hSw => by go_simp⟩) hHeld ?_
  try simp only [Act.put, List.getElem_toArray, List.getElem_cons_succ, List.getElem_cons_zero, List.setIfInBounds_toArray, List.set_cons_zero, List.set_cons_succ]
  refine wpAnyH_done (by kernel_rfl) ?_ _
  have HR := Lib.hid hHeld
  have Hown := Lib.hid r2
  clear hHeld r2
  go_wp2_with fail
  go_loopw [4, 5] (fun v i wr => ∃ k : Nat, k ≤ n ∧ i = .int .i64 k ∧ wr.ownsRow w.heap.size 9 1 v (3 + k) ([S t0, S t1, S t2] ++ ((P.take k).map Pt.lay).map S) ∧ (∀ j (h : j < P.length), j < k → Pt.ok P[j] = true) ∧ RowIn w wr w.heap.size 24 C) (fun _ i _ => n - (intOf i).toNat)
  case atStart => exact ⟨0, Nat.zero_le _, rfl, by simpa using Hown.out, fun j h hj => absurd hj (by omega), HR.out⟩
  case round =>
    obtain ⟨k, hk, rfl, hown, hall, hR⟩ := hrel
    clear Hown HR
    have Hown := Lib.hid hown
    have HR := Lib.hid hR
    have Hall := Lib.hid hall
    obtain ⟨d0, d1, d2, d3⟩ := BX.out _ _ _ hR.1
    clear hown hR hall d0 d1 d2 c0 c1 c2 c3
    by_cases hkn : k < n
    · have hki : (k : Int) < (n : Int) := by omega
      have hkl : k < P.length := by rw [← HN.out]; exact hkn
      obtain ⟨bb, off, rfl, hbb, hc⟩ := (HP.out.below HR.out.2) (by intro e; rw [e] at hkl; simp at hkl)
      obtain ⟨c0, c1⟩ := hc k hkl
      have HPk := Lib.hid (HPT.out P[k] (List.getElem_mem _))
      have Hbk := Lib.hid (Hbad.out k hkl)
      have htk : [S t0, S t1, S t2] ++ ((P.take (k + 1)).map Pt.lay).map S = ([S t0, S t1, S t2] ++ ((P.take k).map Pt.lay).map S) ++ [S (Pt.lay P[k])] := by
        rw [List.take_succ_eq_append_getElem hkl, List.map_append, List.map_append, ← List.append_assoc]; rfl
      have Htk := Lib.hid htk
      have hnx : Pt.ok P[k] = true → ∀ j (h : j < P.length), j < k + 1 → Pt.ok P[j] = true := fun h j hj hjk => by
        rcases Nat.lt_or_ge j k with h1 | h1
        · exact Hall.out j hj h1
        · obtain rfl : j = k := by omega
          exact h
      have Hnx := Lib.hid hnx
      generalize P[k] = p at *
      obtain ⟨d, t⟩ := p
      simp only at c0 c1 HPk
      generalize [S t0, S t1, S t2] ++ ((P.take k).map Pt.lay).map S = KS at *
      clear hc htk hnx
      obtain ⟨ly, hly⟩ : ∃ ly, ly = Pt.lay (d, t) := ⟨_, rfl⟩
      rw [← hly] at HPk Htk
      clear hly
      rcases Bool.eq_false_or_eq_true (Pt.ok (d, t)) with hok | hok
      · rw [hok] at HPk
        have Hnx2 := Lib.hid (Hnx.out hok)
        clear hok Hnx Hbk
        go_wp2_with fail
        refine (HPk.out _).mono ?_
        rintro _ w4 ⟨rfl, hb4⟩
        have hR4 := HR.out.step hb4
        have ho4 := own_below Hown.out hb4
        have HR4 := Lib.hid hR4
        have hown2 := ho4.alloc (.cells #[S ly] 9)
        have hsz2 : w.heap.size ≤ (w4.alloc (.cells #[S ly] 9)).heap.size := by have := hR4.2.size; simp; omega
        have hone := one_text w4 9 ly
        have hR5 : RowIn w (w4.alloc (.cells #[S ly] 9)) w.heap.size 24 C := hR4.step ((Below.refl _ _).alloc (Nat.le_refl _) _)
        have hk63 : (3 + k) + 1 ≤ maxLen := by unfold maxLen; omega
        have hk48 : (((3 + k) + 1) + ((3 + k) + 1) / 4 + 192) * 16 ≤ 281474976710656 := by omega
        have Hown2 := Lib.hid hown2
        have HR5 := Lib.hid hR5
        have Hone := Lib.hid hone
        clear hb4 hR4 ho4 hown2 hone hR5 HR4 c0 c1 d3
        go_wp2_with (at_builtin; refine wpList_append_own_wide _ rfl (.tmp 58) (.tmp 60) 45 rfl w.heap.size 9 i0 (.string ByteArray.empty) 1 16 Tryd.underlying45 Hi.out Hz.out Hs.out Hby.out rfl (by decide) _ _ _ rfl Hown2.out ⟨w4.heap.size, 0, none⟩ 1 1 [S ly] rfl rfl Hone.out (one_textc _) hk63 hk48 hsz2 ?_
                     intro v' w3 hown3 hgrow3 _
                     obtain ⟨g, cp, rfl⟩ := ownsRow_succ hown3
                     have HR3 := Lib.hid (own_keeps HR5.out (by decide) Hown2.out (Nat.le_refl _) hgrow3)
                     have Hown3 := Lib.hid hown3
                     clear hown3 hgrow3)
        refine ⟨⟨k + 1, hkn, by go_num, by rw [Htk.out]; exact Hown3.out, Hnx2.out, HR3.out⟩, by simp [intOf]; omega⟩
      · rw [hok] at HPk
        have Hbk2 := Lib.hid (Hbk.out hok)
        clear hok Hnx Hbk
        go_wp2_with fail
        refine (HPk.out _).mono ?_
        rintro _ w4 ⟨rfl, hb4⟩
        have Hbe := Lib.hid (HR.out.step hb4).2
        clear hb4
        go_wp2_with fail
        go_ret2
        exact ⟨by rw [Hbk2.out]; rfl, Hbe.out⟩
    · have hki : (n : Int) ≤ (k : Int) := by omega
      obtain rfl : k = n := by omega
      have hfin : [S t0, S t1, S t2] ++ ((P.take k).map Pt.lay).map S = L.map S := by
        rw [Hff.out, HN.out, List.take_length]
      have hown := Hown.out
      rw [hfin, show 3 + k = (2 + k) + 1 by omega] at hown
      have Hown := Lib.hid hown
      have Hlen : Hid ((2 + k) + 1 = L.length) := Lib.hid (by rw [Hfl.out]; omega)
      have Hg := Lib.hid (Hgood.out fun j hj => Hall.out j hj (by rw [HN.out]; exact hj))
      clear hfin hown
      go_wp2_with fail
      refine (list5_own L rfl Hown.out Hlen.out).mono ?_
      rintro _ w5 ⟨rfl, hb5⟩
      have Hb5 := Lib.hid (HR.out.step hb5).2
      clear hb5
      go_wp2_with fail
      go_ret2
      exact ⟨by rw [Hg.out]; rfl, Hb5.out⟩
theorem rwriteBatch_any (b : Bt) (A : Option Addr) (cap : Nat) (hf : b.Fits) (w : World) (hP : PartsAt w w.heap.size A b.parts) :
    Calls Tryd.prog 19 #[.agg (b.cells A cap).toArray] w fun e w' => e = .returned (two b.textE.1 b.textE.2) ∧ Below w.heap.size w w' := by
  have hno : b.ok = false → two b.textE.1 b.textE.2 = .tuple #[S [], .int .i64 2] := fun h => by unfold Bt.textE; rw [if_neg (by rw [h]; simp)]; rfl
  rcases Bool.eq_false_or_eq_true (Tx.num b.seq) with h0 | h0
  · rcases Bool.eq_false_or_eq_true (Tx.num b.first) with h1 | h1
    · rcases Bool.eq_false_or_eq_true (Tx.num b.before) with h2 | h2
      · by_cases h3 : b.parts.length ≤ 512
        · refine rwriteBatch_4 b A cap hf w hP h0 h1 h2 h3 _ (fun k hk hbad => hno ?_) (fun hall => ?_)
          · rw [Bool.eq_false_iff]
            intro h
            have := List.all_eq_true.1 ((Bt.ok_iff b).1 h).2.2 _ (List.getElem_mem hk)
            rw [hbad] at this
            cases this
          · have : b.ok = true := by
              rw [Bt.ok_iff]
              refine ⟨⟨No.num_iff.1 h0, No.num_iff.1 h1, No.num_iff.1 h2⟩, h3, List.all_eq_true.2 fun p hp => ?_⟩
              obtain ⟨i, hi, rfl⟩ := List.mem_iff_getElem.1 hp
              exact hall i hi
            unfold Bt.textE
            rw [if_pos this]; rfl
        · rw [hno (by unfold Bt.ok; rw [show decide (b.parts.length ≤ 512) = false by simpa using h3]; simp)]; exact rwriteBatch_3 b A cap w h0 h1 h2 h3
      · rw [hno (by unfold Bt.ok; rw [h2]; simp)]; exact rwriteBatch_2 b A cap w h0 h1 h2
    · rw [hno (by unfold Bt.ok; rw [h1]; simp)]; exact rwriteBatch_1 b A cap w h0 h1
  · rw [hno (by unfold Bt.ok; rw [h0]; simp)]; exact rwriteBatch_0 b A cap w h0
end Go.Proofs.YtinciddchpccnaaDoor

/- ---- NoRf1 ---- -/
/- The reference of layer 4 and 5: List, Number, numbers. -/
namespace Go.Proofs.YtinciddchpccnaaDoor
open Go.RowKit
set_option linter.unusedVariables false
set_option linter.unusedSimpArgs false

def NumIs (s : List UInt8) (x n : Int) : Prop := (n = 0 ∧ Tx.numAll s = some x) ∨ ((n != 0) = true ∧ Tx.numAll s = none)
def ListIs (s : List UInt8) (L : List (List UInt8)) (n : Int) : Prop := (n = 0 ∧ Tx.listAll s = some L) ∨ ((n != 0) = true ∧ Tx.listAll s = none ∧ L = [])
set_option maxRecDepth 20000 in
/-- a number that is all of a text -/
theorem rnumber4_any (s : ByteArray) (w : World) (hs : s.size ≤ 140737488351232) :
    Calls Tryd.prog 93 #[.string s] w fun e w' => ∃ (x n : Int), e = .returned (.tuple #[.int .i64 x, .int .i64 n]) ∧ NumIs s.data.toList x n ∧ w = w' := by
  have RN := refReadNumber_any s 0 w hs
  have hq : (s.data.toList.length : Int) = (s.size : Int) := by rw [Array.length_toList]; rfl
  unfold rdNumV three at RN
  have hN : ∀ x n : Int, ((n = 0 ∧ (if (Oct.rdNum s.data.toList 0).2.2 = 0 ∧ (Oct.rdNum s.data.toList 0).2.1 = s.data.toList.length then some (Oct.rdNum s.data.toList 0).1 else none) = some x) ∨ ((n != 0) = true ∧ (if (Oct.rdNum s.data.toList 0).2.2 = 0 ∧ (Oct.rdNum s.data.toList 0).2.1 = s.data.toList.length then some (Oct.rdNum s.data.toList 0).1 else none) = none)) → NumIs s.data.toList x n := fun x n h => h
  rcases hrd : Oct.rdNum s.data.toList 0 with ⟨x, q, n⟩
  have hok := Oct.rdNum_ok hrd
  rw [hrd, hq] at hN
  rw [hrd] at RN
  simp only at RN hN
  rw [hq] at hok
  have HRN := Lib.hid RN
  have HNm := Lib.hid hN
  clear RN hrd hq hN
  rcases hok with ⟨hn, rfl, rfl⟩ | ⟨rfl, _, _, _, _, hqs, _⟩
  · have d0 : (n == 0) = false := by simpa using hn
    have HE : Hid ((n != 0) = true) := Lib.hid (by simpa using hn)
    go_enter Tryd.func93, Tryd.ntmps93
    go_wp2_with fail
    refine HRN.out.mono ?_
    rintro _ w1 ⟨rfl, rfl⟩
    go_wp2_with fail
    go_ret2
    exact ⟨0, n, rfl, HNm.out _ _ (.inr ⟨HE.out, if_neg (fun h => hn h.1)⟩), rfl⟩
  · by_cases hlt : q < (s.size : Int)
    · have hne : q ≠ (s.size : Int) := by omega
      have HNe := Lib.hid hne
      clear hne hqs
      go_enter Tryd.func93, Tryd.ntmps93
      go_wp2_with fail
      refine HRN.out.mono ?_
      rintro _ w1 ⟨rfl, rfl⟩
      go_wp2_with fail
      go_ret2
      exact ⟨0, 6, rfl, HNm.out _ _ (.inr ⟨rfl, if_neg (fun h => HNe.out h.2)⟩), rfl⟩
    · obtain rfl : q = (s.size : Int) := by omega
      clear hlt hqs
      go_enter Tryd.func93, Tryd.ntmps93
      go_wp2_with fail
      refine HRN.out.mono ?_
      rintro _ w1 ⟨rfl, rfl⟩
      go_wp2_with fail
      go_ret2
      exact ⟨x, 0, rfl, HNm.out _ _ (.inl ⟨rfl, by simp⟩), rfl⟩
set_option maxRecDepth 20000 in
/-- a list that is all of a text -/
theorem rlist4_any (s : ByteArray) (w : World) (hs : s.size ≤ 140737488351232) :
    Calls Tryd.prog 36 #[.string s] w fun e w' => ∃ (L : List (List UInt8)) (v : Value) (n : Int), e = .returned (.tuple #[v, .int .i64 n]) ∧ TextsV w' v L ∧ ListIs s.data.toList L n ∧ Below w.heap.size w w' := by
  have RN := refReadList_any s 0 w hs
  have hq : (s.data.toList.length : Int) = (s.size : Int) := by rw [Array.length_toList]; rfl
  unfold ListEnds at RN
  have hN : ∀ (L : List (List UInt8)) (n : Int), ((n = 0 ∧ (if (Oct.rdList s.data.toList 0).2.2 = 0 ∧ (Oct.rdList s.data.toList 0).2.1 = s.data.toList.length then some (Oct.rdList s.data.toList 0).1 else none) = some L) ∨ ((n != 0) = true ∧ (if (Oct.rdList s.data.toList 0).2.2 = 0 ∧ (Oct.rdList s.data.toList 0).2.1 = s.data.toList.length then some (Oct.rdList s.data.toList 0).1 else none) = none ∧ L = [])) → ListIs s.data.toList L n := fun x n h => h
  rcases hrd : Oct.rdList s.data.toList 0 with ⟨L, q, n⟩
  have hok := Oct.rdList_ok hrd
  rw [hrd, hq] at hN
  rw [hrd] at RN
  simp only at RN hN
  rw [hq] at hok
  have HRN := Lib.hid RN
  have HNm := Lib.hid hN
  clear RN hrd hq hN
  have nilV : ∀ W : World, TextsV W (.slice none 0 0) [] := fun W => ⟨none, 0, rfl, fun h => absurd rfl h⟩
  have HNV := Lib.hid nilV
  clear nilV
  rcases hok with ⟨hn, rfl, rfl⟩ | ⟨rfl, _, _, hqs, _⟩
  · have d0 : (n == 0) = false := by simpa using hn
    have HE : Hid ((n != 0) = true) := Lib.hid (by simpa using hn)
    go_enter Tryd.func36, Tryd.ntmps36
    go_wp2_with fail
    refine HRN.out.mono ?_
    rintro _ w1 ⟨v, rfl, hT, hb⟩
    have HT := Lib.hid hT
    have HB := Lib.hid hb
    clear hT hb
    go_wp2_with fail
    go_ret2
    exact ⟨[], v, n, rfl, HT.out, HNm.out _ _ (.inr ⟨HE.out, if_neg (fun h => hn h.1), rfl⟩), HB.out⟩
  · by_cases hlt : q < (s.size : Int)
    · have hne : q ≠ (s.size : Int) := by omega
      have HNe := Lib.hid hne
      clear hne hqs
      go_enter Tryd.func36, Tryd.ntmps36
      go_wp2_with fail
      refine HRN.out.mono ?_
      rintro _ w1 ⟨v, rfl, hT, hb⟩
      have HB := Lib.hid hb
      clear hT hb
      go_wp2_with fail
      go_ret2
      exact ⟨[], _, 6, rfl, HNV.out _, HNm.out _ _ (.inr ⟨rfl, if_neg (fun h => HNe.out h.2), rfl⟩), HB.out⟩
    · obtain rfl : q = (s.size : Int) := by omega
      clear hlt hqs
      go_enter Tryd.func36, Tryd.ntmps36
      go_wp2_with fail
      refine HRN.out.mono ?_
      rintro _ w1 ⟨v, rfl, hT, hb⟩
      have HT := Lib.hid hT
      have HB := Lib.hid hb
      clear hT hb
      go_wp2_with fail
      go_ret2
      exact ⟨L, v, 0, rfl, HT.out, HNm.out _ _ (.inl ⟨rfl, by simp⟩), HB.out⟩
namespace No
theorem raw_few {n : Nat} {l : List T8} (h : l.length < n) : raw n l = none := by
  induction n generalizing l with
  | zero => omega
  | succ n ih =>
    cases l with
    | nil => rfl
    | cons s r =>
      unfold raw
      cases Tx.numAll s with
      | none => rfl
      | some x => simp only; rw [ih (by simpa using h)]; rfl
theorem raw_snoc : ∀ {k : Nat} {l : List T8} {ns : List Int} {x : Int}, raw k l = some ns → ∀ (h : k < l.length), Tx.numAll l[k] = some x → raw (k + 1) l = some (ns ++ [x])
  | 0, s :: r, ns, x, h0, _, hx => by
    simp only [raw, Option.some.injEq] at h0
    subst h0
    simp only [List.getElem_cons_zero] at hx
    simp only [raw, hx, Option.map_some, List.nil_append]
  | k + 1, s :: r, ns, x, h0, hl, hx => by
    unfold raw at h0
    cases hs : Tx.numAll s with
    | none => rw [hs] at h0; simp at h0
    | some y =>
      rw [hs] at h0
      simp only at h0
      obtain ⟨m, hm, rfl⟩ := Option.map_eq_some_iff.1 h0
      have := raw_snoc hm (by simpa using hl) (by simpa using hx)
      unfold raw
      rw [hs]
      simp only
      rw [this]; rfl
theorem raw_none : ∀ {k n : Nat} {l : List T8}, k < n → ∀ (h : k < l.length), Tx.numAll l[k] = none → raw n l = none
  | 0, n + 1, s :: r, _, _, hx => by
    simp only [List.getElem_cons_zero] at hx
    unfold raw
    rw [hx]
  | k + 1, n + 1, s :: r, hn, hl, hx => by
    unfold raw
    cases Tx.numAll s with
    | none => rfl
    | some y => simp only; rw [raw_none (k := k) (n := n) (l := r) (by omega) (by simpa using hl) (by simpa using hx)]; rfl
end No
/-- what numbers ends with -/
def NumsEnds (R : Option (List Int)) (n lo : Nat) (e : Ending) (w' : World) : Prop :=
  match R with
  | some ns => ∃ v, e = .returned (.tuple #[v, .bool true]) ∧ w'.ownsRow lo 3 1 v n (Is ns)
  | none => ∃ v, e = .returned (.tuple #[v, .bool false])
theorem int_info5 : (Tryd.prog.info? 3).map (fun i => (i.zero, i.size, i.bytes)) = some (some (.int .i64 0), 1, 8) := by kernel_rfl
theorem int5 : ∃ i0 : TypeInfo, Tryd.prog.info? 3 = some i0 ∧ i0.zero = some (.int .i64 0) ∧ i0.size = 1 ∧ i0.bytes = 8 := by
  obtain ⟨i0, hi, h2⟩ := Option.map_eq_some_iff.1 int_info5
  simp only [Prod.mk.injEq] at h2
  exact ⟨i0, hi, h2.1, h2.2.1, h2.2.2⟩
theorem one_int (w : World) (t : TypeId) (x : Int) : ∀ j u, [Value.int .i64 x][j]? = some u → (w.alloc (.cells #[.int .i64 x] t)).cell? ((⟨w.heap.size, 0, none⟩ : Addr).add j) = some u := by
  intro j u hj
  match j, hj with
  | 0, hj => simp at hj; subst hj; simp [Addr.add]
theorem one_intc (x : Int) : ∀ u ∈ [Value.int .i64 x], u.oneCell' = true := by
  intro u hu
  simp at hu
  subst hu
  rfl
end Go.Proofs.YtinciddchpccnaaDoor

/- ---- NoRf2 ---- -/
/- The reference of layer 5: numbers. -/
namespace Go.Proofs.YtinciddchpccnaaDoor
open Go.RowKit
set_option linter.unusedVariables false
set_option linter.unusedSimpArgs false

set_option maxRecDepth 20000 in
set_option maxHeartbeats 800000 in
/-- the first of a list's texts as numbers -/
theorem numbers5_any (L : List (List UInt8)) (A : Option Addr) (c n : Nat) (w : World) (hn : n ≤ 4) (ht : ∀ x ∈ L, x.length ≤ 65536) (hT : Texts w w.heap.size A L) :
    Calls Tryd.prog 75 #[.slice A L.length c, .int .i64 n] w fun e w' => NumsEnds (No.raw n L) n w.heap.size e w' ∧ Below w.heap.size w w' := by
  obtain ⟨i0, hi, hz, hs, hby⟩ := int5
  have Hi := Lib.hid hi
  have Hz := Lib.hid hz
  have Hs := Lib.hid hs
  have Hby := Lib.hid hby
  obtain ⟨R, hR⟩ : ∃ R, R = No.raw n L := ⟨_, rfl⟩
  rw [← hR]
  obtain ⟨m, hm⟩ : ∃ m, m = L.length := ⟨_, rfl⟩
  have HM := Lib.hid hm
  have HT := Lib.hid hT
  have RN : Hid (∀ x ∈ L, ∀ W : World, Calls Tryd.prog 93 #[S x] W fun e w' => ∃ (y n : Int), e = .returned (.tuple #[.int .i64 y, .int .i64 n]) ∧ NumIs x y n ∧ W = w') := fun x hx W => rnumber4_any ⟨x.toArray⟩ W (by have := ht x hx; show x.length ≤ _; omega)
  by_cases hlt : m < n
  · have hli : (m : Int) < (n : Int) := by omega
    have HRn : Hid (R = none) := hR.trans (No.raw_few (by omega))
    rw [← hm]
    clear hi hz hs hby hR hm hT ht RN HT
    go_enter Tryd.func75, Tryd.ntmps75
    go_wp2_with fail
    go_ret2
    exact ⟨by rw [HRn.out]; exact ⟨_, rfl⟩, Below.refl _ _⟩
  · have hli : (n : Int) ≤ (m : Int) := by omega
    have HR := Lib.hid hR
    have Hb0 : Hid (Below w.heap.size w w) := Below.refl _ _
    rw [← hm]
    clear hi hz hs hby hR hm hT ht
    go_enter Tryd.func75, Tryd.ntmps75
    go_wp2_with fail
    go_loopw [6, 7] (fun v i wr => ∃ (k : Nat) (ns : List Int), k ≤ n ∧ i = .int .i64 k ∧ No.raw k L = some ns ∧ ns.length = k ∧ wr.ownsRow w.heap.size 3 1 v k (Is ns) ∧ Below w.heap.size w wr) (fun _ i _ => n - (intOf i).toNat)
    case atStart => exact ⟨0, [], Nat.zero_le _, rfl, rfl, rfl, ⟨rfl, .inl ⟨rfl, rfl⟩⟩, Hb0.out⟩
    case round =>
      obtain ⟨k, ns, hkn, rfl, hraw, hnl, hown, hbr⟩ := hrel
      clear Hb0
      have Hraw := Lib.hid hraw
      have Hown := Lib.hid hown
      have Hbr := Lib.hid hbr
      have Hnl := Lib.hid hnl
      clear hraw hown hbr hnl
      by_cases hlk : k < n
      · have hki : (k : Int) < (n : Int) := by omega
        have hkl : k < L.length := by rw [← HM.out]; omega
        have hkm : (k : Int) < (m : Int) := by omega
        obtain ⟨tb, toff, rfl, htb, htc⟩ := (fun hne => HT.out hne) (by intro e; rw [e] at hkl; simp at hkl : L ≠ [])
        have c0 := (Hbr.out.cell (p := ⟨tb, toff + k, none⟩) htb).trans (htc k hkl)
        have HRk := Lib.hid (RN.out L[k] (List.getElem_mem _))
        have Hsn := Lib.hid (fun x (h : Tx.numAll L[k] = some x) => No.raw_snoc Hraw.out hkl h)
        have Hno := Lib.hid (fun (h : Tx.numAll L[k] = none) => No.raw_none hlk hkl h)
        generalize L[k] = t at *
        clear htc
        go_wp2_with fail
        refine (HRk.out _).mono ?_
        rintro _ w1 ⟨x, en, rfl, hI, rfl⟩
        rcases hI with ⟨rfl, hx⟩ | ⟨hne, hx⟩
        · have Hx := Lib.hid (Hsn.out x hx)
          have hone := one_int wr 3 x
          have hown2 := Hown.out.alloc (.cells #[.int .i64 x] 3)
          have hb2 : Below w.heap.size w (wr.alloc (.cells #[.int .i64 x] 3)) := Hbr.out.alloc Hbr.out.size _
          have hsz2 : w.heap.size ≤ (wr.alloc (.cells #[.int .i64 x] 3)).heap.size := hb2.size
          have hk63 : k + 1 ≤ maxLen := by unfold maxLen; omega
          have hk48 : ((k + 1) + (k + 1) / 4 + 192) * 8 ≤ 281474976710656 := by omega
          have Hone := Lib.hid hone
          have Hown2 := Lib.hid hown2
          have Hb2 := Lib.hid hb2
          clear hx Hsn Hno hone hown2 hb2 c0
          go_wp2_with (at_builtin; refine wpList_append_own_wide _ rfl (.tmp 29) (.tmp 31) 101 rfl w.heap.size 3 i0 (.int .i64 0) 1 8 Tryd.underlying101 Hi.out Hz.out Hs.out Hby.out rfl (by decide) _ _ _ rfl Hown2.out ⟨wr.heap.size, 0, none⟩ 1 1 [.int .i64 x] rfl rfl Hone.out (one_intc _) hk63 hk48 hsz2 ?_
                       intro v' w3 hown3 hgrow3 _
                       obtain ⟨g, cp, rfl⟩ := ownsRow_succ hown3
                       have Hb3 := Lib.hid (below_row Hb2.out hsz2 Hown2.out hgrow3)
                       have Hown3 := Lib.hid hown3
                       clear hown3 hgrow3)
          refine ⟨⟨k + 1, ns ++ [x], hlk, by go_num, Hx.out, by simp [Hnl.out], by rw [show Is (ns ++ [x]) = Is ns ++ [.int .i64 x] by simp [Is]]; exact Hown3.out, Hb3.out⟩, by simp [intOf]; omega⟩
        · have HRn := Lib.hid (HR.out.trans (Hno.out hx))
          have d0 := hne
          clear hx hne Hsn Hno
          go_wp2_with fail
          go_ret2
          exact ⟨by rw [HRn.out]; exact ⟨_, rfl⟩, Hbr.out⟩
      · have hki : (n : Int) ≤ (k : Int) := by omega
        obtain rfl : k = n := by omega
        have HRs := Lib.hid (HR.out.trans Hraw.out)
        go_wp2_with fail
        go_ret2
        exact ⟨by rw [HRs.out]; exact ⟨_, rfl, Hown.out⟩, Hbr.out⟩
end Go.Proofs.YtinciddchpccnaaDoor

/- ---- NoRf3 ---- -/
/- The reference of layer 4: Hash. -/
namespace Go.Proofs.YtinciddchpccnaaDoor
open Go.RowKit
set_option linter.unusedVariables false
set_option linter.unusedSimpArgs false

theorem bRow_put (l : List UInt8) (h : l.length < 32) (b : UInt8) : (bRow l).toList.set l.length (Value.int .u8 (b.toNat : Int)) = (bRow (l ++ [b])).toList := by
  rw [← bRow_set l h b _ rfl, Array.toList_setIfInBounds]
theorem bRow_len' (l : List UInt8) (h : l.length ≤ 32) : (bRow l).toList.length = 32 := by rw [Array.length_toList]; exact bRow_size l h
theorem bRow_nil : bRow [] = bRow Tx.zero := by kernel_rfl
set_option maxRecDepth 20000 in
set_option maxHeartbeats 800000 in
theorem hash4_any (s : ByteArray) (w : World) (hs : s.size = 32) :
    Calls Tryd.prog 38 #[.string s] w fun e w' => e = .returned (.agg (bRow s.data.toList)) ∧ Below w.heap.size w w' := by
  have hl : s.data.toList.length = 32 := hs
  have hg : ∀ k (h : k < s.size), s.data.toList[k]? = some (s[k]'h) := fun k h => List.getElem?_eq_getElem h
  have HLn := Lib.hid hl
  have HG := Lib.hid hg
  have HZL : Hid ((bRow Tx.zero).toList.length = 32) := Lib.hid (Tx.bRow_len Tx.zero rfl)
  have HH1 : Hid (∀ v ∈ (bRow Tx.zero).toList, v.oneCell' = true) := Lib.hid (hash_one _ rfl)
  have HF1 : Hid (∀ v ∈ (bRow s.data.toList).toList, v.oneCell' = true) := Lib.hid (hash_one _ hl)
  have HFL : Hid ((bRow s.data.toList).toList.length = 32) := Lib.hid (Tx.bRow_len _ hl)
  obtain ⟨rB, hb2, rA⟩ := row_two w (bRow Tx.zero) (bRow Tx.zero) 51 51
  have HrA := Lib.hid rA
  have HrB := Lib.hid rB
  have Hb2 := Lib.hid hb2
  have hzh := hash_zv
  generalize s.data.toList = l at *
  clear hl hg rB rA hb2
  go_enter Tryd.func38, Tryd.ntmps38
  go_wp2_with (first
    | ((with_reducible show wpList _ _ _ (⟨_, .build 51 _, _, _, _, _⟩ :: _) _ _); refine wpList_buildL rfl 51 [] rfl (some 5) rfl [] rfl (bRow Tx.zero) hash_built ?_)
    | (with_reducible show wpList _ _ _ (⟨_, .store 51 (.tmp 3) _, _, _, _, _⟩ :: _) _ _
       refine wpList_store_at rfl 51 (.tmp 3) (.tmp 5) rfl (w.heap.size + 1) 0 (bRow Tx.zero).toList _ _ rfl rfl HrB.out (by have := HZL.out; omega) (by rw [hash_info, HZL.out]) HH1.out ?_
       intro w2 hr2 hg2
       rw [splice_all rfl] at hr2
       have HrB2 := Lib.hid hr2
       have HrA2 := Lib.hid (HrA.out.kept hg2 (by simp))
       have HbA2 := Lib.hid (below_own Hb2.out hg2 (fun k hk => by cases hk; omega))
       clear hr2 hg2))
  go_loopw [4] (fun i wr => ∃ k : Nat, k ≤ 32 ∧ i = .int .i64 k ∧ Row wr w.heap.size 51 (bRow Tx.zero).toList ∧ Row wr (w.heap.size + 1) 51 (bRow (l.take k)).toList ∧ Below w.heap.size w wr) (fun i _ => 32 - (intOf i).toNat)
  case atStart => exact ⟨0, Nat.zero_le _, rfl, HrA2.out, by rw [List.take_zero, bRow_nil]; exact HrB2.out, HbA2.out⟩
  case round =>
    obtain ⟨k, hk, rfl, hA, hB, hb⟩ := hrel
    clear HrA2 HrB2 HbA2
    have htl : (l.take k).length = k := by rw [List.length_take, HLn.out]; omega
    by_cases hlt : k < 32
    · have hki : (k : Int) < 32 := by omega
      have hks : k < s.size := by omega
      have hki2 : (k : Int) < (s.size : Int) := by omega
      have hcell : wr.cell? ⟨w.heap.size + 1, k, none⟩ = some (.int .u8 0) := by
        have h1 := bRow_free (l.take k) (by omega)
        rw [htl] at h1
        rw [hB.cell k (by rw [bRow_len' _ (by omega)]; exact hlt)]
        obtain ⟨h2, h3⟩ := Array.getElem?_eq_some_iff.1 h1
        rw [← h3]; simp
      have hfree := hB.free k
      have hset := hB.set k (.int .u8 ((s[k]'hks).toNat : Int)) (by rw [bRow_len' _ (by omega)]; exact hlt)
      have hput := bRow_put (l.take k) (by omega) (s[k]'hks)
      rw [htl] at hput
      have htk : l.take k ++ [s[k]'hks] = l.take (k + 1) := by
        rw [List.take_add_one, HG.out k hks]; rfl
      rw [hput, htk] at hset
      have HA := Lib.hid (hA.kept (grownBy_set wr (w.heap.size + 1) k (.int .u8 ((s[k]'hks).toNat : Int))) (by simp))
      have HS := Lib.hid hset
      have HB := Lib.hid (hb.grown (grownBy_set wr (w.heap.size + 1) k (.int .u8 ((s[k]'hks).toNat : Int))) hb.size (fun j hj => by cases hj; omega))
      clear hA hB hb hset hput htk htl
      go_wp2_with fail
      exact ⟨⟨k + 1, by omega, by go_num, HA.out, HS.out, HB.out⟩, by simp [intOf]; omega⟩
    · obtain rfl : k = 32 := by omega
      rw [List.take_of_length_le (by rw [HLn.out]; omega)] at hB
      have HrF := Lib.hid hB
      have HrR := Lib.hid hA
      have HB := Lib.hid hb
      clear hA hB hb htl
      go_wp2_with (first
        | (with_reducible show wpList _ _ _ (⟨_, .load 51 (.tmp 3), _, _, _, _⟩ :: _) _ _; refine wpList_load_tx rfl 51 (.tmp 3) rfl (w.heap.size + 1) 0 rfl (bRow l).toList _ (row_range HrF.out) Tryd.underlying51 rfl (by rw [hash_info, HFL.out]) ?_)
        | (with_reducible show wpList _ _ _ (⟨_, .store 51 (.tmp 2) _, _, _, _, _⟩ :: _) _ _
           refine wpList_store_at rfl 51 (.tmp 2) (.tmp 15) rfl w.heap.size 0 (bRow l).toList _ _ rfl rfl HrR.out (by have := HZL.out; have := HFL.out; omega) (by rw [hash_info, HFL.out]) HF1.out ?_
           intro w3 hr3 hg3
           rw [splice_all (HFL.out.trans HZL.out.symm)] at hr3
           have Hr3 := Lib.hid hr3
           have Hb3 := Lib.hid (below_own HB.out hg3 (fun k hk => by cases hk; exact Nat.le_refl _))
           clear hr3 hg3))
      have hT5 : w3.heap[w.heap.size]? = some (.cells (bRow l) 51 (0, 0)) := Hr3.out
      exact bodyPost_ret (results_cell_row rfl _ _ w.heap.size 51 _ (0, 0) _ rfl hT5 Tryd.underlying51 rfl (by rw [hash_info, ← Array.length_toList, HFL.out])) rfl ⟨rfl, Hb3.out⟩
end Go.Proofs.YtinciddchpccnaaDoor

/- ---- NoRf4 ---- -/
/- The reference of layer 5: ReadItem. -/
namespace Go.Proofs.YtinciddchpccnaaDoor
open Go.RowKit
set_option linter.unusedVariables false
set_option linter.unusedSimpArgs false

/-- blocks, and all that was there at a world -/
def BlocksS (w0 w1 W : World) (l : List (Nat × TypeId × List Value)) : Prop := Blocks w0 W l ∧ Below w1.heap.size w1 W
namespace BlocksS
variable {w0 w1 W W' : World} {l : List (Nat × TypeId × List Value)} {g : Nat}
theorem step (h : BlocksS w0 w1 W l) (hb : Below W.heap.size W W') : BlocksS w0 w1 W' l := ⟨h.1.step hb, two_below' h.2 hb⟩
theorem drew (h : BlocksS w0 w1 W l) : BlocksS w0 w1 W.drew l := h.step (Below.refl _ _).drew
theorem size (h : BlocksS w0 w1 W l) : w0.heap.size ≤ W.heap.size ∧ w1.heap.size ≤ W.heap.size := ⟨h.1.size, h.2.size⟩
theorem fresh (h : BlocksS w0 w1 W l) : ∀ x ∈ l, x.1 ≠ W.heap.size := h.1.fresh
theorem put (h : BlocksS w0 w1 W l) (hg : W.grownBy W' (some g)) (hs : w0.heap.size ≤ g ∧ w1.heap.size ≤ g) (hn : ∀ x ∈ l, x.1 ≠ g) : BlocksS w0 w1 W' l :=
  ⟨h.1.put hg hs.1 hn, h.2.grown hg h.2.size (fun k hk => by cases hk; exact hs.2)⟩
end BlocksS
end Go.Proofs.YtinciddchpccnaaDoor

/- ---- NoBt3 ---- -/
/- notes: readParts. -/
namespace Go.Proofs.YtinciddchpccnaaDoor
open Go.RowKit
set_option linter.unusedVariables false
set_option linter.unusedSimpArgs false

namespace Pt
def cells (p : Pt) : List Value := [.bool p.1, S p.2]
def flat (l : List Pt) : List Value := l.flatMap cells
theorem flat_snoc (l : List Pt) (p : Pt) : flat (l ++ [p]) = flat l ++ [.bool p.1, S p.2] := by
  unfold flat
  rw [List.flatMap_append]
  simp [cells]
theorem all_none {l : List No.T8} {k : Nat} (hk : k < l.length) (h : of l[k] = none) : all (l.drop k) = none := by
  rw [List.drop_eq_getElem_cons hk, all, h]
theorem all_go {l : List No.T8} {k : Nat} {p : Pt} (hk : k < l.length) (h : of l[k] = some p) : all (l.drop k) = (all (l.drop (k + 1))).map (p :: ·) := by
  rw [List.drop_eq_getElem_cons hk, all, h]
theorem map_app (o : Option (List Pt)) (a : List Pt) (x : Pt) : (o.map (x :: ·)).map (a ++ ·) = o.map ((a ++ [x]) ++ ·) := by
  cases o <;> simp
end Pt
theorem part_info5 : ∃ i0 : TypeInfo, Tryd.prog.info? 57 = some i0 ∧ i0.zero = some (.agg #[.bool false, .string ByteArray.empty]) ∧ i0.size = 2 ∧ i0.bytes = 24 := by
  obtain ⟨i0, hi, h2⟩ := Option.map_eq_some_iff.1 (by kernel_rfl : (Tryd.prog.info? 57).map (fun i => (i.zero, i.size, i.bytes)) = some (some (.agg #[.bool false, .string ByteArray.empty]), 2, 24))
  simp only [Prod.mk.injEq] at h2
  exact ⟨i0, hi, h2.1, h2.2.1, h2.2.2⟩
/-- what readParts leaves -/
def PartsOf (F : Option (List Pt)) (base : Nat) (e : Ending) (w' : World) : Prop :=
  match F with
  | some ps => ∃ A c, e = .returned (.tuple #[.slice A ps.length c, .bool true]) ∧ w'.ownsRow base 57 2 (.slice A ps.length c) ps.length (Pt.flat ps)
  | none => ∃ A n c, e = .returned (.tuple #[.slice A n c, .bool false])
theorem own_form {W : World} {base n size : Nat} {e : TypeId} {v : Value} {xs : List Value} (h : W.ownsRow base e size v n xs) : ∃ A c, v = .slice A n c := by
  rcases h.2 with ⟨rfl, h0⟩ | ⟨g, cap, cur, rfl, _⟩
  · exact ⟨none, 0, by rw [h0]⟩
  · exact ⟨_, cap, rfl⟩
theorem ext_tail (c : UInt8) (r : List UInt8) : (⟨(c :: r).toArray⟩ : ByteArray).extract 1 (r.length + 1) = ⟨r.toArray⟩ := by
  have h : ∀ a b : ByteArray, a.data = b.data → a = b := fun a b h => by cases a; cases b; simp only at h; rw [h]
  apply h
  rw [ByteArray.data_extract]
  simp
theorem ext_head (c : UInt8) (r : List UInt8) : (⟨(c :: r).toArray⟩ : ByteArray).extract 0 1 = ⟨#[c]⟩ := by
  have h : ∀ a b : ByteArray, a.data = b.data → a = b := fun a b h => by cases a; cases b; simp only at h; rw [h]
  apply h
  rw [ByteArray.data_extract]
  simp
theorem one_list (c : UInt8) : (⟨#[c]⟩ : ByteArray).toList = [c] := by
  unfold ByteArray.toList ByteArray.toList.loop ByteArray.toList.loop
  simp [ByteArray.size, ByteArray.get!]
set_option maxRecDepth 20000 in
set_option maxHeartbeats 1600000 in
theorem readParts_any (l : List No.T8) (A : Option Addr) (c : Nat) (w : World) (hl : ∀ x ∈ l, x.length ≤ 65536) (hll : l.length ≤ 2000) (hT : Texts w w.heap.size A l) :
    Calls Tryd.prog 72 #[.slice A l.length c] w fun e w' => PartsOf (Pt.all l) w.heap.size e w' ∧ Below w.heap.size w w' := by
  obtain ⟨i0, hi, hz, hs, hby⟩ := part_info5
  have Hi := Lib.hid hi
  have Hz := Lib.hid hz
  have Hs := Lib.hid hs
  have Hby := Lib.hid hby
  obtain ⟨m, hm⟩ : ∃ m, m = l.length := ⟨_, rfl⟩
  obtain ⟨F, hF⟩ : ∃ F, F = Pt.all l := ⟨_, rfl⟩
  rw [← hF]
  rw [← hm] at hll ⊢
  have HM := Lib.hid hm
  have Hl := Lib.hid hl
  have HT := Lib.hid hT
  have HF := Lib.hid hF
  clear hi hz hs hby hm hl hT hF
  go_enter Tryd.func72, Tryd.ntmps72
  go_wp2_with fail
  go_step3
  go_wp2_with fail
  go_step3
  go_wp2_with fail
  go_loopw [4, 5, 10] (fun v wg i wr => ∃ (k : Nat) (ps : List Pt), k ≤ m ∧ i = .int .i64 k ∧ wg = .bool false ∧ ps.length = k ∧ F = (Pt.all (l.drop k)).map (ps ++ ·) ∧ wr.ownsRow w.heap.size 57 2 v k (Pt.flat ps) ∧ Below w.heap.size w wr) (fun _ _ i _ => m - (intOf i).toNat)
  case atStart => exact ⟨0, [], Nat.zero_le _, rfl, rfl, rfl, by rw [HF.out]; simp, World.ownsRow_nil _ _ _ _, Below.refl _ _⟩
  case round =>
    obtain ⟨k, ps, hk, rfl, rfl, hps, hFk, hown, hbr⟩ := hrel
    have HFk := Lib.hid hFk
    have Hown := Lib.hid hown
    have Hbr := Lib.hid hbr
    have Hps := Lib.hid hps
    clear hFk hown hbr hps
    by_cases hkm : k < m
    · have hki : (k : Int) < (m : Int) := by omega
      have hkl : k < l.length := by rw [← HM.out]; exact hkm
      have hx0 : ∃ b off, A = some ⟨b, off, none⟩ ∧ wr.cell? ⟨b, off + k, none⟩ = some (S l[k]) := by
        obtain ⟨b, off, h1, h2, h3⟩ := HT.out (by intro e; rw [e] at hkl; simp at hkl)
        exact ⟨b, off, h1, (Hbr.out.cell (p := ⟨b, off + k, none⟩) h2).trans (h3 k hkl)⟩
      obtain ⟨b, off, rfl, c0⟩ := hx0
      have hxl := Hl.out _ (List.getElem_mem hkl)
      obtain ⟨x, hx⟩ : ∃ x, x = l[k] := ⟨_, rfl⟩
      rw [← hx] at c0 hxl
      by_cases h2 : x = [2]
      · have ho : Pt.of x = some (true, []) := by rw [h2]; rfl
        have hF2 : F = (Pt.all (l.drop (k + 1))).map ((ps ++ [(true, [])]) ++ ·) := by rw [HFk.out, Pt.all_go hkl (by rw [← hx]; exact ho), Pt.map_app]
        have HF2 := Lib.hid hF2
        subst h2
        have hown2 := Hown.out.alloc (.cells #[.bool true, S []] 57)
        have hb2 : Below w.heap.size w (wr.alloc (.cells #[.bool true, S []] 57)) := Hbr.out.alloc Hbr.out.size _
        have hsz2 := hb2.size
        have hk63 : k + 1 ≤ maxLen := by unfold maxLen; omega
        have hk48 : ((k + 1) + (k + 1) / 4 + 192) * 24 ≤ 281474976710656 := by omega
        have Hnew := Lib.hid (row_news (Row.new wr 57 [.bool true, S []]))
        have Hown2 := Lib.hid hown2
        have Hb2 := Lib.hid hb2
        clear hF2 hx ho hown2 hb2
        go_wp2_with (at_builtin; refine wpList_append_own_wide _ rfl (.tmp 17) (.tmp 19) 22 rfl w.heap.size 57 i0 (.agg #[.bool false, .string ByteArray.empty]) 2 24 Tryd.underlying22 Hi.out Hz.out Hs.out Hby.out rfl (by decide) _ _ _ rfl Hown2.out ⟨wr.heap.size, 0, none⟩ 1 1 [.bool true, S []] rfl rfl Hnew.out (by intro u hu; simp at hu; rcases hu with rfl | rfl <;> rfl) hk63 hk48 hsz2 ?_
                     intro v' w3 hown3 hgrow3 _
                     obtain ⟨g, cp, rfl⟩ := ownsRow_succ hown3
                     have Hb3 := Lib.hid (below_row Hb2.out hsz2 Hown2.out hgrow3)
                     have Hown3 := Lib.hid hown3
                     clear hown3 hgrow3)
        refine ⟨⟨k + 1, ps ++ [(true, [])], hkm, by go_num, rfl, by rw [List.length_append, Hps.out]; rfl, HF2.out, by rw [Pt.flat_snoc]; exact Hown3.out, Hb3.out⟩, by simp [intOf]; omega⟩
      · have d2 : (x == [2]) = false := by simpa using h2
        cases x with
        | nil =>
          have hFn : F = none := by rw [HFk.out, Pt.all_none hkl (by rw [← hx]; rfl)]; rfl
          have HFn := Lib.hid hFn
          obtain ⟨Av, cv, rfl⟩ := own_form Hown.out
          clear hFn hx h2
          go_wp2_with fail
          rw [Exit.noGoto_ret]
          go_ret2
          rw [HFn.out]
          exact ⟨⟨Av, k, cv, rfl⟩, Hbr.out⟩
        | cons c r =>
          have he : (⟨(c :: r).toArray⟩ : ByteArray).toList.isEmpty = false := by
            rw [Bool.eq_false_iff]
            intro h
            have := (No.empty_iff _).1 h
            simp at this
          have hex := ext_tail c r
          by_cases hc1 : c = 1
          · have d1 : ((((⟨(c :: r).toArray⟩ : ByteArray).extract 0 1).toList == [1])) = true := by rw [ext_head, one_list, hc1]; rfl
            have ho : Pt.of (c :: r) = some (false, r) := by
              unfold Pt.of
              rw [if_neg h2]
              simp only
              rw [if_pos hc1]
            have hF2 : F = (Pt.all (l.drop (k + 1))).map ((ps ++ [(false, r)]) ++ ·) := by rw [HFk.out, Pt.all_go hkl (by rw [← hx]; exact ho), Pt.map_app]
            have HF2 := Lib.hid hF2
            have hown2 := Hown.out.alloc (.cells #[.bool false, S r] 57)
            have hb2 : Below w.heap.size w (wr.alloc (.cells #[.bool false, S r] 57)) := Hbr.out.alloc Hbr.out.size _
            have hsz2 := hb2.size
            have hk63 : k + 1 ≤ maxLen := by unfold maxLen; omega
            have hk48 : ((k + 1) + (k + 1) / 4 + 192) * 24 ≤ 281474976710656 := by omega
            have Hnew := Lib.hid (row_news (Row.new wr 57 [.bool false, S r]))
            have Hown2 := Lib.hid hown2
            have Hb2 := Lib.hid hb2
            clear hF2 hx ho hown2 hb2 h2 hc1
            go_wp2_with (at_builtin; refine wpList_append_own_wide _ rfl (.tmp 29) (.tmp 33) 22 rfl w.heap.size 57 i0 (.agg #[.bool false, .string ByteArray.empty]) 2 24 Tryd.underlying22 Hi.out Hz.out Hs.out Hby.out rfl (by decide) _ _ _ rfl Hown2.out ⟨wr.heap.size, 0, none⟩ 1 1 [.bool false, S r] rfl rfl Hnew.out (by intro u hu; simp at hu; rcases hu with rfl | rfl <;> rfl) hk63 hk48 hsz2 ?_
                         intro v' w3 hown3 hgrow3 _
                         obtain ⟨g, cp, rfl⟩ := ownsRow_succ hown3
                         have Hb3 := Lib.hid (below_row Hb2.out hsz2 Hown2.out hgrow3)
                         have Hown3 := Lib.hid hown3
                         clear hown3 hgrow3)
            refine ⟨⟨k + 1, ps ++ [(false, r)], hkm, by go_num, rfl, by rw [List.length_append, Hps.out]; rfl, HF2.out, by rw [Pt.flat_snoc]; exact Hown3.out, Hb3.out⟩, by simp [intOf]; omega⟩
          · have d1 : ((((⟨(c :: r).toArray⟩ : ByteArray).extract 0 1).toList == [1])) = false := by rw [ext_head, one_list]; simpa using hc1
            have hFn : F = none := by
              rw [HFk.out, Pt.all_none hkl (by
                rw [← hx]
                unfold Pt.of
                rw [if_neg h2]
                simp only
                rw [if_neg hc1])]; rfl
            have HFn := Lib.hid hFn
            obtain ⟨Av, cv, rfl⟩ := own_form Hown.out
            clear hFn hx h2 hc1
            go_wp2_with fail
            rw [Exit.noGoto_ret]
            go_ret2
            rw [HFn.out]
            exact ⟨⟨Av, k, cv, rfl⟩, Hbr.out⟩
    · have hki : (m : Int) ≤ (k : Int) := by omega
      obtain rfl : k = m := by omega
      have hFe : F = some ps := by
        rw [HFk.out, List.drop_of_length_le (by have := HM.out; omega)]
        simp [Pt.all]
      have HFe := Lib.hid hFe
      obtain ⟨Av, cv, rfl⟩ := own_form Hown.out
      clear hFe
      go_wp2_with fail
      rw [Exit.noGoto_ret]
      go_ret2
      rw [HFe.out]
      exact ⟨⟨Av, cv, by rw [Hps.out]; rfl, by rw [Hps.out]; exact Hown.out⟩, Hbr.out⟩
end Go.Proofs.YtinciddchpccnaaDoor

/- ---- NoBt4 ---- -/
/- notes: ReadBatch. -/
namespace Go.Proofs.YtinciddchpccnaaDoor
open Go.RowKit
set_option linter.unusedVariables false
set_option linter.unusedSimpArgs false

/-- parts in memory, not below lo -/
def PartsFrom (w : World) (lo : Nat) (A : Option Addr) (P : List Pt) : Prop :=
  P ≠ [] → ∃ b off, A = some ⟨b, off, none⟩ ∧ lo ≤ b ∧ b < w.heap.size ∧ (∃ cur, w.heap[b]? = some (.cells cur 57 (0, 0))) ∧ ∀ i (h : i < P.length), w.cell? ⟨b, off + i * 2, none⟩ = some (.bool (P[i]).1) ∧ w.cell? ⟨b, off + i * 2 + 1, none⟩ = some (S (P[i]).2)
theorem PartsFrom.grown {w w' : World} {lo : Nat} {A : Option Addr} {P : List Pt} {r : Option Nat} (h : PartsFrom w lo A P) (hg : w.grownBy w' r) (hr : ∀ k, r = some k → k < lo) : PartsFrom w' lo A P := fun hne => by
  obtain ⟨b, off, h1, h2, h3, h4⟩ := h hne
  have hne : some b ≠ r := fun e => by have := hr b e.symm; omega
  obtain ⟨⟨cur, hc⟩, h5⟩ := h4
  exact ⟨b, off, h1, h2, Nat.lt_of_lt_of_le h3 hg.size, ⟨cur, (hg.block b h3 hne).trans hc⟩, fun i hi => ⟨hg.cell (h5 i hi).1 hne, hg.cell (h5 i hi).2 hne⟩⟩
theorem PartsFrom.mono {w : World} {lo lo' : Nat} {A : Option Addr} {P : List Pt} (h : PartsFrom w lo A P) (hl : lo' ≤ lo) : PartsFrom w lo' A P := fun hne => by
  obtain ⟨b, off, h1, h2, h3, h4⟩ := h hne
  exact ⟨b, off, h1, by omega, h3, h4⟩
theorem PartsFrom.at {w : World} {lo : Nat} {A : Option Addr} {P : List Pt} (h : PartsFrom w lo A P) : PartsAt w w.heap.size A P := fun hne => by
  obtain ⟨b, off, h1, h2, h3, h4⟩ := h hne
  exact ⟨b, off, h1, h3, h4.2⟩
namespace Pt
theorem flat_at (l : List Pt) (i : Nat) (h : i < l.length) : (flat l)[i * 2]? = some (.bool (l[i]).1) ∧ (flat l)[i * 2 + 1]? = some (S (l[i]).2) := by
  induction l generalizing i with
  | nil => simp at h
  | cons p l ih =>
    have e : flat (p :: l) = [.bool p.1, S p.2] ++ flat l := rfl
    rw [e]
    cases i with
    | zero => simp
    | succ i =>
      have h2 := ih i (by simpa using h)
      rw [List.getElem?_append_right (by simp; omega), List.getElem?_append_right (by simp; omega)]
      simp only [List.length_cons, List.length_nil, List.getElem_cons_succ]
      rw [show (i + 1) * 2 - (0 + 1 + 1) = i * 2 by omega, show (i + 1) * 2 + 1 - (0 + 1 + 1) = i * 2 + 1 by omega]
      exact h2
end Pt
theorem parts_owned {W : World} {base n c : Nat} {A : Option Addr} {P : List Pt} (h : W.ownsRow base 57 2 (.slice A n c) P.length (Pt.flat P)) : PartsFrom W base A P ∧ n = P.length ∧ P.length ≤ c := by
  have hlt := h.lt
  have hcs := fun g (hg : (Value.slice A n c).ownBlock = some g) => h.cells hg
  rcases h.2 with ⟨he, hx⟩ | ⟨g, cap, cur, he, _, hh, hnc, _⟩
  · injection he with h1 h2 h3
    subst h1 h2 h3
    have : P = [] := List.length_eq_zero_iff.1 hx
    subst this
    exact ⟨fun h => absurd rfl h, rfl, Nat.le_refl _⟩
  · injection he with h1 h2 h3
    subst h1 h2 h3
    refine ⟨fun _ => ⟨g, 0, rfl, (hlt g rfl).1, (hlt g rfl).2, ⟨cur, hh⟩, fun i hi => ?_⟩, rfl, hnc⟩
    obtain ⟨f1, f2⟩ := Pt.flat_at P i hi
    have e : ∀ j, (⟨g, 0, none⟩ : Addr).add j = ⟨g, 0 + j, none⟩ := fun j => by unfold Addr.add; split <;> simp_all
    have k1 := hcs g rfl (i * 2) _ f1
    have k2 := hcs g rfl (i * 2 + 1) _ f2
    rw [e] at k1 k2
    exact ⟨k1, by rw [show 0 + i * 2 + 1 = 0 + (i * 2 + 1) by omega]; exact k2⟩
def Bt.zeroC : List Value := Bt.zero.cells none 0
theorem Bt.zeroC_built0 : Tryd.prog.built 24 [] = some Bt.zeroC.toArray := by kernel_rfl
def BtEnds (R : Option Bt) (lo : Nat) (e : Ending) (w' : World) : Prop :=
  match R with
  | some u => ∃ A c, e = .returned (.tuple #[.agg (u.cells A c).toArray, .int .i64 0]) ∧ PartsFrom w' lo A u.parts ∧ u.parts.length ≤ c
  | none => e = .returned (.tuple #[.agg Bt.zeroC.toArray, .int .i64 6])
namespace Bt
theorem read_none {s : No.T8} (h : Tx.listAll s = none) : read s = none := by unfold read; rw [h]; rfl
theorem of_ok {ns : List Int} {rest : List No.T8} {b : Bt} (h : of ns rest = some b) : b.ok = true ∧ ns = [b.seq, b.first, b.before] ∧ Pt.all rest = some b.parts := by
  unfold of at h
  split at h
  · next hd =>
    split at h
    · next hk =>
      simp only [Option.some.injEq] at h
      subst h
      exact ⟨hk, rfl, hd⟩
    · cases h
  · cases h
theorem ok_num {b : Bt} (h : b.ok = true) : Tx.num b.seq = true ∧ Tx.num b.first = true ∧ Tx.num b.before = true := by
  rw [ok_iff] at h
  rw [No.num_iff, No.num_iff, No.num_iff]
  exact h.1
theorem read_eq {s : No.T8} {l : List No.T8} (h : Tx.listAll s = some l) : read s = (No.nums 3 l).bind fun ns => of ns (l.drop 3) := by
  unfold read
  rw [h, No.nums_raw]
  simp only [Option.bind_some]
  cases hr : No.raw 3 l with
  | none => rfl
  | some ns =>
    simp only [Option.bind_some]
    by_cases ha : ns.all Tx.num = true
    · rw [if_pos ha]; rfl
    · rw [if_neg ha]
      cases ho : of ns (l.drop 3) with
      | none => rfl
      | some i =>
        obtain ⟨h1, h2, _⟩ := of_ok ho
        have := ok_num h1
        exact absurd (by rw [h2]; simp [this]) ha
theorem of_no {ns : List Int} {rest : List No.T8} (h : Pt.all rest = none) : of ns rest = none := by
  cases ho : of ns rest with
  | none => rfl
  | some b => rw [(of_ok ho).2.2] at h; cases h
theorem of_yes {a b c : Int} {rest : List No.T8} {ps : List Pt} (h : Pt.all rest = some ps) : of [a, b, c] rest = if (Bt.mk a b c ps).ok = true then some ⟨a, b, c, ps⟩ else none := by
  unfold of
  rw [h]
end Bt
set_option maxRecDepth 20000 in
set_option maxHeartbeats 1600000 in
theorem readBatch_any (s : ByteArray) (w : World) (hs : s.size ≤ 9223372036854775807) :
    Calls Tryd.prog 35 #[.string s] w fun e w' => BtEnds (Bt.read s.data.toList) w.heap.size e w' ∧ Below w.heap.size w w' := by
  have HZL : Hid (Bt.zeroC.length = 4) := (rfl : Bt.zeroC.length = 4)
  have HZ1 : Hid (∀ v ∈ Bt.zeroC, v.oneCell' = true) := Lib.hid (Bt.cells_one Bt.zero none 0)
  have FD := Lib.hid (fun W => fields_any s W hs)
  obtain ⟨R, hR⟩ : ∃ R, R = Bt.read s.data.toList := ⟨_, rfl⟩
  rw [← hR]
  have hzv : ∀ W : World, (zeroValue 24).run Tryd.prog W = .ok (.agg Bt.zeroC.toArray) W := fun W => by kernel_rfl
  have Hr0 := Lib.hid (Row.new w 24 Bt.zeroC)
  have Hb0 := Lib.hid ((Below.refl w.heap.size w).alloc (Nat.le_refl _) (.cells Bt.zeroC.toArray 24))
  have Hzd : Hid (Bt.zeroC.drop 3 = [.slice none 0 0]) := (rfl : Bt.zeroC.drop 3 = [.slice none 0 0])
  generalize hzz : Bt.zeroC = ZC at *
  have Hzz := Lib.hid hzz
  clear hzz
  cases hL : Tx.listAll s.data.toList with
  | none =>
    have HRn := Lib.hid (hR.trans (Bt.read_none hL))
    rw [hL] at FD
    clear hR hL
    go_enter Tryd.func35, Tryd.ntmps35
    go_wp2_with fail
    refine calls_named ?_
    intro w1 hw1
    have hr1 : Row w1 w.heap.size 24 ZC := by rw [hw1]; exact Hr0.out
    have hb1 : Below w.heap.size w w1 := by rw [hw1]; exact Hb0.out
    clear hw1 Hr0 Hb0 hzv
    refine (FD.out w1).mono ?_
    rintro _ w2 ⟨⟨v, rfl⟩, hb2⟩
    have Hrz2 := Lib.hid (hr1.kept (grownBy_of_below hb2 none) (by simp))
    have Hb2 := Lib.hid (two_below' hb1 hb2)
    clear hr1 hb1 hb2
    go_wp2_with (first
      | ((with_reducible show wpList _ _ _ (⟨_, .build 24 _, _, _, _, _⟩ :: _) _ _); refine wpList_buildL rfl 24 [] rfl (some 15) rfl _ rfl ZC.toArray (by rw [← Hzz.out]; exact Bt.zeroC_built0) ?_)
      | (with_reducible show wpList _ _ _ (⟨_, .store 24 _ _, _, _, _, _⟩ :: _) _ _
         refine wpList_store_at rfl 24 (.tmp 2) (.tmp 15) rfl (w.heap.size) 0 ZC _ _ rfl rfl Hrz2.out (by have := HZL.out; omega) (by rw [batch_info, HZL.out]) HZ1.out ?_
         intro wZ hrZ hgZ
         rw [splice_all rfl] at hrZ
         have HrZ := Lib.hid hrZ
         have HbZ := Lib.hid (below_own Hb2.out hgZ (fun k hk => by cases hk; exact Nat.le_refl _))
         clear hrZ hgZ))
    refine bodyPost_ret (results_rowL rfl _ _ (w.heap.size) 24 _ _ rfl HrZ.out Tryd.underlying24 rfl (by rw [batch_info, List.size_toArray, HZL.out]) _ rfl) rfl ⟨?_, HbZ.out⟩
    rw [HRn.out]
    exact congrArg (fun Z : List Value => Ending.returned (.tuple #[.agg Z.toArray, .int .i64 6])) Hzz.out.symm
  | some l =>
    have HRe := Lib.hid (hR.trans (Bt.read_eq hL))
    have hlx := Tx.listAll_text hL
    have hlf := listAll_few hL
    rw [hL] at FD
    have Hlx := Lib.hid hlx
    clear hR hL hlx
    go_enter Tryd.func35, Tryd.ntmps35
    go_wp2_with fail
    refine calls_named ?_
    intro w1 hw1
    have hr1 : Row w1 w.heap.size 24 ZC := by rw [hw1]; exact Hr0.out
    have hb1 : Below w.heap.size w w1 := by rw [hw1]; exact Hb0.out
    clear hw1 Hr0 Hb0
    refine (FD.out w1).mono ?_
    rintro _ w2 ⟨⟨v, rfl, hT⟩, hb2⟩
    obtain ⟨A, c, rfl, hlc, hTx⟩ := hT
    have hrz2 := hr1.kept (grownBy_of_below hb2 none) (by simp)
    have Hb2 := Lib.hid (two_below' hb1 hb2)
    have Hrz2 := Lib.hid hrz2
    have hzg : w.heap.size < w2.heap.size := hrz2.lt
    have HTx := Lib.hid hTx
    clear hr1 hb1 hb2 hrz2 hTx
    obtain ⟨m, hm⟩ : ∃ m, m = l.length := ⟨_, rfl⟩
    rw [← hm] at hlf hlc ⊢
    have HM := Lib.hid hm
    clear hm
    go_wp2_with fail
    refine calls_named ?_
    intro w3 hw3
    obtain ⟨rp3, hb3, rg3⟩ := row_two w2 ZC.toArray (No.ptrs w2.heap.size 3).toArray 24 98
    have hx3 : w3 = (w2.alloc (.cells ZC.toArray 24)).alloc (.cells (No.ptrs w2.heap.size 3).toArray 98) := hw3
    have hp3 : Row w3 (w2.heap.size + 1) 98 (No.ptrs w2.heap.size 3) := by rw [hx3]; exact rp3
    have hg3 : Row w3 w2.heap.size 24 ZC := by rw [hx3]; exact rg3
    have hbb3 : Below w2.heap.size w2 w3 := by rw [hx3]; exact hb3
    have htx3 : Texts w3 w2.heap.size A l := fun hne => by
      obtain ⟨b, off, h1, h2, h3⟩ := HTx.out hne
      exact ⟨b, off, h1, h2, fun i hi => (grownBy_of_below hbb3 none).cell (h3 i hi) (by simp)⟩
    have Hrz3 := Lib.hid (Hrz2.out.kept (grownBy_of_below hbb3 none) (by simp))
    have Hb3 := Lib.hid (two_below' Hb2.out hbb3)
    have NR := noRead_any l A c 3 ZC 24 w3 w2.heap.size (w2.heap.size + 1) 3 Hlx.out (by rw [← HM.out]; omega) (by rw [← HM.out]; exact hlc) htx3 hg3 hp3 (by omega) (by rw [HZL.out]; omega) (by omega) (by omega)
    rw [← HM.out] at NR
    have HNR := Lib.hid NR
    have hz3 : w2.heap.size + 1 < w3.heap.size := hp3.lt
    clear rp3 hb3 rg3 hx3 hw3 hp3 hg3 hbb3 htx3 NR
    obtain ⟨g, hg⟩ : ∃ g, g = w2.heap.size := ⟨_, rfl⟩
    rw [← hg] at HNR hzg hz3
    simp only [← hg]
    clear hg HTx hzv
    refine HNR.out.mono ?_
    rintro _ w4 ⟨hN, hb4⟩
    have hg4 : g < w4.heap.size := by have := hb4.size; omega
    have Hrz4 := Lib.hid (no_row_below Hrz3.out hb4 hzg)
    have Hb4 := Lib.hid (Hb3.out.trans (hb4.mono (Nat.le_of_lt hzg)))
    clear hb4 HNR
    cases hF : No.nums 3 l with
    | none =>
      rw [hF] at hN
      obtain ⟨v, rfl⟩ := hN
      have hRn : R = none := by rw [HRe.out, hF]; rfl
      have HRn := Lib.hid hRn
      clear hRn hF
      go_wp2_with (first
        | ((with_reducible show wpList _ _ _ (⟨_, .build 24 _, _, _, _, _⟩ :: _) _ _); refine wpList_buildL rfl 24 [] rfl (some 27) rfl _ rfl ZC.toArray (by rw [← Hzz.out]; exact Bt.zeroC_built0) ?_)
        | (with_reducible show wpList _ _ _ (⟨_, .store 24 _ _, _, _, _, _⟩ :: _) _ _
           refine wpList_store_at rfl 24 (.tmp 2) (.tmp 27) rfl (w.heap.size) 0 ZC _ _ rfl rfl Hrz4.out (by have := HZL.out; omega) (by rw [batch_info, HZL.out]) HZ1.out ?_
           intro wZ hrZ hgZ
           rw [splice_all rfl] at hrZ
           have HrZ := Lib.hid hrZ
           have HbZ := Lib.hid (below_own Hb4.out hgZ (fun k hk => by cases hk; exact Nat.le_refl _))
           clear hrZ hgZ))
      refine bodyPost_ret (results_rowL rfl _ _ (w.heap.size) 24 _ _ rfl HrZ.out Tryd.underlying24 rfl (by rw [batch_info, List.size_toArray, HZL.out]) _ rfl) rfl ⟨?_, HbZ.out⟩
      rw [HRn.out]
      exact congrArg (fun Z : List Value => Ending.returned (.tuple #[.agg Z.toArray, .int .i64 6])) Hzz.out.symm
    | some ns =>
      rw [hF] at hN
      obtain ⟨A', c', rfl, hc', hT', hr4⟩ := hN
      obtain ⟨hn3, hml, hfit⟩ := nums_len hF
      obtain ⟨a, b, d, rfl⟩ := three_of hn3
      have hRe : R = Bt.of [a, b, d] (l.drop 3) := by rw [HRe.out, hF]; rfl
      have HRs := Lib.hid hRe
      have hml3 : l.length - 3 = m - 3 := by rw [← HM.out]
      have hmm : (l.drop 3).length = m - 3 := by rw [List.length_drop, ← HM.out]
      have RP := readParts_any (l.drop 3) A' c' w4 (fun x hx => Hlx.out x (List.mem_of_mem_drop hx)) (by rw [hmm]; omega) (fun hne => by
        obtain ⟨b, off, h1, h2, h3⟩ := hT' hne
        exact ⟨b, off, h1, by omega, h3⟩)
      rw [hmm] at RP
      have HRP := Lib.hid RP
      rw [Hzd.out] at hr4
      have Hr4 := Lib.hid hr4
      rw [hml3] at hc' ⊢
      clear hr4 hRe hF hfit hn3 hT' hml RP hml3
      obtain ⟨m3, hm3⟩ : ∃ x, x = m - 3 := ⟨_, rfl⟩
      rw [← hm3] at HRP ⊢
      clear hm3
      go_wp2_with fail
      refine HRP.out.mono ?_
      rintro _ w5 ⟨hH, hb5⟩
      have hg5 := grownBy_of_below hb5 none
      have Hrz5 := Lib.hid (Hrz4.out.kept hg5 (by simp))
      have hr5 := Hr4.out.kept hg5 (by simp)
      have Hb5 := Lib.hid (two_below' Hb4.out hb5)
      have c3 := hr5.cell 3 (by simp [Is])
      have f3 := hr5.free 3
      have Hr5 := Lib.hid hr5
      generalize (Is [a, b, d] ++ [.slice none 0 0])[3]'(by simp [Is]) = ov at c3
      clear hr5 hb5 hg5 HRP
      cases hall : Pt.all (l.drop 3) with
      | none =>
        rw [hall] at hH
        obtain ⟨Av, nv, cv, rfl⟩ := hH
        have hRn : R = none := by rw [HRs.out, Bt.of_no hall]
        have HRn := Lib.hid hRn
        have Hrz6 := Lib.hid (Hrz5.out.kept (grownBy_set w5 g 3 (.slice Av nv cv)) (by simp; omega))
        have Hb6 := Lib.hid (below_own Hb5.out (grownBy_set w5 g 3 (.slice Av nv cv)) (fun k hk => by cases hk; omega))
        clear hRn hall
        go_wp2_with (first
          | ((with_reducible show wpList _ _ _ (⟨_, .build 24 _, _, _, _, _⟩ :: _) _ _); refine wpList_buildL rfl 24 [] rfl (some 41) rfl _ rfl ZC.toArray (by rw [← Hzz.out]; exact Bt.zeroC_built0) ?_)
          | (with_reducible show wpList _ _ _ (⟨_, .store 24 _ _, _, _, _, _⟩ :: _) _ _
             refine wpList_store_at rfl 24 (.tmp 2) (.tmp 41) rfl (w.heap.size) 0 ZC _ _ rfl rfl Hrz6.out (by have := HZL.out; omega) (by rw [batch_info, HZL.out]) HZ1.out ?_
             intro wZ hrZ hgZ
             rw [splice_all rfl] at hrZ
             have HrZ := Lib.hid hrZ
             have HbZ := Lib.hid (below_own Hb6.out hgZ (fun k hk => by cases hk; exact Nat.le_refl _))
             clear hrZ hgZ))
        refine bodyPost_ret (results_rowL rfl _ _ (w.heap.size) 24 _ _ rfl HrZ.out Tryd.underlying24 rfl (by rw [batch_info, List.size_toArray, HZL.out]) _ rfl) rfl ⟨?_, HbZ.out⟩
        rw [HRn.out]
        exact congrArg (fun Z : List Value => Ending.returned (.tuple #[.agg Z.toArray, .int .i64 6])) Hzz.out.symm
      | some ps =>
        rw [hall] at hH
        obtain ⟨Av, cv, rfl, hown⟩ := hH
        obtain ⟨hpf, _, hpc⟩ := parts_owned hown
        have hRo : R = if (Bt.mk a b d ps).ok = true then some ⟨a, b, d, ps⟩ else none := by rw [HRs.out, Bt.of_yes hall]
        obtain ⟨u, hu⟩ : ∃ u : Bt, u = ⟨a, b, d, ps⟩ := ⟨_, rfl⟩
        have hup : u.parts = ps := by rw [hu]
        have hr6 : Row (w5.setCell ⟨g, 3, none⟩ (.slice Av ps.length cv)) g 24 (u.cells Av cv) := by
          rw [hu]
          exact Hr5.out.set 3 (.slice Av ps.length cv) (by simp [Is])
        have hgs := grownBy_set w5 g 3 (.slice Av ps.length cv)
        have Hrz6 := Lib.hid (Hrz5.out.kept hgs (by simp; omega))
        have Hb6 := Lib.hid (below_own Hb5.out hgs (fun k hk => by cases hk; omega))
        have Hr6 := Lib.hid hr6
        have Hpf6 := Lib.hid (hpf.grown hgs (fun k hk => by cases hk; exact hg4))
        have hlt6 := hr6.lt
        rw [← hu] at hRo
        have HRo := Lib.hid hRo
        have HUL := Lib.hid (u.cells_len Av cv)
        have HU1 := Lib.hid (u.cells_one Av cv)
        have MB := batchMayBe_any u Av cv _ (by rw [hup]; exact Hpf6.out.at)
        have HMB := Lib.hid MB
        have Hpc : Hid (u.parts.length ≤ cv) := Lib.hid (by rw [hup]; exact hpc)
        have Hup := Lib.hid hup
        have Hpl := Lib.hid (show Value.slice Av ps.length cv = .slice Av u.parts.length cv by rw [hup])
        clear hr6 hRo hown hpf hpc hall HRs hgs MB hup hu
        obtain ⟨UC, hUC⟩ : ∃ UC, UC = u.cells Av cv := ⟨_, rfl⟩
        rw [← hUC] at Hr6 HUL HU1 HMB
        have HUC := Lib.hid hUC
        clear hUC
        rcases Bool.eq_false_or_eq_true u.ok with hk | hk
        · rw [hk] at HMB
          have hRs : R = some u := by rw [HRo.out, if_pos hk]
          have HRs := Lib.hid hRs
          clear hRs hk
          go_wp2_with (with_reducible show wpList _ _ _ (⟨_, .load 24 _, _, _, _, _⟩ :: _) _ _; refine wpList_load_tx rfl 24 (.tmp 6) rfl g 0 rfl UC _ (row_range Hr6.out) Tryd.underlying24 rfl (by rw [batch_info, HUL.out]) ?_)
          refine HMB.out.mono ?_
          rintro _ w7 ⟨rfl, hb7⟩
          have hg7 := grownBy_of_below hb7 none
          have Hr7 := Lib.hid (Hr6.out.kept hg7 (by simp))
          have Hrz7 := Lib.hid (Hrz6.out.kept hg7 (by simp))
          have Hb7 := Lib.hid (below_own Hb6.out hg7 (fun k hk => by cases hk))
          have Hpf7 := Lib.hid (Hpf6.out.grown hg7 (fun k hk => by cases hk))
          clear hb7 hg7
          go_wp2_with (first
            | (with_reducible show wpList _ _ _ (⟨_, .load 24 _, _, _, _, _⟩ :: _) _ _; refine wpList_load_tx rfl 24 (.tmp 6) rfl g 0 rfl UC _ (row_range Hr7.out) Tryd.underlying24 rfl (by rw [batch_info, HUL.out]) ?_)
            | (with_reducible show wpList _ _ _ (⟨_, .store 24 _ _, _, _, _, _⟩ :: _) _ _
               refine wpList_store_at rfl 24 (.tmp 2) (.tmp 42) rfl (w.heap.size) 0 UC _ _ rfl rfl Hrz7.out (by have := HZL.out; have := HUL.out; omega) (by rw [batch_info, HUL.out]) HU1.out ?_
               intro wZ hrZ hgZ
               rw [splice_all (HUL.out.trans HZL.out.symm)] at hrZ
               have HrZ := Lib.hid hrZ
               have HpZ := Lib.hid ((Hpf7.out.grown (r := some w.heap.size) hgZ (fun k hk => by cases hk; omega)).mono (Nat.le_of_lt (Nat.lt_trans hzg hg4)))
               have HbZ := Lib.hid (below_own Hb7.out hgZ (fun k hk => by cases hk; exact Nat.le_refl _))
               clear hrZ hgZ))
          refine bodyPost_ret (results_rowL rfl _ _ (w.heap.size) 24 _ _ rfl HrZ.out Tryd.underlying24 rfl (by rw [batch_info, List.size_toArray, HUL.out]) _ rfl) rfl ⟨?_, HbZ.out⟩
          rw [HRs.out]
          exact ⟨Av, cv, by rw [← HUC.out]; rfl, by rw [Hup.out]; exact HpZ.out, Hpc.out⟩
        · rw [hk] at HMB
          have hRn : R = none := by rw [HRo.out, if_neg (by rw [hk]; simp)]
          have HRn := Lib.hid hRn
          clear hRn hk
          go_wp2_with (with_reducible show wpList _ _ _ (⟨_, .load 24 _, _, _, _, _⟩ :: _) _ _; refine wpList_load_tx rfl 24 (.tmp 6) rfl g 0 rfl UC _ (row_range Hr6.out) Tryd.underlying24 rfl (by rw [batch_info, HUL.out]) ?_)
          refine HMB.out.mono ?_
          rintro _ w7 ⟨rfl, hb7⟩
          have hg7 := grownBy_of_below hb7 none
          have Hrz7 := Lib.hid (Hrz6.out.kept hg7 (by simp))
          have Hb7 := Lib.hid (below_own Hb6.out hg7 (fun k hk => by cases hk))
          clear hb7 hg7
          go_wp2_with (first
            | ((with_reducible show wpList _ _ _ (⟨_, .build 24 _, _, _, _, _⟩ :: _) _ _); refine wpList_buildL rfl 24 [] rfl (some 41) rfl _ rfl ZC.toArray (by rw [← Hzz.out]; exact Bt.zeroC_built0) ?_)
            | (with_reducible show wpList _ _ _ (⟨_, .store 24 _ _, _, _, _, _⟩ :: _) _ _
               refine wpList_store_at rfl 24 (.tmp 2) (.tmp 41) rfl (w.heap.size) 0 ZC _ _ rfl rfl Hrz7.out (by have := HZL.out; omega) (by rw [batch_info, HZL.out]) HZ1.out ?_
               intro wZ hrZ hgZ
               rw [splice_all rfl] at hrZ
               have HrZ := Lib.hid hrZ
               have HbZ := Lib.hid (below_own Hb7.out hgZ (fun k hk => by cases hk; exact Nat.le_refl _))
               clear hrZ hgZ))
          refine bodyPost_ret (results_rowL rfl _ _ (w.heap.size) 24 _ _ rfl HrZ.out Tryd.underlying24 rfl (by rw [batch_info, List.size_toArray, HZL.out]) _ rfl) rfl ⟨?_, HbZ.out⟩
          rw [HRn.out]
          exact congrArg (fun Z : List Value => Ending.returned (.tuple #[.agg Z.toArray, .int .i64 6])) Hzz.out.symm
end Go.Proofs.YtinciddchpccnaaDoor

/- ---- NoRf7 ---- -/
/- The reference of layer 5: ReadBatch. -/
namespace Go.Proofs.YtinciddchpccnaaDoor
open Go.RowKit
set_option linter.unusedVariables false
set_option linter.unusedSimpArgs false

theorem Bt.of_bad {ns : List Int} {rest : List No.T8} {k : Nat} (hk : k < rest.length) (h : ∀ p, Pt.of rest[k] = some p → Pt.ok p = false) : Bt.of ns rest = none := by
  cases ho : Bt.of ns rest with
  | none => rfl
  | some b =>
    obtain ⟨h1, h2, h3⟩ := Bt.of_ok ho
    have hl := Pt.lay_all h3
    have ha := ((Bt.ok_iff b).1 h1).2.2
    have hkb : k < b.parts.length := by rw [← hl] at hk; simpa using hk
    have hok := List.all_eq_true.1 ha _ (List.getElem_mem hkb)
    have e : rest[k] = Pt.lay b.parts[k] := by
      simp only [← hl, List.getElem_map]
    have := h b.parts[k] (by rw [e]; exact Pt.of_lay hok)
    rw [this] at hok
    cases hok
theorem Bt.of_long {ns : List Int} {rest : List No.T8} (h : 512 < rest.length) : Bt.of ns rest = none := by
  cases ho : Bt.of ns rest with
  | none => rfl
  | some b =>
    obtain ⟨h1, h2, h3⟩ := Bt.of_ok ho
    have hl := Pt.lay_all h3
    have ha := ((Bt.ok_iff b).1 h1).2.1
    rw [← hl, List.length_map] at h
    omega
theorem part5_of (d : Bool) (t : List UInt8) (ht : t.length ≤ 65536) (ly : List UInt8) (b : Bool) (h1 : Pt.lay (d, t) = ly) (h2 : Pt.ok (d, t) = b) (w : World) :
    Calls Tryd.prog 45 #[.agg #[.bool d, S t]] w fun e w' => e = .returned (.tuple #[S ly, .bool b]) ∧ Below w.heap.size w w' := by
  have := part5_any d t (by omega) w
  rw [h1, h2] at this
  exact this
set_option maxRecDepth 20000 in
/-- what the last checks of ReadBatch read -/
theorem bt_ok_of {a b d : Int} {ps : List Pt} (hl : ps.length ≤ 512) (hp : ps.all Pt.ok = true) : (Bt.mk a b d ps).ok = (Tx.num a && (Tx.num b && Tx.num d)) := by
  unfold Bt.ok
  rw [hp, decide_eq_true hl]
  simp
set_option maxRecDepth 20000 in
set_option maxHeartbeats 12800000 in
theorem rreadBatch_any (s : ByteArray) (w : World) (hs : s.size ≤ 140737488351232) :
    Calls Tryd.prog 40 #[.string s] w fun e w' => BtEnds (Bt.read s.data.toList) w.heap.size e w' ∧ Below w.heap.size w w' := by
  have HZL : Hid (Bt.zeroC.length = 4) := (rfl : Bt.zeroC.length = 4)
  have HZ1 := Lib.hid (Bt.cells_one Bt.zero none 0)
  have hzv : ∀ W : World, (zeroValue 24).run Tryd.prog W = .ok (.agg Bt.zeroC.toArray) W := fun W => by kernel_rfl
  have LS := Lib.hid (fun W => rlist4_any s W hs)
  obtain ⟨R, hR⟩ : ∃ R, R = Bt.read s.data.toList := ⟨_, rfl⟩
  rw [← hR]
  have Hr0 := Lib.hid (Row.new w 24 Bt.zeroC)
  have Hb0 := Lib.hid ((Below.refl w.heap.size w).alloc (Nat.le_refl _) (.cells Bt.zeroC.toArray 24))
  have HRr := Lib.hid hR
  clear hR
  go_enter Tryd.func40, Tryd.ntmps40
  go_wp2_with fail
  refine calls_named ?_
  intro w1 hw1
  have hB1 : Blocks w w1 [(w.heap.size, 24, Bt.zeroC)] := by rw [hw1]; exact (Blocks.nil Hb0.out).cons Hr0.out
  have HB1 := Lib.hid hB1
  clear hw1 hB1 Hr0 Hb0
  refine (LS.out w1).mono ?_
  rintro _ w2 ⟨L, v, n, rfl, hT, hL, hb2⟩
  obtain ⟨A, c, rfl, hTx⟩ := hT
  have HB2 := Lib.hid (HB1.out.step hb2)
  have HTx := Lib.hid hTx
  have HL := Lib.hid hL
  clear hb2 hTx hL HB1
  have htl : (∀ x ∈ L, x.length ≤ 65536) ∧ L.length ≤ 1024 := by
    rcases HL.out with ⟨_, h⟩ | ⟨_, _, h⟩
    · exact ⟨Tx.listAll_text h, listAll_few h⟩
    · rw [h]; simp
  have NB := Lib.hid (fun W hW => numbers5_any L A c 3 W (by decide) htl.1 hW)
  have hlf := htl.2
  have HTl := Lib.hid htl.1
  obtain ⟨m, hm⟩ : ∃ m, m = L.length := ⟨_, rfl⟩
  rw [← hm] at NB hlf ⊢
  have HM := Lib.hid hm
  clear hm htl
  go_wp2_with fail
  refine (NB.out _ HTx.out).mono ?_
  rintro _ w3 ⟨hN, hb3⟩
  have HB3 := Lib.hid (HB2.out.step hb3)
  have HTx3 : Hid (Texts w3 w3.heap.size A L) := fun hne => by
    obtain ⟨b, off, h1, h2, h3⟩ := HTx.out hne
    exact ⟨b, off, h1, Nat.lt_of_lt_of_le h2 hb3.size, fun i hi => (grownBy_of_below hb3 none).cell (h3 i hi) (by simp)⟩
  clear hb3 HB2 HTx NB
  rcases HL.out with ⟨rfl, hL⟩ | ⟨hne, hL, hLn⟩
  rotate_left
  · have HRn := Lib.hid (HRr.out.trans (Bt.read_none hL))
    rw [hLn] at hN
    obtain ⟨v, rfl⟩ : ∃ v, _ = _ := hN
    have Hrz := Lib.hid HB3.out.hd
    have Hbz := Lib.hid HB3.out.1
    clear hL hLn
    go_wp2_with (first
      | (with_reducible show wpList _ _ _ (⟨_, .build 24 _, _, _, _, _⟩ :: _) _ _; refine wpList_buildL rfl 24 [] rfl (some 34) rfl _ rfl _ Bt.zeroC_built0 ?_)
      | (with_reducible show wpList _ _ _ (⟨_, .store 24 _ _, _, _, _, _⟩ :: _) _ _
         refine wpList_store_at rfl 24 (.tmp 2) (.tmp 34) rfl (w.heap.size) 0 Bt.zeroC _ _ rfl rfl Hrz.out (by have := HZL.out; omega) (by rw [batch_info, HZL.out]) HZ1.out ?_
         intro wZ hrZ hgZ
         rw [splice_all rfl] at hrZ
         have HrZ := Lib.hid hrZ
         have HbZ := Lib.hid (below_own Hbz.out hgZ (fun k hk => by cases hk; exact Nat.le_refl _))
         clear hrZ hgZ))
    refine bodyPost_ret (results_rowL rfl _ _ (w.heap.size) 24 _ _ rfl HrZ.out Tryd.underlying24 rfl (by rw [batch_info, List.size_toArray, HZL.out]) _ rfl) rfl ⟨?_, HbZ.out⟩
    rw [HRn.out]
    exact rfl
  have HRe := Lib.hid (HRr.out.trans (by unfold Bt.read; rw [hL, Option.bind_some] : _ = (No.raw 3 L).bind fun ns => Bt.of ns (L.drop 3)))
  clear hL
  cases hF : No.raw 3 L with
  | none =>
    rw [hF] at hN
    obtain ⟨v, rfl⟩ := hN
    have HRn := Lib.hid (HRe.out.trans (by rw [hF, Option.bind_none]))
    have Hrz := Lib.hid HB3.out.hd
    have Hbz := Lib.hid HB3.out.1
    clear hF
    go_wp2_with (first
      | (with_reducible show wpList _ _ _ (⟨_, .build 24 _, _, _, _, _⟩ :: _) _ _; refine wpList_buildL rfl 24 [] rfl (some 34) rfl _ rfl _ Bt.zeroC_built0 ?_)
      | (with_reducible show wpList _ _ _ (⟨_, .store 24 _ _, _, _, _, _⟩ :: _) _ _
         refine wpList_store_at rfl 24 (.tmp 2) (.tmp 34) rfl (w.heap.size) 0 Bt.zeroC _ _ rfl rfl Hrz.out (by have := HZL.out; omega) (by rw [batch_info, HZL.out]) HZ1.out ?_
         intro wZ hrZ hgZ
         rw [splice_all rfl] at hrZ
         have HrZ := Lib.hid hrZ
         have HbZ := Lib.hid (below_own Hbz.out hgZ (fun k hk => by cases hk; exact Nat.le_refl _))
         clear hrZ hgZ))
    refine bodyPost_ret (results_rowL rfl _ _ (w.heap.size) 24 _ _ rfl HrZ.out Tryd.underlying24 rfl (by rw [batch_info, List.size_toArray, HZL.out]) _ rfl) rfl ⟨?_, HbZ.out⟩
    rw [HRn.out]
    exact rfl
  | some ns =>
    rw [hF] at hN
    obtain ⟨v, rfl, hown⟩ := hN
    obtain ⟨hn3, hml, hfit⟩ := No.raw_len _ _ _ hF
    obtain ⟨g, cp, rfl⟩ := ownsRow_succ hown
    have hcell := fun j v (h : (Is ns)[j]? = some v) => hown.cells rfl j v h
    have hglt := (hown.lt g rfl).2
    have HRs := Lib.hid (HRe.out.trans (by rw [hF]; rfl : _ = Bt.of ns (L.drop 3)))
    clear hF hown HRe
    obtain ⟨a, b, d, rfl⟩ := three_of hn3
    have hm3 : 3 ≤ m := by rw [HM.out]; exact hml
    clear hn3 hml
    by_cases h515 : m ≤ 515
    · have hmi : (m : Int) ≤ 515 := by omega
      have hi0 := hcell 0 _ rfl
      have hi1 := hcell 1 _ rfl
      have hi2 := hcell 2 _ rfl
      have hadd : ∀ j, (⟨g, 0, none⟩ : Addr).add j = ⟨g, 0 + j, none⟩ := fun j => by unfold Addr.add; split <;> simp_all
      rw [hadd, Nat.zero_add] at hi0 hi1 hi2
      have IB : Hid (∀ W, Below w3.heap.size w3 W → W.cell? ⟨g, 0, none⟩ = some (.int .i64 a) ∧ W.cell? ⟨g, 1, none⟩ = some (.int .i64 b) ∧ W.cell? ⟨g, 2, none⟩ = some (.int .i64 d)) := fun W hW =>
        ⟨(hW.cell (p := ⟨g, 0, none⟩) hglt).trans hi0, (hW.cell (p := ⟨g, 1, none⟩) hglt).trans hi1, (hW.cell (p := ⟨g, 2, none⟩) hglt).trans hi2⟩
      have hbu : Tryd.prog.built 24 [(0, .int .i64 a), (1, .int .i64 b), (2, .int .i64 d)] = some ([.int .i64 a, .int .i64 b, .int .i64 d, .slice none 0 0] : List Value).toArray := by kernel_rfl
      have Hbu := Lib.hid hbu
      have HUL : Hid (([.int .i64 a, .int .i64 b, .int .i64 d, .slice none 0 0] : List Value).length = 4) := (rfl : ([.int .i64 a, .int .i64 b, .int .i64 d, .slice none 0 0] : List Value).length = 4)
      have hu1 : ∀ v ∈ ([.int .i64 a, .int .i64 b, .int .i64 d, .slice none 0 0] : List Value), v.oneCell' = true := by
        intro v hv
        simp at hv
        rcases hv with rfl | rfl | rfl | rfl <;> rfl
      have HU1 := Lib.hid hu1
      have HS0 : Hid (BlocksS w w3 w3.drew [(w.heap.size, 24, Bt.zeroC)]) := Lib.hid ⟨HB3.out.drew, (Below.refl _ _).drew⟩
      have HG := Lib.hid (fun (x y z : List No.T8 → Prop) => trivial)
      have N0 := Lib.hid (fun b1 h W => within5_b a 1099511627776 b1 h W)
      have N1 := Lib.hid (fun b1 h W => within5_b b 1099511627776 b1 h W)
      have N2 := Lib.hid (fun b1 h W => within5_b d 1099511627776 b1 h W)
      clear hi0 hi1 hi2 hadd hcell hbu hu1 hfit HG
      go_wp2_with fail
      refine wp_region_noPanic ?_
      refine wp_region_held_drew (S := fun w' => BlocksS w w3 w' [(w.heap.size, 24, Bt.zeroC)]) (by kernel_rfl) (HS0.out) (fun hHeld => ?_)
      generalize w3.drew = wq at *
      refine wpAnyH_take (i := 0) (v := .slice (some ⟨g, 0, none⟩) 3 cp) rfl (by kernel_rfl) (by kernel_rfl) (by kernel_rfl) (fun _ _ _ h => h) (Or.inl ⟨by rfl, fun w' hSw => by go_simp⟩) hHeld ?_
      try simp only [Act.put, List.getElem_toArray, List.getElem_cons_succ, List.getElem_cons_zero, List.setIfInBounds_toArray, List.set_cons_zero, List.set_cons_succ]
      refine wpAnyH_take (i := 1) (v := .pointer (some ⟨g, 0, none⟩)) rfl (by kernel_rfl) (by kernel_rfl) (by kernel_rfl) (fun _ _ _ h => h) (Or.inl ⟨by rfl, fun w' hSw => by go_simp⟩) hHeld ?_
      try simp only [Act.put, List.getElem_toArray, List.getElem_cons_succ, List.getElem_cons_zero, List.setIfInBounds_toArray, List.set_cons_zero, List.set_cons_succ]
      refine wpAnyH_take (i := 2) (v := .int .i64 a) rfl (by kernel_rfl) (by kernel_rfl) (by kernel_rfl) (fun _ _ _ h => h) (Or.inl ⟨by rfl, fun w' hSw => by have hq := hSw; have hc := (IB.out _ hq.2).1; go_simp⟩) hHeld ?_
      try simp only [Act.put, List.getElem_toArray, List.getElem_cons_succ, List.getElem_cons_zero, List.setIfInBounds_toArray, List.set_cons_zero, List.set_cons_succ]
      refine wpAnyH_take (i := 3) (v := .slice (some ⟨g, 0, none⟩) 3 cp) rfl (by kernel_rfl) (by kernel_rfl) (by kernel_rfl) (fun _ _ _ h => h) (Or.inl ⟨by rfl, fun w' hSw => by go_simp⟩) hHeld ?_
      try simp only [Act.put, List.getElem_toArray, List.getElem_cons_succ, List.getElem_cons_zero, List.setIfInBounds_toArray, List.set_cons_zero, List.set_cons_succ]
      refine wpAnyH_take (i := 4) (v := .pointer (some ⟨g, 1, none⟩)) rfl (by kernel_rfl) (by kernel_rfl) (by kernel_rfl) (fun _ _ _ h => h) (Or.inl ⟨by rfl, fun w' hSw => by go_simp⟩) hHeld ?_
      try simp only [Act.put, List.getElem_toArray, List.getElem_cons_succ, List.getElem_cons_zero, List.setIfInBounds_toArray, List.set_cons_zero, List.set_cons_succ]
      refine wpAnyH_take (i := 5) (v := .int .i64 b) rfl (by kernel_rfl) (by kernel_rfl) (by kernel_rfl) (fun _ _ _ h => h) (Or.inl ⟨by rfl, fun w' hSw => by have hq := hSw; have hc := (IB.out _ hq.2).2.1; go_simp⟩) hHeld ?_
      try simp only [Act.put, List.getElem_toArray, List.getElem_cons_succ, List.getElem_cons_zero, List.setIfInBounds_toArray, List.set_cons_zero, List.set_cons_succ]
      refine wpAnyH_take (i := 6) (v := .slice (some ⟨g, 0, none⟩) 3 cp) rfl (by kernel_rfl) (by kernel_rfl) (by kernel_rfl) (fun _ _ _ h => h) (Or.inl ⟨by rfl, fun w' hSw => by go_simp⟩) hHeld ?_
      try simp only [Act.put, List.getElem_toArray, List.getElem_cons_succ, List.getElem_cons_zero, List.setIfInBounds_toArray, List.set_cons_zero, List.set_cons_succ]
      refine wpAnyH_take (i := 7) (v := .pointer (some ⟨g, 2, none⟩)) rfl (by kernel_rfl) (by kernel_rfl) (by kernel_rfl) (fun _ _ _ h => h) (Or.inl ⟨by rfl, fun w' hSw => by go_simp⟩) hHeld ?_
      try simp only [Act.put, List.getElem_toArray, List.getElem_cons_succ, List.getElem_cons_zero, List.setIfInBounds_toArray, List.set_cons_zero, List.set_cons_succ]
      refine wpAnyH_take (i := 8) (v := .int .i64 d) rfl (by kernel_rfl) (by kernel_rfl) (by kernel_rfl) (fun _ _ _ h => h) (Or.inl ⟨by rfl, fun w' hSw => by have hq := hSw; have hc := (IB.out _ hq.2).2.2; go_simp⟩) hHeld ?_
      try simp only [Act.put, List.getElem_toArray, List.getElem_cons_succ, List.getElem_cons_zero, List.setIfInBounds_toArray, List.set_cons_zero, List.set_cons_succ]
      refine' wpAnyH_take (i := 9) (v := .agg [.int .i64 a, .int .i64 b, .int .i64 d, .slice none 0 0].toArray) rfl (by kernel_rfl) (by kernel_rfl) (by kernel_rfl) (fun _ _ _ h => h) (yieldsIf_buildL (by rfl) 24 [(0, .tmp 37), (1, .tmp 40), (2, .tmp 43)] rfl [(0, .int .i64 a), (1, .int .i64 b), (2, .int .i64 d)] rfl [.int .i64 a, .int .i64 b, .int .i64 d, .slice none 0 0].toArray Hbu.out) hHeld ?_
      try simp only [Act.put, List.getElem_toArray, List.getElem_cons_succ, List.getElem_cons_zero, List.setIfInBounds_toArray, List.set_cons_zero, List.set_cons_succ]
      refine wpAnyH_ready (rs := [10]) (by kernel_rfl) (by simp) (AllReadyH.cons rfl (fun K1 hK1 => ?_) AllReadyH.nil)
      try simp only [Act.put, List.getElem_toArray, List.getElem_cons_succ, List.getElem_cons_zero, List.setIfInBounds_toArray, List.set_cons_zero, List.set_cons_succ]
      go_simp
      have hd2 := (Below.refl wq.heap.size wq).alloc (Nat.le_refl _) (.cells Bt.zeroC.toArray 24)
      have r8 : Row (wq.alloc (.cells Bt.zeroC.toArray 24)) wq.heap.size 24 Bt.zeroC := Row.new wq 24 Bt.zeroC
      have r8n := hHeld.fresh
      have r8s := hHeld.size
      have hHeld2 := hHeld.step hd2
      generalize wq.alloc (.cells Bt.zeroC.toArray 24) = wa1 at *
      obtain ⟨ga3, ga3e⟩ : ∃ ga3, ga3 = wq.heap.size := ⟨_, rfl⟩
      rw [← ga3e] at r8 r8n r8s ⊢
      refine hK1.out _ _ (hHeld2) (fun hHeld => ?_)
      clear hK1 K1
      try simp only [Act.put, List.getElem_toArray, List.getElem_cons_succ, List.getElem_cons_zero, List.setIfInBounds_toArray, List.set_cons_zero, List.set_cons_succ]
      clear hHeld2 ga3e
      refine wpAnyH_ready (rs := [11]) (by kernel_rfl) (by simp) (AllReadyH.cons rfl (fun K1 hK1 => ?_) AllReadyH.nil)
      try simp only [Act.put, List.getElem_toArray, List.getElem_cons_succ, List.getElem_cons_zero, List.setIfInBounds_toArray, List.set_cons_zero, List.set_cons_succ]
      rw [if_pos (by rfl)]
      refine wp_store_at 24 (.tmp 8) (.tmp 44) rfl ga3 0 [.int .i64 a, .int .i64 b, .int .i64 d, .slice none 0 0] _ _ rfl rfl r8 (by have := HZL.out; have := HUL.out; omega) (by rw [batch_info, HUL.out]) HU1.out ?_
      intro ws4 hrS hgS
      rw [splice_all (HUL.out.trans HZL.out.symm)] at hrS
      have HrU := Lib.hid hrS
      have hHeld2 := hHeld.put hgS r8s r8n
      clear hrS hgS
      refine hK1.out _ _ (hHeld2) (fun hHeld => ?_)
      clear hK1 K1
      try simp only [Act.put, List.getElem_toArray, List.getElem_cons_succ, List.getElem_cons_zero, List.setIfInBounds_toArray, List.set_cons_zero, List.set_cons_succ]
      clear hHeld2
      refine wpAnyH_done (by kernel_rfl) ?_ _
      refine NoPanic.normal ?_
      have HS5 := hHeld
      have Hr8 := Lib.hid HrU.out
      obtain ⟨lo, hlo⟩ : ∃ lo, lo = ws4.heap.size := ⟨_, rfl⟩
      have Hg8 : Hid (ga3 < lo) := Lib.hid (by rw [hlo]; exact HrU.out.lt)
      have Hsz1 : Hid (w.heap.size < ga3) := Lib.hid (by have h1 := HB3.out.hd.lt; have h2 := r8s.2; omega)
      have Hsz0 : Hid (w.heap.size ≤ lo) := Lib.hid (by have := Hsz1.out; have := Hg8.out; omega)
      have Hg3 : Hid (w3.heap.size ≤ ga3) := Lib.hid r8s.2
      have HS5h := Lib.hid HS5
      have Hlo0 : Hid (lo ≤ ws4.heap.size) := Lib.hid (Nat.le_of_eq hlo)
      obtain ⟨g8, hg8⟩ : ∃ g8, g8 = ga3 := ⟨_, rfl⟩
      rw [← hg8] at Hr8 Hg8 Hsz1 Hg3
      simp only [← hg8]
      clear hHeld HrU hzv HS5 hlo r8s r8n hg8
      obtain ⟨i0, hi, hz, hsi, hby⟩ := part_info5
      have Hi := Lib.hid hi
      have Hz := Lib.hid hz
      have Hsz := Lib.hid hsi
      have Hby := Lib.hid hby
      clear hi hz hsi hby
      go_wp2_with fail
      go_loopw [9] (fun i wr => ∃ (j k : Nat) (ps : List Pt) (v : Value), j ≤ m ∧ i = .int .i64 j ∧ j = 3 + k ∧ ps.length = k ∧ Pt.all (L.drop 3) = (Pt.all (L.drop j)).map (ps ++ ·) ∧ ps.all Pt.ok = true ∧ Row wr g8 24 [.int .i64 a, .int .i64 b, .int .i64 d, v] ∧ BlocksS w w3 wr [(w.heap.size, 24, Bt.zeroC)] ∧ wr.ownsRow lo 57 2 v k (Pt.flat ps) ∧ lo ≤ wr.heap.size) (fun i _ => m - (intOf i).toNat)
      case atStart => exact ⟨3, 0, [], _, by omega, rfl, rfl, rfl, by simp, rfl, Hr8.out, HS5h.out, World.ownsRow_nil _ _ _ _, Hlo0.out⟩
      case round =>
        obtain ⟨j, k, ps, v, hk, rfl, hj, hps, hFk, hall, hr8, hS, hown, hlo⟩ := hrel
        clear Hr8 HS5h Hlo0
        have HJ := Lib.hid hj
        have HR8 := Lib.hid hr8
        have HS := Lib.hid hS
        have Hown := Lib.hid hown
        have Hlo := Lib.hid hlo
        have Hall := Lib.hid hall
        have Hps := Lib.hid hps
        have HFk := Lib.hid hFk
        clear hr8 hS hown hlo hall hps hFk hj
        obtain ⟨Av, cv, rfl⟩ := own_form Hown.out
        by_cases hkm : j < m
        · have hki : (j : Int) < (m : Int) := by omega
          have hkl : j < L.length := by rw [← HM.out]; exact hkm
          obtain ⟨tb, toff, rfl, htb, htc0⟩ := HTx3.out (by intro e; rw [e] at hkl; simp at hkl)
          have htc := htc0 j hkl
          have c0 := (HS.out.2.cell (p := ⟨tb, toff + j, none⟩) htb).trans htc
          have hxl := HTl.out _ (List.getElem_mem hkl)
          obtain ⟨x, hx⟩ : ∃ x, x = L[j] := ⟨_, rfl⟩
          have hxk : (L.drop 3)[k]'(by rw [List.length_drop, ← HM.out]; have := HJ.out; omega) = x := by
            rw [hx, List.getElem_drop]
            congr 1
            exact HJ.out.symm
          rw [← hx] at c0 hxl htc
          have HX := Lib.hid hx
          have HXk := Lib.hid hxk
          have htbw : tb < wr.heap.size := Nat.lt_of_lt_of_le htb HS.out.2.size
          have htne : ¬ tb = wr.heap.size := by omega
          have htne2 : ¬ wr.heap.size = tb := by omega
          clear htc0 hx hxk
          by_cases h2 : x = [2]
          · have ho : Pt.of x = some (true, []) := by rw [h2]; rfl
            subst h2
            go_wp2_with fail
            refine (part5_of true [] (by first | exact hrl | simp) [2] true rfl rfl _).mono ?_
            rintro _ w6 ⟨rfl, hb6⟩
            have hF2 : Pt.all (L.drop 3) = (Pt.all (L.drop (j + 1))).map ((ps ++ [(true, [])]) ++ ·) := by
              rw [HFk.out, ← Pt.map_app, ← Pt.all_go hkl (by rw [← HX.out]; exact ho)]
            have HF2 := Lib.hid hF2
            have hr8a := HR8.out.kept (grownBy_alloc wr (.cells #[.bool true, S []] 57) none) (by simp)
            have hr8b := hr8a.kept (grownBy_of_below hb6 none) (by simp)
            have hown6 := (Hown.out.alloc (.cells #[.bool true, S []] 57)).kept (grownBy_of_below hb6 none) (by cases (Value.slice Av k cv).ownBlock <;> simp)
            have hrp := (Row.new wr 57 [.bool true, S []]).kept (grownBy_of_below hb6 none) (by simp)
            have HS6 := (HS.out.step ((Below.refl _ _).alloc (Nat.le_refl _) (.cells #[.bool true, S []] 57))).step hb6
            have c6 := (HS6.2.cell (p := ⟨tb, toff + j, none⟩) htb).trans htc
            have e3 := hr8b.cell 3 (by simp)
            have q0 := hrp.cell 0 (by simp)
            have q1 := hrp.cell 1 (by simp)
            simp only [List.getElem_cons_zero, List.getElem_cons_succ] at e3 q0 q1
            have hlo6 : lo ≤ w6.heap.size := Nat.le_trans Hlo.out (Nat.le_trans (by simp) hb6.size)
            have hown7 := hown6.alloc (.cells #[.bool true, S []] 57)
            have hr8c := hr8b.kept (grownBy_alloc w6 (.cells #[.bool true, S []] 57) none) (by simp)
            have HS7 := Lib.hid (HS6.step ((Below.refl _ _).alloc (Nat.le_refl _) (.cells #[.bool true, S []] 57)))
            have hsz7 : lo ≤ (w6.alloc (.cells #[.bool true, S []] 57)).heap.size := by simp; omega
            have hk63 : k + 1 ≤ maxLen := by have := HJ.out; unfold maxLen; omega
            have hk48 : ((k + 1) + (k + 1) / 4 + 192) * 24 ≤ 281474976710656 := by have := HJ.out; omega
            have Hnew := Lib.hid (row_news (Row.new w6 57 [.bool true, S []]))
            have Hown7 := Lib.hid hown7
            have Hr8c := Lib.hid hr8c
            clear hF2 hr8a hr8b hown6 hrp HS6 hown7 hr8c hb6 c0
            go_wp2_with (at_builtin; refine wpList_append_own_wide _ rfl (.tmp 90) (.tmp 92) 22 rfl lo 57 i0 (.agg #[.bool false, .string ByteArray.empty]) 2 24 Tryd.underlying22 Hi.out Hz.out Hsz.out Hby.out rfl (by decide) _ _ _ rfl Hown7.out ⟨w6.heap.size, 0, none⟩ 1 1 [.bool true, S []] rfl rfl Hnew.out (by intro u hu; simp at hu; rcases hu with rfl | rfl <;> rfl) hk63 hk48 hsz7 ?_
                         intro v' w8 hown8 hgrow8 _
                         obtain ⟨gq, cq, rfl⟩ := ownsRow_succ hown8
                         have hr8 := row_apart Hr8c.out Hg8.out Hown7.out hgrow8
                         have hS8 : BlocksS w w3 w8 [(w.heap.size, 24, Bt.zeroC)] := ⟨⟨HS7.out.1.1.grown hgrow8 HS7.out.1.1.size (fun k hk => by have := (Hown7.out.lt k hk).1; have := Hsz0.out; omega), fun x hx => by
                           simp at hx
                           subst hx
                           exact row_apart HS7.out.1.hd (by have := Hg8.out; have := Hsz1.out; omega) Hown7.out hgrow8⟩, HS7.out.2.grown hgrow8 HS7.out.2.size (fun k hk => by have := (Hown7.out.lt k hk).1; have := Hg8.out; have := Hg3.out; omega)⟩
                         have e8 := hr8.cell 3 (by simp)
                         have f8 := hr8.free 3
                         simp only [List.getElem_cons_zero, List.getElem_cons_succ] at e8
                         have Hr8 := Lib.hid (hr8.set 3 (.slice (some ⟨gq, 0, none⟩) (k + 1) cq) (by simp))
                         have hgs := grownBy_set w8 g8 3 (.slice (some ⟨gq, 0, none⟩) (k + 1) cq)
                         have HS9 := Lib.hid (hS8.put hgs ⟨by have := Hsz1.out; omega, Hg3.out⟩ (fun x hx => by simp at hx; subst hx; have := Hsz1.out; simp; omega))
                         have Hown9 := Lib.hid (hown8.kept hgs (.inr (fun e => by have := (hown8.lt _ e).1; have := Hg8.out; omega)))
                         have Hlo9 : Hid (lo ≤ (w8.setCell ⟨g8, 3, none⟩ (.slice (some ⟨gq, 0, none⟩) (k + 1) cq)).heap.size) := Lib.hid (Nat.le_trans (Nat.le_trans hsz7 hgrow8.size) hgs.size)
                         clear hr8 hS8 hgs hown8 hgrow8)
            refine ⟨⟨j + 1, k + 1, ps ++ [(true, [])], _, hkm, by go_num, by have := HJ.out; omega, by rw [List.length_append, Hps.out]; rfl, HF2.out, by rw [List.all_append, Hall.out]; rfl, Hr8.out, HS9.out, by rw [Pt.flat_snoc]; exact Hown9.out, Hlo9.out⟩, by simp [intOf]; omega⟩
          · have d2 : (x == [2]) = false := by simpa using h2
            cases x with
            | nil =>
              have HRn := Lib.hid (HRs.out.trans (Bt.of_bad (k := k) (by rw [List.length_drop, ← HM.out]; have := HJ.out; omega) (by rw [HXk.out]; intro p hp; cases hp)))
              go_wp2_with fail
              refine (part5_of false [] (by first | exact hrl | simp) [1] true rfl rfl _).mono ?_
              rintro _ w6 ⟨rfl, hb6⟩
              have HS6 := Lib.hid ((HS.out.step ((Below.refl _ _).alloc (Nat.le_refl _) _)).step hb6)
              have Hrz := Lib.hid HS6.out.1.hd
              have Hbz := Lib.hid HS6.out.1.1
              have c6 := (HS6.out.2.cell (p := ⟨tb, toff + j, none⟩) htb).trans htc
              clear hb6 HS6
              go_wp2_with (first
                | (with_reducible show wpList _ _ _ (⟨_, .build 24 _, _, _, _, _⟩ :: _) _ _; refine wpList_buildL rfl 24 [] rfl (some 88) rfl _ rfl _ Bt.zeroC_built0 ?_)
                | (with_reducible show wpList _ _ _ (⟨_, .store 24 _ _, _, _, _, _⟩ :: _) _ _
                   refine wpList_store_at rfl 24 (.tmp 2) (.tmp 88) rfl (w.heap.size) 0 Bt.zeroC _ _ rfl rfl Hrz.out (by have := HZL.out; omega) (by rw [batch_info, HZL.out]) HZ1.out ?_
                   intro wZ hrZ hgZ
                   rw [splice_all rfl] at hrZ
                   have HrZ := Lib.hid hrZ
                   have HbZ := Lib.hid (below_own Hbz.out hgZ (fun k hk => by cases hk; exact Nat.le_refl _))
                   clear hrZ hgZ))
              (try simp only [Exit.inBlock, Exit.then])
              refine bodyPost_ret (results_rowL rfl _ _ (w.heap.size) 24 _ _ rfl HrZ.out Tryd.underlying24 rfl (by rw [batch_info, List.size_toArray, HZL.out]) _ rfl) rfl ⟨?_, HbZ.out⟩
              rw [HRn.out]
              exact rfl
            | cons c0' r =>
              have he : (⟨(c0' :: r).toArray⟩ : ByteArray).toList.isEmpty = false := by
                rw [Bool.eq_false_iff]
                intro h
                have := (No.empty_iff _).1 h
                simp at this
              have hex := ext_tail c0' r
              have hrl : r.length ≤ 65536 := by simp at hxl; omega
              by_cases hc1 : c0' = 1
              · subst hc1
                have ho : Pt.of (1 :: r) = some (false, r) := by
                  unfold Pt.of
                  rw [if_neg h2]
                  rfl
                by_cases hr : r.length ≤ 656
                · have hpk : Pt.ok (false, r) = true := by unfold Pt.ok; simpa using hr
                  go_wp2_with fail
                  refine (part5_of false r (by first | exact hrl | simp) (1 :: r) true rfl hpk _).mono ?_
                  rintro _ w6 ⟨rfl, hb6⟩
                  have hF2 : Pt.all (L.drop 3) = (Pt.all (L.drop (j + 1))).map ((ps ++ [(false, r)]) ++ ·) := by
                    rw [HFk.out, ← Pt.map_app, ← Pt.all_go hkl (by rw [← HX.out]; exact ho)]
                  have Hpk := Lib.hid hpk
                  have HF2 := Lib.hid hF2
                  have hr8a := HR8.out.kept (grownBy_alloc wr (.cells #[.bool false, S r] 57) none) (by simp)
                  have hr8b := hr8a.kept (grownBy_of_below hb6 none) (by simp)
                  have hown6 := (Hown.out.alloc (.cells #[.bool false, S r] 57)).kept (grownBy_of_below hb6 none) (by cases (Value.slice Av k cv).ownBlock <;> simp)
                  have hrp := (Row.new wr 57 [.bool false, S r]).kept (grownBy_of_below hb6 none) (by simp)
                  have HS6 := (HS.out.step ((Below.refl _ _).alloc (Nat.le_refl _) (.cells #[.bool false, S r] 57))).step hb6
                  have c6 := (HS6.2.cell (p := ⟨tb, toff + j, none⟩) htb).trans htc
                  have e3 := hr8b.cell 3 (by simp)
                  have q0 := hrp.cell 0 (by simp)
                  have q1 := hrp.cell 1 (by simp)
                  simp only [List.getElem_cons_zero, List.getElem_cons_succ] at e3 q0 q1
                  have hlo6 : lo ≤ w6.heap.size := Nat.le_trans Hlo.out (Nat.le_trans (by simp) hb6.size)
                  have hown7 := hown6.alloc (.cells #[.bool false, S r] 57)
                  have hr8c := hr8b.kept (grownBy_alloc w6 (.cells #[.bool false, S r] 57) none) (by simp)
                  have HS7 := Lib.hid (HS6.step ((Below.refl _ _).alloc (Nat.le_refl _) (.cells #[.bool false, S r] 57)))
                  have hsz7 : lo ≤ (w6.alloc (.cells #[.bool false, S r] 57)).heap.size := by simp; omega
                  have hk63 : k + 1 ≤ maxLen := by have := HJ.out; unfold maxLen; omega
                  have hk48 : ((k + 1) + (k + 1) / 4 + 192) * 24 ≤ 281474976710656 := by have := HJ.out; omega
                  have Hnew := Lib.hid (row_news (Row.new w6 57 [.bool false, S r]))
                  have Hown7 := Lib.hid hown7
                  have Hr8c := Lib.hid hr8c
                  clear hF2 hr8a hr8b hown6 hrp HS6 hown7 hr8c hb6 c0
                  go_wp2_with (at_builtin; refine wpList_append_own_wide _ rfl (.tmp 90) (.tmp 92) 22 rfl lo 57 i0 (.agg #[.bool false, .string ByteArray.empty]) 2 24 Tryd.underlying22 Hi.out Hz.out Hsz.out Hby.out rfl (by decide) _ _ _ rfl Hown7.out ⟨w6.heap.size, 0, none⟩ 1 1 [.bool false, S r] rfl rfl Hnew.out (by intro u hu; simp at hu; rcases hu with rfl | rfl <;> rfl) hk63 hk48 hsz7 ?_
                               intro v' w8 hown8 hgrow8 _
                               obtain ⟨gq, cq, rfl⟩ := ownsRow_succ hown8
                               have hr8 := row_apart Hr8c.out Hg8.out Hown7.out hgrow8
                               have hS8 : BlocksS w w3 w8 [(w.heap.size, 24, Bt.zeroC)] := ⟨⟨HS7.out.1.1.grown hgrow8 HS7.out.1.1.size (fun k hk => by have := (Hown7.out.lt k hk).1; have := Hsz0.out; omega), fun x hx => by
                                 simp at hx
                                 subst hx
                                 exact row_apart HS7.out.1.hd (by have := Hg8.out; have := Hsz1.out; omega) Hown7.out hgrow8⟩, HS7.out.2.grown hgrow8 HS7.out.2.size (fun k hk => by have := (Hown7.out.lt k hk).1; have := Hg8.out; have := Hg3.out; omega)⟩
                               have e8 := hr8.cell 3 (by simp)
                               have f8 := hr8.free 3
                               simp only [List.getElem_cons_zero, List.getElem_cons_succ] at e8
                               have Hr8 := Lib.hid (hr8.set 3 (.slice (some ⟨gq, 0, none⟩) (k + 1) cq) (by simp))
                               have hgs := grownBy_set w8 g8 3 (.slice (some ⟨gq, 0, none⟩) (k + 1) cq)
                               have HS9 := Lib.hid (hS8.put hgs ⟨by have := Hsz1.out; omega, Hg3.out⟩ (fun x hx => by simp at hx; subst hx; have := Hsz1.out; simp; omega))
                               have Hown9 := Lib.hid (hown8.kept hgs (.inr (fun e => by have := (hown8.lt _ e).1; have := Hg8.out; omega)))
                               have Hlo9 : Hid (lo ≤ (w8.setCell ⟨g8, 3, none⟩ (.slice (some ⟨gq, 0, none⟩) (k + 1) cq)).heap.size) := Lib.hid (Nat.le_trans (Nat.le_trans hsz7 hgrow8.size) hgs.size)
                               clear hr8 hS8 hgs hown8 hgrow8)
                  refine ⟨⟨j + 1, k + 1, ps ++ [(false, r)], _, hkm, by go_num, by have := HJ.out; omega, by rw [List.length_append, Hps.out]; rfl, HF2.out, by rw [List.all_append, Hall.out, List.all_cons, Hpk.out]; rfl, Hr8.out, HS9.out, by rw [Pt.flat_snoc]; exact Hown9.out, Hlo9.out⟩, by simp [intOf]; omega⟩
                · have hpk : Pt.ok (false, r) = false := by unfold Pt.ok; simpa using hr
                  have HRn := Lib.hid (HRs.out.trans (Bt.of_bad (k := k) (by rw [List.length_drop, ← HM.out]; have := HJ.out; omega) (by rw [HXk.out]; intro p hp; rw [ho] at hp; cases hp; exact hpk)))
                  go_wp2_with fail
                  refine (part5_of false r (by first | exact hrl | simp) (1 :: r) false rfl hpk _).mono ?_
                  rintro _ w6 ⟨rfl, hb6⟩
                  have HS6 := Lib.hid ((HS.out.step ((Below.refl _ _).alloc (Nat.le_refl _) _)).step hb6)
                  have Hrz := Lib.hid HS6.out.1.hd
                  have Hbz := Lib.hid HS6.out.1.1
                  have c6 := (HS6.out.2.cell (p := ⟨tb, toff + j, none⟩) htb).trans htc
                  clear hb6 HS6
                  go_wp2_with (first
                    | (with_reducible show wpList _ _ _ (⟨_, .build 24 _, _, _, _, _⟩ :: _) _ _; refine wpList_buildL rfl 24 [] rfl (some 88) rfl _ rfl _ Bt.zeroC_built0 ?_)
                    | (with_reducible show wpList _ _ _ (⟨_, .store 24 _ _, _, _, _, _⟩ :: _) _ _
                       refine wpList_store_at rfl 24 (.tmp 2) (.tmp 88) rfl (w.heap.size) 0 Bt.zeroC _ _ rfl rfl Hrz.out (by have := HZL.out; omega) (by rw [batch_info, HZL.out]) HZ1.out ?_
                       intro wZ hrZ hgZ
                       rw [splice_all rfl] at hrZ
                       have HrZ := Lib.hid hrZ
                       have HbZ := Lib.hid (below_own Hbz.out hgZ (fun k hk => by cases hk; exact Nat.le_refl _))
                       clear hrZ hgZ))
                  (try simp only [Exit.inBlock, Exit.then])
                  refine bodyPost_ret (results_rowL rfl _ _ (w.heap.size) 24 _ _ rfl HrZ.out Tryd.underlying24 rfl (by rw [batch_info, List.size_toArray, HZL.out]) _ rfl) rfl ⟨?_, HbZ.out⟩
                  rw [HRn.out]
                  exact rfl
              · have ho : Pt.of (c0' :: r) = none := by
                  unfold Pt.of
                  rw [if_neg h2]
                  simp only
                  rw [if_neg hc1]
                have hne1 : ((1 :: r) == (c0' :: r)) = false := by
                  rw [Bool.eq_false_iff]
                  intro h
                  have := eq_of_beq h
                  injection this with h3
                  exact hc1 h3.symm
                rcases Bool.eq_false_or_eq_true (Pt.ok (false, r)) with hpk | hpk
                · have HRn := Lib.hid (HRs.out.trans (Bt.of_bad (k := k) (by rw [List.length_drop, ← HM.out]; have := HJ.out; omega) (by rw [HXk.out]; intro p hp; rw [ho] at hp; cases hp)))
                  go_wp2_with fail
                  refine (part5_of false r (by first | exact hrl | simp) (1 :: r) true rfl hpk _).mono ?_
                  rintro _ w6 ⟨rfl, hb6⟩
                  have HS6 := Lib.hid ((HS.out.step ((Below.refl _ _).alloc (Nat.le_refl _) _)).step hb6)
                  have Hrz := Lib.hid HS6.out.1.hd
                  have Hbz := Lib.hid HS6.out.1.1
                  have c6 := (HS6.out.2.cell (p := ⟨tb, toff + j, none⟩) htb).trans htc
                  clear hb6 HS6
                  go_wp2_with (first
                    | (with_reducible show wpList _ _ _ (⟨_, .build 24 _, _, _, _, _⟩ :: _) _ _; refine wpList_buildL rfl 24 [] rfl (some 88) rfl _ rfl _ Bt.zeroC_built0 ?_)
                    | (with_reducible show wpList _ _ _ (⟨_, .store 24 _ _, _, _, _, _⟩ :: _) _ _
                       refine wpList_store_at rfl 24 (.tmp 2) (.tmp 88) rfl (w.heap.size) 0 Bt.zeroC _ _ rfl rfl Hrz.out (by have := HZL.out; omega) (by rw [batch_info, HZL.out]) HZ1.out ?_
                       intro wZ hrZ hgZ
                       rw [splice_all rfl] at hrZ
                       have HrZ := Lib.hid hrZ
                       have HbZ := Lib.hid (below_own Hbz.out hgZ (fun k hk => by cases hk; exact Nat.le_refl _))
                       clear hrZ hgZ))
                  (try simp only [Exit.inBlock, Exit.then])
                  refine bodyPost_ret (results_rowL rfl _ _ (w.heap.size) 24 _ _ rfl HrZ.out Tryd.underlying24 rfl (by rw [batch_info, List.size_toArray, HZL.out]) _ rfl) rfl ⟨?_, HbZ.out⟩
                  rw [HRn.out]
                  exact rfl
                · have HRn := Lib.hid (HRs.out.trans (Bt.of_bad (k := k) (by rw [List.length_drop, ← HM.out]; have := HJ.out; omega) (by rw [HXk.out]; intro p hp; rw [ho] at hp; cases hp)))
                  go_wp2_with fail
                  refine (part5_of false r (by first | exact hrl | simp) (1 :: r) false rfl hpk _).mono ?_
                  rintro _ w6 ⟨rfl, hb6⟩
                  have HS6 := Lib.hid ((HS.out.step ((Below.refl _ _).alloc (Nat.le_refl _) _)).step hb6)
                  have Hrz := Lib.hid HS6.out.1.hd
                  have Hbz := Lib.hid HS6.out.1.1
                  have c6 := (HS6.out.2.cell (p := ⟨tb, toff + j, none⟩) htb).trans htc
                  clear hb6 HS6
                  go_wp2_with (first
                    | (with_reducible show wpList _ _ _ (⟨_, .build 24 _, _, _, _, _⟩ :: _) _ _; refine wpList_buildL rfl 24 [] rfl (some 88) rfl _ rfl _ Bt.zeroC_built0 ?_)
                    | (with_reducible show wpList _ _ _ (⟨_, .store 24 _ _, _, _, _, _⟩ :: _) _ _
                       refine wpList_store_at rfl 24 (.tmp 2) (.tmp 88) rfl (w.heap.size) 0 Bt.zeroC _ _ rfl rfl Hrz.out (by have := HZL.out; omega) (by rw [batch_info, HZL.out]) HZ1.out ?_
                       intro wZ hrZ hgZ
                       rw [splice_all rfl] at hrZ
                       have HrZ := Lib.hid hrZ
                       have HbZ := Lib.hid (below_own Hbz.out hgZ (fun k hk => by cases hk; exact Nat.le_refl _))
                       clear hrZ hgZ))
                  (try simp only [Exit.inBlock, Exit.then])
                  refine bodyPost_ret (results_rowL rfl _ _ (w.heap.size) 24 _ _ rfl HrZ.out Tryd.underlying24 rfl (by rw [batch_info, List.size_toArray, HZL.out]) _ rfl) rfl ⟨?_, HbZ.out⟩
                  rw [HRn.out]
                  exact rfl
        · have hki : (m : Int) ≤ (j : Int) := by omega
          obtain rfl : m = j := by omega
          have hFe : Pt.all (L.drop 3) = some ps := by
            rw [HFk.out, List.drop_of_length_le (by rw [← HM.out]; exact Nat.le_refl _)]
            simp [Pt.all]
          have hpl : ps.length ≤ 512 := by rw [Hps.out]; have := HJ.out; omega
          have hRo : R = if (Tx.num a && (Tx.num b && Tx.num d)) = true then some ⟨a, b, d, ps⟩ else none := by
            rw [HRs.out, Bt.of_yes hFe, bt_ok_of hpl Hall.out]
          have HRo := Lib.hid hRo
          have r0 := HR8.out.cell 0 (by simp)
          have r1 := HR8.out.cell 1 (by simp)
          have r2 := HR8.out.cell 2 (by simp)
          simp only [List.getElem_cons_zero, List.getElem_cons_succ] at r0 r1 r2
          have Hrz := Lib.hid HS.out.1.hd
          have Hbz := Lib.hid HS.out.1.1
          clear hFe hpl hRo
          rcases Bool.eq_false_or_eq_true (Tx.num a) with h0 | h0
          · rcases Bool.eq_false_or_eq_true (Tx.num b) with h1 | h1
            · rcases Bool.eq_false_or_eq_true (Tx.num d) with h2 | h2
              · have hRs : R = some ⟨a, b, d, ps⟩ := by rw [HRo.out]; simp [h0, h1, h2]
                have hpo := parts_owned (c := cv) (A := Av) (n := k) (P := ps) (by rw [Hps.out]; exact Hown.out)
                have HRs2 := Lib.hid hRs
                have Hpo := Lib.hid hpo
                have HN0 := Lib.hid (N0.out _ h0)
                have HN1 := Lib.hid (N1.out _ h1)
                have HN2 := Lib.hid (N2.out _ h2)
                have HCL : Hid (([.int .i64 a, .int .i64 b, .int .i64 d, .slice Av k cv] : List Value).length = 4) := (rfl : ([.int .i64 a, .int .i64 b, .int .i64 d, .slice Av k cv] : List Value).length = 4)
                have hc1 : ∀ v ∈ ([.int .i64 a, .int .i64 b, .int .i64 d, .slice Av k cv] : List Value), v.oneCell' = true := by
                  intro v hv
                  simp at hv
                  rcases hv with rfl | rfl | rfl | rfl <;> rfl
                have HC1 := Lib.hid hc1
                clear hRs hpo h0 h1 h2 hc1
                go_wp2_with fail
                refine (HN0.out _).mono ?_
                rintro _ w6 ⟨rfl, rfl⟩
                go_wp2_with fail
                refine (HN1.out _).mono ?_
                rintro _ w6 ⟨rfl, rfl⟩
                go_wp2_with fail
                refine (HN2.out _).mono ?_
                rintro _ w6 ⟨rfl, rfl⟩
                go_wp2_with (first
                  | (with_reducible show wpList _ _ _ (⟨_, .load 24 _, _, _, _, _⟩ :: _) _ _; refine wpList_load_tx rfl 24 (.tmp 8) rfl g8 0 rfl [.int .i64 a, .int .i64 b, .int .i64 d, .slice Av k cv] _ (row_range HR8.out) Tryd.underlying24 rfl (by rw [batch_info, HCL.out]) ?_)
                  | (with_reducible show wpList _ _ _ (⟨_, .store 24 _ _, _, _, _, _⟩ :: _) _ _
                     refine wpList_store_at rfl 24 (.tmp 2) (.tmp 112) rfl (w.heap.size) 0 [.int .i64 a, .int .i64 b, .int .i64 d, .slice Av k cv] _ _ rfl rfl Hrz.out (by have := HZL.out; have := HCL.out; omega) (by rw [batch_info, HCL.out]) HC1.out ?_
                     intro wZ hrZ hgZ
                     rw [splice_all (HCL.out.trans HZL.out.symm)] at hrZ
                     have HrZ := Lib.hid hrZ
                     have HbZ := Lib.hid (below_own Hbz.out hgZ (fun k hk => by cases hk; exact Nat.le_refl _))
                     have hgZk := Lib.hid hgZ
                     clear hrZ hgZ))
                (try simp only [Exit.inBlock, Exit.then])
                refine bodyPost_ret (results_rowL rfl _ _ (w.heap.size) 24 _ _ rfl HrZ.out Tryd.underlying24 rfl (by rw [batch_info, List.size_toArray, HCL.out]) _ rfl) rfl ⟨?_, HbZ.out⟩
                rw [HRs2.out]
                exact ⟨Av, cv, by rw [show (Bt.cells ⟨a, b, d, ps⟩ Av cv) = [.int .i64 a, .int .i64 b, .int .i64 d, .slice Av ps.length cv] from rfl, Hps.out]; rfl, (Hpo.out.1.grown hgZk.out (fun k hk => by cases hk; have h1 := Hsz1.out; have h2 := Hg8.out; omega)).mono Hsz0.out, by have := Hpo.out.2.2; exact this⟩
              · have HRn : Hid (R = none) := Lib.hid (by rw [HRo.out]; simp [h0, h1, h2])
                have HN0 := Lib.hid (N0.out _ h0)
                have HN1 := Lib.hid (N1.out _ h1)
                have HN2 := Lib.hid (N2.out _ h2)
                clear h0 h1 h2
                go_wp2_with fail
                refine (HN0.out _).mono ?_
                rintro _ w6 ⟨rfl, rfl⟩
                go_wp2_with fail
                refine (HN1.out _).mono ?_
                rintro _ w6 ⟨rfl, rfl⟩
                go_wp2_with fail
                refine (HN2.out _).mono ?_
                rintro _ w6 ⟨rfl, rfl⟩
                go_wp2_with (first
                  | (with_reducible show wpList _ _ _ (⟨_, .build 24 _, _, _, _, _⟩ :: _) _ _; refine wpList_buildL rfl 24 [] rfl (some 111) rfl _ rfl _ Bt.zeroC_built0 ?_)
                  | (with_reducible show wpList _ _ _ (⟨_, .store 24 _ _, _, _, _, _⟩ :: _) _ _
                     refine wpList_store_at rfl 24 (.tmp 2) (.tmp 111) rfl (w.heap.size) 0 Bt.zeroC _ _ rfl rfl Hrz.out (by have := HZL.out; omega) (by rw [batch_info, HZL.out]) HZ1.out ?_
                     intro wZ hrZ hgZ
                     rw [splice_all rfl] at hrZ
                     have HrZ := Lib.hid hrZ
                     have HbZ := Lib.hid (below_own Hbz.out hgZ (fun k hk => by cases hk; exact Nat.le_refl _))
                     clear hrZ hgZ))
                (try simp only [Exit.inBlock, Exit.then])
                refine bodyPost_ret (results_rowL rfl _ _ (w.heap.size) 24 _ _ rfl HrZ.out Tryd.underlying24 rfl (by rw [batch_info, List.size_toArray, HZL.out]) _ rfl) rfl ⟨?_, HbZ.out⟩
                rw [HRn.out]
                exact rfl
            · have HRn : Hid (R = none) := Lib.hid (by rw [HRo.out]; simp [h0, h1])
              have HN0 := Lib.hid (N0.out _ h0)
              have HN1 := Lib.hid (N1.out _ h1)
              clear h0 h1
              go_wp2_with fail
              refine (HN0.out _).mono ?_
              rintro _ w6 ⟨rfl, rfl⟩
              go_wp2_with fail
              refine (HN1.out _).mono ?_
              rintro _ w6 ⟨rfl, rfl⟩
              go_wp2_with (first
                | (with_reducible show wpList _ _ _ (⟨_, .build 24 _, _, _, _, _⟩ :: _) _ _; refine wpList_buildL rfl 24 [] rfl (some 111) rfl _ rfl _ Bt.zeroC_built0 ?_)
                | (with_reducible show wpList _ _ _ (⟨_, .store 24 _ _, _, _, _, _⟩ :: _) _ _
                   refine wpList_store_at rfl 24 (.tmp 2) (.tmp 111) rfl (w.heap.size) 0 Bt.zeroC _ _ rfl rfl Hrz.out (by have := HZL.out; omega) (by rw [batch_info, HZL.out]) HZ1.out ?_
                   intro wZ hrZ hgZ
                   rw [splice_all rfl] at hrZ
                   have HrZ := Lib.hid hrZ
                   have HbZ := Lib.hid (below_own Hbz.out hgZ (fun k hk => by cases hk; exact Nat.le_refl _))
                   clear hrZ hgZ))
              (try simp only [Exit.inBlock, Exit.then])
              refine bodyPost_ret (results_rowL rfl _ _ (w.heap.size) 24 _ _ rfl HrZ.out Tryd.underlying24 rfl (by rw [batch_info, List.size_toArray, HZL.out]) _ rfl) rfl ⟨?_, HbZ.out⟩
              rw [HRn.out]
              exact rfl
          · have HRn : Hid (R = none) := Lib.hid (by rw [HRo.out]; simp [h0])
            have HN0 := Lib.hid (N0.out _ h0)
            clear h0
            go_wp2_with fail
            refine (HN0.out _).mono ?_
            rintro _ w6 ⟨rfl, rfl⟩
            go_wp2_with (first
              | (with_reducible show wpList _ _ _ (⟨_, .build 24 _, _, _, _, _⟩ :: _) _ _; refine wpList_buildL rfl 24 [] rfl (some 111) rfl _ rfl _ Bt.zeroC_built0 ?_)
              | (with_reducible show wpList _ _ _ (⟨_, .store 24 _ _, _, _, _, _⟩ :: _) _ _
                 refine wpList_store_at rfl 24 (.tmp 2) (.tmp 111) rfl (w.heap.size) 0 Bt.zeroC _ _ rfl rfl Hrz.out (by have := HZL.out; omega) (by rw [batch_info, HZL.out]) HZ1.out ?_
                 intro wZ hrZ hgZ
                 rw [splice_all rfl] at hrZ
                 have HrZ := Lib.hid hrZ
                 have HbZ := Lib.hid (below_own Hbz.out hgZ (fun k hk => by cases hk; exact Nat.le_refl _))
                 clear hrZ hgZ))
            (try simp only [Exit.inBlock, Exit.then])
            refine bodyPost_ret (results_rowL rfl _ _ (w.heap.size) 24 _ _ rfl HrZ.out Tryd.underlying24 rfl (by rw [batch_info, List.size_toArray, HZL.out]) _ rfl) rfl ⟨?_, HbZ.out⟩
            rw [HRn.out]
            exact rfl
    · have hmi : (515 : Int) < (m : Int) := by omega
      have hRn : R = none := by rw [HRs.out]; exact Bt.of_long (by rw [List.length_drop, ← HM.out]; omega)
      have HRn := Lib.hid hRn
      have Hrz := Lib.hid HB3.out.hd
      have Hbz := Lib.hid HB3.out.1
      clear hRn h515 hcell
      go_wp2_with (first
        | (with_reducible show wpList _ _ _ (⟨_, .build 24 _, _, _, _, _⟩ :: _) _ _; refine wpList_buildL rfl 24 [] rfl (some 34) rfl _ rfl _ Bt.zeroC_built0 ?_)
        | (with_reducible show wpList _ _ _ (⟨_, .store 24 _ _, _, _, _, _⟩ :: _) _ _
           refine wpList_store_at rfl 24 (.tmp 2) (.tmp 34) rfl (w.heap.size) 0 Bt.zeroC _ _ rfl rfl Hrz.out (by have := HZL.out; omega) (by rw [batch_info, HZL.out]) HZ1.out ?_
           intro wZ hrZ hgZ
           rw [splice_all rfl] at hrZ
           have HrZ := Lib.hid hrZ
           have HbZ := Lib.hid (below_own Hbz.out hgZ (fun k hk => by cases hk; exact Nat.le_refl _))
           clear hrZ hgZ))
      refine bodyPost_ret (results_rowL rfl _ _ (w.heap.size) 24 _ _ rfl HrZ.out Tryd.underlying24 rfl (by rw [batch_info, List.size_toArray, HZL.out]) _ rfl) rfl ⟨?_, HbZ.out⟩
      rw [HRn.out]
      exact rfl
end Go.Proofs.YtinciddchpccnaaDoor

/- ---- NoBatch ---- -/
/- The reference of layer 5: the same batches. -/
namespace Go.Proofs.YtinciddchpccnaaDoor
open Go.RowKit
set_option linter.unusedVariables false
set_option linter.unusedSimpArgs false

theorem part_lits (d : Bool) (t : List UInt8) (h : t.length ≤ 140737488351232) : Tryd.prog.keyLits 3 57 [.bool d, S t] = some [.bool d, .string t] := by
  have hc : Tryd.prog.cellsOf 57 = 2 := by kernel_rfl
  have hB : Tryd.prog.cellsOf 4 = 1 := by kernel_rfl
  have hS : Tryd.prog.cellsOf 9 = 1 := by kernel_rfl
  have hm : (⟨t.toArray⟩ : ByteArray).size ≤ maxLen := by show t.length ≤ _; unfold maxLen; omega
  unfold Program.keyLits
  simp only [Tryd.underlying57]
  rw [if_pos ⟨by rw [hc]; rfl, by kernel_rfl⟩]
  have e0 : Tryd.prog.keyLits 2 4 (([.bool d, S t] : List Value).drop 0 |>.take (Tryd.prog.cellsOf 4)) = some [.bool d] := by rw [hB]; exact lit_bool 1 d
  have e1 : Tryd.prog.keyLits 2 9 (([.bool d, S t] : List Value).drop 1 |>.take (Tryd.prog.cellsOf 9)) = some [.string t] := by rw [hS]; exact lit_str 1 _ hm
  simp only [List.mapM_cons, List.mapM_nil, e0, e1, Option.bind_eq_bind, Option.bind_some, Option.pure_def, Option.map_some]
  rfl
theorem part_same (d : Bool) (t : List UInt8) (h : t.length ≤ 140737488351232) (W : World) : (Op.equalIn 10000 57 (.agg #[.bool d, S t]) (.agg #[.bool d, S t])).run Tryd.prog W = .ok true W := by
  have hk : Tryd.prog.keyTypeAt 3 57 = true := by kernel_rfl
  have hf : (Value.agg #[.bool d, S t]).formed Tryd.prog 57 = true := by
    have hc : Tryd.prog.cellsOf 57 = 2 := by kernel_rfl
    simp [Value.formed, Tryd.underlying57, hc]
  obtain ⟨r, hr, hiff⟩ := run_equalIn_deep (P := Tryd.prog) 9997 3 57 hk W 3 3 (.agg #[.bool d, S t]) (.agg #[.bool d, S t]) _ _ hf hf (part_lits d t h) (part_lits d t h)
  have : r = true := hiff.2 rfl
  rw [hr, this]
set_option maxRecDepth 20000 in
set_option maxHeartbeats 800000 in
/-- two batches that are the same, wherever their parts lie -/
theorem batches5_same (b : Bt) (hf : ∀ p ∈ b.parts, p.2.length ≤ 140737488351232) (hl : b.parts.length ≤ 512) (A B : Option Addr) (c e : Nat) (w : World) (hA : PartsAt w w.heap.size A b.parts) (hB : PartsAt w w.heap.size B b.parts) :
    Calls Tryd.prog 15 #[.agg (b.cells A c).toArray, .agg (b.cells B e).toArray] w fun e w' => e = .returned (.bool true) ∧ Below w.heap.size w w' := by
  obtain ⟨rB, hb2, rA⟩ := row_two w (b.cells A c).toArray (b.cells B e).toArray 24 24
  obtain ⟨a0, a1, a2, a3⟩ := bt_box rA
  obtain ⟨b0, b1, b2, b3⟩ := bt_box rB
  have BA : Hid (∀ (W : World) (g : Nat) (T : TypeId), Row W g T (b.cells A c) → W.cell? ⟨g, 3, none⟩ = some (.slice A b.parts.length c)) := fun W g T h => (bt_box h).2.2.2
  have BB : Hid (∀ (W : World) (g : Nat) (T : TypeId), Row W g T (b.cells B e) → W.cell? ⟨g, 3, none⟩ = some (.slice B b.parts.length e)) := fun W g T h => (bt_box h).2.2.2
  have HB0 := Lib.hid (((Blocks.nil hb2).cons rB).cons rA)
  have HA := Lib.hid hA
  have HB := Lib.hid hB
  have HPS := Lib.hid (fun p (hp : p ∈ b.parts) => part_same p.1 p.2 (hf p hp))
  generalize b.parts = P at *
  generalize b.cells A c = CA at *
  generalize b.cells B e = CB at *
  simp only [List.toList_toArray] at HB0
  obtain ⟨n, hn⟩ : ∃ n, n = P.length := ⟨_, rfl⟩
  rw [← hn] at BA BB a3 b3 hl
  have HN := Lib.hid hn
  clear hn hA hB hf rA rB hb2
  go_enter Tryd.func15, Tryd.ntmps15
  go_wp2_with fail
  clear a0 a1 a2 a3 b0 b1 b2 b3
  go_loopw [5] (fun i wr => ∃ k : Nat, k ≤ n ∧ i = .int .i64 k ∧ Blocks w wr [(w.heap.size, 24, CA), (w.heap.size + 1, 24, CB)]) (fun i _ => n - (intOf i).toNat)
  case atStart => exact ⟨0, Nat.zero_le _, rfl, HB0.out⟩
  case round =>
    obtain ⟨k, hk, rfl, hR⟩ := hrel
    clear HB0
    have a3 := BA.out _ _ _ hR.hd
    have b3 := BB.out _ _ _ hR.tl.hd
    have HR := Lib.hid hR
    clear hR
    by_cases hkn : k < n
    · have hki : (k : Int) < (n : Int) := by omega
      have hkl : k < P.length := by rw [← HN.out]; exact hkn
      obtain ⟨ba, oa, rfl, hba, hca⟩ := HA.out (by intro e; rw [e] at hkl; simp at hkl)
      obtain ⟨bb, ob, rfl, hbb, hcb⟩ := HB.out (by intro e; rw [e] at hkl; simp at hkl)
      obtain ⟨c0, c1⟩ := hca k hkl
      obtain ⟨d0, d1⟩ := hcb k hkl
      have heq := HPS.out P[k] (List.getElem_mem _)
      generalize P[k] = p at *
      obtain ⟨d, t⟩ := p
      simp only at c0 c1 d0 d1 heq
      have two : ∀ {W : World} {g off : Nat} {x y : Value}, W.cell? ⟨g, off, none⟩ = some x → W.cell? ⟨g, off + 1, none⟩ = some y → W.rangeAt g off [x, y] := fun h0 h1 j v hj => by
        match j, hj with
        | 0, hj => simp at hj; subst hj; exact h0
        | 1, hj => simp at hj; subst hj; exact h1
      have RA : Hid (∀ W, Below w.heap.size w W → W.rangeAt ba (oa + k * 2) [.bool d, S t]) := fun W hW => two ((hW.cell (p := ⟨ba, oa + k * 2, none⟩) hba).trans c0) ((hW.cell (p := ⟨ba, oa + k * 2 + 1, none⟩) hba).trans c1)
      have RB : Hid (∀ W, Below w.heap.size w W → W.rangeAt bb (ob + k * 2) [.bool d, S t]) := fun W hW => two ((hW.cell (p := ⟨bb, ob + k * 2, none⟩) hbb).trans d0) ((hW.cell (p := ⟨bb, ob + k * 2 + 1, none⟩) hbb).trans d1)
      have hu := Tryd.underlying57
      have hi : (Tryd.prog.info? 57).map (·.size) = some 2 := part_info
      clear hca hcb c0 c1 d0 d1 two
      go_wp2_with fail
      refine wp_region_noPanic ?_
      refine wp_region_held_drew (S := fun w' => Blocks w w' [(w.heap.size, 24, CA), (w.heap.size + 1, 24, CB)]) (by kernel_rfl) (HR.out.drew) (fun hHeld => ?_)
      generalize wr.drew = wq at *
      refine wpAnyH_take (i := 0) (v := .pointer (some ⟨w.heap.size, 3, none⟩)) rfl (by kernel_rfl) (by kernel_rfl) (by kernel_rfl) (fun _ _ _ h => h) (Or.inl ⟨by rfl, fun w' hSw => by go_simp⟩) hHeld ?_
      try simp only [Act.put, List.getElem_toArray, List.getElem_cons_succ, List.getElem_cons_zero, List.setIfInBounds_toArray, List.set_cons_zero, List.set_cons_succ]
      refine wpAnyH_take (i := 1) (v := .slice (some ⟨ba, oa, none⟩) n c) rfl (by kernel_rfl) (by kernel_rfl) (by kernel_rfl) (fun _ _ _ h => h) (Or.inl ⟨by rfl, fun w' hSw => by have hq := hSw; have hc := BA.out _ _ _ hq.hd; go_simp⟩) hHeld ?_
      try simp only [Act.put, List.getElem_toArray, List.getElem_cons_succ, List.getElem_cons_zero, List.setIfInBounds_toArray, List.set_cons_zero, List.set_cons_succ]
      refine wpAnyH_take (i := 2) (v := .int .i64 k) rfl (by kernel_rfl) (by kernel_rfl) (by kernel_rfl) (fun _ _ _ h => h) (Or.inl ⟨by rfl, fun w' hSw => by go_simp⟩) hHeld ?_
      try simp only [Act.put, List.getElem_toArray, List.getElem_cons_succ, List.getElem_cons_zero, List.setIfInBounds_toArray, List.set_cons_zero, List.set_cons_succ]
      refine wpAnyH_take (i := 3) (v := .pointer (some ⟨ba, (oa + k * 2), none⟩)) rfl (by kernel_rfl) (by kernel_rfl) (by kernel_rfl) (fun _ _ _ h => h) (Or.inl ⟨by rfl, fun w' hSw => by go_simp⟩) hHeld ?_
      try simp only [Act.put, List.getElem_toArray, List.getElem_cons_succ, List.getElem_cons_zero, List.setIfInBounds_toArray, List.set_cons_zero, List.set_cons_succ]
      refine' wpAnyH_take (i := 4) (v := _) rfl (by kernel_rfl) (by kernel_rfl) (by kernel_rfl) (fun _ _ _ h => h) (yieldsIf_load_mid (by rfl) _ _ rfl ba (oa + k * 2) rfl [.bool d, S t] _ (fun w' hSw => (RA.out _ hSw.1)) hu rfl hi) hHeld ?_
      try simp only [Act.put, List.getElem_toArray, List.getElem_cons_succ, List.getElem_cons_zero, List.setIfInBounds_toArray, List.set_cons_zero, List.set_cons_succ]
      refine wpAnyH_take (i := 5) (v := .pointer (some ⟨(w.heap.size + 1), 3, none⟩)) rfl (by kernel_rfl) (by kernel_rfl) (by kernel_rfl) (fun _ _ _ h => h) (Or.inl ⟨by rfl, fun w' hSw => by go_simp⟩) hHeld ?_
      try simp only [Act.put, List.getElem_toArray, List.getElem_cons_succ, List.getElem_cons_zero, List.setIfInBounds_toArray, List.set_cons_zero, List.set_cons_succ]
      refine wpAnyH_take (i := 6) (v := .slice (some ⟨bb, ob, none⟩) n e) rfl (by kernel_rfl) (by kernel_rfl) (by kernel_rfl) (fun _ _ _ h => h) (Or.inl ⟨by rfl, fun w' hSw => by have hq := hSw; have hc := BB.out _ _ _ hq.tl.hd; go_simp⟩) hHeld ?_
      try simp only [Act.put, List.getElem_toArray, List.getElem_cons_succ, List.getElem_cons_zero, List.setIfInBounds_toArray, List.set_cons_zero, List.set_cons_succ]
      refine wpAnyH_take (i := 7) (v := .int .i64 k) rfl (by kernel_rfl) (by kernel_rfl) (by kernel_rfl) (fun _ _ _ h => h) (Or.inl ⟨by rfl, fun w' hSw => by go_simp⟩) hHeld ?_
      try simp only [Act.put, List.getElem_toArray, List.getElem_cons_succ, List.getElem_cons_zero, List.setIfInBounds_toArray, List.set_cons_zero, List.set_cons_succ]
      refine wpAnyH_take (i := 8) (v := .pointer (some ⟨bb, (ob + k * 2), none⟩)) rfl (by kernel_rfl) (by kernel_rfl) (by kernel_rfl) (fun _ _ _ h => h) (Or.inl ⟨by rfl, fun w' hSw => by go_simp⟩) hHeld ?_
      try simp only [Act.put, List.getElem_toArray, List.getElem_cons_succ, List.getElem_cons_zero, List.setIfInBounds_toArray, List.set_cons_zero, List.set_cons_succ]
      refine' wpAnyH_take (i := 9) (v := _) rfl (by kernel_rfl) (by kernel_rfl) (by kernel_rfl) (fun _ _ _ h => h) (yieldsIf_load_mid (by rfl) _ _ rfl bb (ob + k * 2) rfl [.bool d, S t] _ (fun w' hSw => (RB.out _ hSw.1)) hu rfl hi) hHeld ?_
      try simp only [Act.put, List.getElem_toArray, List.getElem_cons_succ, List.getElem_cons_zero, List.setIfInBounds_toArray, List.set_cons_zero, List.set_cons_succ]
      refine wpAnyH_take (i := 10) (v := .bool false) rfl (by kernel_rfl) (by kernel_rfl) (by kernel_rfl) (fun _ _ _ h => h) (Or.inl ⟨by rfl, fun w' hSw => by go_simp⟩) hHeld ?_
      try simp only [Act.put, List.getElem_toArray, List.getElem_cons_succ, List.getElem_cons_zero, List.setIfInBounds_toArray, List.set_cons_zero, List.set_cons_succ]
      refine wpAnyH_done (by kernel_rfl) ?_ _
      refine NoPanic.normal ?_
      have HRe : Blocks w wq [(w.heap.size, 24, CA), (w.heap.size + 1, 24, CB)] := hHeld
      clear hHeld
      go_wp2_with fail
      exact ⟨⟨k + 1, hkn, by go_num, HRe⟩, by simp [intOf]; omega⟩
    · have hki : (n : Int) ≤ (k : Int) := by omega
      go_wp2_with fail
      go_ret
      exact ⟨rfl, HR.out.1⟩
end Go.Proofs.YtinciddchpccnaaDoor
