/- TreeNone. -/
import Derived.Test.YtjeooegkfjlejaaDoorTrAwk
import Derived.Test.YtjeooegkfjlejaaDoorTrNil
namespace Go.Proofs.YtjeooegkfjlejaaDoor
open Go.RowKit
set_option linter.unusedVariables false
set_option linter.unusedSimpArgs false

theorem wpList_build_wanted {P : Program} {ops : Array Oper} {rest : List Oper} {op : Oper} {a : Act} {w : World} {Q : Exit → Act → World → Prop} (hw : Region.wanted op (yielded ops a.tmps) = true) (t : TypeId) (ho : op.op = .build t #[]) (cells : Array Value) (hf : P.built t [] = some cells)
    (h : wpList P ops Q rest (a.put op.dst (.agg cells)) w) : wpList P ops Q (op :: rest) a w :=
  wpList_step fun K hK => by
    rw [if_pos hw]
    unfold Oper.wp execOp
    have h2 : P.built t ((#[].map fun (p : Nat × Operand) => (p.1, a.eval p.2)).toList) = some cells := by simpa using hf
    simp only [ho, Sem.run_bind, run_build w t _ cells h2, Result.andThen_ok, Sem.run_pure]
    exact hK _ _ h
theorem block_built0 : Tryd.prog.built 45 [] = some Bk.zeroC.toArray := by rw [bk_built]; rfl
set_option maxRecDepth 20000 in
set_option maxHeartbeats 1600000 in
/-- two empty blocks are the same -/
theorem same_zero (A A' : Option Addr) (c c' : Nat) (w : World) :
    Calls Tryd.prog 27 #[.agg (Tr.zeroB.cells A c).toArray, .agg (Tr.zeroB.cells A' c').toArray] w fun e w' => e = .returned (.bool true) ∧ Below w.heap.size w w' := by
  obtain ⟨r2, hb, r1⟩ := row_two w (Tr.zeroB.cells A c).toArray (Tr.zeroB.cells A' c').toArray 45 45
  simp only [List.toList_toArray] at r1 r2
  have p0 := (row_range r1) 0 _ (Bk.cell0 Tr.zeroB A c)
  have p1 := (row_range r1) 1 (.int .i64 0) rfl
  have p34 := (row_range r1) 34 _ (Bk.cell34 (b := Tr.zeroB) (A := A) (cap := c) rfl)
  have q0 := (row_range r2) 0 _ (Bk.cell0 Tr.zeroB A' c')
  have q1 := (row_range r2) 1 (.int .i64 0) rfl
  have q34 := (row_range r2) 34 _ (Bk.cell34 (b := Tr.zeroB) (A := A') (cap := c') rfl)
  rw [Nat.zero_add] at p0 p1 p34 q0 q1 q34
  have HPar : ∀ (W : World) (g : Nat) (B : Option Addr) (k : Nat), Row W g 45 (Tr.zeroB.cells B k) → W.rangeAt g 2 (bRow Tx.zero).toList := fun W g B k h j v hv => by
    have := (row_range h) (2 + j) v (by
      unfold Bk.cells
      rw [List.getElem?_append_right (by simp), List.getElem?_append_left (by simpa [Tr.zeroB] using (List.getElem?_eq_some_iff.1 hv).1)]
      simpa [Tr.zeroB] using hv)
    rw [Nat.zero_add] at this
    exact this
  have HP1 := Lib.hid (HPar _ _ _ _ r1)
  have HP2 := Lib.hid (HPar _ _ _ _ r2)
  have HZ32 := Lib.hid (Tx.bRow_len Tx.zero rfl)
  have heq : ∀ W : World, (Op.equalIn 10000 42 (.agg (bRow Tx.zero)) (.agg (bRow Tx.zero))).run Tryd.prog W = .ok true W := fun W => (hash_eq W _ _ rfl rfl).trans (by simp)
  have e0 : Tr.zeroB.number = 0 := rfl
  have el : Tr.zeroB.items.length = 0 := rfl
  rw [e0] at p0 q0
  rw [el] at p34 q34
  have Hb := Lib.hid hb
  clear r1 r2 hb HPar e0 el
  generalize Tr.zeroB.cells A c = C1 at *
  generalize Tr.zeroB.cells A' c' = C2 at *
  generalize hZZ : bRow Tx.zero = ZZ at *
  go_enter Tryd.func27, Tryd.ntmps27
  go_wp2_with (first
  | ((with_reducible show wpList _ _ _ (⟨_, .load 42 (.tmp 19), _, _, _, _⟩ :: _) _ _); refine wpList_load_tx rfl 42 (.tmp 19) rfl w.heap.size 2 rfl ZZ.toList _ HP1.out Tryd.underlying42 rfl (by rw [hash_info, HZ32.out]) ?_)
  | ((with_reducible show wpList _ _ _ (⟨_, .load 42 (.tmp 21), _, _, _, _⟩ :: _) _ _); refine wpList_load_tx rfl 42 (.tmp 21) rfl (w.heap.size + 1) 2 rfl ZZ.toList _ HP2.out Tryd.underlying42 rfl (by rw [hash_info, HZ32.out]) ?_))
  generalize ((w.alloc (.cells C1.toArray 45)).alloc (.cells C2.toArray 45)) = W2 at *
  go_loopw [5] (fun i wr => i = .int .i64 0 ∧ wr = W2) (fun _ _ => 0)
  case atStart => exact ⟨rfl, rfl⟩
  case round =>
    obtain ⟨rfl, rfl⟩ := hrel
    go_wp2_with fail
    go_ret
    exact ⟨rfl, Hb.out⟩
set_option maxRecDepth 20000 in
set_option maxHeartbeats 3200000 in
theorem treeNone_any (k u s : Int) (A : Option Addr) (m c : Nat) (n : Int) (w : World) (hT : Tab w) :
    Calls Tryd.prog 8 #[.agg #[.int .i64 k, .int .i64 u, .int .i64 s, .slice A m c], .int .i64 n] w fun e w' => e = .returned (.bool true) ∧ Below w.heap.size w w' := by
  have hzh := hash_zv
  have hz45 := block_zv
  have HZ32 := Lib.hid (Tx.bRow_len Tx.zero rfl)
  have HZ1 : Hid (∀ v ∈ (bRow Tx.zero).toList, v.oneCell' = true) := Lib.hid (hash_one _ rfl)
  have HBL := Lib.hid Bk.zeroC_len
  have HCL : Hid (∀ A c, (Tr.zeroB.cells A c).length = 35) := Lib.hid (fun A c => Bk.cells_len rfl)
  have HC1 : Hid (∀ A c, ∀ v ∈ Tr.zeroB.cells A c, v.oneCell' = true) := Lib.hid (fun A c => Bk.cells_one rfl)
  have heq : ∀ W : World, (Op.equalIn 10000 42 (.agg (bRow Tx.zero)) (.agg (bRow Tx.zero))).run Tryd.prog W = .ok true W := fun W => (hash_eq W _ _ rfl rfl).trans (by simp)
  have M1 := Lib.hid (fun W => mine_nil none 0 [] s W)
  have M2 := Lib.hid (fun W => blockOf_any (.pointer none) n Lv.zero 1 W Lv.zero_fits (SlIn.nil _ _) (fun W2 _ => at_nil n W2))
  have M3 := Lib.hid (fun W => hashOf_any (.pointer none) n Lv.zero 1 W Lv.zero_fits (fun W2 _ => at_nil n W2))
  have M4 := Lib.hid (fun W => find_nil W Tx.zero rfl)
  have M5 := Lib.hid (fun W (hW : Below w.heap.size w W) => awake11_any W (hT.below hW hT.pos))
  have M6 := Lib.hid (fun W => turn_nil u s A m c W)
  have M7 : Hid (∀ A1 c1 W, Calls Tryd.prog 27 #[.agg (Tr.zeroB.cells A1 c1).toArray, .agg Bk.zeroC.toArray] W fun e w' => e = .returned (.bool true) ∧ Below W.heap.size W w') := Lib.hid (fun A1 c1 W => same_zero A1 none c1 0 W)
  have M8 := Lib.hid (fun W => upto_nil W n)
  unfold hashV at M1 M3
  have hzk : Lv.zero.k.hash = Tx.zero := rfl
  rw [hzk] at M3
  have HB0 := Lib.hid ((Below.refl w.heap.size w).alloc (Nat.le_refl _) (.cells #[.int .i64 k, .int .i64 u, .int .i64 s, .slice A m c] 34))
  have HA0 := Lib.hid (Row.new w 34 [.int .i64 k, .int .i64 u, .int .i64 s, .slice A m c])
  have g2 := HA0.out.cell 2 (by simp)
  simp only [List.getElem_cons_zero, List.getElem_cons_succ] at g2
  clear hT hzk
  go_enter Tryd.func8, Tryd.ntmps8
  go_wp2_with fail
  refine (M1.out _).mono ?_
  rintro _ w1 ⟨rfl, hb1⟩
  have HB1 := Lib.hid (two_below' HB0.out hb1)
  have HA1 := Lib.hid (HA0.out.below hb1)
  have HNew1 := Lib.hid (Row.new w1 42 (bRow Tx.zero).toList)
  rw [Array.toArray_toList] at HNew1
  clear hb1 g2
  go_wp2_with (first
  | (with_reducible show wpList _ _ _ (⟨_, .store 42 _ _, _, _, _, _⟩ :: _) _ _
     refine wpList_store_at rfl 42 (.tmp 6) (.tmp 19) rfl w1.heap.size 0 (bRow Tx.zero).toList (bRow Tx.zero).toList _ rfl rfl HNew1.out (by have := HZ32.out; omega) (by rw [hash_info, HZ32.out]) HZ1.out ?_
     intro w2 hr2 hg2
     rw [splice_all rfl] at hr2
     have hb2 := below_own ((Below.refl w1.heap.size w1).alloc (Nat.le_refl _) _) hg2 (fun k hk => by cases hk; exact Nat.le_refl _)
     have HH2 := Lib.hid hr2
     have HB2 := Lib.hid (two_below' HB1.out hb2)
     have HA2 := Lib.hid (HA1.out.below hb2)
     clear hr2 hg2 hb2))
  refine (M2.out _).mono ?_
  rintro _ w3 ⟨⟨A1, c1, rfl, _⟩, hb3⟩
  have HH3 := Lib.hid (HH2.out.below hb3)
  have HB3 := Lib.hid (two_below' HB2.out hb3)
  have HA3 := Lib.hid (HA2.out.below hb3)
  have HNew3 := Lib.hid (Row.new w3 45 Bk.zeroC)
  have HKL := Lib.hid (HCL.out A1 c1)
  have HK1 := Lib.hid (HC1.out A1 c1)
  have M9 := Lib.hid (M7.out A1 c1)
  have hzb : Lv.zero.k.b = Tr.zeroB := rfl
  rw [hzb]
  generalize Tr.zeroB.cells A1 c1 = C1 at *
  clear hb3 hzb
  go_wp2_with (first
  | (with_reducible show wpList _ _ _ (⟨_, .store 45 _ _, _, _, _, _⟩ :: _) _ _
     refine wpList_store_at rfl 45 (.tmp 8) (.tmp 25) rfl w3.heap.size 0 C1 Bk.zeroC _ rfl rfl HNew3.out (by have := HKL.out; have := HBL.out; omega) (by rw [block_size, HKL.out]) HK1.out ?_
     intro w4 hr4 hg4
     rw [splice_all (HKL.out.trans HBL.out.symm)] at hr4
     have hb4 := below_own ((Below.refl w3.heap.size w3).alloc (Nat.le_refl _) _) hg4 (fun k hk => by cases hk; exact Nat.le_refl _)
     have HK4 := Lib.hid hr4
     have HH4 := Lib.hid (HH3.out.below hb4)
     have HB4 := Lib.hid (two_below' HB3.out hb4)
     have HA4 := Lib.hid (HA3.out.below hb4)
     clear hr4 hg4 hb4))
  refine (M3.out _).mono ?_
  rintro _ w5 ⟨rfl, hb5⟩
  have HH5 := Lib.hid (HH4.out.below hb5)
  have HK5 := Lib.hid (HK4.out.below hb5)
  have HB5 := Lib.hid (two_below' HB4.out hb5)
  have HA5 := Lib.hid (HA4.out.below hb5)
  have HNew5 := Lib.hid (Row.new w5 42 (bRow Tx.zero).toList)
  rw [Array.toArray_toList] at HNew5
  clear hb5
  go_wp2_with (first
  | (with_reducible show wpList _ _ _ (⟨_, .store 42 _ _, _, _, _, _⟩ :: _) _ _
     refine wpList_store_at rfl 42 (.tmp 10) (.tmp 31) rfl w5.heap.size 0 (bRow Tx.zero).toList (bRow Tx.zero).toList _ rfl rfl HNew5.out (by have := HZ32.out; omega) (by rw [hash_info, HZ32.out]) HZ1.out ?_
     intro w6 hr6 hg6
     rw [splice_all rfl] at hr6
     have hb6 := below_own ((Below.refl w5.heap.size w5).alloc (Nat.le_refl _) _) hg6 (fun k hk => by cases hk; exact Nat.le_refl _)
     have HQ6 := Lib.hid hr6
     have HH6 := Lib.hid (HH5.out.below hb6)
     have HK6 := Lib.hid (HK5.out.below hb6)
     have HB6 := Lib.hid (two_below' HB5.out hb6)
     have HA6 := Lib.hid (HA5.out.below hb6)
     clear hr6 hg6 hb6)
  | ((with_reducible show wpList _ _ _ (⟨_, .load 42 (.tmp 6), _, _, _, _⟩ :: _) _ _); refine wpList_load_tx rfl 42 (.tmp 6) rfl w1.heap.size 0 rfl (bRow Tx.zero).toList _ (row_range HH6.out) Tryd.underlying42 rfl (by rw [hash_info, HZ32.out]) ?_))
  refine (M4.out _).mono ?_
  rintro _ w7 ⟨rfl, hb7⟩
  have HH7 := Lib.hid (HH6.out.below hb7)
  have HQ7 := Lib.hid (HQ6.out.below hb7)
  have HK7 := Lib.hid (HK6.out.below hb7)
  have HB7 := Lib.hid (two_below' HB6.out hb7)
  have HA7 := Lib.hid (HA6.out.below hb7)
  clear hb7
  go_wp2_with fail
  refine (M5.out _ HB7.out).mono ?_
  rintro _ w8 ⟨rfl, hb8⟩
  have HH8 := Lib.hid (HH7.out.below hb8)
  have HQ8 := Lib.hid (HQ7.out.below hb8)
  have HK8 := Lib.hid (HK7.out.below hb8)
  have HB8 := Lib.hid (two_below' HB7.out hb8)
  have ha8 := HA7.out.below hb8
  have g1 := ha8.cell 1 (by simp)
  have g2 := ha8.cell 2 (by simp)
  have g3 := ha8.cell 3 (by simp)
  simp only [List.getElem_cons_zero, List.getElem_cons_succ] at g1 g2 g3
  clear hb8 ha8
  go_wp2_with (first
  | ((with_reducible show wpList _ _ _ (⟨_, .load 42 (.tmp 6), _, _, _, _⟩ :: _) _ _); refine wpList_load_tx rfl 42 (.tmp 6) rfl w1.heap.size 0 rfl (bRow Tx.zero).toList _ (row_range HH8.out) Tryd.underlying42 rfl (by rw [hash_info, HZ32.out]) ?_)
  | ((with_reducible show wpList _ _ _ (⟨_, .load 42 (.tmp 10), _, _, _, _⟩ :: _) _ _); refine wpList_load_tx rfl 42 (.tmp 10) rfl w5.heap.size 0 rfl (bRow Tx.zero).toList _ (row_range HQ8.out) Tryd.underlying42 rfl (by rw [hash_info, HZ32.out]) ?_)
  | ((with_reducible show wpList _ _ _ (⟨_, .load 45 (.tmp 8), _, _, _, _⟩ :: _) _ _); refine wpList_load_tx rfl 45 (.tmp 8) rfl w3.heap.size 0 rfl C1 _ (row_range HK8.out) Tryd.underlying45 rfl (by rw [block_size, HKL.out]) ?_)
  | ((with_reducible show wpList _ _ _ (⟨_, .build 42 _, _, _, _, _⟩ :: _) _ _); refine wpList_build_wanted rfl 42 rfl (bRow Tx.zero) hash_built ?_)
  | ((with_reducible show wpList _ _ _ (⟨_, .build 45 _, _, _, _, _⟩ :: _) _ _); refine wpList_build_wanted rfl 45 rfl Bk.zeroC.toArray block_built0 ?_)
  | (go_at_call 33; refine (M6.out _).mono ?_; rintro _ w9 ⟨rfl, rfl⟩)
  | (go_at_call 27; refine (M9.out _).mono ?_; rintro _ w10 ⟨rfl, hb10⟩)
  | (go_at_call 18; refine (height_nil _).mono ?_; rintro _ w11 ⟨rfl, rfl⟩)
  | (go_at_call 20; refine (final_nil _).mono ?_; rintro _ w12 ⟨rfl, rfl⟩)
  | (go_at_call 22; refine (deepest_nil _).mono ?_; rintro _ w13 ⟨rfl, rfl⟩)
  | (go_at_call 24; refine (M8.out _).mono ?_; rintro _ w14 ⟨rfl, hb14⟩))
  go_ret
  exact ⟨rfl, two_below' (two_below' HB8.out hb10) hb14⟩
end Go.Proofs.YtjeooegkfjlejaaDoor
