/- What later texts need of the earlier layers. -/
import Derived.Test.YtjeooegkfjlejaaDoorEarO
import Derived.Test.YtjeooegkfjlejaaDoorEarS
import Derived.Test.YtjeooegkfjlejaaDoorEarT
import Derived.Test.YtjeooegkfjlejaaDoorEarC
import Derived.Test.YtjeooegkfjlejaaDoorEarA
import Derived.Test.YtjeooegkfjlejaaDoorEarB
import Derived.Test.YtjeooegkfjlejaaDoorIbA
import Derived.Test.YtjeooegkfjlejaaDoorTrMath
import Derived.Test.YtjeooegkfjlejaaDoorTrHash
import Derived.Test.YtjeooegkfjlejaaDoorTrMem
import Derived.Test.YtjeooegkfjlejaaDoorTrLv
import Derived.Test.YtjeooegkfjlejaaDoorTrLink
import Derived.Test.YtjeooegkfjlejaaDoorTrBeh
import Derived.Test.YtjeooegkfjlejaaDoorTrCh
/- ---- TrAt ---- -/
/- (*tree.Chain).at, .Block, .Hash: what they return. -/
namespace Go.Proofs.YtjeooegkfjlejaaDoor
open Go.RowKit
set_option linter.unusedVariables false
set_option linter.unusedSimpArgs false

/-- what at tells -/
def lkV (C : List Value) (e : Int) : Value := .tuple #[.agg C.toArray, .int .i64 e]
set_option maxRecDepth 20000 in
set_option maxHeartbeats 1600000 in
theorem at_no (n : Int) (w : World) (base P : Nat) (dp de : Int) (ls : List Lv) (h : ChAt w base P dp de ls) (hn : n < 0 ∨ (ls.length : Int) ≤ n) (hn2 : Tx.fits n) (hl2 : ls.length ≤ 100000) :
    Calls Tryd.prog 52 #[.pointer (some ⟨P, 0, none⟩), .int .i64 n] w fun e w' => e = .returned (lkV Lv.zero.cells 31) ∧ Below w.heap.size w w' := by
  have Hr0 := Lib.hid (Row.new w 86 Lv.zero.cells)
  have Hb0 := Lib.hid ((Below.refl w.heap.size w).alloc (Nat.le_refl _) (.cells Lv.zero.cells.toArray 86))
  have HZL := Lib.hid (Lv.cells_len Lv.zero_fits)
  have HZ1 := Lib.hid (Lv.cells_one Lv.zero_fits)
  have hz86 := lk_zv
  have hP : P < w.heap.size := by obtain ⟨_, v, h1, _⟩ := h; exact h1.lt
  obtain ⟨A, c, c0, c1, c2, f1, f2, ho, hr⟩ := (h.below (((Below.refl w.heap.size w).alloc (Nat.le_refl _) (.cells Lv.zero.cells.toArray 86)))).cells
  generalize ls.length = m at *
  clear ho hr h
  by_cases q : n < 0
  · have d0 : decide (n < 0) = true := by simpa using q
    clear hn
    go_enter Tryd.func52, Tryd.ntmps52
    go_wp2_with (first
    | ((with_reducible show wpList _ _ _ (⟨_, .build 86 _, _, _, _, _⟩ :: _) _ _); refine wpList_buildL rfl 86 [] rfl (some 20) rfl [] rfl Lv.zero.cells.toArray lk_built0 ?_)
    | (with_reducible show wpList _ _ _ (⟨_, .store 86 _ _, _, _, _, _⟩ :: _) _ _
       refine wpList_store_at rfl 86 (.tmp 4) (.tmp 20) rfl w.heap.size 0 Lv.zero.cells _ _ rfl rfl Hr0.out (by have := HZL.out; omega) (by rw [link_size, HZL.out]) HZ1.out ?_
       intro wz hrz hgz
       rw [splice_all rfl] at hrz
       have HRz := Lib.hid hrz
       have Hbz := Lib.hid (below_own Hb0.out hgz (fun k hk => by cases hk; exact Nat.le_refl _))
       clear hrz hgz))
    exact bodyPost_ret (results_rowL rfl _ _ w.heap.size 86 _ _ rfl HRz.out Tryd.underlying86 rfl (by rw [link_size, List.size_toArray, HZL.out]) _ rfl) rfl ⟨rfl, Hbz.out⟩
  · have d0 : decide (n < 0) = false := by simpa using q
    have d1 : decide ((m : Int) ≤ n) = true := by simp; omega
    clear hn
    go_enter Tryd.func52, Tryd.ntmps52
    go_wp2_with (first
    | ((with_reducible show wpList _ _ _ (⟨_, .build 86 _, _, _, _, _⟩ :: _) _ _); refine wpList_buildL rfl 86 [] rfl (some 20) rfl [] rfl Lv.zero.cells.toArray lk_built0 ?_)
    | (with_reducible show wpList _ _ _ (⟨_, .store 86 _ _, _, _, _, _⟩ :: _) _ _
       refine wpList_store_at rfl 86 (.tmp 4) (.tmp 20) rfl w.heap.size 0 Lv.zero.cells _ _ rfl rfl Hr0.out (by have := HZL.out; omega) (by rw [link_size, HZL.out]) HZ1.out ?_
       intro wz hrz hgz
       rw [splice_all rfl] at hrz
       have HRz := Lib.hid hrz
       have Hbz := Lib.hid (below_own Hb0.out hgz (fun k hk => by cases hk; exact Nat.le_refl _))
       clear hrz hgz))
    exact bodyPost_ret (results_rowL rfl _ _ w.heap.size 86 _ _ rfl HRz.out Tryd.underlying86 rfl (by rw [link_size, List.size_toArray, HZL.out]) _ rfl) rfl ⟨rfl, Hbz.out⟩
set_option maxRecDepth 20000 in
set_option maxHeartbeats 1600000 in
theorem at_yes (n : Nat) (w : World) (base P : Nat) (dp de : Int) (ls : List Lv) (h : ChAt w base P dp de ls) (hn : n < ls.length) (hl2 : ls.length ≤ 100000) :
    Calls Tryd.prog 52 #[.pointer (some ⟨P, 0, none⟩), .int .i64 n] w fun e w' => e = .returned (lkV ls[n].cells 0) ∧ Below w.heap.size w w' := by
  have Hr0 := Lib.hid (Row.new w 86 Lv.zero.cells)
  have Hb0 := Lib.hid ((Below.refl w.heap.size w).alloc (Nat.le_refl _) (.cells Lv.zero.cells.toArray 86))
  have HZL := Lib.hid (Lv.cells_len Lv.zero_fits)
  have HZ1 := Lib.hid (Lv.cells_one Lv.zero_fits)
  have hz86 := lk_zv
  have hP : P < w.heap.size := by obtain ⟨_, v, h1, _⟩ := h; exact h1.lt
  obtain ⟨A, c, c0, c1, c2, f1, f2, ho, hr⟩ := (h.below (((Below.refl w.heap.size w).alloc (Nat.le_refl _) (.cells Lv.zero.cells.toArray 86)))).cells
  obtain ⟨g, rfl, hg1, hg2, hlc, hat⟩ := ho.at_ (by intro e; rw [e] at hn; simp at hn) rfl
  have HLL := Lib.hid (Lv.cells_len (ho.2 _ (List.getElem_mem hn)).1)
  have HL1 := Lib.hid (Lv.cells_one (ho.2 _ (List.getElem_mem hn)).1)
  have HRg := Lib.hid (hat n hn)
  generalize ls[n].cells = C at *
  clear ho hr h hat
  generalize ls.length = m at *
  have hni : (n : Int) < (m : Int) := by omega
  have d0 : decide ((n : Int) < 0) = false := by simp
  have d1 : decide ((m : Int) ≤ (n : Int)) = false := by simp; omega
  have d2 : decide (m ≤ n) = false := by simp; omega
  go_enter Tryd.func52, Tryd.ntmps52
  go_wp2_with (first
  | ((with_reducible show wpList _ _ _ (⟨_, .load 86 _, _, _, _, _⟩ :: _) _ _); refine wpList_load_tx rfl 86 (.tmp 26) rfl g (n * 67) (by first | rfl | simp) C _ HRg.out Tryd.underlying86 rfl (by rw [link_size, HLL.out]) ?_)
  | (with_reducible show wpList _ _ _ (⟨_, .store 86 _ _, _, _, _, _⟩ :: _) _ _
     refine wpList_store_at rfl 86 (.tmp 4) (.tmp 27) rfl w.heap.size 0 C _ _ rfl rfl Hr0.out (by have := HZL.out; have := HLL.out; omega) (by rw [link_size, HLL.out]) HL1.out ?_
     intro wz hrz hgz
     rw [splice_all (HLL.out.trans HZL.out.symm)] at hrz
     have HRz := Lib.hid hrz
     have Hbz := Lib.hid (below_own Hb0.out hgz (fun k hk => by cases hk; exact Nat.le_refl _))
     clear hrz hgz))
  exact bodyPost_ret (results_rowL rfl _ _ w.heap.size 86 _ _ rfl HRz.out Tryd.underlying86 rfl (by rw [link_size, List.size_toArray, HLL.out]) _ rfl) rfl ⟨rfl, Hbz.out⟩
/-- a block and a number, its items the call's own -/
def BlkPair (base : Nat) (b : Bk) (E : Int) (e : Ending) (w' : World) : Prop := ∃ A c, e = .returned (.tuple #[.agg (b.cells A c).toArray, .int .i64 E]) ∧ w'.ownsRow base 98 4 (.slice A b.items.length c) b.items.length (itFlat b.items)
set_option maxRecDepth 20000 in
set_option maxHeartbeats 1600000 in
theorem blockOf_any (p : Value) (n : Int) (x : Lv) (E : Int) (w : World) (hx : x.Fits) (hin : SlIn w w.heap.size x.A x.cap x.k.b.items)
    (AT : ∀ W, Below w.heap.size w W → Calls Tryd.prog 52 #[p, .int .i64 n] W fun e w' => e = .returned (lkV x.cells E) ∧ Below W.heap.size W w') :
    Calls Tryd.prog 25 #[p, .int .i64 n] w fun e w' => BlkPair w.heap.size x.k.b E e w' ∧ Below w.heap.size w w' := by
  unfold lkV at AT
  have HAT := Lib.hid AT
  have hz45 := block_zv
  have hz86 := lk_zv
  have Hr0 := Lib.hid (Row.new w 45 Bk.zeroC)
  have Hb0 := Lib.hid ((Below.refl w.heap.size w).alloc (Nat.le_refl _) (.cells Bk.zeroC.toArray 45))
  have HZB := Lib.hid Bk.zeroC_len
  have HZL := Lib.hid (Lv.cells_len Lv.zero_fits)
  have HXL := Lib.hid (Lv.cells_len hx)
  have HX1 := Lib.hid (Lv.cells_one hx)
  have BL := Lib.hid (fun W (hW : Below w.heap.size w W) => block11_any x hx W ((hin.below hW).mono hW.size))
  have HBL := Lib.hid (fun A c => Bk.cells_len (b := x.k.b) (A := A) (cap := c) hx.1)
  have HB1 := Lib.hid (fun A c => Bk.cells_one (b := x.k.b) (A := A) (cap := c) hx.1)
  obtain ⟨b, hb⟩ : ∃ b, b = x.k.b := ⟨_, rfl⟩
  rw [← hb] at BL HBL HB1 ⊢
  generalize x.cells = C at *
  clear AT hx hin hb
  go_enter Tryd.func25, Tryd.ntmps25
  go_wp2_with fail
  refine (HAT.out _ Hb0.out).mono ?_
  rintro _ w1 ⟨rfl, hb1⟩
  have Hr1 := Lib.hid (Hr0.out.kept (grownBy_of_below hb1 none) (by simp))
  have Hb1 := Lib.hid (two_below' Hb0.out hb1)
  have HN1 := Lib.hid (Row.new w1 86 Lv.zero.cells)
  clear hb1
  go_wp2_with (first
  | ((with_reducible show wpList _ _ _ (⟨_, .load 86 _, _, _, _, _⟩ :: _) _ _); refine wpList_load_tx rfl 86 (.tmp 6) rfl w1.heap.size 0 rfl C _ (row_range HR2.out) Tryd.underlying86 rfl (by rw [link_size, HXL.out]) ?_)
  | (with_reducible show wpList _ _ _ (⟨_, .store 86 _ _, _, _, _, _⟩ :: _) _ _
     refine wpList_store_at rfl 86 (.tmp 6) (.tmp 12) rfl w1.heap.size 0 C _ _ rfl rfl HN1.out (by have := HZL.out; have := HXL.out; omega) (by rw [link_size, HXL.out]) HX1.out ?_
     intro w2 hr2 hg2
     rw [splice_all (HXL.out.trans HZL.out.symm)] at hr2
     have HR2 := Lib.hid hr2
     have Hq2 := Lib.hid ((Hr1.out.kept (grownBy_alloc w1 (.cells Lv.zero.cells.toArray 86) none) (by simp)).kept hg2 (by have := Hr1.out.lt; simp; omega))
     have Hb2 := Lib.hid (below_own (Hb1.out.alloc Hb1.out.size (.cells Lv.zero.cells.toArray 86)) hg2 (fun k hk => by cases hk; exact Hb1.out.size))
     clear hr2 hg2))
  refine (BL.out _ Hb2.out).mono ?_
  rintro _ w3 ⟨⟨A1, c1, rfl, ho3⟩, hb3⟩
  have Hr3 := Lib.hid (Hq2.out.kept (grownBy_of_below hb3 none) (by simp))
  have HO3 := Lib.hid (own_lower ho3 Hb2.out.size)
  have Hb3 := Lib.hid (two_below' Hb2.out hb3)
  clear ho3 hb3
  go_wp2_with (with_reducible show wpList _ _ _ (⟨_, .store 45 _ _, _, _, _, _⟩ :: _) _ _
               refine wpList_store_at rfl 45 (.tmp 4) (.tmp 15) rfl w.heap.size 0 (b.cells A1 c1) _ _ rfl rfl Hr3.out (by have := HZB.out; rw [HBL.out]; omega) (by rw [block_size, HBL.out]) (HB1.out A1 c1) ?_
               intro w4 hr4 hg4
               rw [splice_all ((HBL.out A1 c1).trans HZB.out.symm)] at hr4
               have HR4 := Lib.hid hr4
               have Hb4 := Lib.hid (below_own Hb3.out hg4 (fun k hk => by cases hk; exact Nat.le_refl _))
               have HO4 := Lib.hid (HO3.out.kept hg4 (.inr (row_ne_own Hr3.out HO3.out (by decide))))
               clear hr4 hg4)
  exact bodyPost_ret (results_rowL rfl _ _ w.heap.size 45 _ _ rfl HR4.out Tryd.underlying45 rfl (by rw [block_size, List.size_toArray, HBL.out]) _ rfl) rfl ⟨⟨A1, c1, rfl, HO4.out⟩, Hb4.out⟩
set_option maxRecDepth 20000 in
set_option maxHeartbeats 1600000 in
theorem hashOf_any (p : Value) (n : Int) (x : Lv) (E : Int) (w : World) (hx : x.Fits)
    (AT : ∀ W, Below w.heap.size w W → Calls Tryd.prog 52 #[p, .int .i64 n] W fun e w' => e = .returned (lkV x.cells E) ∧ Below W.heap.size W w') :
    Calls Tryd.prog 26 #[p, .int .i64 n] w fun e w' => e = .returned (hashV x.k.hash E) ∧ Below w.heap.size w w' := by
  unfold lkV at AT
  have HAT := Lib.hid AT
  have hzh := hash_zv
  have hz86 := lk_zv
  have Hr0 := Lib.hid (Row.new w 42 (bRow Tx.zero).toList)
  have Hb0 := Lib.hid ((Below.refl w.heap.size w).alloc (Nat.le_refl _) (.cells (bRow Tx.zero).toList.toArray 42))
  rw [Array.toArray_toList] at Hr0 Hb0
  have HZ32 := Lib.hid (Tx.bRow_len Tx.zero rfl)
  have HZL := Lib.hid (Lv.cells_len Lv.zero_fits)
  have HXL := Lib.hid (Lv.cells_len hx)
  have HX1 := Lib.hid (Lv.cells_one hx)
  have HH32 := Lib.hid (Tx.bRow_len _ hx.2.1)
  have HH1 := Lib.hid (hash_one _ hx.2.1)
  have HAt : Hid (∀ W g, Row W g 86 x.cells → W.rangeAt g 35 (bRow x.k.hash).toList) := Lib.hid (fun W g h => by
    have := (Lv.at_ hx (row_range h)).2.2.2.2.1
    rwa [Nat.zero_add] at this)
  obtain ⟨K, hK⟩ : ∃ K, K = x.k.hash := ⟨_, rfl⟩
  rw [← hK] at HH32 HH1 HAt ⊢
  generalize x.cells = C at *
  clear AT hx hK
  go_enter Tryd.func26, Tryd.ntmps26
  go_wp2_with fail
  refine (HAT.out _ Hb0.out).mono ?_
  rintro _ w1 ⟨rfl, hb1⟩
  have Hr1 := Lib.hid (Hr0.out.kept (grownBy_of_below hb1 none) (by simp))
  have Hb1 := Lib.hid (two_below' Hb0.out hb1)
  have HN1 := Lib.hid (Row.new w1 86 Lv.zero.cells)
  clear hb1
  go_wp2_with (first
  | ((with_reducible show wpList _ _ _ (⟨_, .load 42 _, _, _, _, _⟩ :: _) _ _); refine wpList_load_tx rfl 42 (.tmp 14) rfl w1.heap.size 35 rfl (bRow K).toList _ (HAt.out _ _ HR2.out) Tryd.underlying42 rfl (by rw [hash_info, HH32.out]) ?_)
  | (with_reducible show wpList _ _ _ (⟨_, .store 86 _ _, _, _, _, _⟩ :: _) _ _
     refine wpList_store_at rfl 86 (.tmp 6) (.tmp 12) rfl w1.heap.size 0 C _ _ rfl rfl HN1.out (by have := HZL.out; have := HXL.out; omega) (by rw [link_size, HXL.out]) HX1.out ?_
     intro w2 hr2 hg2
     rw [splice_all (HXL.out.trans HZL.out.symm)] at hr2
     have HR2 := Lib.hid hr2
     have Hq2 := Lib.hid ((Hr1.out.kept (grownBy_alloc w1 (.cells Lv.zero.cells.toArray 86) none) (by simp)).kept hg2 (by have := Hr1.out.lt; simp; omega))
     have Hb2 := Lib.hid (below_own (Hb1.out.alloc Hb1.out.size (.cells Lv.zero.cells.toArray 86)) hg2 (fun k hk => by cases hk; exact Hb1.out.size))
     clear hr2 hg2)
  | (with_reducible show wpList _ _ _ (⟨_, .store 42 _ _, _, _, _, _⟩ :: _) _ _
     refine wpList_store_at rfl 42 (.tmp 4) (.tmp 15) rfl w.heap.size 0 (bRow K).toList (bRow Tx.zero).toList _ rfl rfl Hq2.out (by have := HZ32.out; have := HH32.out; omega) (by rw [hash_info, HH32.out]) HH1.out ?_
     intro w4 hr4 hg4
     rw [splice_all (HH32.out.trans HZ32.out.symm)] at hr4
     have HR4 := Lib.hid hr4
     have Hb4 := Lib.hid (below_own Hb2.out hg4 (fun k hk => by cases hk; exact Nat.le_refl _))
     clear hr4 hg4))
  exact bodyPost_ret (results_rowL rfl _ _ w.heap.size 42 _ _ rfl HR4.out Tryd.underlying42 rfl (by rw [hash_info, List.size_toArray, HH32.out]) _ rfl) rfl ⟨rfl, Hb4.out⟩
end Go.Proofs.YtjeooegkfjlejaaDoor
