/- TreeHashes. -/
import Derived.Test.YtjeooegkfjlejaaDoorTrAwk
import Derived.Test.YtjeooegkfjlejaaDoorTrRHash
namespace Go.Proofs.YtjeooegkfjlejaaDoor
open Go.RowKit
set_option linter.unusedVariables false
set_option linter.unusedSimpArgs false

set_option maxRecDepth 20000 in
set_option maxHeartbeats 1600000 in
theorem treeHashes_any (hRS : RefSum) (b : Bk) (A : Option Addr) (c : Nat) (hp : b.parent.length = 32) (w : World) (hits : BkItems w w.heap.size A b.items) (hT : Tab w) :
    Calls Tryd.prog 4 #[.agg (b.cells A c).toArray] w fun e w' => e = .returned (.bool true) ∧ Below w.heap.size w w' := by
  have hzh := hash_zv
  have HZ32 := Lib.hid (Tx.bRow_len Tx.zero rfl)
  have HCL := Lib.hid (Bk.cells_len (A := A) (cap := c) hp)
  have H1 := Lib.hid (fun W (hW : Below w.heap.size w W) => hash11_any b A c hp W ((hits.below hW).mono hW.size) (hT.below hW hT.pos))
  have H2 := Lib.hid (fun W (hW : Below w.heap.size w W) => rhash11_any hRS b A c hp W ((hits.below hW).mono hW.size))
  have H3 := Lib.hid (fun W (hW : Below w.heap.size w W) => awake11_any W (hT.below hW hT.pos))
  have hKl := Tr.hashE_len b
  unfold hashV at H1 H2
  generalize (Tr.hashE b).1 = K at *
  generalize (Tr.hashE b).2 = E at *
  have heq : ∀ W : World, (Op.equalIn 10000 42 (.agg (bRow K)) (.agg (bRow K))).run Tryd.prog W = .ok true W := fun W => (hash_eq W K K hKl hKl).trans (by simp)
  have HKl := Lib.hid (Tx.bRow_len K hKl)
  have HK1 : Hid (∀ v ∈ (bRow K).toList, v.oneCell' = true) := Lib.hid (hash_one K hKl)
  have HB0 := Lib.hid ((Below.refl w.heap.size w).alloc (Nat.le_refl _) (.cells (b.cells A c).toArray 45))
  have HR0 := Lib.hid (Row.new w 45 (b.cells A c))
  generalize b.cells A c = C at *
  clear hp hits hT hKl
  go_enter Tryd.func4, Tryd.ntmps4
  go_wp2_with (with_reducible show wpList _ _ _ (⟨_, .load 45 _, _, _, _, _⟩ :: _) _ _
               refine wpList_load_tx rfl 45 (.tmp 1) rfl w.heap.size 0 rfl C _ (row_range HR0.out) Tryd.underlying45 rfl (by rw [block_size, HCL.out]) ?_)
  refine (H1.out _ HB0.out).mono ?_
  rintro _ w1 ⟨rfl, hb1⟩
  have HR1 := Lib.hid (HR0.out.below hb1)
  have HB1 := Lib.hid (two_below' HB0.out hb1)
  have HNew := Lib.hid (Row.new w1 42 (bRow Tx.zero).toList)
  rw [Array.toArray_toList] at HNew
  clear hb1
  go_wp2_with (first
  | (with_reducible show wpList _ _ _ (⟨_, .store 42 _ _, _, _, _, _⟩ :: _) _ _
     refine wpList_store_at rfl 42 (.tmp 3) (.tmp 10) rfl w1.heap.size 0 (bRow K).toList (bRow Tx.zero).toList _ rfl rfl HNew.out (by have := HZ32.out; have := HKl.out; omega) (by rw [hash_info, HKl.out]) HK1.out ?_
     intro w2 hr2 hg2
     rw [splice_all (HKl.out.trans HZ32.out.symm)] at hr2
     have hb2 := below_own ((Below.refl w1.heap.size w1).alloc (Nat.le_refl _) _) hg2 (fun k hk => by cases hk; exact Nat.le_refl _)
     have HK2 := Lib.hid hr2
     have HB2 := Lib.hid (two_below' HB1.out hb2)
     have HR2 := Lib.hid (HR1.out.below hb2)
     clear hr2 hg2 hb2)
  | (with_reducible show wpList _ _ _ (⟨_, .load 45 _, _, _, _, _⟩ :: _) _ _
     refine wpList_load_tx rfl 45 (.tmp 1) rfl w.heap.size 0 rfl C _ (row_range HR2.out) Tryd.underlying45 rfl (by rw [block_size, HCL.out]) ?_))
  refine (H2.out _ HB2.out).mono ?_
  rintro _ w3 ⟨rfl, hb3⟩
  have HK3 := Lib.hid (HK2.out.below hb3)
  have HB3 := Lib.hid (two_below' HB2.out hb3)
  have HNew3 := Lib.hid (Row.new w3 42 (bRow Tx.zero).toList)
  rw [Array.toArray_toList] at HNew3
  clear hb3
  go_wp2_with (first
  | (with_reducible show wpList _ _ _ (⟨_, .store 42 _ _, _, _, _, _⟩ :: _) _ _
     refine wpList_store_at rfl 42 (.tmp 5) (.tmp 15) rfl w3.heap.size 0 (bRow K).toList (bRow Tx.zero).toList _ rfl rfl HNew3.out (by have := HZ32.out; have := HKl.out; omega) (by rw [hash_info, HKl.out]) HK1.out ?_
     intro w4 hr4 hg4
     rw [splice_all (HKl.out.trans HZ32.out.symm)] at hr4
     have hb4 := below_own ((Below.refl w3.heap.size w3).alloc (Nat.le_refl _) _) hg4 (fun k hk => by cases hk; exact Nat.le_refl _)
     have HQ4 := Lib.hid hr4
     have HB4 := Lib.hid (two_below' HB3.out hb4)
     have HK4 := Lib.hid (HK3.out.below hb4)
     clear hr4 hg4 hb4))
  refine (H3.out _ HB4.out).mono ?_
  rintro _ w5 ⟨rfl, hb5⟩
  have HK5 := Lib.hid (HK4.out.below hb5)
  have HQ5 := Lib.hid (HQ4.out.below hb5)
  have HB5 := Lib.hid (two_below' HB4.out hb5)
  clear hb5
  go_wp2_with (first
  | ((with_reducible show wpList _ _ _ (⟨_, .load 42 (.tmp 3), _, _, _, _⟩ :: _) _ _); refine wpList_load_tx rfl 42 (.tmp 3) rfl w1.heap.size 0 rfl (bRow K).toList _ (row_range HK5.out) Tryd.underlying42 rfl (by rw [hash_info, HKl.out]) ?_)
  | ((with_reducible show wpList _ _ _ (⟨_, .load 42 (.tmp 5), _, _, _, _⟩ :: _) _ _); refine wpList_load_tx rfl 42 (.tmp 5) rfl w3.heap.size 0 rfl (bRow K).toList _ (row_range HQ5.out) Tryd.underlying42 rfl (by rw [hash_info, HKl.out]) ?_))
  go_ret
  exact ⟨rfl, HB5.out⟩
end Go.Proofs.YtjeooegkfjlejaaDoor
