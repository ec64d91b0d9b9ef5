/- The reference of layer 4: Hash. -/
import Derived.Test.YtoicpidiejhjeaaDoorNoRf1
namespace Go.Proofs.YtoicpidiejhjeaaDoor
open Go.RowKit
set_option linter.unusedVariables false
set_option linter.unusedSimpArgs false

theorem bRow_put (l : List UInt8) (h : l.length < 32) (b : UInt8) : (bRow l).toList.set l.length (Value.int .u8 (b.toNat : Int)) = (bRow (l ++ [b])).toList := by
  rw [← bRow_set l h b _ rfl, Array.toList_setIfInBounds]
theorem bRow_len' (l : List UInt8) (h : l.length ≤ 32) : (bRow l).toList.length = 32 := by rw [Array.length_toList]; exact bRow_size l h
theorem bRow_nil : bRow [] = bRow Tx.zero := by kernel_rfl
set_option maxRecDepth 20000 in
set_option maxHeartbeats 800000 in
theorem hash4_any (s : ByteArray) (w : World) (hs : s.size = 32) :
    Calls Tryd.prog 42 #[.string s] w fun e w' => e = .returned (.agg (bRow s.data.toList)) ∧ Below w.heap.size w w' := by
  have hl : s.data.toList.length = 32 := hs
  have hg : ∀ k (h : k < s.size), s.data.toList[k]? = some (s[k]'h) := fun k h => List.getElem?_eq_getElem h
  have HLn := Lib.hid hl
  have HG := Lib.hid hg
  have HZL : Hid ((bRow Tx.zero).toList.length = 32) := Lib.hid (Tx.bRow_len Tx.zero rfl)
  have HH1 : Hid (∀ v ∈ (bRow Tx.zero).toList, v.oneCell' = true) := Lib.hid (hash_one _ rfl)
  have HF1 : Hid (∀ v ∈ (bRow s.data.toList).toList, v.oneCell' = true) := Lib.hid (hash_one _ hl)
  have HFL : Hid ((bRow s.data.toList).toList.length = 32) := Lib.hid (Tx.bRow_len _ hl)
  obtain ⟨rB, hb2, rA⟩ := row_two w (bRow Tx.zero) (bRow Tx.zero) 33 33
  have HrA := Lib.hid rA
  have HrB := Lib.hid rB
  have Hb2 := Lib.hid hb2
  have hzh := hash_zv
  generalize s.data.toList = l at *
  clear hl hg rB rA hb2
  go_enter Tryd.func42, Tryd.ntmps42
  go_wp2_with (first
    | ((with_reducible show wpList _ _ _ (⟨_, .build 33 _, _, _, _, _⟩ :: _) _ _); refine wpList_buildL rfl 33 [] rfl (some 5) rfl [] rfl (bRow Tx.zero) hash_built ?_)
    | (with_reducible show wpList _ _ _ (⟨_, .store 33 (.tmp 3) _, _, _, _, _⟩ :: _) _ _
       refine wpList_store_at rfl 33 (.tmp 3) (.tmp 5) rfl (w.heap.size + 1) 0 (bRow Tx.zero).toList _ _ rfl rfl HrB.out (by have := HZL.out; omega) (by rw [hash_info, HZL.out]) HH1.out ?_
       intro w2 hr2 hg2
       rw [splice_all rfl] at hr2
       have HrB2 := Lib.hid hr2
       have HrA2 := Lib.hid (HrA.out.kept hg2 (by simp))
       have HbA2 := Lib.hid (below_own Hb2.out hg2 (fun k hk => by cases hk; omega))
       clear hr2 hg2))
  go_loopw [4] (fun i wr => ∃ k : Nat, k ≤ 32 ∧ i = .int .i64 k ∧ Row wr w.heap.size 33 (bRow Tx.zero).toList ∧ Row wr (w.heap.size + 1) 33 (bRow (l.take k)).toList ∧ Below w.heap.size w wr) (fun i _ => 32 - (intOf i).toNat)
  case atStart => exact ⟨0, Nat.zero_le _, rfl, HrA2.out, by rw [List.take_zero, bRow_nil]; exact HrB2.out, HbA2.out⟩
  case round =>
    obtain ⟨k, hk, rfl, hA, hB, hb⟩ := hrel
    clear HrA2 HrB2 HbA2
    have htl : (l.take k).length = k := by rw [List.length_take, HLn.out]; omega
    by_cases hlt : k < 32
    · have hki : (k : Int) < 32 := by omega
      have hks : k < s.size := by omega
      have hki2 : (k : Int) < (s.size : Int) := by omega
      have hcell : wr.cell? ⟨w.heap.size + 1, k, none⟩ = some (.int .u8 0) := by
        have h1 := bRow_free (l.take k) (by omega)
        rw [htl] at h1
        rw [hB.cell k (by rw [bRow_len' _ (by omega)]; exact hlt)]
        obtain ⟨h2, h3⟩ := Array.getElem?_eq_some_iff.1 h1
        rw [← h3]; simp
      have hfree := hB.free k
      have hset := hB.set k (.int .u8 ((s[k]'hks).toNat : Int)) (by rw [bRow_len' _ (by omega)]; exact hlt)
      have hput := bRow_put (l.take k) (by omega) (s[k]'hks)
      rw [htl] at hput
      have htk : l.take k ++ [s[k]'hks] = l.take (k + 1) := by
        rw [List.take_add_one, HG.out k hks]; rfl
      rw [hput, htk] at hset
      have HA := Lib.hid (hA.kept (grownBy_set wr (w.heap.size + 1) k (.int .u8 ((s[k]'hks).toNat : Int))) (by simp))
      have HS := Lib.hid hset
      have HB := Lib.hid (hb.grown (grownBy_set wr (w.heap.size + 1) k (.int .u8 ((s[k]'hks).toNat : Int))) hb.size (fun j hj => by cases hj; omega))
      clear hA hB hb hset hput htk htl
      go_wp2_with fail
      exact ⟨⟨k + 1, by omega, by go_num, HA.out, HS.out, HB.out⟩, by simp [intOf]; omega⟩
    · obtain rfl : k = 32 := by omega
      rw [List.take_of_length_le (by rw [HLn.out]; omega)] at hB
      have HrF := Lib.hid hB
      have HrR := Lib.hid hA
      have HB := Lib.hid hb
      clear hA hB hb htl
      go_wp2_with (first
        | (with_reducible show wpList _ _ _ (⟨_, .load 33 (.tmp 3), _, _, _, _⟩ :: _) _ _; refine wpList_load_tx rfl 33 (.tmp 3) rfl (w.heap.size + 1) 0 rfl (bRow l).toList _ (row_range HrF.out) Tryd.underlying33 rfl (by rw [hash_info, HFL.out]) ?_)
        | (with_reducible show wpList _ _ _ (⟨_, .store 33 (.tmp 2) _, _, _, _, _⟩ :: _) _ _
           refine wpList_store_at rfl 33 (.tmp 2) (.tmp 15) rfl w.heap.size 0 (bRow l).toList _ _ rfl rfl HrR.out (by have := HZL.out; have := HFL.out; omega) (by rw [hash_info, HFL.out]) HF1.out ?_
           intro w3 hr3 hg3
           rw [splice_all (HFL.out.trans HZL.out.symm)] at hr3
           have Hr3 := Lib.hid hr3
           have Hb3 := Lib.hid (below_own HB.out hg3 (fun k hk => by cases hk; exact Nat.le_refl _))
           clear hr3 hg3))
      have hT5 : w3.heap[w.heap.size]? = some (.cells (bRow l) 33 (0, 0)) := Hr3.out
      exact bodyPost_ret (results_cell_row rfl _ _ w.heap.size 33 _ (0, 0) _ rfl hT5 Tryd.underlying33 rfl (by rw [hash_info, ← Array.length_toList, HFL.out])) rfl ⟨rfl, Hb3.out⟩
end Go.Proofs.YtoicpidiejhjeaaDoor
