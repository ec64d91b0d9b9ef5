/- The reference of layer 4: Name, Signed. -/
import Derived.Test.YtdekcicgiflnbaaDoorTxSign2
import Derived.Test.YtdekcicgiflnbaaDoorTxRef3
namespace Go.Proofs.YtdekcicgiflnbaaDoor
open Go.RowKit
set_option linter.unusedVariables false
set_option linter.unusedSimpArgs false

set_option maxRecDepth 20000 in
set_option maxHeartbeats 800000 in
theorem rname4_any (t : Tx) (ht : t.Ok) (w : World) (hRS : RefSum) :
    Calls Tryd.prog 19 #[t.v] w fun e w' => e = .returned (HN t.nameE.1 t.nameE.2) ∧ Below w.heap.size w w' := by
  have hrng := tx_range (Row.new w 25 t.cells)
  have hlen := Tx.cells_length ht
  have TXT : Hid (∀ W, Calls Tryd.prog 17 #[.agg t.cells.toArray] W fun e w' => e = .returned (.tuple #[S t.textE.1, .int .i64 t.textE.2]) ∧ Below W.heap.size W w') := fun W => rtext_any t ht W
  have htl := t.text_len
  have SM : Hid (∀ W, Calls Tryd.prog 61 #[S t.textE.1] W fun e w' => e = .returned (.agg (bRow (Sha.sum t.textE.1))) ∧ Below W.heap.size W w') := fun W => hRS ⟨t.textE.1.toArray⟩ W (by show t.textE.1.length ≤ _; omega)
  have hn1 : t.textE.2 = 0 → t.nameE = (Sha.sum t.textE.1, 0) := fun h => by unfold Tx.nameE; rw [if_pos h]
  have hn2 : t.textE.2 ≠ 0 → t.nameE = (Tx.zero, t.textE.2) := fun h => by unfold Tx.nameE; rw [if_neg h]
  have hsl : (Sha.sum t.textE.1).length = 32 := Sha.sum_len _
  show Calls _ _ #[.agg t.cells.toArray] _ _
  generalize t.cells = C at *
  generalize t.nameE = NE at *
  generalize t.textE = TE at *
  obtain ⟨ts, te⟩ := TE
  simp only at hn1 hn2 TXT SM hsl
  generalize Sha.sum ts = R at *
  have HL := Lib.hid hlen
  have Hrng := Lib.hid hrng
  have Hn1 := Lib.hid hn1
  have Hn2 := Lib.hid hn2
  have Hsl := Lib.hid hsl
  have HB32 := Lib.hid (Tx.bRow_len R hsl)
  have HZ32 := Lib.hid (Tx.bRow_len Tx.zero rfl)
  have hzv := hash_zv
  clear hlen hrng hn1 hn2 hsl htl ht
  have hzl : (bRow Tx.zero).toList.length = (bRow Tx.zero).toList.length := rfl
  by_cases he : te = 0
  · subst he
    go_enter Tryd.func19, Tryd.ntmps19
    go_wp2_with (with_reducible show wpList _ _ _ (⟨_, .load 25 _, _, _, _, _⟩ :: _) _ _; refine wpList_load_tx rfl 25 (.tmp 1) rfl w.heap.size 0 rfl C _ (World.rangeAt_alloc Hrng.out _) Tryd.underlying25 rfl (by rw [tx_info, HL.out]) ?_)
    refine calls_named ?_
    intro w1 hw1
    have hb1 : Below w.heap.size w w1 := by rw [hw1]; exact (row_two w C.toArray (bRow Tx.zero) 25 23).2.1
    have hr1 : Row w1 (w.heap.size + 1) 23 (bRow Tx.zero).toList := by rw [hw1]; exact (row_two w C.toArray (bRow Tx.zero) 25 23).1
    clear hw1
    refine (TXT.out w1).mono ?_
    rintro _ w2 ⟨rfl, hb2⟩
    have hr2 := hr1.kept (grownBy_of_below hb2 none) (by simp)
    have hbt2 := two_below' hb1 hb2
    have Hr2 := Lib.hid hr2
    have Hbt2 := Lib.hid hbt2
    clear hb1 hr1 hb2 hr2 hbt2
    go_wp2_with fail
    refine (SM.out w2).mono ?_
    rintro _ w3 ⟨rfl, hb3⟩
    have hr3 := Hr2.out.kept (grownBy_of_below hb3 none) (by simp)
    have hbt3 := two_below' Hbt2.out hb3
    have Hr3 := Lib.hid hr3
    have Hbt3 := Lib.hid hbt3
    clear hb3 hr3 hbt3 hzv
    go_wp2_with (with_reducible show wpList _ _ _ (⟨_, .store 23 _ _, _, _, _, _⟩ :: _) _ _
                 refine wpList_store_at rfl 23 (.tmp 2) (.tmp 16) rfl (w.heap.size + 1) 0 (bRow R).toList _ _ rfl rfl Hr3.out (by rw [HB32.out, HZ32.out]; omega) (by rw [hash_info, HB32.out]) (hash_one R Hsl.out) ?_
                 intro w4 hr4 hg4
                 rw [splice_all (HB32.out.trans HZ32.out.symm)] at hr4
                 have Hr4 := Lib.hid hr4
                 have Hb4 := Lib.hid (below_own Hbt3.out hg4 (fun k hk => by cases hk; omega))
                 clear hr4 hg4)
    refine bodyPost_ret (results_rowL rfl _ _ (w.heap.size + 1) 23 _ _ rfl Hr4.out Tryd.underlying23 rfl (by rw [hash_info, List.size_toArray, HB32.out]) _ rfl) rfl ⟨?_, Hb4.out⟩
    have e := Hn1.out (by first | trivial | rfl)
    subst e
    rfl
  · have hne : (te != 0) = true := by simpa using he
    have Hne := Lib.hid he
    clear he
    go_enter Tryd.func19, Tryd.ntmps19
    go_wp2_with (with_reducible show wpList _ _ _ (⟨_, .load 25 _, _, _, _, _⟩ :: _) _ _; refine wpList_load_tx rfl 25 (.tmp 1) rfl w.heap.size 0 rfl C _ (World.rangeAt_alloc Hrng.out _) Tryd.underlying25 rfl (by rw [tx_info, HL.out]) ?_)
    refine calls_named ?_
    intro w1 hw1
    have hb1 : Below w.heap.size w w1 := by rw [hw1]; exact (row_two w C.toArray (bRow Tx.zero) 25 23).2.1
    have hr1 : Row w1 (w.heap.size + 1) 23 (bRow Tx.zero).toList := by rw [hw1]; exact (row_two w C.toArray (bRow Tx.zero) 25 23).1
    clear hw1
    refine (TXT.out w1).mono ?_
    rintro _ w2 ⟨rfl, hb2⟩
    have hr2 := hr1.kept (grownBy_of_below hb2 none) (by simp)
    have hbt2 := two_below' hb1 hb2
    have Hr2 := Lib.hid hr2
    have Hbt2 := Lib.hid hbt2
    clear hb1 hr1 hb2 hr2 hbt2
    go_wp2_with (first
      | (with_reducible show wpList _ _ _ (⟨_, .build 23 _, _, _, _, _⟩ :: _) _ _; refine wpList_buildL rfl 23 [] rfl (some 13) rfl _ rfl _ hash_built ?_)
      | (with_reducible show wpList _ _ _ (⟨_, .store 23 _ _, _, _, _, _⟩ :: _) _ _
         refine wpList_store_at rfl 23 (.tmp 2) (.tmp 13) rfl (w.heap.size + 1) 0 (bRow Tx.zero).toList _ _ rfl rfl Hr2.out (by have := HZ32.out; omega) (by rw [hash_info, HZ32.out]) (hash_one Tx.zero rfl) ?_
         intro w4 hr4 hg4
         rw [splice_all rfl] at hr4
         have Hr4 := Lib.hid hr4
         have Hb4 := Lib.hid (below_own Hbt2.out hg4 (fun k hk => by cases hk; omega))
         clear hr4 hg4))
    refine bodyPost_ret (results_rowL rfl _ _ (w.heap.size + 1) 23 _ _ rfl Hr4.out Tryd.underlying23 rfl (by rw [hash_info, List.size_toArray, HZ32.out]) _ rfl) rfl ⟨?_, Hb4.out⟩
    have e := Hn2.out Hne.out
    subst e
    rfl

set_option maxRecDepth 20000 in
set_option maxHeartbeats 800000 in
theorem rsigned4_any (t : Tx) (ht : t.Ok) (w : World) (hRS : RefSum) :
    Calls Tryd.prog 28 #[t.v] w fun e w' => e = .returned (.int .i64 t.signedE) ∧ Below w.heap.size w w' := by
  have hrow0 := Row.new w 25 t.cells
  have hrng := tx_range hrow0
  have hlen := Tx.cells_length ht
  have BD : Hid (∀ W, Calls Tryd.prog 15 #[.agg t.cells.toArray] W fun e w' => e = .returned (.tuple #[S t.bodyE.1, .int .i64 t.bodyE.2]) ∧ Below W.heap.size W w') := fun W => rbody_any t ht W
  have hbl := t.body_len
  have CK : Hid (∀ W, Calls Tryd.prog 69 #[.int .i64 t.frm, .int .i64 1, S t.bodyE.1, .agg (bRow t.tag)] W fun e w' => e = .returned (.int .i64 (Seal.check2 t.frm 1 t.bodyE.1 t.tag)) ∧ Below W.heap.size W w') := fun W => refCheck_any hRS t.frm 1 ⟨t.bodyE.1.toArray⟩ t.tag W ht.tag (by show t.bodyE.1.length ≤ _; omega)
  have BX : Hid (∀ (W : World) (g : Nat) (T : TypeId), Row W g T t.cells → W.cell? ⟨g, 0, none⟩ = some (.int .i64 t.frm) ∧ W.rangeAt g 40 (bRow t.tag).toList) := fun W g T h => ⟨(tx_box ht h).1, (tx_hash_at ht h).2⟩
  have HB32 := Lib.hid (Tx.bRow_len _ ht.tag)
  have hn1 : t.bodyE.2 = 0 → t.signedE = Seal.check2 t.frm 1 t.bodyE.1 t.tag := fun h => by unfold Tx.signedE; rw [if_pos h]
  have hn2 : t.bodyE.2 ≠ 0 → t.signedE = t.bodyE.2 := fun h => by unfold Tx.signedE; rw [if_neg h]
  show Calls _ _ #[.agg t.cells.toArray] _ _
  generalize t.cells = C at *
  generalize t.signedE = NE at *
  generalize t.bodyE = BE at *
  obtain ⟨bs, be⟩ := BE
  simp only at hn1 hn2 BD CK
  generalize Seal.check2 t.frm 1 bs t.tag = R at *
  have HL := Lib.hid hlen
  have Hrng := Lib.hid hrng
  have Hrow0 := Lib.hid hrow0
  have Hn1 := Lib.hid hn1
  have Hn2 := Lib.hid hn2
  clear hlen hrng hn1 hn2 hbl ht hrow0
  by_cases he : be = 0
  · subst he
    go_enter Tryd.func28, Tryd.ntmps28
    go_wp2_with (with_reducible show wpList _ _ _ (⟨_, .load 25 _, _, _, _, _⟩ :: _) _ _; refine wpList_load_tx rfl 25 (.tmp 1) rfl w.heap.size 0 rfl C _ Hrng.out Tryd.underlying25 rfl (by rw [tx_info, HL.out]) ?_)
    refine (BD.out _).mono ?_
    rintro _ w1 ⟨rfl, hb1⟩
    have hg1 := grownBy_of_below hb1 none
    have hr1 := Hrow0.out.kept hg1 (by simp)
    obtain ⟨c0, rt⟩ := BX.out _ _ _ hr1
    have Hrt := Lib.hid rt
    have Hbt1 := Lib.hid (tx_below hg1)
    clear hb1 hg1 hr1 rt
    go_wp2_with (with_reducible show wpList _ _ _ (⟨_, .load 23 _, _, _, _, _⟩ :: _) _ _; refine wpList_load_tx rfl 23 (.tmp 16) rfl w.heap.size 40 rfl (bRow t.tag).toList _ Hrt.out Tryd.underlying23 rfl (by rw [hash_info, HB32.out]) ?_)
    refine (CK.out w1).mono ?_
    rintro _ w2 ⟨rfl, hb2⟩
    have Hb2 := Lib.hid (two_below' Hbt1.out hb2)
    clear hb2
    go_wp2_with fail
    go_ret
    exact ⟨by have e := Hn1.out (by first | trivial | rfl); subst e; rfl, Hb2.out⟩
  · have hne : (be != 0) = true := by simpa using he
    have Hne := Lib.hid he
    clear he
    go_enter Tryd.func28, Tryd.ntmps28
    go_wp2_with (with_reducible show wpList _ _ _ (⟨_, .load 25 _, _, _, _, _⟩ :: _) _ _; refine wpList_load_tx rfl 25 (.tmp 1) rfl w.heap.size 0 rfl C _ Hrng.out Tryd.underlying25 rfl (by rw [tx_info, HL.out]) ?_)
    refine (BD.out _).mono ?_
    rintro _ w1 ⟨rfl, hb1⟩
    have Hbt1 := Lib.hid (tx_below (grownBy_of_below hb1 none))
    clear hb1
    go_wp2_with fail
    go_ret
    exact ⟨by have e := Hn2.out Hne.out; subst e; rfl, Hbt1.out⟩
end Go.Proofs.YtdekcicgiflnbaaDoor
