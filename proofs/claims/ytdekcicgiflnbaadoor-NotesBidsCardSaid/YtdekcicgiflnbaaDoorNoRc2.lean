/- notes: Link, WriteReceipt. -/
import Derived.Test.YtdekcicgiflnbaaDoorNoRc
namespace Go.Proofs.YtdekcicgiflnbaaDoor
open Go.RowKit
set_option linter.unusedVariables false
set_option linter.unusedSimpArgs false

theorem rp_places : (Tryd.prog.underlying 48).map (fun d => match d with | .struct fields => fields.toList.mapM (fun f => (Tryd.prog.info? f.type).map fun i => (f.offset, i.size)) | _ => Option.none) = some (some [(0, 1), (1, 1), (2, 1), (3, 1), (4, 32), (36, 32)]) := by kernel_rfl
theorem rp_zero : (Tryd.prog.info? 48).map (·.zero) = some (some (.agg Rp.zero.cells.toArray)) := by kernel_rfl
theorem rp_built (parts : List (Nat × Value)) : Tryd.prog.built 48 parts = Instr.fill (#[(0, 1), (1, 1), (2, 1), (3, 1), (4, 32), (36, 32)][·]?) Rp.zero.cells.toArray parts := by
  obtain ⟨i0, hi, hz⟩ := Option.map_eq_some_iff.1 rp_zero
  have hp := rp_places
  rw [Tryd.underlying48] at hp
  simp only [Option.map_some, Option.some.injEq] at hp
  unfold Program.built
  rw [hi, Tryd.underlying48]
  simp only [hz, hp]
  rfl
theorem rp_five (a b c : Int) (s : ByteArray) (R : List UInt8) (hR : R.length = 32) :
    Tryd.prog.built 48 [(0, .int .i64 a), (1, .int .i64 b), (2, .int .i64 c), (3, .string s), (4, .agg (bRow R))] = some (Rp.cells ⟨a, b, c, s, R, Tx.zero⟩).toArray := by
  have hz := Tx.bRow_len Tx.zero rfl
  have hr := Tx.bRow_len R hR
  have hL := Rp.cells_len (r := Rp.zero) rfl rfl
  rw [rp_built]
  rw [fill_step _ _ 0 _ [.int .i64 a] _ 0 1 rfl rfl rfl (by rw [hL]; omega)]
  rw [fill_step _ _ 1 _ [.int .i64 b] _ 1 1 rfl rfl rfl (by simp only [List.length_append, List.length_take, List.length_drop, List.length_cons, List.length_nil, hL]; omega)]
  rw [fill_step _ _ 2 _ [.int .i64 c] _ 2 1 rfl rfl rfl (by simp only [List.length_append, List.length_take, List.length_drop, List.length_cons, List.length_nil, hL]; omega)]
  rw [fill_step _ _ 3 _ [.string s] _ 3 1 rfl rfl rfl (by simp only [List.length_append, List.length_take, List.length_drop, List.length_cons, List.length_nil, hL]; omega)]
  rw [fill_step _ _ 4 _ (bRow R).toList _ 4 32 rfl (by simp [Value.cells]) hr (by simp only [List.length_append, List.length_take, List.length_drop, List.length_cons, List.length_nil, hL]; omega)]
  rw [fill_end]
  have e : ∀ Z : List Value, Z.length = 32 → ([.int .i64 0, .int .i64 0, .int .i64 0, .string ByteArray.empty] ++ (Z ++ Z) : List Value).drop 36 = Z := fun Z hZ => by
    show ((Z ++ Z).drop 32) = Z
    rw [List.drop_left' hZ]
  unfold Rp.cells Rp.zero
  simp only [List.cons_append, List.nil_append, List.take_succ_cons, List.take_zero, List.drop_succ_cons, List.drop_zero]
  rw [List.drop_left' hz]
theorem row_three (w : World) (A B D : List Value) (t1 t2 t3 : TypeId) : Row (((w.alloc (.cells A.toArray t1)).alloc (.cells B.toArray t2)).alloc (.cells D.toArray t3)) (w.heap.size + 1 + 1) t3 D ∧ Below w.heap.size w (((w.alloc (.cells A.toArray t1)).alloc (.cells B.toArray t2)).alloc (.cells D.toArray t3)) ∧ Row (((w.alloc (.cells A.toArray t1)).alloc (.cells B.toArray t2)).alloc (.cells D.toArray t3)) (w.heap.size + 1) t2 B ∧ Row (((w.alloc (.cells A.toArray t1)).alloc (.cells B.toArray t2)).alloc (.cells D.toArray t3)) w.heap.size t1 A := by
  obtain ⟨h1, h2, h3⟩ := row_two w A.toArray B.toArray t1 t2
  have h := Row.new ((w.alloc (.cells A.toArray t1)).alloc (.cells B.toArray t2)) t3 D
  rw [show ((w.alloc (.cells A.toArray t1)).alloc (.cells B.toArray t2)).heap.size = w.heap.size + 1 + 1 by simp] at h
  exact ⟨h, h2.alloc (by simp; omega) _, h1.kept (grownBy_alloc _ _ none) (by simp), h3.kept (grownBy_alloc _ _ none) (by simp)⟩
set_option maxRecDepth 20000 in
set_option maxHeartbeats 1600000 in
theorem link5_any (a k n : Int) (body : ByteArray) (p : List UInt8) (hp : p.length = 32) (w : World) (hT : Tab w) :
    Calls Tryd.prog 39 #[.agg (bRow p), .int .i64 a, .int .i64 k, .int .i64 n, .string body] w fun e w' => e = .returned (Rp.pairV (Rp.linkE ⟨a, k, n, body, p, Tx.zero⟩)) ∧ Below w.heap.size w w' := by
  obtain ⟨r, hr⟩ : ∃ r : Rp, r = ⟨a, k, n, body, p, Tx.zero⟩ := ⟨_, rfl⟩
  have hrp : r.prev.length = 32 := by rw [hr]; exact hp
  have hrh : r.hash.length = 32 := by rw [hr]; rfl
  have hbu := rp_five a k n body p hp
  rw [← hr] at hbu ⊢
  have Hbu := Lib.hid hbu
  have MB := Lib.hid (fun W => linked_any r W)
  have HL := Lib.hid (Rp.cells_len hrp hrh)
  have HL1 := Lib.hid (Rp.cells_one hrp hrh)
  have HZL := Lib.hid (Rp.cells_len (r := Rp.zero) rfl rfl)
  have HZ1 := Lib.hid (Rp.cells_one (r := Rp.zero) rfl rfl)
  have HTab := Lib.hid hT
  have Hp := Lib.hid hT.pos
  have HPL := Lib.hid (Tx.bRow_len _ hp)
  have Hcl := Lib.hid (Rp.put_hash hrp hrh r.link (Rp.link_len r))
  have hce : Rp.cells { r with hash := r.link } = r.linked.cells := rfl
  rw [hce] at Hcl
  have HDL := Lib.hid (Rp.cells_len (r := r.linked) hrp (Rp.link_len r))
  have HD1 := Lib.hid (Rp.cells_one (r := r.linked) hrp (Rp.link_len r))
  have HB32 := Lib.hid (Tx.bRow_len _ (Rp.link_len r))
  have HR := Lib.hid (Rp.link_len r)
  have Hrow0 := Lib.hid (Row.new w 23 (bRow p).toList)
  have hzv : ∀ W : World, (zeroValue 48).run Tryd.prog W = .ok (.agg Rp.zero.cells.toArray) W := fun W => by kernel_rfl
  rcases Bool.eq_false_or_eq_true r.ok with hk | hk
  all_goals rw [hk] at MB
  · have LK := Lib.hid (fun W (hW : Tab W) => link_any r hrp hrh W hW hk)
    have he : Rp.pairV r.linkE = .tuple #[.agg r.linked.cells.toArray, .int .i64 0] := by unfold Rp.linkE; rw [if_pos hk]; rfl
    rw [he]
    generalize r.linked.cells = D at *
    generalize r.link = K at *
    generalize r.cells = C at *
    clear hT hp hrp hrh hr hbu hk he hce
    go_enter Tryd.func39, Tryd.ntmps39
    have H3 := Lib.hid (row_three w (bRow p).toList Rp.zero.cells Rp.zero.cells 23 48 48)
    go_wp2_with (first
      | (with_reducible show wpList _ _ _ (⟨_, .load 23 _, _, _, _, _⟩ :: _) _ _; refine wpList_load_tx rfl 23 (.tmp 5) rfl w.heap.size 0 rfl (bRow p).toList _ (World.rangeAt_alloc (row_range Hrow0.out) _) Tryd.underlying23 rfl (by rw [hash_info, HPL.out]) ?_)
      | ((with_reducible show wpList _ _ _ (⟨_, .build 48 _, _, _, _, _⟩ :: _) _ _); refine wpList_buildL rfl 48 [(0, .tmp 13), (1, .tmp 14), (2, .tmp 15), (3, .tmp 16), (4, .tmp 17)] rfl (some 18) rfl [(0, .int .i64 a), (1, .int .i64 k), (2, .int .i64 n), (3, .string body), (4, .agg (bRow p))] rfl C.toArray Hbu.out ?_)
      | (with_reducible show wpList _ _ _ (⟨_, .store 48 _ _, _, _, _, _⟩ :: _) _ _
         refine wpList_store_at rfl 48 (.tmp 12) (.tmp 18) rfl (w.heap.size + 1 + 1) 0 C _ _ rfl rfl H3.out.1 (by have := HZL.out; have := HL.out; omega) (by rw [rp_info, HL.out]) HL1.out ?_
         intro w1 hr1 hg1
         rw [splice_all (HL.out.trans HZL.out.symm)] at hr1
         have Hq1 := Lib.hid hr1
         have Hr1 := Lib.hid (H3.out.2.2.1.kept hg1 (by simp))
         have Hp1 := Lib.hid (H3.out.2.2.2.kept hg1 (by simp; omega))
         have Hb1 := Lib.hid (below_own H3.out.2.1 hg1 (fun k hk => by cases hk; omega))
         clear hr1 hg1)
      | (with_reducible show wpList _ _ _ (⟨_, .load 48 _, _, _, _, _⟩ :: _) _ _; refine wpList_load_tx rfl 48 (.tmp 12) rfl (w.heap.size + 1 + 1) 0 rfl C _ (row_range Hq1.out) Tryd.underlying48 rfl (by rw [rp_info, HL.out]) ?_))
    refine (MB.out w1).mono ?_
    rintro _ w2 ⟨rfl, hb2⟩
    have hg2 := grownBy_of_below hb2 none
    have Hr2 := Lib.hid (Hr1.out.kept hg2 (by simp))
    have Hq2 := Lib.hid (Hq1.out.kept hg2 (by simp))
    have Hb2 := Lib.hid (two_below' Hb1.out hb2)
    have hlt2 := Hq2.out.lt
    clear hb2 hg2 hzv
    go_wp2_with (with_reducible show wpList _ _ _ (⟨_, .load 48 _, _, _, _, _⟩ :: _) _ _; refine wpList_load_tx rfl 48 (.tmp 12) rfl (w.heap.size + 1 + 1) 0 rfl C _ (row_range Hq2.out) Tryd.underlying48 rfl (by rw [rp_info, HL.out]) ?_)
    refine (LK.out w2 (HTab.out.below Hb2.out Hp.out)).mono ?_
    rintro _ w3 ⟨rfl, hb3⟩
    have hg3 := grownBy_of_below hb3 none
    have Hr3 := Lib.hid (Hr2.out.kept hg3 (by simp))
    have Hq3 := Lib.hid (Hq2.out.kept hg3 (by simp))
    have Hb3 := Lib.hid (two_below' Hb2.out hb3)
    clear hb3 hg3
    go_wp2_with (first
      | (with_reducible show wpList _ _ _ (⟨_, .store 23 _ _, _, _, _, _⟩ :: _) _ _
         refine wpList_store_at rfl 23 (.tmp 25) (.tmp 24) rfl (w.heap.size + 1 + 1) 36 (bRow K).toList _ _ rfl rfl Hq3.out (by rw [HB32.out, HL.out]; decide) (by rw [hash_info, HB32.out]) (hash_one K HR.out) ?_
         intro w5 hr5 hg5
         rw [Hcl.out] at hr5
         have Hq5 := Lib.hid hr5
         have Hr5 := Lib.hid (Hr3.out.kept hg5 (by simp))
         have Hb5 := Lib.hid (below_own Hb3.out hg5 (fun k hk => by cases hk; omega))
         clear hr5 hg5)
      | (with_reducible show wpList _ _ _ (⟨_, .load 48 _, _, _, _, _⟩ :: _) _ _; refine wpList_load_tx rfl 48 (.tmp 12) rfl (w.heap.size + 1 + 1) 0 rfl D _ (row_range Hq5.out) Tryd.underlying48 rfl (by rw [rp_info, HDL.out]) ?_)
      | (with_reducible show wpList _ _ _ (⟨_, .store 48 _ _, _, _, _, _⟩ :: _) _ _
         refine wpList_store_at rfl 48 (.tmp 10) (.tmp 26) rfl (w.heap.size + 1) 0 D _ _ rfl rfl Hr5.out (by have := HZL.out; have := HDL.out; omega) (by rw [rp_info, HDL.out]) HD1.out ?_
         intro w8 hr8 hg8
         rw [splice_all (HDL.out.trans HZL.out.symm)] at hr8
         have Hr8 := Lib.hid hr8
         have Hb8 := Lib.hid (below_own Hb5.out hg8 (fun k hk => by cases hk; omega))
         clear hr8 hg8))
    refine bodyPost_ret (results_rowL rfl _ _ (w.heap.size + 1) 48 _ _ rfl Hr8.out Tryd.underlying48 rfl (by rw [rp_info, List.size_toArray, HDL.out]) _ rfl) rfl ⟨rfl, Hb8.out⟩
  · have he : Rp.pairV r.linkE = .tuple #[.agg Rp.zero.cells.toArray, .int .i64 2] := by unfold Rp.linkE; rw [if_neg (by rw [hk]; simp)]; rfl
    have He := Lib.hid he
    generalize Rp.pairV r.linkE = NE at *
    generalize r.cells = C at *
    clear hT hp hrp hrh hr hbu hk he hce HDL HD1 HB32 HR Hcl
    go_enter Tryd.func39, Tryd.ntmps39
    have H3 := Lib.hid (row_three w (bRow p).toList Rp.zero.cells Rp.zero.cells 23 48 48)
    go_wp2_with (first
      | (with_reducible show wpList _ _ _ (⟨_, .load 23 _, _, _, _, _⟩ :: _) _ _; refine wpList_load_tx rfl 23 (.tmp 5) rfl w.heap.size 0 rfl (bRow p).toList _ (World.rangeAt_alloc (row_range Hrow0.out) _) Tryd.underlying23 rfl (by rw [hash_info, HPL.out]) ?_)
      | ((with_reducible show wpList _ _ _ (⟨_, .build 48 _, _, _, _, _⟩ :: _) _ _); refine wpList_buildL rfl 48 [(0, .tmp 13), (1, .tmp 14), (2, .tmp 15), (3, .tmp 16), (4, .tmp 17)] rfl (some 18) rfl [(0, .int .i64 a), (1, .int .i64 k), (2, .int .i64 n), (3, .string body), (4, .agg (bRow p))] rfl C.toArray Hbu.out ?_)
      | (with_reducible show wpList _ _ _ (⟨_, .store 48 _ _, _, _, _, _⟩ :: _) _ _
         refine wpList_store_at rfl 48 (.tmp 12) (.tmp 18) rfl (w.heap.size + 1 + 1) 0 C _ _ rfl rfl H3.out.1 (by have := HZL.out; have := HL.out; omega) (by rw [rp_info, HL.out]) HL1.out ?_
         intro w1 hr1 hg1
         rw [splice_all (HL.out.trans HZL.out.symm)] at hr1
         have Hq1 := Lib.hid hr1
         have Hr1 := Lib.hid (H3.out.2.2.1.kept hg1 (by simp))
         have Hp1 := Lib.hid (H3.out.2.2.2.kept hg1 (by simp; omega))
         have Hb1 := Lib.hid (below_own H3.out.2.1 hg1 (fun k hk => by cases hk; omega))
         clear hr1 hg1)
      | (with_reducible show wpList _ _ _ (⟨_, .load 48 _, _, _, _, _⟩ :: _) _ _; refine wpList_load_tx rfl 48 (.tmp 12) rfl (w.heap.size + 1 + 1) 0 rfl C _ (row_range Hq1.out) Tryd.underlying48 rfl (by rw [rp_info, HL.out]) ?_))
    refine (MB.out w1).mono ?_
    rintro _ w2 ⟨rfl, hb2⟩
    have hg2 := grownBy_of_below hb2 none
    have Hr2 := Lib.hid (Hr1.out.kept hg2 (by simp))
    have Hq2 := Lib.hid (Hq1.out.kept hg2 (by simp))
    have Hb2 := Lib.hid (two_below' Hb1.out hb2)
    have hlt2 := Hq2.out.lt
    clear hb2 hg2 hzv
    have Hr2' : Hid (Row w2 (w.heap.size + 1) 48 Rp.zero.cells) := Hr2
    clear Hr2
    go_wp2_with (first
      | (with_reducible show wpList _ _ _ (⟨_, .build 48 _, _, _, _, _⟩ :: _) _ _; refine wpList_buildL rfl 48 [] rfl (some 22) rfl _ rfl _ Rp.zero_built0 ?_)
      | (with_reducible show wpList _ _ _ (⟨_, .store 48 _ _, _, _, _, _⟩ :: _) _ _
         refine wpList_store_at rfl 48 (.tmp 10) (.tmp 22) rfl (w.heap.size + 1) 0 Rp.zero.cells _ _ rfl rfl Hr2'.out (by have := HZL.out; omega) (by rw [rp_info, HZL.out]) HZ1.out ?_
         intro wZ hrZ hgZ
         rw [splice_all rfl] at hrZ
         have HrZ := Lib.hid hrZ
         have HbZ := Lib.hid (below_own Hb2.out hgZ (fun k hk => by cases hk; omega))
         clear hrZ hgZ))
    refine bodyPost_ret (results_rowL rfl _ _ (w.heap.size + 1) 48 _ _ rfl HrZ.out Tryd.underlying48 rfl (by rw [rp_info, List.size_toArray, HZL.out]) _ rfl) rfl ⟨?_, HbZ.out⟩
    rw [He.out]
    exact rfl
end Go.Proofs.YtdekcicgiflnbaaDoor
