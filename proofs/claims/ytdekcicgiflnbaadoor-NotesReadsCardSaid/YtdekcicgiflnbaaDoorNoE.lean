/- The reference of layer 5: Link. -/
/- The reference of layer 5: WriteReceipt; receipts held against each other. -/
import Derived.Test.YtdekcicgiflnbaaDoorNoD
import Derived.Test.YtdekcicgiflnbaaDoorNoC
import Derived.Test.YtdekcicgiflnbaaDoorNoReg
namespace Go.Proofs.YtdekcicgiflnbaaDoor
open Go.RowKit
set_option linter.unusedVariables false
set_option linter.unusedSimpArgs false

theorem rp_six (a b c : Int) (s : ByteArray) (R Q : List UInt8) (hR : R.length = 32) (hQ : Q.length = 32) :
    Tryd.prog.built 48 [(0, .int .i64 a), (1, .int .i64 b), (2, .int .i64 c), (3, .string s), (4, .agg (bRow R)), (5, .agg (bRow Q))] = some (Rp.cells ⟨a, b, c, s, R, Q⟩).toArray := by
  have hr := Tx.bRow_len R hR
  have hq := Tx.bRow_len Q hQ
  have hL := Rp.cells_len (r := Rp.zero) rfl rfl
  have h5 := rp_five a b c s R hR
  have hY := Rp.cells_len (r := ⟨a, b, c, s, R, Tx.zero⟩) hR rfl
  have hput := Rp.put_hash (r := ⟨a, b, c, s, R, Tx.zero⟩) hR rfl Q hQ
  rw [hq] at hput
  generalize Rp.cells ⟨a, b, c, s, R, Tx.zero⟩ = Y at *
  have p0 : ((#[(0, 1), (1, 1), (2, 1), (3, 1), (4, 32), (36, 32)] : Array (Nat × Nat))[0]?) = some (0, 1) := rfl
  rw [rp_built] at h5 ⊢
  rw [fill_step _ _ 0 _ [.int .i64 a] _ 0 1 rfl rfl rfl (by rw [hL]; omega)] at h5 ⊢
  rw [fill_step _ _ 1 _ [.int .i64 b] _ 1 1 rfl rfl rfl (by simp only [List.length_append, List.length_take, List.length_drop, List.length_cons, List.length_nil, hL]; omega)] at h5 ⊢
  rw [fill_step _ _ 2 _ [.int .i64 c] _ 2 1 rfl rfl rfl (by simp only [List.length_append, List.length_take, List.length_drop, List.length_cons, List.length_nil, hL]; omega)] at h5 ⊢
  rw [fill_step _ _ 3 _ [.string s] _ 3 1 rfl rfl rfl (by simp only [List.length_append, List.length_take, List.length_drop, List.length_cons, List.length_nil, hL]; omega)] at h5 ⊢
  rw [fill_step _ _ 4 _ (bRow R).toList _ 4 32 rfl (by simp [Value.cells]) hr (by simp only [List.length_append, List.length_take, List.length_drop, List.length_cons, List.length_nil, hL]; omega)] at h5 ⊢
  rw [fill_end] at h5
  rw [Option.some.inj h5]
  rw [fill_step _ _ 5 _ (bRow Q).toList _ 36 32 rfl (by simp [Value.cells]) hq (by rw [hY]; omega), fill_end, hput]
/-- what Link's drawn statement counts on -/
def LinkIn (w0 W : World) (p : List UInt8) : Prop := Below w0.heap.size w0 W ∧ Row W w0.heap.size 23 (bRow p).toList ∧ ∃ Z : List Value, Z.length = 68 ∧ Row W (w0.heap.size + 1) 48 Z
theorem LinkIn.step {w0 W W' : World} {p : List UInt8} (h : LinkIn w0 W p) (hb : Below W.heap.size W W') : LinkIn w0 W' p := by
  obtain ⟨h1, h2, Z, h3, h4⟩ := h
  have hg := grownBy_of_below hb none
  exact ⟨two_below' h1 hb, h2.kept hg (by simp), Z, h3, h4.kept hg (by simp)⟩
theorem LinkIn.put {w0 W W' : World} {p : List UInt8} {Z : List Value} (h : LinkIn w0 W p) (hg : W.grownBy W' (some (w0.heap.size + 1))) (hZ : Z.length = 68) (hr : Row W' (w0.heap.size + 1) 48 Z) : LinkIn w0 W' p :=
  ⟨h.1.grown hg h.1.size (fun k hk => by cases hk; omega), h.2.1.kept hg (by simp), Z, hZ, hr⟩
set_option maxRecDepth 20000 in
theorem rlink5_n0 (a k n : Int) (body : ByteArray) (p : List UInt8) (hp : p.length = 32) (w : World) (b1 : (decide (0 ≤ a) && decide (a ≤ 1099511627776)) = false) :
    Calls Tryd.prog 40 #[.agg (bRow p), .int .i64 a, .int .i64 k, .int .i64 n, .string body] w fun e w' => e = .returned (.tuple #[.agg Rp.zero.cells.toArray, .int .i64 2]) ∧ Below w.heap.size w w' := by
  have HZL := Lib.hid (Rp.cells_len (r := Rp.zero) rfl rfl)
  have HZ1 := Lib.hid (Rp.cells_one (r := Rp.zero) rfl rfl)
  have hzv : ∀ W : World, (zeroValue 48).run Tryd.prog W = .ok (.agg Rp.zero.cells.toArray) W := fun W => by kernel_rfl
  have N1 := Lib.hid (within5_b a 1099511627776 _ b1)
  clear b1
  have H2 := Lib.hid (row_two w (bRow p) Rp.zero.cells.toArray 23 48)
  have Hr2 : Hid (Row ((w.alloc (.cells (bRow p) 23)).alloc (.cells Rp.zero.cells.toArray 48)) (w.heap.size + 1) 48 Rp.zero.cells) := Lib.hid H2.out.1
  go_enter Tryd.func40, Tryd.ntmps40
  go_wp2_with fail
  refine (N1.out _).mono ?_
  rintro _ w1 ⟨rfl, rfl⟩
  have HRn : Hid (Rp.zero = Rp.zero) := Lib.hid rfl
  clear hzv
  go_wp2_with (first
    | (with_reducible show wpList _ _ _ (⟨_, .build 48 _, _, _, _, _⟩ :: _) _ _; refine wpList_buildL rfl 48 [] rfl (some 35) rfl _ rfl _ Rp.zero_built0 ?_)
    | (with_reducible show wpList _ _ _ (⟨_, .store 48 _ _, _, _, _, _⟩ :: _) _ _
       refine wpList_store_at rfl 48 (.tmp 10) (.tmp 35) rfl (w.heap.size + 1) 0 Rp.zero.cells _ _ rfl rfl Hr2.out (by have := HZL.out; omega) (by rw [rp_info, HZL.out]) HZ1.out ?_
       intro wZ hrZ hgZ
       rw [splice_all rfl] at hrZ
       have HrZ := Lib.hid hrZ
       have HbZ := Lib.hid (below_own H2.out.2.1 hgZ (fun k hk => by cases hk; omega))
       clear hrZ hgZ))
  refine bodyPost_ret (results_rowL rfl _ _ (w.heap.size + 1) 48 _ _ rfl HrZ.out Tryd.underlying48 rfl (by rw [rp_info, List.size_toArray, HZL.out]) _ rfl) rfl ⟨?_, HbZ.out⟩
  exact rfl
set_option maxRecDepth 20000 in
theorem rlink5_n1 (a k n : Int) (body : ByteArray) (p : List UInt8) (hp : p.length = 32) (w : World) (b1 : (decide (0 ≤ a) && decide (a ≤ 1099511627776)) = true) (b2 : (decide (0 ≤ n) && decide (n ≤ 1099511627776)) = false) :
    Calls Tryd.prog 40 #[.agg (bRow p), .int .i64 a, .int .i64 k, .int .i64 n, .string body] w fun e w' => e = .returned (.tuple #[.agg Rp.zero.cells.toArray, .int .i64 2]) ∧ Below w.heap.size w w' := by
  have HZL := Lib.hid (Rp.cells_len (r := Rp.zero) rfl rfl)
  have HZ1 := Lib.hid (Rp.cells_one (r := Rp.zero) rfl rfl)
  have hzv : ∀ W : World, (zeroValue 48).run Tryd.prog W = .ok (.agg Rp.zero.cells.toArray) W := fun W => by kernel_rfl
  have N1 := Lib.hid (within5_b a 1099511627776 _ b1)
  have N2 := Lib.hid (within5_b n 1099511627776 _ b2)
  clear b1 b2
  have H2 := Lib.hid (row_two w (bRow p) Rp.zero.cells.toArray 23 48)
  have Hr2 : Hid (Row ((w.alloc (.cells (bRow p) 23)).alloc (.cells Rp.zero.cells.toArray 48)) (w.heap.size + 1) 48 Rp.zero.cells) := Lib.hid H2.out.1
  go_enter Tryd.func40, Tryd.ntmps40
  go_wp2_with fail
  refine (N1.out _).mono ?_
  rintro _ w1 ⟨rfl, rfl⟩
  go_wp2_with fail
  refine (N2.out _).mono ?_
  rintro _ w1 ⟨rfl, rfl⟩
  have HRn : Hid (Rp.zero = Rp.zero) := Lib.hid rfl
  clear hzv
  go_wp2_with (first
    | (with_reducible show wpList _ _ _ (⟨_, .build 48 _, _, _, _, _⟩ :: _) _ _; refine wpList_buildL rfl 48 [] rfl (some 35) rfl _ rfl _ Rp.zero_built0 ?_)
    | (with_reducible show wpList _ _ _ (⟨_, .store 48 _ _, _, _, _, _⟩ :: _) _ _
       refine wpList_store_at rfl 48 (.tmp 10) (.tmp 35) rfl (w.heap.size + 1) 0 Rp.zero.cells _ _ rfl rfl Hr2.out (by have := HZL.out; omega) (by rw [rp_info, HZL.out]) HZ1.out ?_
       intro wZ hrZ hgZ
       rw [splice_all rfl] at hrZ
       have HrZ := Lib.hid hrZ
       have HbZ := Lib.hid (below_own H2.out.2.1 hgZ (fun k hk => by cases hk; omega))
       clear hrZ hgZ))
  refine bodyPost_ret (results_rowL rfl _ _ (w.heap.size + 1) 48 _ _ rfl HrZ.out Tryd.underlying48 rfl (by rw [rp_info, List.size_toArray, HZL.out]) _ rfl) rfl ⟨?_, HbZ.out⟩
  exact rfl
set_option maxRecDepth 20000 in
theorem rlink5_n2 (a k n : Int) (body : ByteArray) (p : List UInt8) (hp : p.length = 32) (w : World) (b1 : (decide (0 ≤ a) && decide (a ≤ 1099511627776)) = true) (b2 : (decide (0 ≤ n) && decide (n ≤ 1099511627776)) = true) (k1 : (k != 1) = true) (k2 : (k != 2) = true) :
    Calls Tryd.prog 40 #[.agg (bRow p), .int .i64 a, .int .i64 k, .int .i64 n, .string body] w fun e w' => e = .returned (.tuple #[.agg Rp.zero.cells.toArray, .int .i64 2]) ∧ Below w.heap.size w w' := by
  have HZL := Lib.hid (Rp.cells_len (r := Rp.zero) rfl rfl)
  have HZ1 := Lib.hid (Rp.cells_one (r := Rp.zero) rfl rfl)
  have hzv : ∀ W : World, (zeroValue 48).run Tryd.prog W = .ok (.agg Rp.zero.cells.toArray) W := fun W => by kernel_rfl
  have N1 := Lib.hid (within5_b a 1099511627776 _ b1)
  have N2 := Lib.hid (within5_b n 1099511627776 _ b2)
  clear b1 b2
  have H2 := Lib.hid (row_two w (bRow p) Rp.zero.cells.toArray 23 48)
  have Hr2 : Hid (Row ((w.alloc (.cells (bRow p) 23)).alloc (.cells Rp.zero.cells.toArray 48)) (w.heap.size + 1) 48 Rp.zero.cells) := Lib.hid H2.out.1
  go_enter Tryd.func40, Tryd.ntmps40
  go_wp2_with fail
  refine (N1.out _).mono ?_
  rintro _ w1 ⟨rfl, rfl⟩
  go_wp2_with fail
  refine (N2.out _).mono ?_
  rintro _ w1 ⟨rfl, rfl⟩
  have HRn : Hid (Rp.zero = Rp.zero) := Lib.hid rfl
  clear hzv
  go_wp2_with (first
    | (with_reducible show wpList _ _ _ (⟨_, .build 48 _, _, _, _, _⟩ :: _) _ _; refine wpList_buildL rfl 48 [] rfl (some 35) rfl _ rfl _ Rp.zero_built0 ?_)
    | (with_reducible show wpList _ _ _ (⟨_, .store 48 _ _, _, _, _, _⟩ :: _) _ _
       refine wpList_store_at rfl 48 (.tmp 10) (.tmp 35) rfl (w.heap.size + 1) 0 Rp.zero.cells _ _ rfl rfl Hr2.out (by have := HZL.out; omega) (by rw [rp_info, HZL.out]) HZ1.out ?_
       intro wZ hrZ hgZ
       rw [splice_all rfl] at hrZ
       have HrZ := Lib.hid hrZ
       have HbZ := Lib.hid (below_own H2.out.2.1 hgZ (fun k hk => by cases hk; omega))
       clear hrZ hgZ))
  refine bodyPost_ret (results_rowL rfl _ _ (w.heap.size + 1) 48 _ _ rfl HrZ.out Tryd.underlying48 rfl (by rw [rp_info, List.size_toArray, HZL.out]) _ rfl) rfl ⟨?_, HbZ.out⟩
  exact rfl
set_option maxRecDepth 20000 in
theorem rlink5_n3 (a k n : Int) (body : ByteArray) (p : List UInt8) (hp : p.length = 32) (w : World) (b1 : (decide (0 ≤ a) && decide (a ≤ 1099511627776)) = true) (b2 : (decide (0 ≤ n) && decide (n ≤ 1099511627776)) = true) (k1 : (k != 1) = false) (s0 : ((656 : Int) < (body.size : Int))) :
    Calls Tryd.prog 40 #[.agg (bRow p), .int .i64 a, .int .i64 k, .int .i64 n, .string body] w fun e w' => e = .returned (.tuple #[.agg Rp.zero.cells.toArray, .int .i64 2]) ∧ Below w.heap.size w w' := by
  have HZL := Lib.hid (Rp.cells_len (r := Rp.zero) rfl rfl)
  have HZ1 := Lib.hid (Rp.cells_one (r := Rp.zero) rfl rfl)
  have hzv : ∀ W : World, (zeroValue 48).run Tryd.prog W = .ok (.agg Rp.zero.cells.toArray) W := fun W => by kernel_rfl
  have N1 := Lib.hid (within5_b a 1099511627776 _ b1)
  have N2 := Lib.hid (within5_b n 1099511627776 _ b2)
  clear b1 b2
  have H2 := Lib.hid (row_two w (bRow p) Rp.zero.cells.toArray 23 48)
  have Hr2 : Hid (Row ((w.alloc (.cells (bRow p) 23)).alloc (.cells Rp.zero.cells.toArray 48)) (w.heap.size + 1) 48 Rp.zero.cells) := Lib.hid H2.out.1
  go_enter Tryd.func40, Tryd.ntmps40
  go_wp2_with fail
  refine (N1.out _).mono ?_
  rintro _ w1 ⟨rfl, rfl⟩
  go_wp2_with fail
  refine (N2.out _).mono ?_
  rintro _ w1 ⟨rfl, rfl⟩
  have HRn : Hid (Rp.zero = Rp.zero) := Lib.hid rfl
  clear hzv
  go_wp2_with (first
    | (with_reducible show wpList _ _ _ (⟨_, .build 48 _, _, _, _, _⟩ :: _) _ _; refine wpList_buildL rfl 48 [] rfl (some 35) rfl _ rfl _ Rp.zero_built0 ?_)
    | (with_reducible show wpList _ _ _ (⟨_, .store 48 _ _, _, _, _, _⟩ :: _) _ _
       refine wpList_store_at rfl 48 (.tmp 10) (.tmp 35) rfl (w.heap.size + 1) 0 Rp.zero.cells _ _ rfl rfl Hr2.out (by have := HZL.out; omega) (by rw [rp_info, HZL.out]) HZ1.out ?_
       intro wZ hrZ hgZ
       rw [splice_all rfl] at hrZ
       have HrZ := Lib.hid hrZ
       have HbZ := Lib.hid (below_own H2.out.2.1 hgZ (fun k hk => by cases hk; omega))
       clear hrZ hgZ))
  refine bodyPost_ret (results_rowL rfl _ _ (w.heap.size + 1) 48 _ _ rfl HrZ.out Tryd.underlying48 rfl (by rw [rp_info, List.size_toArray, HZL.out]) _ rfl) rfl ⟨?_, HbZ.out⟩
  exact rfl
set_option maxRecDepth 20000 in
theorem rlink5_n4 (a k n : Int) (body : ByteArray) (p : List UInt8) (hp : p.length = 32) (w : World) (b1 : (decide (0 ≤ a) && decide (a ≤ 1099511627776)) = true) (b2 : (decide (0 ≤ n) && decide (n ≤ 1099511627776)) = true) (k1 : (k != 1) = true) (k2 : (k != 2) = false) (s0 : ((656 : Int) < (body.size : Int))) :
    Calls Tryd.prog 40 #[.agg (bRow p), .int .i64 a, .int .i64 k, .int .i64 n, .string body] w fun e w' => e = .returned (.tuple #[.agg Rp.zero.cells.toArray, .int .i64 2]) ∧ Below w.heap.size w w' := by
  have HZL := Lib.hid (Rp.cells_len (r := Rp.zero) rfl rfl)
  have HZ1 := Lib.hid (Rp.cells_one (r := Rp.zero) rfl rfl)
  have hzv : ∀ W : World, (zeroValue 48).run Tryd.prog W = .ok (.agg Rp.zero.cells.toArray) W := fun W => by kernel_rfl
  have N1 := Lib.hid (within5_b a 1099511627776 _ b1)
  have N2 := Lib.hid (within5_b n 1099511627776 _ b2)
  clear b1 b2
  have H2 := Lib.hid (row_two w (bRow p) Rp.zero.cells.toArray 23 48)
  have Hr2 : Hid (Row ((w.alloc (.cells (bRow p) 23)).alloc (.cells Rp.zero.cells.toArray 48)) (w.heap.size + 1) 48 Rp.zero.cells) := Lib.hid H2.out.1
  go_enter Tryd.func40, Tryd.ntmps40
  go_wp2_with fail
  refine (N1.out _).mono ?_
  rintro _ w1 ⟨rfl, rfl⟩
  go_wp2_with fail
  refine (N2.out _).mono ?_
  rintro _ w1 ⟨rfl, rfl⟩
  have HRn : Hid (Rp.zero = Rp.zero) := Lib.hid rfl
  clear hzv
  go_wp2_with (first
    | (with_reducible show wpList _ _ _ (⟨_, .build 48 _, _, _, _, _⟩ :: _) _ _; refine wpList_buildL rfl 48 [] rfl (some 35) rfl _ rfl _ Rp.zero_built0 ?_)
    | (with_reducible show wpList _ _ _ (⟨_, .store 48 _ _, _, _, _, _⟩ :: _) _ _
       refine wpList_store_at rfl 48 (.tmp 10) (.tmp 35) rfl (w.heap.size + 1) 0 Rp.zero.cells _ _ rfl rfl Hr2.out (by have := HZL.out; omega) (by rw [rp_info, HZL.out]) HZ1.out ?_
       intro wZ hrZ hgZ
       rw [splice_all rfl] at hrZ
       have HrZ := Lib.hid hrZ
       have HbZ := Lib.hid (below_own H2.out.2.1 hgZ (fun k hk => by cases hk; omega))
       clear hrZ hgZ))
  refine bodyPost_ret (results_rowL rfl _ _ (w.heap.size + 1) 48 _ _ rfl HrZ.out Tryd.underlying48 rfl (by rw [rp_info, List.size_toArray, HZL.out]) _ rfl) rfl ⟨?_, HbZ.out⟩
  exact rfl
set_option maxRecDepth 20000 in
set_option maxHeartbeats 1600000 in
theorem rlink5_y1 (hRS : RefSum) (a k n : Int) (body : ByteArray) (p : List UInt8) (hp : p.length = 32) (w : World) (b1 : (decide (0 ≤ a) && decide (a ≤ 1099511627776)) = true) (b2 : (decide (0 ≤ n) && decide (n ≤ 1099511627776)) = true) (k1 : (k != 1) = false) (s0 : ¬ ((656 : Int) < (body.size : Int))) :
    Calls Tryd.prog 40 #[.agg (bRow p), .int .i64 a, .int .i64 k, .int .i64 n, .string body] w fun e w' => e = .returned (.tuple #[.agg (Rp.linked ⟨a, k, n, body, p, Tx.zero⟩).cells.toArray, .int .i64 0]) ∧ Below w.heap.size w w' := by
  have HZL := Lib.hid (Rp.cells_len (r := Rp.zero) rfl rfl)
  have HZ1 := Lib.hid (Rp.cells_one (r := Rp.zero) rfl rfl)
  have hzv : ∀ W : World, (zeroValue 48).run Tryd.prog W = .ok (.agg Rp.zero.cells.toArray) W := fun W => by kernel_rfl
  have N1 := Lib.hid (within5_b a 1099511627776 _ b1)
  have N2 := Lib.hid (within5_b n 1099511627776 _ b2)
  obtain ⟨r, hr⟩ : ∃ r : Rp, r = ⟨a, k, n, body, p, Tx.zero⟩ := ⟨_, rfl⟩
  have hbu := rp_six a k n body p r.link hp (Rp.link_len r)
  have hD : Rp.cells ⟨a, k, n, body, p, r.link⟩ = r.linked.cells := by rw [hr]; rfl
  rw [hD] at hbu
  have hln : p.length = 32 ∧ r.link.length = 32 := ⟨hp, Rp.link_len r⟩
  have hbl := listE_len r.texts
  have hlk : Sha.sum (p ++ (Oct.listE r.texts).1) = r.link := by rw [hr]; rfl
  have CH : Hid (∀ W, Calls Tryd.prog 81 #[.agg (bRow p), S (Oct.listE r.texts).1] W fun e w' => e = .returned (.agg (bRow r.link)) ∧ Below W.heap.size W w') := fun W => by
    have := refChain_any hRS p ⟨(Oct.listE r.texts).1.toArray⟩ W hp (by show (Oct.listE r.texts).1.length ≤ _; omega)
    rw [show (⟨(Oct.listE r.texts).1.toArray⟩ : ByteArray).data.toList = (Oct.listE r.texts).1 from rfl, hlk] at this
    exact this
  have hc1 := b1
  have hc2 := b2
  simp at hc1 hc2
  have hkk : 0 ≤ k ∧ k ≤ 2 := by simp at k1; omega
  have T0 := Lib.hid (fun W => text5_any a W hc1.1 (by omega))
  have T1 := Lib.hid (fun W => text5_any k W hkk.1 (by omega))
  have T2 := Lib.hid (fun W => text5_any n W hc2.1 (by omega))
  have LB : Hid (∀ (W : World) (g : Nat), Row W g 9 [S (Oct.num a.toNat), S (Oct.num k.toNat), S (Oct.num n.toNat), .string body] → Calls Tryd.prog 75 #[.slice (some ⟨g, 0, none⟩) 4 4] W fun e w' => e = .returned (.tuple #[S (Oct.listE r.texts).1, .int .i64 (Oct.listE r.texts).2]) ∧ Below W.heap.size W w') := fun W g h => list5_row r.texts h (by rw [hr]; rfl) 4 4 (by rw [hr]; rfl)
  have HDL := Lib.hid (Rp.cells_len (r := r.linked) (by rw [hr]; exact hp) (Rp.link_len r))
  have HD1 := Lib.hid (Rp.cells_one (r := r.linked) (by rw [hr]; exact hp) (Rp.link_len r))
  have HPL := Lib.hid (Tx.bRow_len _ hp)
  have Hrow0 := Lib.hid (Row.new w 23 (bRow p).toList)
  have hq : (Rp.linkE ⟨a, k, n, body, p, Tx.zero⟩) = Rp.linkE r := by rw [hr]
  show Calls _ _ _ _ _
  have hlc : (Rp.mk a k n body p Tx.zero).linked.cells = r.linked.cells := by rw [hr]
  rw [hlc]
  generalize (Oct.listE r.texts).2 = en at *
  generalize (Oct.listE r.texts).1 = ts at *
  generalize r.linked.cells = D at *
  generalize r.link = K at *
  generalize Oct.num a.toNat = t0 at *
  generalize Oct.num k.toNat = t1 at *
  generalize Oct.num n.toNat = t2 at *
  clear b1 b2 hc1 hc2 hkk hr hD hln hbl hlk hq hlc hp hRS
  have H2 := Lib.hid (row_two w (bRow p) Rp.zero.cells.toArray 23 48)
  have Hbu := Lib.hid hbu
  clear hbu
  go_enter Tryd.func40, Tryd.ntmps40
  go_wp2_with fail
  refine (N1.out _).mono ?_
  rintro _ w1 ⟨rfl, rfl⟩
  go_wp2_with fail
  refine (N2.out _).mono ?_
  rintro _ w1 ⟨rfl, rfl⟩
  go_wp2_with fail
  refine calls_named ?_
  intro w1 hw1
  have hb1 : Below w.heap.size w w1 := by rw [hw1]; exact H2.out.2.1
  have hr1 : Row w1 (w.heap.size + 1) 48 Rp.zero.cells := by rw [hw1]; exact H2.out.1
  have hh1 : Row w1 w.heap.size 23 (bRow p).toList := by rw [hw1]; exact H2.out.2.2
  have HI1 : Hid (LinkIn w w1 p) := ⟨hb1, hh1, _, HZL.out, hr1⟩
  clear hw1 hb1 hr1 hh1 H2 hzv
  refine (T0.out _).mono ?_
  rintro _ w2 ⟨rfl, hb2⟩
  have HI2 := Lib.hid (HI1.out.step hb2)
  clear hb2
  go_wp2_with fail
  refine (T1.out _).mono ?_
  rintro _ w3 ⟨rfl, hb3⟩
  have HI3 := Lib.hid (HI2.out.step hb3)
  clear hb3
  go_wp2_with fail
  refine (T2.out _).mono ?_
  rintro _ w4 ⟨rfl, hb4⟩
  have HI4 := Lib.hid (HI3.out.step hb4)
  clear hb4
  go_wp2_with fail
  refine calls_named ?_
  intro w5 hw5
  have hr5 : Row w5 w4.heap.size 9 [S t0, S t1, S t2, .string body] := by rw [hw5]; exact Row.new w4 9 [S t0, S t1, S t2, .string body]
  have HI5 : Hid (LinkIn w w5 p) := by rw [hw5]; exact HI4.out.step ((Below.refl _ _).alloc (Nat.le_refl _) _)
  clear hw5
  refine (LB.out w5 _ hr5).mono ?_
  rintro _ w6 ⟨rfl, hb6⟩
  have HS0 : Hid (LinkIn w w6.drew p) := (HI5.out.step hb6).step (Below.refl _ _).drew
  have hu23 := Tryd.underlying23
  have hi23 : (Tryd.prog.info? 23).map (·.size) = some (bRow p).toList.length := by rw [hash_info, HPL.out]
  clear hb6 hr5
  go_wp2_with fail
  refine wp_region_held_drew (S := fun w' => LinkIn w w' p) (by kernel_rfl) (HS0.out) (fun hHeld => ?_)
  generalize w6.drew = w9 at *
  refine wpAnyH_take (i := 0) (v := .int .i64 a) rfl (by kernel_rfl) (by kernel_rfl) (by kernel_rfl) (fun _ _ _ h => h) (Or.inl ⟨by rfl, fun w' hSw => by go_simp⟩) hHeld ?_
  try simp only [Act.put, List.getElem_toArray, List.getElem_cons_succ, List.getElem_cons_zero, List.setIfInBounds_toArray, List.set_cons_zero, List.set_cons_succ]
  refine wpAnyH_take (i := 1) (v := .int .i64 k) rfl (by kernel_rfl) (by kernel_rfl) (by kernel_rfl) (fun _ _ _ h => h) (Or.inl ⟨by rfl, fun w' hSw => by go_simp⟩) hHeld ?_
  try simp only [Act.put, List.getElem_toArray, List.getElem_cons_succ, List.getElem_cons_zero, List.setIfInBounds_toArray, List.set_cons_zero, List.set_cons_succ]
  refine wpAnyH_take (i := 2) (v := .int .i64 n) rfl (by kernel_rfl) (by kernel_rfl) (by kernel_rfl) (fun _ _ _ h => h) (Or.inl ⟨by rfl, fun w' hSw => by go_simp⟩) hHeld ?_
  try simp only [Act.put, List.getElem_toArray, List.getElem_cons_succ, List.getElem_cons_zero, List.setIfInBounds_toArray, List.set_cons_zero, List.set_cons_succ]
  refine wpAnyH_take (i := 3) (v := .string body) rfl (by kernel_rfl) (by kernel_rfl) (by kernel_rfl) (fun _ _ _ h => h) (Or.inl ⟨by rfl, fun w' hSw => by go_simp⟩) hHeld ?_
  try simp only [Act.put, List.getElem_toArray, List.getElem_cons_succ, List.getElem_cons_zero, List.setIfInBounds_toArray, List.set_cons_zero, List.set_cons_succ]
  refine' wpAnyH_take (i := 4) (v := _) rfl (by kernel_rfl) (by kernel_rfl) (by kernel_rfl) (fun _ _ _ h => h) (yieldsIf_load_mid (by rfl) _ _ rfl w.heap.size 0 rfl (bRow p).toList _ (fun w' hSw => (row_range hSw.2.1)) hu23 rfl hi23) hHeld ?_
  try simp only [Act.put, List.getElem_toArray, List.getElem_cons_succ, List.getElem_cons_zero, List.setIfInBounds_toArray, List.set_cons_zero, List.set_cons_succ]
  refine' wpAnyH_take (i := 5) (v := _) rfl (by kernel_rfl) (by kernel_rfl) (by kernel_rfl) (fun _ _ _ h => h) (yieldsIf_load_mid (by rfl) _ _ rfl w.heap.size 0 rfl (bRow p).toList _ (fun w' hSw => (row_range hSw.2.1)) hu23 rfl hi23) hHeld ?_
  try simp only [Act.put, List.getElem_toArray, List.getElem_cons_succ, List.getElem_cons_zero, List.setIfInBounds_toArray, List.set_cons_zero, List.set_cons_succ]
  refine wpAnyH_take (i := 6) (v := S ts) rfl (by kernel_rfl) (by kernel_rfl) (by kernel_rfl) (fun _ _ _ h => h) (Or.inl ⟨by rfl, fun w' hSw => by go_simp⟩) hHeld ?_
  try simp only [Act.put, List.getElem_toArray, List.getElem_cons_succ, List.getElem_cons_zero, List.setIfInBounds_toArray, List.set_cons_zero, List.set_cons_succ]
  refine wpAnyH_ready (rs := [7]) (by kernel_rfl) (by simp) (AllReadyH.cons rfl (fun K1 hK1 => ?_) AllReadyH.nil)
  try simp only [Act.put, List.getElem_toArray, List.getElem_cons_succ, List.getElem_cons_zero, List.setIfInBounds_toArray, List.set_cons_zero, List.set_cons_succ]
  go_simp
  refine Calls.mono (CH.out _) ?_
  rintro e wc1 ⟨rfl, hc2⟩
  refine hK1.out _ _ (hHeld.step hc2) (fun hHeld => ?_)
  clear hK1 K1
  try simp only [Act.put, List.getElem_toArray, List.getElem_cons_succ, List.getElem_cons_zero, List.setIfInBounds_toArray, List.set_cons_zero, List.set_cons_succ]
  refine' wpAnyH_take (i := 8) (v := .agg D.toArray) rfl (by kernel_rfl) (by kernel_rfl) (by kernel_rfl) (fun _ _ _ h => h) (yieldsIf_buildL (by rfl) 48 [(0, .tmp 48), (1, .tmp 49), (2, .tmp 50), (3, .tmp 51), (4, .tmp 52), (5, .tmp 55)] rfl [(0, .int .i64 a), (1, .int .i64 k), (2, .int .i64 n), (3, .string body), (4, .agg (bRow p)), (5, .agg (bRow K))] rfl D.toArray Hbu.out) hHeld ?_
  try simp only [Act.put, List.getElem_toArray, List.getElem_cons_succ, List.getElem_cons_zero, List.setIfInBounds_toArray, List.set_cons_zero, List.set_cons_succ]
  refine wpAnyH_ready (rs := [9]) (by kernel_rfl) (by simp) (AllReadyH.cons rfl (fun K1 hK1 => ?_) AllReadyH.nil)
  try simp only [Act.put, List.getElem_toArray, List.getElem_cons_succ, List.getElem_cons_zero, List.setIfInBounds_toArray, List.set_cons_zero, List.set_cons_succ]
  obtain ⟨Z, hZl, hZr⟩ := hHeld.2.2
  rw [if_pos (by rfl)]
  refine wp_store_at 48 (.tmp 10) (.tmp 56) rfl (w.heap.size + 1) 0 D _ _ rfl rfl hZr (by have := HDL.out; omega) (by rw [rp_info, HDL.out]) HD1.out ?_
  intro ws3 hrS hgS
  rw [splice_all (HDL.out.trans hZl.symm)] at hrS
  have HrS := Lib.hid hrS
  have hHeld2 := hHeld.put hgS HDL.out hrS
  clear hrS hgS
  refine hK1.out _ _ (hHeld2) (fun hHeld => ?_)
  clear hK1 K1
  try simp only [Act.put, List.getElem_toArray, List.getElem_cons_succ, List.getElem_cons_zero, List.setIfInBounds_toArray, List.set_cons_zero, List.set_cons_succ]
  clear hHeld2
  refine wpAnyH_take (i := 10) (v := .int .i64 0) rfl (by kernel_rfl) (by kernel_rfl) (by kernel_rfl) (fun _ _ _ h => h) (Or.inl ⟨by rfl, fun w' hSw => by go_simp⟩) hHeld ?_
  try simp only [Act.put, List.getElem_toArray, List.getElem_cons_succ, List.getElem_cons_zero, List.setIfInBounds_toArray, List.set_cons_zero, List.set_cons_succ]
  refine wpAnyH_done (by kernel_rfl) ?_ _
  go_wp2_with fail
  have Hb9 := Lib.hid hHeld.1
  clear hHeld hu23 hi23
  refine bodyPost_ret (results_rowL rfl _ _ (w.heap.size + 1) 48 _ _ rfl HrS.out Tryd.underlying48 rfl (by rw [rp_info, List.size_toArray, HDL.out]) _ rfl) rfl ⟨rfl, Hb9.out⟩
set_option maxRecDepth 20000 in
set_option maxHeartbeats 1600000 in
theorem rlink5_y2 (hRS : RefSum) (a k n : Int) (body : ByteArray) (p : List UInt8) (hp : p.length = 32) (w : World) (b1 : (decide (0 ≤ a) && decide (a ≤ 1099511627776)) = true) (b2 : (decide (0 ≤ n) && decide (n ≤ 1099511627776)) = true) (k1 : (k != 1) = true) (k2 : (k != 2) = false) (s0 : ¬ ((656 : Int) < (body.size : Int))) :
    Calls Tryd.prog 40 #[.agg (bRow p), .int .i64 a, .int .i64 k, .int .i64 n, .string body] w fun e w' => e = .returned (.tuple #[.agg (Rp.linked ⟨a, k, n, body, p, Tx.zero⟩).cells.toArray, .int .i64 0]) ∧ Below w.heap.size w w' := by
  have HZL := Lib.hid (Rp.cells_len (r := Rp.zero) rfl rfl)
  have HZ1 := Lib.hid (Rp.cells_one (r := Rp.zero) rfl rfl)
  have hzv : ∀ W : World, (zeroValue 48).run Tryd.prog W = .ok (.agg Rp.zero.cells.toArray) W := fun W => by kernel_rfl
  have N1 := Lib.hid (within5_b a 1099511627776 _ b1)
  have N2 := Lib.hid (within5_b n 1099511627776 _ b2)
  obtain ⟨r, hr⟩ : ∃ r : Rp, r = ⟨a, k, n, body, p, Tx.zero⟩ := ⟨_, rfl⟩
  have hbu := rp_six a k n body p r.link hp (Rp.link_len r)
  have hD : Rp.cells ⟨a, k, n, body, p, r.link⟩ = r.linked.cells := by rw [hr]; rfl
  rw [hD] at hbu
  have hln : p.length = 32 ∧ r.link.length = 32 := ⟨hp, Rp.link_len r⟩
  have hbl := listE_len r.texts
  have hlk : Sha.sum (p ++ (Oct.listE r.texts).1) = r.link := by rw [hr]; rfl
  have CH : Hid (∀ W, Calls Tryd.prog 81 #[.agg (bRow p), S (Oct.listE r.texts).1] W fun e w' => e = .returned (.agg (bRow r.link)) ∧ Below W.heap.size W w') := fun W => by
    have := refChain_any hRS p ⟨(Oct.listE r.texts).1.toArray⟩ W hp (by show (Oct.listE r.texts).1.length ≤ _; omega)
    rw [show (⟨(Oct.listE r.texts).1.toArray⟩ : ByteArray).data.toList = (Oct.listE r.texts).1 from rfl, hlk] at this
    exact this
  have hc1 := b1
  have hc2 := b2
  simp at hc1 hc2
  have hkk : 0 ≤ k ∧ k ≤ 2 := by simp at k1 k2; omega
  have T0 := Lib.hid (fun W => text5_any a W hc1.1 (by omega))
  have T1 := Lib.hid (fun W => text5_any k W hkk.1 (by omega))
  have T2 := Lib.hid (fun W => text5_any n W hc2.1 (by omega))
  have LB : Hid (∀ (W : World) (g : Nat), Row W g 9 [S (Oct.num a.toNat), S (Oct.num k.toNat), S (Oct.num n.toNat), .string body] → Calls Tryd.prog 75 #[.slice (some ⟨g, 0, none⟩) 4 4] W fun e w' => e = .returned (.tuple #[S (Oct.listE r.texts).1, .int .i64 (Oct.listE r.texts).2]) ∧ Below W.heap.size W w') := fun W g h => list5_row r.texts h (by rw [hr]; rfl) 4 4 (by rw [hr]; rfl)
  have HDL := Lib.hid (Rp.cells_len (r := r.linked) (by rw [hr]; exact hp) (Rp.link_len r))
  have HD1 := Lib.hid (Rp.cells_one (r := r.linked) (by rw [hr]; exact hp) (Rp.link_len r))
  have HPL := Lib.hid (Tx.bRow_len _ hp)
  have Hrow0 := Lib.hid (Row.new w 23 (bRow p).toList)
  have hq : (Rp.linkE ⟨a, k, n, body, p, Tx.zero⟩) = Rp.linkE r := by rw [hr]
  show Calls _ _ _ _ _
  have hlc : (Rp.mk a k n body p Tx.zero).linked.cells = r.linked.cells := by rw [hr]
  rw [hlc]
  generalize (Oct.listE r.texts).2 = en at *
  generalize (Oct.listE r.texts).1 = ts at *
  generalize r.linked.cells = D at *
  generalize r.link = K at *
  generalize Oct.num a.toNat = t0 at *
  generalize Oct.num k.toNat = t1 at *
  generalize Oct.num n.toNat = t2 at *
  clear b1 b2 hc1 hc2 hkk hr hD hln hbl hlk hq hlc hp hRS
  have H2 := Lib.hid (row_two w (bRow p) Rp.zero.cells.toArray 23 48)
  have Hbu := Lib.hid hbu
  clear hbu
  go_enter Tryd.func40, Tryd.ntmps40
  go_wp2_with fail
  refine (N1.out _).mono ?_
  rintro _ w1 ⟨rfl, rfl⟩
  go_wp2_with fail
  refine (N2.out _).mono ?_
  rintro _ w1 ⟨rfl, rfl⟩
  go_wp2_with fail
  refine calls_named ?_
  intro w1 hw1
  have hb1 : Below w.heap.size w w1 := by rw [hw1]; exact H2.out.2.1
  have hr1 : Row w1 (w.heap.size + 1) 48 Rp.zero.cells := by rw [hw1]; exact H2.out.1
  have hh1 : Row w1 w.heap.size 23 (bRow p).toList := by rw [hw1]; exact H2.out.2.2
  have HI1 : Hid (LinkIn w w1 p) := ⟨hb1, hh1, _, HZL.out, hr1⟩
  clear hw1 hb1 hr1 hh1 H2 hzv
  refine (T0.out _).mono ?_
  rintro _ w2 ⟨rfl, hb2⟩
  have HI2 := Lib.hid (HI1.out.step hb2)
  clear hb2
  go_wp2_with fail
  refine (T1.out _).mono ?_
  rintro _ w3 ⟨rfl, hb3⟩
  have HI3 := Lib.hid (HI2.out.step hb3)
  clear hb3
  go_wp2_with fail
  refine (T2.out _).mono ?_
  rintro _ w4 ⟨rfl, hb4⟩
  have HI4 := Lib.hid (HI3.out.step hb4)
  clear hb4
  go_wp2_with fail
  refine calls_named ?_
  intro w5 hw5
  have hr5 : Row w5 w4.heap.size 9 [S t0, S t1, S t2, .string body] := by rw [hw5]; exact Row.new w4 9 [S t0, S t1, S t2, .string body]
  have HI5 : Hid (LinkIn w w5 p) := by rw [hw5]; exact HI4.out.step ((Below.refl _ _).alloc (Nat.le_refl _) _)
  clear hw5
  refine (LB.out w5 _ hr5).mono ?_
  rintro _ w6 ⟨rfl, hb6⟩
  have HS0 : Hid (LinkIn w w6.drew p) := (HI5.out.step hb6).step (Below.refl _ _).drew
  have hu23 := Tryd.underlying23
  have hi23 : (Tryd.prog.info? 23).map (·.size) = some (bRow p).toList.length := by rw [hash_info, HPL.out]
  clear hb6 hr5
  go_wp2_with fail
  refine wp_region_held_drew (S := fun w' => LinkIn w w' p) (by kernel_rfl) (HS0.out) (fun hHeld => ?_)
  generalize w6.drew = w9 at *
  refine wpAnyH_take (i := 0) (v := .int .i64 a) rfl (by kernel_rfl) (by kernel_rfl) (by kernel_rfl) (fun _ _ _ h => h) (Or.inl ⟨by rfl, fun w' hSw => by go_simp⟩) hHeld ?_
  try simp only [Act.put, List.getElem_toArray, List.getElem_cons_succ, List.getElem_cons_zero, List.setIfInBounds_toArray, List.set_cons_zero, List.set_cons_succ]
  refine wpAnyH_take (i := 1) (v := .int .i64 k) rfl (by kernel_rfl) (by kernel_rfl) (by kernel_rfl) (fun _ _ _ h => h) (Or.inl ⟨by rfl, fun w' hSw => by go_simp⟩) hHeld ?_
  try simp only [Act.put, List.getElem_toArray, List.getElem_cons_succ, List.getElem_cons_zero, List.setIfInBounds_toArray, List.set_cons_zero, List.set_cons_succ]
  refine wpAnyH_take (i := 2) (v := .int .i64 n) rfl (by kernel_rfl) (by kernel_rfl) (by kernel_rfl) (fun _ _ _ h => h) (Or.inl ⟨by rfl, fun w' hSw => by go_simp⟩) hHeld ?_
  try simp only [Act.put, List.getElem_toArray, List.getElem_cons_succ, List.getElem_cons_zero, List.setIfInBounds_toArray, List.set_cons_zero, List.set_cons_succ]
  refine wpAnyH_take (i := 3) (v := .string body) rfl (by kernel_rfl) (by kernel_rfl) (by kernel_rfl) (fun _ _ _ h => h) (Or.inl ⟨by rfl, fun w' hSw => by go_simp⟩) hHeld ?_
  try simp only [Act.put, List.getElem_toArray, List.getElem_cons_succ, List.getElem_cons_zero, List.setIfInBounds_toArray, List.set_cons_zero, List.set_cons_succ]
  refine' wpAnyH_take (i := 4) (v := _) rfl (by kernel_rfl) (by kernel_rfl) (by kernel_rfl) (fun _ _ _ h => h) (yieldsIf_load_mid (by rfl) _ _ rfl w.heap.size 0 rfl (bRow p).toList _ (fun w' hSw => (row_range hSw.2.1)) hu23 rfl hi23) hHeld ?_
  try simp only [Act.put, List.getElem_toArray, List.getElem_cons_succ, List.getElem_cons_zero, List.setIfInBounds_toArray, List.set_cons_zero, List.set_cons_succ]
  refine' wpAnyH_take (i := 5) (v := _) rfl (by kernel_rfl) (by kernel_rfl) (by kernel_rfl) (fun _ _ _ h => h) (yieldsIf_load_mid (by rfl) _ _ rfl w.heap.size 0 rfl (bRow p).toList _ (fun w' hSw => (row_range hSw.2.1)) hu23 rfl hi23) hHeld ?_
  try simp only [Act.put, List.getElem_toArray, List.getElem_cons_succ, List.getElem_cons_zero, List.setIfInBounds_toArray, List.set_cons_zero, List.set_cons_succ]
  refine wpAnyH_take (i := 6) (v := S ts) rfl (by kernel_rfl) (by kernel_rfl) (by kernel_rfl) (fun _ _ _ h => h) (Or.inl ⟨by rfl, fun w' hSw => by go_simp⟩) hHeld ?_
  try simp only [Act.put, List.getElem_toArray, List.getElem_cons_succ, List.getElem_cons_zero, List.setIfInBounds_toArray, List.set_cons_zero, List.set_cons_succ]
  refine wpAnyH_ready (rs := [7]) (by kernel_rfl) (by simp) (AllReadyH.cons rfl (fun K1 hK1 => ?_) AllReadyH.nil)
  try simp only [Act.put, List.getElem_toArray, List.getElem_cons_succ, List.getElem_cons_zero, List.setIfInBounds_toArray, List.set_cons_zero, List.set_cons_succ]
  go_simp
  refine Calls.mono (CH.out _) ?_
  rintro e wc1 ⟨rfl, hc2⟩
  refine hK1.out _ _ (hHeld.step hc2) (fun hHeld => ?_)
  clear hK1 K1
  try simp only [Act.put, List.getElem_toArray, List.getElem_cons_succ, List.getElem_cons_zero, List.setIfInBounds_toArray, List.set_cons_zero, List.set_cons_succ]
  refine' wpAnyH_take (i := 8) (v := .agg D.toArray) rfl (by kernel_rfl) (by kernel_rfl) (by kernel_rfl) (fun _ _ _ h => h) (yieldsIf_buildL (by rfl) 48 [(0, .tmp 48), (1, .tmp 49), (2, .tmp 50), (3, .tmp 51), (4, .tmp 52), (5, .tmp 55)] rfl [(0, .int .i64 a), (1, .int .i64 k), (2, .int .i64 n), (3, .string body), (4, .agg (bRow p)), (5, .agg (bRow K))] rfl D.toArray Hbu.out) hHeld ?_
  try simp only [Act.put, List.getElem_toArray, List.getElem_cons_succ, List.getElem_cons_zero, List.setIfInBounds_toArray, List.set_cons_zero, List.set_cons_succ]
  refine wpAnyH_ready (rs := [9]) (by kernel_rfl) (by simp) (AllReadyH.cons rfl (fun K1 hK1 => ?_) AllReadyH.nil)
  try simp only [Act.put, List.getElem_toArray, List.getElem_cons_succ, List.getElem_cons_zero, List.setIfInBounds_toArray, List.set_cons_zero, List.set_cons_succ]
  obtain ⟨Z, hZl, hZr⟩ := hHeld.2.2
  rw [if_pos (by rfl)]
  refine wp_store_at 48 (.tmp 10) (.tmp 56) rfl (w.heap.size + 1) 0 D _ _ rfl rfl hZr (by have := HDL.out; omega) (by rw [rp_info, HDL.out]) HD1.out ?_
  intro ws3 hrS hgS
  rw [splice_all (HDL.out.trans hZl.symm)] at hrS
  have HrS := Lib.hid hrS
  have hHeld2 := hHeld.put hgS HDL.out hrS
  clear hrS hgS
  refine hK1.out _ _ (hHeld2) (fun hHeld => ?_)
  clear hK1 K1
  try simp only [Act.put, List.getElem_toArray, List.getElem_cons_succ, List.getElem_cons_zero, List.setIfInBounds_toArray, List.set_cons_zero, List.set_cons_succ]
  clear hHeld2
  refine wpAnyH_take (i := 10) (v := .int .i64 0) rfl (by kernel_rfl) (by kernel_rfl) (by kernel_rfl) (fun _ _ _ h => h) (Or.inl ⟨by rfl, fun w' hSw => by go_simp⟩) hHeld ?_
  try simp only [Act.put, List.getElem_toArray, List.getElem_cons_succ, List.getElem_cons_zero, List.setIfInBounds_toArray, List.set_cons_zero, List.set_cons_succ]
  refine wpAnyH_done (by kernel_rfl) ?_ _
  go_wp2_with fail
  have Hb9 := Lib.hid hHeld.1
  clear hHeld hu23 hi23
  refine bodyPost_ret (results_rowL rfl _ _ (w.heap.size + 1) 48 _ _ rfl HrS.out Tryd.underlying48 rfl (by rw [rp_info, List.size_toArray, HDL.out]) _ rfl) rfl ⟨rfl, Hb9.out⟩
theorem rlink5_any (hRS : RefSum) (a k n : Int) (body : ByteArray) (p : List UInt8) (hp : p.length = 32) (w : World) :
    Calls Tryd.prog 40 #[.agg (bRow p), .int .i64 a, .int .i64 k, .int .i64 n, .string body] w fun e w' => e = .returned (Rp.pairV (Rp.linkE ⟨a, k, n, body, p, Tx.zero⟩)) ∧ Below w.heap.size w w' := by
  have hiff := Rp.ok_iff ⟨a, k, n, body, p, Tx.zero⟩
  simp only at hiff
  have yes : (Rp.mk a k n body p Tx.zero).ok = true → Rp.pairV (Rp.linkE ⟨a, k, n, body, p, Tx.zero⟩) = .tuple #[.agg (Rp.linked ⟨a, k, n, body, p, Tx.zero⟩).cells.toArray, .int .i64 0] := fun h => by unfold Rp.linkE; rw [if_pos h]; rfl
  have no : ¬ (Rp.mk a k n body p Tx.zero).ok = true → Rp.pairV (Rp.linkE ⟨a, k, n, body, p, Tx.zero⟩) = .tuple #[.agg Rp.zero.cells.toArray, .int .i64 2] := fun h => by unfold Rp.linkE; rw [if_neg h]; rfl
  rcases Bool.eq_false_or_eq_true (decide (0 ≤ a) && decide (a ≤ 1099511627776)) with b1 | b1
  · rcases Bool.eq_false_or_eq_true (decide (0 ≤ n) && decide (n ≤ 1099511627776)) with b2 | b2
    · have c1 := b1
      have c2 := b2
      simp at c1 c2
      rcases Bool.eq_false_or_eq_true (k != 1) with k1 | k1
      · have d1 := k1
        simp at d1
        rcases Bool.eq_false_or_eq_true (k != 2) with k2 | k2
        · have d2 := k2
          simp at d2
          rw [no (fun h => by rw [hiff] at h; omega)]; exact rlink5_n2 a k n body p hp w b1 b2 k1 k2
        · have d2 := k2
          simp at d2
          by_cases s0 : (656 : Int) < (body.size : Int)
          · rw [no (fun h => by rw [hiff] at h; omega)]; exact rlink5_n4 a k n body p hp w b1 b2 k1 k2 s0
          · rw [yes (by rw [hiff]; omega)]; exact rlink5_y2 hRS a k n body p hp w b1 b2 k1 k2 s0
      · have d1 := k1
        simp at d1
        by_cases s0 : (656 : Int) < (body.size : Int)
        · rw [no (fun h => by rw [hiff] at h; omega)]; exact rlink5_n3 a k n body p hp w b1 b2 k1 s0
        · rw [yes (by rw [hiff]; omega)]; exact rlink5_y1 hRS a k n body p hp w b1 b2 k1 s0
    · have c2 := b2
      simp at c2
      rw [no (fun h => by rw [hiff] at h; omega)]; exact rlink5_n1 a k n body p hp w b1 b2
  · have c1 := b1
    simp at c1
    rw [no (fun h => by rw [hiff] at h; omega)]; exact rlink5_n0 a k n body p hp w b1
end Go.Proofs.YtdekcicgiflnbaaDoor
namespace Go.Proofs.YtdekcicgiflnbaaDoor
open Go.RowKit
set_option linter.unusedVariables false
set_option linter.unusedSimpArgs false

namespace Rp
def lits (b : Rp) : List Lit := [.int .i64 b.index, .int .i64 b.kind, .int .i64 b.time, .string b.body.data.toList] ++ (Tx.hlits b.prev ++ Tx.hlits b.hash)
theorem lits_inj {a b : Rp} (ha : a.prev.length = 32) (hb : b.prev.length = 32) (h : a.lits = b.lits) : a = b := by
  obtain ⟨a1, a2, a3, a4, a5, a6⟩ := a
  obtain ⟨b1, b2, b3, b4, b5, b6⟩ := b
  simp only [lits, List.cons_append, List.nil_append, List.cons.injEq, Lit.int.injEq, Lit.string.injEq, true_and] at h ha hb
  obtain ⟨rfl, rfl, rfl, h4, h5⟩ := h
  have h4' : a4 = b4 := by
    cases a4; cases b4
    congr 1
    exact Array.toList_inj.1 h4
  subst h4'
  obtain ⟨h5a, h5b⟩ := List.append_inj h5 (by simp [Tx.hlits, ha, hb])
  rw [Tx.hlits_inj h5a, Tx.hlits_inj h5b]
end Rp
theorem rp_lits {b : Rp} (h : b.Fits) : Tryd.prog.keyLits 3 48 b.cells = some b.lits := by
  have hc : Tryd.prog.cellsOf 48 = 68 := by kernel_rfl
  have hI : Tryd.prog.cellsOf 3 = 1 := by kernel_rfl
  have hS : Tryd.prog.cellsOf 9 = 1 := by kernel_rfl
  have hH : Tryd.prog.cellsOf 23 = 32 := by kernel_rfl
  have hm : b.body.size ≤ maxLen := by have := h.body; unfold maxLen; omega
  unfold Program.keyLits
  simp only [Tryd.underlying48]
  rw [if_pos ⟨by rw [hc, Rp.cells_len h.prev h.hash], by kernel_rfl⟩]
  have e0 : Tryd.prog.keyLits 2 3 ((b.cells.drop 0).take (Tryd.prog.cellsOf 3)) = some [.int .i64 b.index] := by rw [hI]; exact lit_int 1 h.index
  have e1 : Tryd.prog.keyLits 2 3 ((b.cells.drop 1).take (Tryd.prog.cellsOf 3)) = some [.int .i64 b.kind] := by rw [hI]; exact lit_int 1 h.kind
  have e2 : Tryd.prog.keyLits 2 3 ((b.cells.drop 2).take (Tryd.prog.cellsOf 3)) = some [.int .i64 b.time] := by rw [hI]; exact lit_int 1 h.time
  have e3 : Tryd.prog.keyLits 2 9 ((b.cells.drop 3).take (Tryd.prog.cellsOf 9)) = some [.string b.body.data.toList] := by rw [hS]; exact lit_str 1 _ hm
  have e4 : Tryd.prog.keyLits 2 23 ((b.cells.drop 4).take (Tryd.prog.cellsOf 23)) = some (Tx.hlits b.prev) := by rw [hH, Rp.cells_prev h.prev]; exact hash_lits _ h.prev
  have e5 : Tryd.prog.keyLits 2 23 ((b.cells.drop 36).take (Tryd.prog.cellsOf 23)) = some (Tx.hlits b.hash) := by rw [hH, Rp.cells_hash h.prev, List.take_of_length_le (by rw [Tx.bRow_len _ h.hash]; omega)]; exact hash_lits _ h.hash
  simp only [List.mapM_cons, List.mapM_nil, e0, e1, e2, e3, e4, e5, Option.bind_eq_bind, Option.bind_some, Option.pure_def, Option.map_some]
  simp [Rp.lits]
/-- two receipts: equal just where all is -/
theorem rp_eq (W : World) (a b : Rp) (ha : a.Fits) (hb : b.Fits) : ∃ r : Bool, (Op.equalIn 10000 48 (.agg a.cells.toArray) (.agg b.cells.toArray)).run Tryd.prog W = .ok r W ∧ (r = true ↔ a = b) := by
  have hk : Tryd.prog.keyTypeAt 3 48 = true := by kernel_rfl
  have hf : ∀ x : Rp, x.Fits → (Value.agg x.cells.toArray).formed Tryd.prog 48 = true := by
    intro x hx
    have hc : Tryd.prog.cellsOf 48 = 68 := by kernel_rfl
    have hs := Rp.cells_len hx.prev hx.hash
    simp [Value.formed, Tryd.underlying48, hs, hc]
  obtain ⟨r, hr, hiff⟩ := run_equalIn_deep (P := Tryd.prog) 9997 3 48 hk W 3 3 (.agg a.cells.toArray) (.agg b.cells.toArray) _ _ (hf a ha) (hf b hb) (by show Tryd.prog.keyLits 3 _ a.cells.toArray.toList = _; exact rp_lits ha) (by show Tryd.prog.keyLits 3 _ b.cells.toArray.toList = _; exact rp_lits hb)
  exact ⟨r, hr, hiff.trans ⟨Rp.lits_inj ha.prev hb.prev, fun h => by rw [h]⟩⟩
theorem rp_eqD (W : World) (a b : Rp) (ha : a.Fits) (hb : b.Fits) {v : Bool} (h : v = true ↔ a = b) : (Op.equalIn 10000 48 (.agg a.cells.toArray) (.agg b.cells.toArray)).run Tryd.prog W = .ok v W := by
  obtain ⟨r, hr, hi⟩ := rp_eq W a b ha hb
  rw [hr]
  have : r = v := by rw [Bool.eq_iff_iff, hi, h]
  rw [this]
theorem Rp.linked_fits {r : Rp} (h : r.Fits) : r.linked.Fits := ⟨h.prev, Rp.link_len r, h.body, h.index, h.kind, h.time⟩
theorem Rp.linked_eq {r : Rp} : r.linked = r ↔ r.hash = r.link := by
  constructor
  · intro h
    have := congrArg Rp.hash h
    exact this.symm
  · intro h
    unfold Rp.linked
    rw [← h]
set_option maxRecDepth 20000 in
set_option maxHeartbeats 1600000 in
theorem rwriteReceipt_no (hRS : RefSum) (r : Rp) (hf : r.Fits) (w : World) (h : r.ok = false) :
    Calls Tryd.prog 38 #[.agg r.cells.toArray] w fun e w' => e = .returned (.tuple #[S [], .int .i64 2]) ∧ Below w.heap.size w w' := by
  have LK0 := fun W => rlink5_any hRS r.index r.kind r.time r.body r.prev hf.prev W
  have hlk : Rp.linkE ⟨r.index, r.kind, r.time, r.body, r.prev, Tx.zero⟩ = r.linkE := rfl
  rw [hlk] at LK0
  have HL := Lib.hid (Rp.cells_len hf.prev hf.hash)
  have Hrow0 := Lib.hid (Row.new w 48 r.cells)
  have HZL := Lib.hid (Rp.cells_len (r := Rp.zero) rfl rfl)
  have HPL := Lib.hid (Tx.bRow_len _ hf.prev)
  have HHL := Lib.hid (Tx.bRow_len _ hf.hash)
  have hzv : ∀ W : World, (zeroValue 48).run Tryd.prog W = .ok (.agg Rp.zero.cells.toArray) W := fun W => by kernel_rfl
  obtain ⟨c0, c1, c2, c3⟩ := rp_box Hrow0.out
  have Hpv := Lib.hid (rp_prev hf.prev Hrow0.out)
  have hp : Rp.pairV r.linkE = .tuple #[.agg Rp.zero.cells.toArray, .int .i64 2] := by unfold Rp.linkE; rw [if_neg (by rw [h]; simp)]; rfl
  rw [hp] at LK0
  have LK := Lib.hid LK0
  have HZ1 := Lib.hid (Rp.cells_one (r := Rp.zero) rfl rfl)
  generalize r.cells = C at *
  clear hf hlk hp LK0 h hRS
  go_enter Tryd.func38, Tryd.ntmps38
  go_wp2_with (with_reducible show wpList _ _ _ (⟨_, .load 23 _, _, _, _, _⟩ :: _) _ _; refine wpList_load_tx rfl 23 (.tmp 7) rfl w.heap.size 4 rfl (bRow r.prev).toList _ Hpv.out Tryd.underlying23 rfl (by rw [hash_info, HPL.out]) ?_)
  refine (LK.out _).mono ?_
  rintro _ w1 ⟨rfl, hb1⟩
  have hg1 := grownBy_of_below hb1 none
  have hq1 := Hrow0.out.kept hg1 (by simp)
  have Hb1 := Lib.hid (tx_below hg1)
  have Hz1 := Lib.hid (Row.new w1 48 Rp.zero.cells)
  have HqA := Lib.hid (hq1.kept (grownBy_alloc w1 (.cells Rp.zero.cells.toArray 48) none) (by simp))
  have HbA := Lib.hid (below_own Hb1.out (grownBy_alloc w1 (.cells Rp.zero.cells.toArray 48) none) (fun k hk => by cases hk))
  have hne : w.heap.size ≠ w1.heap.size := by have := hq1.lt; omega
  have Hne := Lib.hid hne
  have HbS := Lib.hid Hb1.out.size
  clear hb1 hg1 hq1 hne c0 c1 c2 c3
  go_wp2_with (first
  | (with_reducible show wpList _ _ _ (⟨_, .store 48 _ _, _, _, _, _⟩ :: _) _ _
     refine wpList_store_at rfl 48 (.tmp 4) (.tmp 18) rfl w1.heap.size 0 Rp.zero.cells _ _ rfl rfl Hz1.out (by have := HZL.out; have := HZL.out; omega) (by rw [rp_info, HZL.out]) HZ1.out ?_
     intro w2 hr2 hg2
     rw [splice_all (HZL.out.trans HZL.out.symm)] at hr2
     have Hr2 := Lib.hid hr2
     have Hq2 := Lib.hid (HqA.out.kept hg2 (by simpa using Hne.out))
     have Hb2 := Lib.hid (below_own HbA.out hg2 (fun k hk => by cases hk; exact HbS.out))
     clear hr2 hg2))
  go_ret2
  exact ⟨rfl, Hb2.out⟩
set_option maxRecDepth 20000 in
set_option maxHeartbeats 1600000 in
theorem rwriteReceipt_ne (hRS : RefSum) (r : Rp) (hf : r.Fits) (w : World) (h : r.ok = true) (hl : r.hash ≠ r.link) :
    Calls Tryd.prog 38 #[.agg r.cells.toArray] w fun e w' => e = .returned (.tuple #[S [], .int .i64 7]) ∧ Below w.heap.size w w' := by
  have LK0 := fun W => rlink5_any hRS r.index r.kind r.time r.body r.prev hf.prev W
  have hlk : Rp.linkE ⟨r.index, r.kind, r.time, r.body, r.prev, Tx.zero⟩ = r.linkE := rfl
  rw [hlk] at LK0
  have HL := Lib.hid (Rp.cells_len hf.prev hf.hash)
  have Hrow0 := Lib.hid (Row.new w 48 r.cells)
  have HZL := Lib.hid (Rp.cells_len (r := Rp.zero) rfl rfl)
  have HPL := Lib.hid (Tx.bRow_len _ hf.prev)
  have HHL := Lib.hid (Tx.bRow_len _ hf.hash)
  have hzv : ∀ W : World, (zeroValue 48).run Tryd.prog W = .ok (.agg Rp.zero.cells.toArray) W := fun W => by kernel_rfl
  obtain ⟨c0, c1, c2, c3⟩ := rp_box Hrow0.out
  have Hpv := Lib.hid (rp_prev hf.prev Hrow0.out)
  have hp : Rp.pairV r.linkE = .tuple #[.agg r.linked.cells.toArray, .int .i64 0] := by unfold Rp.linkE; rw [if_pos h]; rfl
  rw [hp] at LK0
  have LK := Lib.hid LK0
  have HDL := Lib.hid (Rp.cells_len (r := r.linked) hf.prev (Rp.link_len r))
  have HD1 := Lib.hid (Rp.cells_one (r := r.linked) hf.prev (Rp.link_len r))
  have heq := fun W => rp_eqD W r.linked r (Rp.linked_fits hf) hf (v := false) (by simp; exact fun h2 => hl (Rp.linked_eq.1 h2))
  have hB := (Rp.ok_iff r).1 h
  have T0 := Lib.hid (fun W => text5_any r.index W hB.2.1.1 (by omega))
  have T1 := Lib.hid (fun W => text5_any r.kind W (by omega) (by omega))
  have T2 := Lib.hid (fun W => text5_any r.time W hB.2.2.1.1 (by omega))
  have BY0 := Lib.hid (fun W => bytes_any r.prev W hf.prev)
  have BY1 := Lib.hid (fun W => bytes_any r.hash W hf.hash)
  have BX : Hid (∀ (W : World) (g : Nat) (T : TypeId), Row W g T r.cells → W.cell? ⟨g, 0, none⟩ = some (.int .i64 r.index) ∧ W.cell? ⟨g, 1, none⟩ = some (.int .i64 r.kind) ∧ W.cell? ⟨g, 2, none⟩ = some (.int .i64 r.time) ∧ W.cell? ⟨g, 3, none⟩ = some (.string r.body)) := fun W g T h => rp_box h
  have BT : Hid (∀ (W : World) (g : Nat) (T : TypeId), Row W g T r.cells → W.rangeAt g 4 (bRow r.prev).toList ∧ W.rangeAt g 36 (bRow r.hash).toList) := fun W g T h => ⟨rp_prev hf.prev h, rp_hash hf.prev h⟩
  have hff : [S (Oct.num r.index.toNat), S (Oct.num r.kind.toNat), S (Oct.num r.time.toNat), .string r.body, S r.prev, S r.hash] = r.fields.map S := rfl
  have Hff := Lib.hid hff
  have Hfl : Hid (6 = r.fields.length) := (rfl : 6 = r.fields.length)
  generalize r.fields = L at *
  generalize r.linked.cells = D at *
  generalize r.cells = C at *
  generalize Oct.num r.index.toNat = t0 at *
  generalize Oct.num r.kind.toNat = t1 at *
  generalize Oct.num r.time.toNat = t2 at *
  clear hf hlk hp LK0 h hB hff hl hRS
  go_enter Tryd.func38, Tryd.ntmps38
  go_wp2_with (with_reducible show wpList _ _ _ (⟨_, .load 23 _, _, _, _, _⟩ :: _) _ _; refine wpList_load_tx rfl 23 (.tmp 7) rfl w.heap.size 4 rfl (bRow r.prev).toList _ Hpv.out Tryd.underlying23 rfl (by rw [hash_info, HPL.out]) ?_)
  refine (LK.out _).mono ?_
  rintro _ w1 ⟨rfl, hb1⟩
  have hg1 := grownBy_of_below hb1 none
  have hq1 := Hrow0.out.kept hg1 (by simp)
  have Hb1 := Lib.hid (tx_below hg1)
  have Hz1 := Lib.hid (Row.new w1 48 Rp.zero.cells)
  have HqA := Lib.hid (hq1.kept (grownBy_alloc w1 (.cells Rp.zero.cells.toArray 48) none) (by simp))
  have HbA := Lib.hid (below_own Hb1.out (grownBy_alloc w1 (.cells Rp.zero.cells.toArray 48) none) (fun k hk => by cases hk))
  have hne : w.heap.size ≠ w1.heap.size := by have := hq1.lt; omega
  have Hne := Lib.hid hne
  have HbS := Lib.hid Hb1.out.size
  clear hb1 hg1 hq1 hne c0 c1 c2 c3
  go_wp2_with (first
  | (with_reducible show wpList _ _ _ (⟨_, .store 48 _ _, _, _, _, _⟩ :: _) _ _
     refine wpList_store_at rfl 48 (.tmp 4) (.tmp 18) rfl w1.heap.size 0 D _ _ rfl rfl Hz1.out (by have := HZL.out; have := HDL.out; omega) (by rw [rp_info, HDL.out]) HD1.out ?_
     intro w2 hr2 hg2
     rw [splice_all (HDL.out.trans HZL.out.symm)] at hr2
     have Hr2 := Lib.hid hr2
     have Hq2 := Lib.hid (HqA.out.kept hg2 (by simpa using Hne.out))
     have Hb2 := Lib.hid (below_own HbA.out hg2 (fun k hk => by cases hk; exact HbS.out))
     clear hr2 hg2)
  | (with_reducible show wpList _ _ _ (⟨_, .load 48 (.tmp 4), _, _, _, _⟩ :: _) _ _; refine wpList_load_tx rfl 48 (.tmp 4) rfl w1.heap.size 0 rfl D _ (row_range Hr2.out) Tryd.underlying48 rfl (by rw [rp_info, HDL.out]) ?_)
  | (with_reducible show wpList _ _ _ (⟨_, .load 48 (.tmp 1), _, _, _, _⟩ :: _) _ _; refine wpList_load_tx rfl 48 (.tmp 1) rfl w.heap.size 0 rfl C _ (row_range Hq2.out) Tryd.underlying48 rfl (by rw [rp_info, HL.out]) ?_))
  go_ret2
  exact ⟨rfl, Hb2.out⟩
set_option maxRecDepth 20000 in
set_option maxHeartbeats 1600000 in
theorem rwriteReceipt_eq (hRS : RefSum) (r : Rp) (hf : r.Fits) (w : World) (h : r.ok = true) (hl : r.hash = r.link) :
    Calls Tryd.prog 38 #[.agg r.cells.toArray] w fun e w' => e = .returned (.tuple #[S (Oct.listE r.fields).1, .int .i64 (Oct.listE r.fields).2]) ∧ Below w.heap.size w w' := by
  have LK0 := fun W => rlink5_any hRS r.index r.kind r.time r.body r.prev hf.prev W
  have hlk : Rp.linkE ⟨r.index, r.kind, r.time, r.body, r.prev, Tx.zero⟩ = r.linkE := rfl
  rw [hlk] at LK0
  have HL := Lib.hid (Rp.cells_len hf.prev hf.hash)
  have Hrow0 := Lib.hid (Row.new w 48 r.cells)
  have HZL := Lib.hid (Rp.cells_len (r := Rp.zero) rfl rfl)
  have HPL := Lib.hid (Tx.bRow_len _ hf.prev)
  have HHL := Lib.hid (Tx.bRow_len _ hf.hash)
  have hzv : ∀ W : World, (zeroValue 48).run Tryd.prog W = .ok (.agg Rp.zero.cells.toArray) W := fun W => by kernel_rfl
  obtain ⟨c0, c1, c2, c3⟩ := rp_box Hrow0.out
  have Hpv := Lib.hid (rp_prev hf.prev Hrow0.out)
  have hp : Rp.pairV r.linkE = .tuple #[.agg r.linked.cells.toArray, .int .i64 0] := by unfold Rp.linkE; rw [if_pos h]; rfl
  rw [hp] at LK0
  have LK := Lib.hid LK0
  have HDL := Lib.hid (Rp.cells_len (r := r.linked) hf.prev (Rp.link_len r))
  have HD1 := Lib.hid (Rp.cells_one (r := r.linked) hf.prev (Rp.link_len r))
  have heq := fun W => rp_eqD W r.linked r (Rp.linked_fits hf) hf (v := true) (by simp; exact Rp.linked_eq.2 hl)
  have hB := (Rp.ok_iff r).1 h
  have T0 := Lib.hid (fun W => text5_any r.index W hB.2.1.1 (by omega))
  have T1 := Lib.hid (fun W => text5_any r.kind W (by omega) (by omega))
  have T2 := Lib.hid (fun W => text5_any r.time W hB.2.2.1.1 (by omega))
  have BY0 := Lib.hid (fun W => bytes_any r.prev W hf.prev)
  have BY1 := Lib.hid (fun W => bytes_any r.hash W hf.hash)
  have BX : Hid (∀ (W : World) (g : Nat) (T : TypeId), Row W g T r.cells → W.cell? ⟨g, 0, none⟩ = some (.int .i64 r.index) ∧ W.cell? ⟨g, 1, none⟩ = some (.int .i64 r.kind) ∧ W.cell? ⟨g, 2, none⟩ = some (.int .i64 r.time) ∧ W.cell? ⟨g, 3, none⟩ = some (.string r.body)) := fun W g T h => rp_box h
  have BT : Hid (∀ (W : World) (g : Nat) (T : TypeId), Row W g T r.cells → W.rangeAt g 4 (bRow r.prev).toList ∧ W.rangeAt g 36 (bRow r.hash).toList) := fun W g T h => ⟨rp_prev hf.prev h, rp_hash hf.prev h⟩
  have hff : [S (Oct.num r.index.toNat), S (Oct.num r.kind.toNat), S (Oct.num r.time.toNat), .string r.body, S r.prev, S r.hash] = r.fields.map S := rfl
  have Hff := Lib.hid hff
  have Hfl : Hid (6 = r.fields.length) := (rfl : 6 = r.fields.length)
  generalize r.fields = L at *
  generalize r.linked.cells = D at *
  generalize r.cells = C at *
  generalize Oct.num r.index.toNat = t0 at *
  generalize Oct.num r.kind.toNat = t1 at *
  generalize Oct.num r.time.toNat = t2 at *
  clear hf hlk hp LK0 h hB hff hl hRS
  have hu23 := Tryd.underlying23
  have hip : (Tryd.prog.info? 23).map (·.size) = some (bRow r.prev).toList.length := by rw [hash_info, HPL.out]
  have hih : (Tryd.prog.info? 23).map (·.size) = some (bRow r.hash).toList.length := by rw [hash_info, HHL.out]
  go_enter Tryd.func38, Tryd.ntmps38
  go_wp2_with (with_reducible show wpList _ _ _ (⟨_, .load 23 _, _, _, _, _⟩ :: _) _ _; refine wpList_load_tx rfl 23 (.tmp 7) rfl w.heap.size 4 rfl (bRow r.prev).toList _ Hpv.out Tryd.underlying23 rfl (by rw [hash_info, HPL.out]) ?_)
  refine (LK.out _).mono ?_
  rintro _ w1 ⟨rfl, hb1⟩
  have hg1 := grownBy_of_below hb1 none
  have hq1 := Hrow0.out.kept hg1 (by simp)
  have Hb1 := Lib.hid (tx_below hg1)
  have Hz1 := Lib.hid (Row.new w1 48 Rp.zero.cells)
  have HqA := Lib.hid (hq1.kept (grownBy_alloc w1 (.cells Rp.zero.cells.toArray 48) none) (by simp))
  have HbA := Lib.hid (below_own Hb1.out (grownBy_alloc w1 (.cells Rp.zero.cells.toArray 48) none) (fun k hk => by cases hk))
  have hne : w.heap.size ≠ w1.heap.size := by have := hq1.lt; omega
  have Hne := Lib.hid hne
  have HbS := Lib.hid Hb1.out.size
  clear hb1 hg1 hq1 hne c0 c1 c2 c3
  go_wp2_with (first
  | (with_reducible show wpList _ _ _ (⟨_, .store 48 _ _, _, _, _, _⟩ :: _) _ _
     refine wpList_store_at rfl 48 (.tmp 4) (.tmp 18) rfl w1.heap.size 0 D _ _ rfl rfl Hz1.out (by have := HZL.out; have := HDL.out; omega) (by rw [rp_info, HDL.out]) HD1.out ?_
     intro w2 hr2 hg2
     rw [splice_all (HDL.out.trans HZL.out.symm)] at hr2
     have Hr2 := Lib.hid hr2
     have Hq2 := Lib.hid (HqA.out.kept hg2 (by simpa using Hne.out))
     have Hb2 := Lib.hid (below_own HbA.out hg2 (fun k hk => by cases hk; exact HbS.out))
     clear hr2 hg2)
  | (with_reducible show wpList _ _ _ (⟨_, .load 48 (.tmp 4), _, _, _, _⟩ :: _) _ _; refine wpList_load_tx rfl 48 (.tmp 4) rfl w1.heap.size 0 rfl D _ (row_range Hr2.out) Tryd.underlying48 rfl (by rw [rp_info, HDL.out]) ?_)
  | (with_reducible show wpList _ _ _ (⟨_, .load 48 (.tmp 1), _, _, _, _⟩ :: _) _ _; refine wpList_load_tx rfl 48 (.tmp 1) rfl w.heap.size 0 rfl C _ (row_range Hq2.out) Tryd.underlying48 rfl (by rw [rp_info, HL.out]) ?_))
  have HS0 : Hid (RowIn w w2.drew w.heap.size 48 C) := RowIn.drew ⟨Hq2.out, Hb2.out⟩
  clear heq hzv
  refine wp_region_held_drew (S := fun w' => RowIn w w' w.heap.size 48 C) (by kernel_rfl) (HS0.out) (fun hHeld => ?_)
  generalize w2.drew = w9 at *
  refine wpAnyH_take (i := 0) (v := .pointer (some ⟨w.heap.size, 0, none⟩)) rfl (by kernel_rfl) (by kernel_rfl) (by kernel_rfl) (fun _ _ _ h => h) (Or.inl ⟨by rfl, fun w' hSw => by go_simp⟩) hHeld ?_
  try simp only [Act.put, List.getElem_toArray, List.getElem_cons_succ, List.getElem_cons_zero, List.setIfInBounds_toArray, List.set_cons_zero, List.set_cons_succ]
  refine wpAnyH_take (i := 1) (v := .int .i64 r.index) rfl (by kernel_rfl) (by kernel_rfl) (by kernel_rfl) (fun _ _ _ h => h) (Or.inl ⟨by rfl, fun w' hSw => by have hq := hSw; have hc := (BX.out _ _ _ hq.1).1; go_simp⟩) hHeld ?_
  try simp only [Act.put, List.getElem_toArray, List.getElem_cons_succ, List.getElem_cons_zero, List.setIfInBounds_toArray, List.set_cons_zero, List.set_cons_succ]
  refine wpAnyH_take (i := 3) (v := .pointer (some ⟨w.heap.size, 1, none⟩)) rfl (by kernel_rfl) (by kernel_rfl) (by kernel_rfl) (fun _ _ _ h => h) (Or.inl ⟨by rfl, fun w' hSw => by go_simp⟩) hHeld ?_
  try simp only [Act.put, List.getElem_toArray, List.getElem_cons_succ, List.getElem_cons_zero, List.setIfInBounds_toArray, List.set_cons_zero, List.set_cons_succ]
  refine wpAnyH_take (i := 4) (v := .int .i64 r.kind) rfl (by kernel_rfl) (by kernel_rfl) (by kernel_rfl) (fun _ _ _ h => h) (Or.inl ⟨by rfl, fun w' hSw => by have hq := hSw; have hc := (BX.out _ _ _ hq.1).2.1; go_simp⟩) hHeld ?_
  try simp only [Act.put, List.getElem_toArray, List.getElem_cons_succ, List.getElem_cons_zero, List.setIfInBounds_toArray, List.set_cons_zero, List.set_cons_succ]
  refine wpAnyH_take (i := 6) (v := .pointer (some ⟨w.heap.size, 2, none⟩)) rfl (by kernel_rfl) (by kernel_rfl) (by kernel_rfl) (fun _ _ _ h => h) (Or.inl ⟨by rfl, fun w' hSw => by go_simp⟩) hHeld ?_
  try simp only [Act.put, List.getElem_toArray, List.getElem_cons_succ, List.getElem_cons_zero, List.setIfInBounds_toArray, List.set_cons_zero, List.set_cons_succ]
  refine wpAnyH_take (i := 7) (v := .int .i64 r.time) rfl (by kernel_rfl) (by kernel_rfl) (by kernel_rfl) (fun _ _ _ h => h) (Or.inl ⟨by rfl, fun w' hSw => by have hq := hSw; have hc := (BX.out _ _ _ hq.1).2.2.1; go_simp⟩) hHeld ?_
  try simp only [Act.put, List.getElem_toArray, List.getElem_cons_succ, List.getElem_cons_zero, List.setIfInBounds_toArray, List.set_cons_zero, List.set_cons_succ]
  refine wpAnyH_take (i := 9) (v := .pointer (some ⟨w.heap.size, 3, none⟩)) rfl (by kernel_rfl) (by kernel_rfl) (by kernel_rfl) (fun _ _ _ h => h) (Or.inl ⟨by rfl, fun w' hSw => by go_simp⟩) hHeld ?_
  try simp only [Act.put, List.getElem_toArray, List.getElem_cons_succ, List.getElem_cons_zero, List.setIfInBounds_toArray, List.set_cons_zero, List.set_cons_succ]
  refine wpAnyH_take (i := 10) (v := .string r.body) rfl (by kernel_rfl) (by kernel_rfl) (by kernel_rfl) (fun _ _ _ h => h) (Or.inl ⟨by rfl, fun w' hSw => by have hq := hSw; have hc := (BX.out _ _ _ hq.1).2.2.2; go_simp⟩) hHeld ?_
  try simp only [Act.put, List.getElem_toArray, List.getElem_cons_succ, List.getElem_cons_zero, List.setIfInBounds_toArray, List.set_cons_zero, List.set_cons_succ]
  refine wpAnyH_take (i := 11) (v := .pointer (some ⟨w.heap.size, 4, none⟩)) rfl (by kernel_rfl) (by kernel_rfl) (by kernel_rfl) (fun _ _ _ h => h) (Or.inl ⟨by rfl, fun w' hSw => by go_simp⟩) hHeld ?_
  try simp only [Act.put, List.getElem_toArray, List.getElem_cons_succ, List.getElem_cons_zero, List.setIfInBounds_toArray, List.set_cons_zero, List.set_cons_succ]
  refine' wpAnyH_take (i := 12) (v := _) rfl (by kernel_rfl) (by kernel_rfl) (by kernel_rfl) (fun _ _ _ h => h) (yieldsIf_load_mid (by rfl) _ _ rfl w.heap.size 4 rfl (bRow r.prev).toList _ (fun w' hSw => (BT.out _ _ _ hSw.1).1) hu23 rfl hip) hHeld ?_
  try simp only [Act.put, List.getElem_toArray, List.getElem_cons_succ, List.getElem_cons_zero, List.setIfInBounds_toArray, List.set_cons_zero, List.set_cons_succ]
  refine wpAnyH_take (i := 14) (v := .pointer (some ⟨w.heap.size, 36, none⟩)) rfl (by kernel_rfl) (by kernel_rfl) (by kernel_rfl) (fun _ _ _ h => h) (Or.inl ⟨by rfl, fun w' hSw => by go_simp⟩) hHeld ?_
  try simp only [Act.put, List.getElem_toArray, List.getElem_cons_succ, List.getElem_cons_zero, List.setIfInBounds_toArray, List.set_cons_zero, List.set_cons_succ]
  refine' wpAnyH_take (i := 15) (v := _) rfl (by kernel_rfl) (by kernel_rfl) (by kernel_rfl) (fun _ _ _ h => h) (yieldsIf_load_mid (by rfl) _ _ rfl w.heap.size 36 rfl (bRow r.hash).toList _ (fun w' hSw => (BT.out _ _ _ hSw.1).2) hu23 rfl hih) hHeld ?_
  try simp only [Act.put, List.getElem_toArray, List.getElem_cons_succ, List.getElem_cons_zero, List.setIfInBounds_toArray, List.set_cons_zero, List.set_cons_succ]
  refine wpAnyH_ready (rs := [2]) (by kernel_rfl) (by simp) (AllReadyH.cons rfl (fun K1 hK1 => ?_) AllReadyH.nil)
  try simp only [Act.put, List.getElem_toArray, List.getElem_cons_succ, List.getElem_cons_zero, List.setIfInBounds_toArray, List.set_cons_zero, List.set_cons_succ]
  go_simp
  refine Calls.mono (T0.out _) ?_
  rintro e wc1 ⟨rfl, hc2⟩
  refine hK1.out _ _ (hHeld.step hc2) (fun hHeld => ?_)
  clear hK1 K1
  try simp only [Act.put, List.getElem_toArray, List.getElem_cons_succ, List.getElem_cons_zero, List.setIfInBounds_toArray, List.set_cons_zero, List.set_cons_succ]
  refine wpAnyH_ready (rs := [5]) (by kernel_rfl) (by simp) (AllReadyH.cons rfl (fun K1 hK1 => ?_) AllReadyH.nil)
  try simp only [Act.put, List.getElem_toArray, List.getElem_cons_succ, List.getElem_cons_zero, List.setIfInBounds_toArray, List.set_cons_zero, List.set_cons_succ]
  go_simp
  refine Calls.mono (T1.out _) ?_
  rintro e wc3 ⟨rfl, hc4⟩
  refine hK1.out _ _ (hHeld.step hc4) (fun hHeld => ?_)
  clear hK1 K1
  try simp only [Act.put, List.getElem_toArray, List.getElem_cons_succ, List.getElem_cons_zero, List.setIfInBounds_toArray, List.set_cons_zero, List.set_cons_succ]
  refine wpAnyH_ready (rs := [8]) (by kernel_rfl) (by simp) (AllReadyH.cons rfl (fun K1 hK1 => ?_) AllReadyH.nil)
  try simp only [Act.put, List.getElem_toArray, List.getElem_cons_succ, List.getElem_cons_zero, List.setIfInBounds_toArray, List.set_cons_zero, List.set_cons_succ]
  go_simp
  refine Calls.mono (T2.out _) ?_
  rintro e wc5 ⟨rfl, hc6⟩
  refine hK1.out _ _ (hHeld.step hc6) (fun hHeld => ?_)
  clear hK1 K1
  try simp only [Act.put, List.getElem_toArray, List.getElem_cons_succ, List.getElem_cons_zero, List.setIfInBounds_toArray, List.set_cons_zero, List.set_cons_succ]
  refine wpAnyH_ready (rs := [13]) (by kernel_rfl) (by simp) (AllReadyH.cons rfl (fun K1 hK1 => ?_) AllReadyH.nil)
  try simp only [Act.put, List.getElem_toArray, List.getElem_cons_succ, List.getElem_cons_zero, List.setIfInBounds_toArray, List.set_cons_zero, List.set_cons_succ]
  go_simp
  refine Calls.mono (BY0.out _) ?_
  rintro e wc7 ⟨rfl, hc8⟩
  refine hK1.out _ _ (hHeld.step hc8) (fun hHeld => ?_)
  clear hK1 K1
  try simp only [Act.put, List.getElem_toArray, List.getElem_cons_succ, List.getElem_cons_zero, List.setIfInBounds_toArray, List.set_cons_zero, List.set_cons_succ]
  refine wpAnyH_ready (rs := [16]) (by kernel_rfl) (by simp) (AllReadyH.cons rfl (fun K1 hK1 => ?_) AllReadyH.nil)
  try simp only [Act.put, List.getElem_toArray, List.getElem_cons_succ, List.getElem_cons_zero, List.setIfInBounds_toArray, List.set_cons_zero, List.set_cons_succ]
  go_simp
  refine Calls.mono (BY1.out _) ?_
  rintro e wc9 ⟨rfl, hc10⟩
  refine hK1.out _ _ (hHeld.step hc10) (fun hHeld => ?_)
  clear hK1 K1
  try simp only [Act.put, List.getElem_toArray, List.getElem_cons_succ, List.getElem_cons_zero, List.setIfInBounds_toArray, List.set_cons_zero, List.set_cons_succ]
  refine wpAnyH_ready (rs := [17]) (by kernel_rfl) (by simp) (AllReadyH.cons rfl (fun K1 hK1 => ?_) AllReadyH.nil)
  try simp only [Act.put, List.getElem_toArray, List.getElem_cons_succ, List.getElem_cons_zero, List.setIfInBounds_toArray, List.set_cons_zero, List.set_cons_succ]
  go_simp
  have hd12 := (Below.refl wc9.heap.size wc9).alloc (Nat.le_refl _) (.cells #[S t0, S t1, S t2, .string r.body, S r.prev, S r.hash] 9)
  have r2 : Row (wc9.alloc (.cells #[S t0, S t1, S t2, .string r.body, S r.prev, S r.hash] 9)) wc9.heap.size 9 ([S t0, S t1, S t2, .string r.body, S r.prev, S r.hash]) := Row.new wc9 9 ([S t0, S t1, S t2, .string r.body, S r.prev, S r.hash])
  have hHeld2 := hHeld.step hd12
  generalize wc9.alloc (.cells #[S t0, S t1, S t2, .string r.body, S r.prev, S r.hash] 9) = wb11 at *
  obtain ⟨gb13, gb13e⟩ : ∃ gb13, gb13 = wc9.heap.size := ⟨_, rfl⟩
  rw [← gb13e] at r2 ⊢
  refine hK1.out _ _ (hHeld2) (fun hHeld => ?_)
  clear hK1 K1
  try simp only [Act.put, List.getElem_toArray, List.getElem_cons_succ, List.getElem_cons_zero, List.setIfInBounds_toArray, List.set_cons_zero, List.set_cons_succ]
  clear hHeld2 gb13e
  refine wpAnyH_ready (rs := [18]) (by kernel_rfl) (by simp) (AllReadyH.cons rfl (fun K1 hK1 => ?_) AllReadyH.nil)
  try simp only [Act.put, List.getElem_toArray, List.getElem_cons_succ, List.getElem_cons_zero, List.setIfInBounds_toArray, List.set_cons_zero, List.set_cons_succ]
  go_simp
  refine Calls.mono (list5_row L r2 Hff.out 6 6 Hfl.out) ?_
  rintro e wl14 ⟨rfl, hl15⟩
  clear r2
  refine hK1.out _ _ (hHeld.step hl15) (fun hHeld => ?_)
  clear hK1 K1
  try simp only [Act.put, List.getElem_toArray, List.getElem_cons_succ, List.getElem_cons_zero, List.setIfInBounds_toArray, List.set_cons_zero, List.set_cons_succ]
  refine wpAnyH_take (i := 19) (v := S (Oct.listE L).1) rfl (by kernel_rfl) (by kernel_rfl) (by kernel_rfl) (fun _ _ _ h => h) (Or.inl ⟨by rfl, fun w' hSw => by go_simp⟩) hHeld ?_
  try simp only [Act.put, List.getElem_toArray, List.getElem_cons_succ, List.getElem_cons_zero, List.setIfInBounds_toArray, List.set_cons_zero, List.set_cons_succ]
  refine wpAnyH_take (i := 20) (v := .int .i64 (Oct.listE L).2) rfl (by kernel_rfl) (by kernel_rfl) (by kernel_rfl) (fun _ _ _ h => h) (Or.inl ⟨by rfl, fun w' hSw => by go_simp⟩) hHeld ?_
  try simp only [Act.put, List.getElem_toArray, List.getElem_cons_succ, List.getElem_cons_zero, List.setIfInBounds_toArray, List.set_cons_zero, List.set_cons_succ]
  refine wpAnyH_take (i := 21) (v := S (Oct.listE L).1) rfl (by kernel_rfl) (by kernel_rfl) (by kernel_rfl) (fun _ _ _ h => h) (Or.inl ⟨by rfl, fun w' hSw => by go_simp⟩) hHeld ?_
  try simp only [Act.put, List.getElem_toArray, List.getElem_cons_succ, List.getElem_cons_zero, List.setIfInBounds_toArray, List.set_cons_zero, List.set_cons_succ]
  refine wpAnyH_take (i := 22) (v := .int .i64 (Oct.listE L).2) rfl (by kernel_rfl) (by kernel_rfl) (by kernel_rfl) (fun _ _ _ h => h) (Or.inl ⟨by rfl, fun w' hSw => by go_simp⟩) hHeld ?_
  try simp only [Act.put, List.getElem_toArray, List.getElem_cons_succ, List.getElem_cons_zero, List.setIfInBounds_toArray, List.set_cons_zero, List.set_cons_succ]
  refine wpAnyH_done (by kernel_rfl) ?_ _
  have Hbe := Lib.hid hHeld.2
  clear hHeld hu23 hip hih
  go_wp2_with fail
  go_ret2
  exact ⟨rfl, Hbe.out⟩
theorem rwriteReceipt_any (hRS : RefSum) (r : Rp) (hf : r.Fits) (w : World) :
    Calls Tryd.prog 38 #[r.v] w fun e w' => e = .returned (two r.textE.1 r.textE.2) ∧ Below w.heap.size w w' := by
  unfold Rp.textE
  rcases Bool.eq_false_or_eq_true r.ok with h | h
  · rw [if_pos h]
    by_cases hl : r.hash = r.link
    · rw [if_pos hl]; exact rwriteReceipt_eq hRS r hf w h hl
    · rw [if_neg hl]; exact rwriteReceipt_ne hRS r hf w h hl
  · rw [if_neg (by rw [h]; simp)]; exact rwriteReceipt_no hRS r hf w h
end Go.Proofs.YtdekcicgiflnbaaDoor
