/- The reference of layer 5: Link. -/
import Derived.Test.YtdekcicgiflnbaaDoorNoRef2
import Derived.Test.YtdekcicgiflnbaaDoorNoRc3
import Derived.Test.YtdekcicgiflnbaaDoorNoReg
namespace Go.Proofs.YtdekcicgiflnbaaDoor
open Go.RowKit
set_option linter.unusedVariables false
set_option linter.unusedSimpArgs false

theorem rp_six (a b c : Int) (s : ByteArray) (R Q : List UInt8) (hR : R.length = 32) (hQ : Q.length = 32) :
    Tryd.prog.built 48 [(0, .int .i64 a), (1, .int .i64 b), (2, .int .i64 c), (3, .string s), (4, .agg (bRow R)), (5, .agg (bRow Q))] = some (Rp.cells ⟨a, b, c, s, R, Q⟩).toArray := by
  have hr := Tx.bRow_len R hR
  have hq := Tx.bRow_len Q hQ
  have hL := Rp.cells_len (r := Rp.zero) rfl rfl
  have h5 := rp_five a b c s R hR
  have hY := Rp.cells_len (r := ⟨a, b, c, s, R, Tx.zero⟩) hR rfl
  have hput := Rp.put_hash (r := ⟨a, b, c, s, R, Tx.zero⟩) hR rfl Q hQ
  rw [hq] at hput
  generalize Rp.cells ⟨a, b, c, s, R, Tx.zero⟩ = Y at *
  have p0 : ((#[(0, 1), (1, 1), (2, 1), (3, 1), (4, 32), (36, 32)] : Array (Nat × Nat))[0]?) = some (0, 1) := rfl
  rw [rp_built] at h5 ⊢
  rw [fill_step _ _ 0 _ [.int .i64 a] _ 0 1 rfl rfl rfl (by rw [hL]; omega)] at h5 ⊢
  rw [fill_step _ _ 1 _ [.int .i64 b] _ 1 1 rfl rfl rfl (by simp only [List.length_append, List.length_take, List.length_drop, List.length_cons, List.length_nil, hL]; omega)] at h5 ⊢
  rw [fill_step _ _ 2 _ [.int .i64 c] _ 2 1 rfl rfl rfl (by simp only [List.length_append, List.length_take, List.length_drop, List.length_cons, List.length_nil, hL]; omega)] at h5 ⊢
  rw [fill_step _ _ 3 _ [.string s] _ 3 1 rfl rfl rfl (by simp only [List.length_append, List.length_take, List.length_drop, List.length_cons, List.length_nil, hL]; omega)] at h5 ⊢
  rw [fill_step _ _ 4 _ (bRow R).toList _ 4 32 rfl (by simp [Value.cells]) hr (by simp only [List.length_append, List.length_take, List.length_drop, List.length_cons, List.length_nil, hL]; omega)] at h5 ⊢
  rw [fill_end] at h5
  rw [Option.some.inj h5]
  rw [fill_step _ _ 5 _ (bRow Q).toList _ 36 32 rfl (by simp [Value.cells]) hq (by rw [hY]; omega), fill_end, hput]
/-- what Link's drawn statement counts on -/
def LinkIn (w0 W : World) (p : List UInt8) : Prop := Below w0.heap.size w0 W ∧ Row W w0.heap.size 23 (bRow p).toList ∧ ∃ Z : List Value, Z.length = 68 ∧ Row W (w0.heap.size + 1) 48 Z
theorem LinkIn.step {w0 W W' : World} {p : List UInt8} (h : LinkIn w0 W p) (hb : Below W.heap.size W W') : LinkIn w0 W' p := by
  obtain ⟨h1, h2, Z, h3, h4⟩ := h
  have hg := grownBy_of_below hb none
  exact ⟨two_below' h1 hb, h2.kept hg (by simp), Z, h3, h4.kept hg (by simp)⟩
theorem LinkIn.put {w0 W W' : World} {p : List UInt8} {Z : List Value} (h : LinkIn w0 W p) (hg : W.grownBy W' (some (w0.heap.size + 1))) (hZ : Z.length = 68) (hr : Row W' (w0.heap.size + 1) 48 Z) : LinkIn w0 W' p :=
  ⟨h.1.grown hg h.1.size (fun k hk => by cases hk; omega), h.2.1.kept hg (by simp), Z, hZ, hr⟩
set_option maxRecDepth 20000 in
theorem rlink5_n0 (a k n : Int) (body : ByteArray) (p : List UInt8) (hp : p.length = 32) (w : World) (b1 : (decide (0 ≤ a) && decide (a ≤ 1099511627776)) = false) :
    Calls Tryd.prog 40 #[.agg (bRow p), .int .i64 a, .int .i64 k, .int .i64 n, .string body] w fun e w' => e = .returned (.tuple #[.agg Rp.zero.cells.toArray, .int .i64 2]) ∧ Below w.heap.size w w' := by
  have HZL := Lib.hid (Rp.cells_len (r := Rp.zero) rfl rfl)
  have HZ1 := Lib.hid (Rp.cells_one (r := Rp.zero) rfl rfl)
  have hzv : ∀ W : World, (zeroValue 48).run Tryd.prog W = .ok (.agg Rp.zero.cells.toArray) W := fun W => by kernel_rfl
  have N1 := Lib.hid (within5_b a 1099511627776 _ b1)
  clear b1
  have H2 := Lib.hid (row_two w (bRow p) Rp.zero.cells.toArray 23 48)
  have Hr2 : Hid (Row ((w.alloc (.cells (bRow p) 23)).alloc (.cells Rp.zero.cells.toArray 48)) (w.heap.size + 1) 48 Rp.zero.cells) := Lib.hid H2.out.1
  go_enter Tryd.func40, Tryd.ntmps40
  go_wp2_with fail
  refine (N1.out _).mono ?_
  rintro _ w1 ⟨rfl, rfl⟩
  have HRn : Hid (Rp.zero = Rp.zero) := Lib.hid rfl
  clear hzv
  go_wp2_with (first
    | (with_reducible show wpList _ _ _ (⟨_, .build 48 _, _, _, _, _⟩ :: _) _ _; refine wpList_buildL rfl 48 [] rfl (some 35) rfl _ rfl _ Rp.zero_built0 ?_)
    | (with_reducible show wpList _ _ _ (⟨_, .store 48 _ _, _, _, _, _⟩ :: _) _ _
       refine wpList_store_at rfl 48 (.tmp 10) (.tmp 35) rfl (w.heap.size + 1) 0 Rp.zero.cells _ _ rfl rfl Hr2.out (by have := HZL.out; omega) (by rw [rp_info, HZL.out]) HZ1.out ?_
       intro wZ hrZ hgZ
       rw [splice_all rfl] at hrZ
       have HrZ := Lib.hid hrZ
       have HbZ := Lib.hid (below_own H2.out.2.1 hgZ (fun k hk => by cases hk; omega))
       clear hrZ hgZ))
  refine bodyPost_ret (results_rowL rfl _ _ (w.heap.size + 1) 48 _ _ rfl HrZ.out Tryd.underlying48 rfl (by rw [rp_info, List.size_toArray, HZL.out]) _ rfl) rfl ⟨?_, HbZ.out⟩
  exact rfl
set_option maxRecDepth 20000 in
theorem rlink5_n1 (a k n : Int) (body : ByteArray) (p : List UInt8) (hp : p.length = 32) (w : World) (b1 : (decide (0 ≤ a) && decide (a ≤ 1099511627776)) = true) (b2 : (decide (0 ≤ n) && decide (n ≤ 1099511627776)) = false) :
    Calls Tryd.prog 40 #[.agg (bRow p), .int .i64 a, .int .i64 k, .int .i64 n, .string body] w fun e w' => e = .returned (.tuple #[.agg Rp.zero.cells.toArray, .int .i64 2]) ∧ Below w.heap.size w w' := by
  have HZL := Lib.hid (Rp.cells_len (r := Rp.zero) rfl rfl)
  have HZ1 := Lib.hid (Rp.cells_one (r := Rp.zero) rfl rfl)
  have hzv : ∀ W : World, (zeroValue 48).run Tryd.prog W = .ok (.agg Rp.zero.cells.toArray) W := fun W => by kernel_rfl
  have N1 := Lib.hid (within5_b a 1099511627776 _ b1)
  have N2 := Lib.hid (within5_b n 1099511627776 _ b2)
  clear b1 b2
  have H2 := Lib.hid (row_two w (bRow p) Rp.zero.cells.toArray 23 48)
  have Hr2 : Hid (Row ((w.alloc (.cells (bRow p) 23)).alloc (.cells Rp.zero.cells.toArray 48)) (w.heap.size + 1) 48 Rp.zero.cells) := Lib.hid H2.out.1
  go_enter Tryd.func40, Tryd.ntmps40
  go_wp2_with fail
  refine (N1.out _).mono ?_
  rintro _ w1 ⟨rfl, rfl⟩
  go_wp2_with fail
  refine (N2.out _).mono ?_
  rintro _ w1 ⟨rfl, rfl⟩
  have HRn : Hid (Rp.zero = Rp.zero) := Lib.hid rfl
  clear hzv
  go_wp2_with (first
    | (with_reducible show wpList _ _ _ (⟨_, .build 48 _, _, _, _, _⟩ :: _) _ _; refine wpList_buildL rfl 48 [] rfl (some 35) rfl _ rfl _ Rp.zero_built0 ?_)
    | (with_reducible show wpList _ _ _ (⟨_, .store 48 _ _, _, _, _, _⟩ :: _) _ _
       refine wpList_store_at rfl 48 (.tmp 10) (.tmp 35) rfl (w.heap.size + 1) 0 Rp.zero.cells _ _ rfl rfl Hr2.out (by have := HZL.out; omega) (by rw [rp_info, HZL.out]) HZ1.out ?_
       intro wZ hrZ hgZ
       rw [splice_all rfl] at hrZ
       have HrZ := Lib.hid hrZ
       have HbZ := Lib.hid (below_own H2.out.2.1 hgZ (fun k hk => by cases hk; omega))
       clear hrZ hgZ))
  refine bodyPost_ret (results_rowL rfl _ _ (w.heap.size + 1) 48 _ _ rfl HrZ.out Tryd.underlying48 rfl (by rw [rp_info, List.size_toArray, HZL.out]) _ rfl) rfl ⟨?_, HbZ.out⟩
  exact rfl
set_option maxRecDepth 20000 in
theorem rlink5_n2 (a k n : Int) (body : ByteArray) (p : List UInt8) (hp : p.length = 32) (w : World) (b1 : (decide (0 ≤ a) && decide (a ≤ 1099511627776)) = true) (b2 : (decide (0 ≤ n) && decide (n ≤ 1099511627776)) = true) (k1 : (k != 1) = true) (k2 : (k != 2) = true) :
    Calls Tryd.prog 40 #[.agg (bRow p), .int .i64 a, .int .i64 k, .int .i64 n, .string body] w fun e w' => e = .returned (.tuple #[.agg Rp.zero.cells.toArray, .int .i64 2]) ∧ Below w.heap.size w w' := by
  have HZL := Lib.hid (Rp.cells_len (r := Rp.zero) rfl rfl)
  have HZ1 := Lib.hid (Rp.cells_one (r := Rp.zero) rfl rfl)
  have hzv : ∀ W : World, (zeroValue 48).run Tryd.prog W = .ok (.agg Rp.zero.cells.toArray) W := fun W => by kernel_rfl
  have N1 := Lib.hid (within5_b a 1099511627776 _ b1)
  have N2 := Lib.hid (within5_b n 1099511627776 _ b2)
  clear b1 b2
  have H2 := Lib.hid (row_two w (bRow p) Rp.zero.cells.toArray 23 48)
  have Hr2 : Hid (Row ((w.alloc (.cells (bRow p) 23)).alloc (.cells Rp.zero.cells.toArray 48)) (w.heap.size + 1) 48 Rp.zero.cells) := Lib.hid H2.out.1
  go_enter Tryd.func40, Tryd.ntmps40
  go_wp2_with fail
  refine (N1.out _).mono ?_
  rintro _ w1 ⟨rfl, rfl⟩
  go_wp2_with fail
  refine (N2.out _).mono ?_
  rintro _ w1 ⟨rfl, rfl⟩
  have HRn : Hid (Rp.zero = Rp.zero) := Lib.hid rfl
  clear hzv
  go_wp2_with (first
    | (with_reducible show wpList _ _ _ (⟨_, .build 48 _, _, _, _, _⟩ :: _) _ _; refine wpList_buildL rfl 48 [] rfl (some 35) rfl _ rfl _ Rp.zero_built0 ?_)
    | (with_reducible show wpList _ _ _ (⟨_, .store 48 _ _, _, _, _, _⟩ :: _) _ _
       refine wpList_store_at rfl 48 (.tmp 10) (.tmp 35) rfl (w.heap.size + 1) 0 Rp.zero.cells _ _ rfl rfl Hr2.out (by have := HZL.out; omega) (by rw [rp_info, HZL.out]) HZ1.out ?_
       intro wZ hrZ hgZ
       rw [splice_all rfl] at hrZ
       have HrZ := Lib.hid hrZ
       have HbZ := Lib.hid (below_own H2.out.2.1 hgZ (fun k hk => by cases hk; omega))
       clear hrZ hgZ))
  refine bodyPost_ret (results_rowL rfl _ _ (w.heap.size + 1) 48 _ _ rfl HrZ.out Tryd.underlying48 rfl (by rw [rp_info, List.size_toArray, HZL.out]) _ rfl) rfl ⟨?_, HbZ.out⟩
  exact rfl
set_option maxRecDepth 20000 in
theorem rlink5_n3 (a k n : Int) (body : ByteArray) (p : List UInt8) (hp : p.length = 32) (w : World) (b1 : (decide (0 ≤ a) && decide (a ≤ 1099511627776)) = true) (b2 : (decide (0 ≤ n) && decide (n ≤ 1099511627776)) = true) (k1 : (k != 1) = false) (s0 : ((656 : Int) < (body.size : Int))) :
    Calls Tryd.prog 40 #[.agg (bRow p), .int .i64 a, .int .i64 k, .int .i64 n, .string body] w fun e w' => e = .returned (.tuple #[.agg Rp.zero.cells.toArray, .int .i64 2]) ∧ Below w.heap.size w w' := by
  have HZL := Lib.hid (Rp.cells_len (r := Rp.zero) rfl rfl)
  have HZ1 := Lib.hid (Rp.cells_one (r := Rp.zero) rfl rfl)
  have hzv : ∀ W : World, (zeroValue 48).run Tryd.prog W = .ok (.agg Rp.zero.cells.toArray) W := fun W => by kernel_rfl
  have N1 := Lib.hid (within5_b a 1099511627776 _ b1)
  have N2 := Lib.hid (within5_b n 1099511627776 _ b2)
  clear b1 b2
  have H2 := Lib.hid (row_two w (bRow p) Rp.zero.cells.toArray 23 48)
  have Hr2 : Hid (Row ((w.alloc (.cells (bRow p) 23)).alloc (.cells Rp.zero.cells.toArray 48)) (w.heap.size + 1) 48 Rp.zero.cells) := Lib.hid H2.out.1
  go_enter Tryd.func40, Tryd.ntmps40
  go_wp2_with fail
  refine (N1.out _).mono ?_
  rintro _ w1 ⟨rfl, rfl⟩
  go_wp2_with fail
  refine (N2.out _).mono ?_
  rintro _ w1 ⟨rfl, rfl⟩
  have HRn : Hid (Rp.zero = Rp.zero) := Lib.hid rfl
  clear hzv
  go_wp2_with (first
    | (with_reducible show wpList _ _ _ (⟨_, .build 48 _, _, _, _, _⟩ :: _) _ _; refine wpList_buildL rfl 48 [] rfl (some 35) rfl _ rfl _ Rp.zero_built0 ?_)
    | (with_reducible show wpList _ _ _ (⟨_, .store 48 _ _, _, _, _, _⟩ :: _) _ _
       refine wpList_store_at rfl 48 (.tmp 10) (.tmp 35) rfl (w.heap.size + 1) 0 Rp.zero.cells _ _ rfl rfl Hr2.out (by have := HZL.out; omega) (by rw [rp_info, HZL.out]) HZ1.out ?_
       intro wZ hrZ hgZ
       rw [splice_all rfl] at hrZ
       have HrZ := Lib.hid hrZ
       have HbZ := Lib.hid (below_own H2.out.2.1 hgZ (fun k hk => by cases hk; omega))
       clear hrZ hgZ))
  refine bodyPost_ret (results_rowL rfl _ _ (w.heap.size + 1) 48 _ _ rfl HrZ.out Tryd.underlying48 rfl (by rw [rp_info, List.size_toArray, HZL.out]) _ rfl) rfl ⟨?_, HbZ.out⟩
  exact rfl
set_option maxRecDepth 20000 in
theorem rlink5_n4 (a k n : Int) (body : ByteArray) (p : List UInt8) (hp : p.length = 32) (w : World) (b1 : (decide (0 ≤ a) && decide (a ≤ 1099511627776)) = true) (b2 : (decide (0 ≤ n) && decide (n ≤ 1099511627776)) = true) (k1 : (k != 1) = true) (k2 : (k != 2) = false) (s0 : ((656 : Int) < (body.size : Int))) :
    Calls Tryd.prog 40 #[.agg (bRow p), .int .i64 a, .int .i64 k, .int .i64 n, .string body] w fun e w' => e = .returned (.tuple #[.agg Rp.zero.cells.toArray, .int .i64 2]) ∧ Below w.heap.size w w' := by
  have HZL := Lib.hid (Rp.cells_len (r := Rp.zero) rfl rfl)
  have HZ1 := Lib.hid (Rp.cells_one (r := Rp.zero) rfl rfl)
  have hzv : ∀ W : World, (zeroValue 48).run Tryd.prog W = .ok (.agg Rp.zero.cells.toArray) W := fun W => by kernel_rfl
  have N1 := Lib.hid (within5_b a 1099511627776 _ b1)
  have N2 := Lib.hid (within5_b n 1099511627776 _ b2)
  clear b1 b2
  have H2 := Lib.hid (row_two w (bRow p) Rp.zero.cells.toArray 23 48)
  have Hr2 : Hid (Row ((w.alloc (.cells (bRow p) 23)).alloc (.cells Rp.zero.cells.toArray 48)) (w.heap.size + 1) 48 Rp.zero.cells) := Lib.hid H2.out.1
  go_enter Tryd.func40, Tryd.ntmps40
  go_wp2_with fail
  refine (N1.out _).mono ?_
  rintro _ w1 ⟨rfl, rfl⟩
  go_wp2_with fail
  refine (N2.out _).mono ?_
  rintro _ w1 ⟨rfl, rfl⟩
  have HRn : Hid (Rp.zero = Rp.zero) := Lib.hid rfl
  clear hzv
  go_wp2_with (first
    | (with_reducible show wpList _ _ _ (⟨_, .build 48 _, _, _, _, _⟩ :: _) _ _; refine wpList_buildL rfl 48 [] rfl (some 35) rfl _ rfl _ Rp.zero_built0 ?_)
    | (with_reducible show wpList _ _ _ (⟨_, .store 48 _ _, _, _, _, _⟩ :: _) _ _
       refine wpList_store_at rfl 48 (.tmp 10) (.tmp 35) rfl (w.heap.size + 1) 0 Rp.zero.cells _ _ rfl rfl Hr2.out (by have := HZL.out; omega) (by rw [rp_info, HZL.out]) HZ1.out ?_
       intro wZ hrZ hgZ
       rw [splice_all rfl] at hrZ
       have HrZ := Lib.hid hrZ
       have HbZ := Lib.hid (below_own H2.out.2.1 hgZ (fun k hk => by cases hk; omega))
       clear hrZ hgZ))
  refine bodyPost_ret (results_rowL rfl _ _ (w.heap.size + 1) 48 _ _ rfl HrZ.out Tryd.underlying48 rfl (by rw [rp_info, List.size_toArray, HZL.out]) _ rfl) rfl ⟨?_, HbZ.out⟩
  exact rfl
set_option maxRecDepth 20000 in
set_option maxHeartbeats 1600000 in
theorem rlink5_y1 (hRS : RefSum) (a k n : Int) (body : ByteArray) (p : List UInt8) (hp : p.length = 32) (w : World) (b1 : (decide (0 ≤ a) && decide (a ≤ 1099511627776)) = true) (b2 : (decide (0 ≤ n) && decide (n ≤ 1099511627776)) = true) (k1 : (k != 1) = false) (s0 : ¬ ((656 : Int) < (body.size : Int))) :
    Calls Tryd.prog 40 #[.agg (bRow p), .int .i64 a, .int .i64 k, .int .i64 n, .string body] w fun e w' => e = .returned (.tuple #[.agg (Rp.linked ⟨a, k, n, body, p, Tx.zero⟩).cells.toArray, .int .i64 0]) ∧ Below w.heap.size w w' := by
  have HZL := Lib.hid (Rp.cells_len (r := Rp.zero) rfl rfl)
  have HZ1 := Lib.hid (Rp.cells_one (r := Rp.zero) rfl rfl)
  have hzv : ∀ W : World, (zeroValue 48).run Tryd.prog W = .ok (.agg Rp.zero.cells.toArray) W := fun W => by kernel_rfl
  have N1 := Lib.hid (within5_b a 1099511627776 _ b1)
  have N2 := Lib.hid (within5_b n 1099511627776 _ b2)
  obtain ⟨r, hr⟩ : ∃ r : Rp, r = ⟨a, k, n, body, p, Tx.zero⟩ := ⟨_, rfl⟩
  have hbu := rp_six a k n body p r.link hp (Rp.link_len r)
  have hD : Rp.cells ⟨a, k, n, body, p, r.link⟩ = r.linked.cells := by rw [hr]; rfl
  rw [hD] at hbu
  have hln : p.length = 32 ∧ r.link.length = 32 := ⟨hp, Rp.link_len r⟩
  have hbl := listE_len r.texts
  have hlk : Sha.sum (p ++ (Oct.listE r.texts).1) = r.link := by rw [hr]; rfl
  have CH : Hid (∀ W, Calls Tryd.prog 81 #[.agg (bRow p), S (Oct.listE r.texts).1] W fun e w' => e = .returned (.agg (bRow r.link)) ∧ Below W.heap.size W w') := fun W => by
    have := refChain_any hRS p ⟨(Oct.listE r.texts).1.toArray⟩ W hp (by show (Oct.listE r.texts).1.length ≤ _; omega)
    rw [show (⟨(Oct.listE r.texts).1.toArray⟩ : ByteArray).data.toList = (Oct.listE r.texts).1 from rfl, hlk] at this
    exact this
  have hc1 := b1
  have hc2 := b2
  simp at hc1 hc2
  have hkk : 0 ≤ k ∧ k ≤ 2 := by simp at k1; omega
  have T0 := Lib.hid (fun W => text5_any a W hc1.1 (by omega))
  have T1 := Lib.hid (fun W => text5_any k W hkk.1 (by omega))
  have T2 := Lib.hid (fun W => text5_any n W hc2.1 (by omega))
  have LB : Hid (∀ (W : World) (g : Nat), Row W g 9 [S (Oct.num a.toNat), S (Oct.num k.toNat), S (Oct.num n.toNat), .string body] → Calls Tryd.prog 75 #[.slice (some ⟨g, 0, none⟩) 4 4] W fun e w' => e = .returned (.tuple #[S (Oct.listE r.texts).1, .int .i64 (Oct.listE r.texts).2]) ∧ Below W.heap.size W w') := fun W g h => list5_row r.texts h (by rw [hr]; rfl) 4 4 (by rw [hr]; rfl)
  have HDL := Lib.hid (Rp.cells_len (r := r.linked) (by rw [hr]; exact hp) (Rp.link_len r))
  have HD1 := Lib.hid (Rp.cells_one (r := r.linked) (by rw [hr]; exact hp) (Rp.link_len r))
  have HPL := Lib.hid (Tx.bRow_len _ hp)
  have Hrow0 := Lib.hid (Row.new w 23 (bRow p).toList)
  have hq : (Rp.linkE ⟨a, k, n, body, p, Tx.zero⟩) = Rp.linkE r := by rw [hr]
  show Calls _ _ _ _ _
  have hlc : (Rp.mk a k n body p Tx.zero).linked.cells = r.linked.cells := by rw [hr]
  rw [hlc]
  generalize (Oct.listE r.texts).2 = en at *
  generalize (Oct.listE r.texts).1 = ts at *
  generalize r.linked.cells = D at *
  generalize r.link = K at *
  generalize Oct.num a.toNat = t0 at *
  generalize Oct.num k.toNat = t1 at *
  generalize Oct.num n.toNat = t2 at *
  clear b1 b2 hc1 hc2 hkk hr hD hln hbl hlk hq hlc hp hRS
  have H2 := Lib.hid (row_two w (bRow p) Rp.zero.cells.toArray 23 48)
  have Hbu := Lib.hid hbu
  clear hbu
  go_enter Tryd.func40, Tryd.ntmps40
  go_wp2_with fail
  refine (N1.out _).mono ?_
  rintro _ w1 ⟨rfl, rfl⟩
  go_wp2_with fail
  refine (N2.out _).mono ?_
  rintro _ w1 ⟨rfl, rfl⟩
  go_wp2_with fail
  refine calls_named ?_
  intro w1 hw1
  have hb1 : Below w.heap.size w w1 := by rw [hw1]; exact H2.out.2.1
  have hr1 : Row w1 (w.heap.size + 1) 48 Rp.zero.cells := by rw [hw1]; exact H2.out.1
  have hh1 : Row w1 w.heap.size 23 (bRow p).toList := by rw [hw1]; exact H2.out.2.2
  have HI1 : Hid (LinkIn w w1 p) := ⟨hb1, hh1, _, HZL.out, hr1⟩
  clear hw1 hb1 hr1 hh1 H2 hzv
  refine (T0.out _).mono ?_
  rintro _ w2 ⟨rfl, hb2⟩
  have HI2 := Lib.hid (HI1.out.step hb2)
  clear hb2
  go_wp2_with fail
  refine (T1.out _).mono ?_
  rintro _ w3 ⟨rfl, hb3⟩
  have HI3 := Lib.hid (HI2.out.step hb3)
  clear hb3
  go_wp2_with fail
  refine (T2.out _).mono ?_
  rintro _ w4 ⟨rfl, hb4⟩
  have HI4 := Lib.hid (HI3.out.step hb4)
  clear hb4
  go_wp2_with fail
  refine calls_named ?_
  intro w5 hw5
  have hr5 : Row w5 w4.heap.size 9 [S t0, S t1, S t2, .string body] := by rw [hw5]; exact Row.new w4 9 [S t0, S t1, S t2, .string body]
  have HI5 : Hid (LinkIn w w5 p) := by rw [hw5]; exact HI4.out.step ((Below.refl _ _).alloc (Nat.le_refl _) _)
  clear hw5
  refine (LB.out w5 _ hr5).mono ?_
  rintro _ w6 ⟨rfl, hb6⟩
  have HS0 : Hid (LinkIn w w6.drew p) := (HI5.out.step hb6).step (Below.refl _ _).drew
  have hu23 := Tryd.underlying23
  have hi23 : (Tryd.prog.info? 23).map (·.size) = some (bRow p).toList.length := by rw [hash_info, HPL.out]
  clear hb6 hr5
  go_wp2_with fail
  refine wp_region_held_drew (S := fun w' => LinkIn w w' p) (by kernel_rfl) (HS0.out) (fun hHeld => ?_)
  generalize w6.drew = w9 at *
  refine wpAnyH_take (i := 0) (v := .int .i64 a) rfl (by kernel_rfl) (by kernel_rfl) (by kernel_rfl) (fun _ _ _ h => h) (Or.inl ⟨by rfl, fun w' hSw => by go_simp⟩) hHeld ?_
  try simp only [Act.put, List.getElem_toArray, List.getElem_cons_succ, List.getElem_cons_zero, List.setIfInBounds_toArray, List.set_cons_zero, List.set_cons_succ]
  refine wpAnyH_take (i := 1) (v := .int .i64 k) rfl (by kernel_rfl) (by kernel_rfl) (by kernel_rfl) (fun _ _ _ h => h) (Or.inl ⟨by rfl, fun w' hSw => by go_simp⟩) hHeld ?_
  try simp only [Act.put, List.getElem_toArray, List.getElem_cons_succ, List.getElem_cons_zero, List.setIfInBounds_toArray, List.set_cons_zero, List.set_cons_succ]
  refine wpAnyH_take (i := 2) (v := .int .i64 n) rfl (by kernel_rfl) (by kernel_rfl) (by kernel_rfl) (fun _ _ _ h => h) (Or.inl ⟨by rfl, fun w' hSw => by go_simp⟩) hHeld ?_
  try simp only [Act.put, List.getElem_toArray, List.getElem_cons_succ, List.getElem_cons_zero, List.setIfInBounds_toArray, List.set_cons_zero, List.set_cons_succ]
  refine wpAnyH_take (i := 3) (v := .string body) rfl (by kernel_rfl) (by kernel_rfl) (by kernel_rfl) (fun _ _ _ h => h) (Or.inl ⟨by rfl, fun w' hSw => by go_simp⟩) hHeld ?_
  try simp only [Act.put, List.getElem_toArray, List.getElem_cons_succ, List.getElem_cons_zero, List.setIfInBounds_toArray, List.set_cons_zero, List.set_cons_succ]
  refine' wpAnyH_take (i := 4) (v := _) rfl (by kernel_rfl) (by kernel_rfl) (by kernel_rfl) (fun _ _ _ h => h) (yieldsIf_load_mid (by rfl) _ _ rfl w.heap.size 0 rfl (bRow p).toList _ (fun w' hSw => (row_range hSw.2.1)) hu23 rfl hi23) hHeld ?_
  try simp only [Act.put, List.getElem_toArray, List.getElem_cons_succ, List.getElem_cons_zero, List.setIfInBounds_toArray, List.set_cons_zero, List.set_cons_succ]
  refine' wpAnyH_take (i := 5) (v := _) rfl (by kernel_rfl) (by kernel_rfl) (by kernel_rfl) (fun _ _ _ h => h) (yieldsIf_load_mid (by rfl) _ _ rfl w.heap.size 0 rfl (bRow p).toList _ (fun w' hSw => (row_range hSw.2.1)) hu23 rfl hi23) hHeld ?_
  try simp only [Act.put, List.getElem_toArray, List.getElem_cons_succ, List.getElem_cons_zero, List.setIfInBounds_toArray, List.set_cons_zero, List.set_cons_succ]
  refine wpAnyH_take (i := 6) (v := S ts) rfl (by kernel_rfl) (by kernel_rfl) (by kernel_rfl) (fun _ _ _ h => h) (Or.inl ⟨by rfl, fun w' hSw => by go_simp⟩) hHeld ?_
  try simp only [Act.put, List.getElem_toArray, List.getElem_cons_succ, List.getElem_cons_zero, List.setIfInBounds_toArray, List.set_cons_zero, List.set_cons_succ]
  refine wpAnyH_ready (rs := [7]) (by kernel_rfl) (by simp) (AllReadyH.cons rfl (fun K1 hK1 => ?_) AllReadyH.nil)
  try simp only [Act.put, List.getElem_toArray, List.getElem_cons_succ, List.getElem_cons_zero, List.setIfInBounds_toArray, List.set_cons_zero, List.set_cons_succ]
  go_simp
  refine Calls.mono (CH.out _) ?_
  rintro e wc1 ⟨rfl, hc2⟩
  refine hK1.out _ _ (hHeld.step hc2) (fun hHeld => ?_)
  clear hK1 K1
  try simp only [Act.put, List.getElem_toArray, List.getElem_cons_succ, List.getElem_cons_zero, List.setIfInBounds_toArray, List.set_cons_zero, List.set_cons_succ]
  refine' wpAnyH_take (i := 8) (v := .agg D.toArray) rfl (by kernel_rfl) (by kernel_rfl) (by kernel_rfl) (fun _ _ _ h => h) (yieldsIf_buildL (by rfl) 48 [(0, .tmp 48), (1, .tmp 49), (2, .tmp 50), (3, .tmp 51), (4, .tmp 52), (5, .tmp 55)] rfl [(0, .int .i64 a), (1, .int .i64 k), (2, .int .i64 n), (3, .string body), (4, .agg (bRow p)), (5, .agg (bRow K))] rfl D.toArray Hbu.out) hHeld ?_
  try simp only [Act.put, List.getElem_toArray, List.getElem_cons_succ, List.getElem_cons_zero, List.setIfInBounds_toArray, List.set_cons_zero, List.set_cons_succ]
  refine wpAnyH_ready (rs := [9]) (by kernel_rfl) (by simp) (AllReadyH.cons rfl (fun K1 hK1 => ?_) AllReadyH.nil)
  try simp only [Act.put, List.getElem_toArray, List.getElem_cons_succ, List.getElem_cons_zero, List.setIfInBounds_toArray, List.set_cons_zero, List.set_cons_succ]
  obtain ⟨Z, hZl, hZr⟩ := hHeld.2.2
  rw [if_pos (by rfl)]
  refine wp_store_at 48 (.tmp 10) (.tmp 56) rfl (w.heap.size + 1) 0 D _ _ rfl rfl hZr (by have := HDL.out; omega) (by rw [rp_info, HDL.out]) HD1.out ?_
  intro ws3 hrS hgS
  rw [splice_all (HDL.out.trans hZl.symm)] at hrS
  have HrS := Lib.hid hrS
  have hHeld2 := hHeld.put hgS HDL.out hrS
  clear hrS hgS
  refine hK1.out _ _ (hHeld2) (fun hHeld => ?_)
  clear hK1 K1
  try simp only [Act.put, List.getElem_toArray, List.getElem_cons_succ, List.getElem_cons_zero, List.setIfInBounds_toArray, List.set_cons_zero, List.set_cons_succ]
  clear hHeld2
  refine wpAnyH_take (i := 10) (v := .int .i64 0) rfl (by kernel_rfl) (by kernel_rfl) (by kernel_rfl) (fun _ _ _ h => h) (Or.inl ⟨by rfl, fun w' hSw => by go_simp⟩) hHeld ?_
  try simp only [Act.put, List.getElem_toArray, List.getElem_cons_succ, List.getElem_cons_zero, List.setIfInBounds_toArray, List.set_cons_zero, List.set_cons_succ]
  refine wpAnyH_done (by kernel_rfl) ?_ _
  go_wp2_with fail
  have Hb9 := Lib.hid hHeld.1
  clear hHeld hu23 hi23
  refine bodyPost_ret (results_rowL rfl _ _ (w.heap.size + 1) 48 _ _ rfl HrS.out Tryd.underlying48 rfl (by rw [rp_info, List.size_toArray, HDL.out]) _ rfl) rfl ⟨rfl, Hb9.out⟩
set_option maxRecDepth 20000 in
set_option maxHeartbeats 1600000 in
theorem rlink5_y2 (hRS : RefSum) (a k n : Int) (body : ByteArray) (p : List UInt8) (hp : p.length = 32) (w : World) (b1 : (decide (0 ≤ a) && decide (a ≤ 1099511627776)) = true) (b2 : (decide (0 ≤ n) && decide (n ≤ 1099511627776)) = true) (k1 : (k != 1) = true) (k2 : (k != 2) = false) (s0 : ¬ ((656 : Int) < (body.size : Int))) :
    Calls Tryd.prog 40 #[.agg (bRow p), .int .i64 a, .int .i64 k, .int .i64 n, .string body] w fun e w' => e = .returned (.tuple #[.agg (Rp.linked ⟨a, k, n, body, p, Tx.zero⟩).cells.toArray, .int .i64 0]) ∧ Below w.heap.size w w' := by
  have HZL := Lib.hid (Rp.cells_len (r := Rp.zero) rfl rfl)
  have HZ1 := Lib.hid (Rp.cells_one (r := Rp.zero) rfl rfl)
  have hzv : ∀ W : World, (zeroValue 48).run Tryd.prog W = .ok (.agg Rp.zero.cells.toArray) W := fun W => by kernel_rfl
  have N1 := Lib.hid (within5_b a 1099511627776 _ b1)
  have N2 := Lib.hid (within5_b n 1099511627776 _ b2)
  obtain ⟨r, hr⟩ : ∃ r : Rp, r = ⟨a, k, n, body, p, Tx.zero⟩ := ⟨_, rfl⟩
  have hbu := rp_six a k n body p r.link hp (Rp.link_len r)
  have hD : Rp.cells ⟨a, k, n, body, p, r.link⟩ = r.linked.cells := by rw [hr]; rfl
  rw [hD] at hbu
  have hln : p.length = 32 ∧ r.link.length = 32 := ⟨hp, Rp.link_len r⟩
  have hbl := listE_len r.texts
  have hlk : Sha.sum (p ++ (Oct.listE r.texts).1) = r.link := by rw [hr]; rfl
  have CH : Hid (∀ W, Calls Tryd.prog 81 #[.agg (bRow p), S (Oct.listE r.texts).1] W fun e w' => e = .returned (.agg (bRow r.link)) ∧ Below W.heap.size W w') := fun W => by
    have := refChain_any hRS p ⟨(Oct.listE r.texts).1.toArray⟩ W hp (by show (Oct.listE r.texts).1.length ≤ _; omega)
    rw [show (⟨(Oct.listE r.texts).1.toArray⟩ : ByteArray).data.toList = (Oct.listE r.texts).1 from rfl, hlk] at this
    exact this
  have hc1 := b1
  have hc2 := b2
  simp at hc1 hc2
  have hkk : 0 ≤ k ∧ k ≤ 2 := by simp at k1 k2; omega
  have T0 := Lib.hid (fun W => text5_any a W hc1.1 (by omega))
  have T1 := Lib.hid (fun W => text5_any k W hkk.1 (by omega))
  have T2 := Lib.hid (fun W => text5_any n W hc2.1 (by omega))
  have LB : Hid (∀ (W : World) (g : Nat), Row W g 9 [S (Oct.num a.toNat), S (Oct.num k.toNat), S (Oct.num n.toNat), .string body] → Calls Tryd.prog 75 #[.slice (some ⟨g, 0, none⟩) 4 4] W fun e w' => e = .returned (.tuple #[S (Oct.listE r.texts).1, .int .i64 (Oct.listE r.texts).2]) ∧ Below W.heap.size W w') := fun W g h => list5_row r.texts h (by rw [hr]; rfl) 4 4 (by rw [hr]; rfl)
  have HDL := Lib.hid (Rp.cells_len (r := r.linked) (by rw [hr]; exact hp) (Rp.link_len r))
  have HD1 := Lib.hid (Rp.cells_one (r := r.linked) (by rw [hr]; exact hp) (Rp.link_len r))
  have HPL := Lib.hid (Tx.bRow_len _ hp)
  have Hrow0 := Lib.hid (Row.new w 23 (bRow p).toList)
  have hq : (Rp.linkE ⟨a, k, n, body, p, Tx.zero⟩) = Rp.linkE r := by rw [hr]
  show Calls _ _ _ _ _
  have hlc : (Rp.mk a k n body p Tx.zero).linked.cells = r.linked.cells := by rw [hr]
  rw [hlc]
  generalize (Oct.listE r.texts).2 = en at *
  generalize (Oct.listE r.texts).1 = ts at *
  generalize r.linked.cells = D at *
  generalize r.link = K at *
  generalize Oct.num a.toNat = t0 at *
  generalize Oct.num k.toNat = t1 at *
  generalize Oct.num n.toNat = t2 at *
  clear b1 b2 hc1 hc2 hkk hr hD hln hbl hlk hq hlc hp hRS
  have H2 := Lib.hid (row_two w (bRow p) Rp.zero.cells.toArray 23 48)
  have Hbu := Lib.hid hbu
  clear hbu
  go_enter Tryd.func40, Tryd.ntmps40
  go_wp2_with fail
  refine (N1.out _).mono ?_
  rintro _ w1 ⟨rfl, rfl⟩
  go_wp2_with fail
  refine (N2.out _).mono ?_
  rintro _ w1 ⟨rfl, rfl⟩
  go_wp2_with fail
  refine calls_named ?_
  intro w1 hw1
  have hb1 : Below w.heap.size w w1 := by rw [hw1]; exact H2.out.2.1
  have hr1 : Row w1 (w.heap.size + 1) 48 Rp.zero.cells := by rw [hw1]; exact H2.out.1
  have hh1 : Row w1 w.heap.size 23 (bRow p).toList := by rw [hw1]; exact H2.out.2.2
  have HI1 : Hid (LinkIn w w1 p) := ⟨hb1, hh1, _, HZL.out, hr1⟩
  clear hw1 hb1 hr1 hh1 H2 hzv
  refine (T0.out _).mono ?_
  rintro _ w2 ⟨rfl, hb2⟩
  have HI2 := Lib.hid (HI1.out.step hb2)
  clear hb2
  go_wp2_with fail
  refine (T1.out _).mono ?_
  rintro _ w3 ⟨rfl, hb3⟩
  have HI3 := Lib.hid (HI2.out.step hb3)
  clear hb3
  go_wp2_with fail
  refine (T2.out _).mono ?_
  rintro _ w4 ⟨rfl, hb4⟩
  have HI4 := Lib.hid (HI3.out.step hb4)
  clear hb4
  go_wp2_with fail
  refine calls_named ?_
  intro w5 hw5
  have hr5 : Row w5 w4.heap.size 9 [S t0, S t1, S t2, .string body] := by rw [hw5]; exact Row.new w4 9 [S t0, S t1, S t2, .string body]
  have HI5 : Hid (LinkIn w w5 p) := by rw [hw5]; exact HI4.out.step ((Below.refl _ _).alloc (Nat.le_refl _) _)
  clear hw5
  refine (LB.out w5 _ hr5).mono ?_
  rintro _ w6 ⟨rfl, hb6⟩
  have HS0 : Hid (LinkIn w w6.drew p) := (HI5.out.step hb6).step (Below.refl _ _).drew
  have hu23 := Tryd.underlying23
  have hi23 : (Tryd.prog.info? 23).map (·.size) = some (bRow p).toList.length := by rw [hash_info, HPL.out]
  clear hb6 hr5
  go_wp2_with fail
  refine wp_region_held_drew (S := fun w' => LinkIn w w' p) (by kernel_rfl) (HS0.out) (fun hHeld => ?_)
  generalize w6.drew = w9 at *
  refine wpAnyH_take (i := 0) (v := .int .i64 a) rfl (by kernel_rfl) (by kernel_rfl) (by kernel_rfl) (fun _ _ _ h => h) (Or.inl ⟨by rfl, fun w' hSw => by go_simp⟩) hHeld ?_
  try simp only [Act.put, List.getElem_toArray, List.getElem_cons_succ, List.getElem_cons_zero, List.setIfInBounds_toArray, List.set_cons_zero, List.set_cons_succ]
  refine wpAnyH_take (i := 1) (v := .int .i64 k) rfl (by kernel_rfl) (by kernel_rfl) (by kernel_rfl) (fun _ _ _ h => h) (Or.inl ⟨by rfl, fun w' hSw => by go_simp⟩) hHeld ?_
  try simp only [Act.put, List.getElem_toArray, List.getElem_cons_succ, List.getElem_cons_zero, List.setIfInBounds_toArray, List.set_cons_zero, List.set_cons_succ]
  refine wpAnyH_take (i := 2) (v := .int .i64 n) rfl (by kernel_rfl) (by kernel_rfl) (by kernel_rfl) (fun _ _ _ h => h) (Or.inl ⟨by rfl, fun w' hSw => by go_simp⟩) hHeld ?_
  try simp only [Act.put, List.getElem_toArray, List.getElem_cons_succ, List.getElem_cons_zero, List.setIfInBounds_toArray, List.set_cons_zero, List.set_cons_succ]
  refine wpAnyH_take (i := 3) (v := .string body) rfl (by kernel_rfl) (by kernel_rfl) (by kernel_rfl) (fun _ _ _ h => h) (Or.inl ⟨by rfl, fun w' hSw => by go_simp⟩) hHeld ?_
  try simp only [Act.put, List.getElem_toArray, List.getElem_cons_succ, List.getElem_cons_zero, List.setIfInBounds_toArray, List.set_cons_zero, List.set_cons_succ]
  refine' wpAnyH_take (i := 4) (v := _) rfl (by kernel_rfl) (by kernel_rfl) (by kernel_rfl) (fun _ _ _ h => h) (yieldsIf_load_mid (by rfl) _ _ rfl w.heap.size 0 rfl (bRow p).toList _ (fun w' hSw => (row_range hSw.2.1)) hu23 rfl hi23) hHeld ?_
  try simp only [Act.put, List.getElem_toArray, List.getElem_cons_succ, List.getElem_cons_zero, List.setIfInBounds_toArray, List.set_cons_zero, List.set_cons_succ]
  refine' wpAnyH_take (i := 5) (v := _) rfl (by kernel_rfl) (by kernel_rfl) (by kernel_rfl) (fun _ _ _ h => h) (yieldsIf_load_mid (by rfl) _ _ rfl w.heap.size 0 rfl (bRow p).toList _ (fun w' hSw => (row_range hSw.2.1)) hu23 rfl hi23) hHeld ?_
  try simp only [Act.put, List.getElem_toArray, List.getElem_cons_succ, List.getElem_cons_zero, List.setIfInBounds_toArray, List.set_cons_zero, List.set_cons_succ]
  refine wpAnyH_take (i := 6) (v := S ts) rfl (by kernel_rfl) (by kernel_rfl) (by kernel_rfl) (fun _ _ _ h => h) (Or.inl ⟨by rfl, fun w' hSw => by go_simp⟩) hHeld ?_
  try simp only [Act.put, List.getElem_toArray, List.getElem_cons_succ, List.getElem_cons_zero, List.setIfInBounds_toArray, List.set_cons_zero, List.set_cons_succ]
  refine wpAnyH_ready (rs := [7]) (by kernel_rfl) (by simp) (AllReadyH.cons rfl (fun K1 hK1 => ?_) AllReadyH.nil)
  try simp only [Act.put, List.getElem_toArray, List.getElem_cons_succ, List.getElem_cons_zero, List.setIfInBounds_toArray, List.set_cons_zero, List.set_cons_succ]
  go_simp
  refine Calls.mono (CH.out _) ?_
  rintro e wc1 ⟨rfl, hc2⟩
  refine hK1.out _ _ (hHeld.step hc2) (fun hHeld => ?_)
  clear hK1 K1
  try simp only [Act.put, List.getElem_toArray, List.getElem_cons_succ, List.getElem_cons_zero, List.setIfInBounds_toArray, List.set_cons_zero, List.set_cons_succ]
  refine' wpAnyH_take (i := 8) (v := .agg D.toArray) rfl (by kernel_rfl) (by kernel_rfl) (by kernel_rfl) (fun _ _ _ h => h) (yieldsIf_buildL (by rfl) 48 [(0, .tmp 48), (1, .tmp 49), (2, .tmp 50), (3, .tmp 51), (4, .tmp 52), (5, .tmp 55)] rfl [(0, .int .i64 a), (1, .int .i64 k), (2, .int .i64 n), (3, .string body), (4, .agg (bRow p)), (5, .agg (bRow K))] rfl D.toArray Hbu.out) hHeld ?_
  try simp only [Act.put, List.getElem_toArray, List.getElem_cons_succ, List.getElem_cons_zero, List.setIfInBounds_toArray, List.set_cons_zero, List.set_cons_succ]
  refine wpAnyH_ready (rs := [9]) (by kernel_rfl) (by simp) (AllReadyH.cons rfl (fun K1 hK1 => ?_) AllReadyH.nil)
  try simp only [Act.put, List.getElem_toArray, List.getElem_cons_succ, List.getElem_cons_zero, List.setIfInBounds_toArray, List.set_cons_zero, List.set_cons_succ]
  obtain ⟨Z, hZl, hZr⟩ := hHeld.2.2
  rw [if_pos (by rfl)]
  refine wp_store_at 48 (.tmp 10) (.tmp 56) rfl (w.heap.size + 1) 0 D _ _ rfl rfl hZr (by have := HDL.out; omega) (by rw [rp_info, HDL.out]) HD1.out ?_
  intro ws3 hrS hgS
  rw [splice_all (HDL.out.trans hZl.symm)] at hrS
  have HrS := Lib.hid hrS
  have hHeld2 := hHeld.put hgS HDL.out hrS
  clear hrS hgS
  refine hK1.out _ _ (hHeld2) (fun hHeld => ?_)
  clear hK1 K1
  try simp only [Act.put, List.getElem_toArray, List.getElem_cons_succ, List.getElem_cons_zero, List.setIfInBounds_toArray, List.set_cons_zero, List.set_cons_succ]
  clear hHeld2
  refine wpAnyH_take (i := 10) (v := .int .i64 0) rfl (by kernel_rfl) (by kernel_rfl) (by kernel_rfl) (fun _ _ _ h => h) (Or.inl ⟨by rfl, fun w' hSw => by go_simp⟩) hHeld ?_
  try simp only [Act.put, List.getElem_toArray, List.getElem_cons_succ, List.getElem_cons_zero, List.setIfInBounds_toArray, List.set_cons_zero, List.set_cons_succ]
  refine wpAnyH_done (by kernel_rfl) ?_ _
  go_wp2_with fail
  have Hb9 := Lib.hid hHeld.1
  clear hHeld hu23 hi23
  refine bodyPost_ret (results_rowL rfl _ _ (w.heap.size + 1) 48 _ _ rfl HrS.out Tryd.underlying48 rfl (by rw [rp_info, List.size_toArray, HDL.out]) _ rfl) rfl ⟨rfl, Hb9.out⟩
theorem rlink5_any (hRS : RefSum) (a k n : Int) (body : ByteArray) (p : List UInt8) (hp : p.length = 32) (w : World) :
    Calls Tryd.prog 40 #[.agg (bRow p), .int .i64 a, .int .i64 k, .int .i64 n, .string body] w fun e w' => e = .returned (Rp.pairV (Rp.linkE ⟨a, k, n, body, p, Tx.zero⟩)) ∧ Below w.heap.size w w' := by
  have hiff := Rp.ok_iff ⟨a, k, n, body, p, Tx.zero⟩
  simp only at hiff
  have yes : (Rp.mk a k n body p Tx.zero).ok = true → Rp.pairV (Rp.linkE ⟨a, k, n, body, p, Tx.zero⟩) = .tuple #[.agg (Rp.linked ⟨a, k, n, body, p, Tx.zero⟩).cells.toArray, .int .i64 0] := fun h => by unfold Rp.linkE; rw [if_pos h]; rfl
  have no : ¬ (Rp.mk a k n body p Tx.zero).ok = true → Rp.pairV (Rp.linkE ⟨a, k, n, body, p, Tx.zero⟩) = .tuple #[.agg Rp.zero.cells.toArray, .int .i64 2] := fun h => by unfold Rp.linkE; rw [if_neg h]; rfl
  rcases Bool.eq_false_or_eq_true (decide (0 ≤ a) && decide (a ≤ 1099511627776)) with b1 | b1
  · rcases Bool.eq_false_or_eq_true (decide (0 ≤ n) && decide (n ≤ 1099511627776)) with b2 | b2
    · have c1 := b1
      have c2 := b2
      simp at c1 c2
      rcases Bool.eq_false_or_eq_true (k != 1) with k1 | k1
      · have d1 := k1
        simp at d1
        rcases Bool.eq_false_or_eq_true (k != 2) with k2 | k2
        · have d2 := k2
          simp at d2
          rw [no (fun h => by rw [hiff] at h; omega)]; exact rlink5_n2 a k n body p hp w b1 b2 k1 k2
        · have d2 := k2
          simp at d2
          by_cases s0 : (656 : Int) < (body.size : Int)
          · rw [no (fun h => by rw [hiff] at h; omega)]; exact rlink5_n4 a k n body p hp w b1 b2 k1 k2 s0
          · rw [yes (by rw [hiff]; omega)]; exact rlink5_y2 hRS a k n body p hp w b1 b2 k1 k2 s0
      · have d1 := k1
        simp at d1
        by_cases s0 : (656 : Int) < (body.size : Int)
        · rw [no (fun h => by rw [hiff] at h; omega)]; exact rlink5_n3 a k n body p hp w b1 b2 k1 s0
        · rw [yes (by rw [hiff]; omega)]; exact rlink5_y1 hRS a k n body p hp w b1 b2 k1 s0
    · have c2 := b2
      simp at c2
      rw [no (fun h => by rw [hiff] at h; omega)]; exact rlink5_n1 a k n body p hp w b1 b2
  · have c1 := b1
    simp at c1
    rw [no (fun h => by rw [hiff] at h; omega)]; exact rlink5_n0 a k n body p hp w b1
end Go.Proofs.YtdekcicgiflnbaaDoor
