/- Find, Upto, Turn of a nil chain. -/
import Derived.Test.YtjeooegkfjlejaaDoorTrFind
namespace Go.Proofs.YtjeooegkfjlejaaDoor
open Go.RowKit Go.Shelf
set_option linter.unusedVariables false
set_option linter.unusedSimpArgs false
attribute [local go_sem] Oper.semAt_some

theorem all_stops_nil (F : Fence) (n : Nat) (hf : F.fn 69) (hro : F.round = none) (Bs n₀ : Nat) (w : World) (hBs : Bs < w.heap.size) (hc : w.cell? ⟨Bs, 0, none⟩ = some (.pointer none)) :
    SeqStopsK F n Tryd.prog 69 #[.pointer (some ⟨Bs, 0, none⟩)] (fun x : Empty => (x.elim : Array Value)) (Below n₀) (fun ys => ys = []) (fun _ => False) 0 w := fun l J Jx W hW hJ _ hY h0 =>
  (all1_nil F n hf hro l Bs (fun _ W => J [] W) W ((hW.cell (p := ⟨Bs, 0, none⟩) hBs).trans hc) h0).mono fun e W' h => ⟨h.1, .inl ⟨[], rfl, h.2⟩⟩
theorem turn_nil (u s : Int) (A : Option Addr) (n c : Nat) (w : World) : Calls Tryd.prog 33 #[.pointer none, .int .i64 u, .slice A n c, .int .i64 s] w fun e w' => e = .returned (.int .i64 1) ∧ w = w' := by
  go_enter Tryd.func33, Tryd.ntmps33
  go_wp2_with fail
  go_ret
  exact ⟨rfl, rfl⟩
set_option maxRecDepth 100000 in
set_option maxHeartbeats 3200000 in
theorem find_nil_in (F : Fence) (n : Nat) (hf : F.fn 29) (hfa : F.fn 50) (hf1 : F.fn 69) (hro : F.round = none) (hn : 3 ≤ n) (w : World) (h : Tr.T8) (h32 : h.length = 32) :
    CallsIn F n Tryd.prog 29 #[.pointer none, .agg (bRow h)] w fun e W' => e = .returned (.tuple #[.int .i64 0, .bool false]) ∧ Below w.heap.size w W' := by
  have h1 : 1 ≤ n := by omega
  refine callsIn_of_wp_marks Tryd.func29 rfl hf ?_ hro
  simp only [Tryd.ntmps29, List.size_toArray, List.length_cons, List.length_nil, Nat.reduceAdd, Nat.reduceSub, Array.replicate_succ, Array.replicate_zero, List.push_toArray, List.append_toArray, List.nil_append, List.cons_append]
  gi_wp2_with (gi_at_call 50; refine (all_in F (n - 1) hfa hro _ _).mono ?_; rintro e w' ⟨rfl, rfl⟩)
  have rH := ((Row.new w 42 (bRow h).toList).kept (grownBy_alloc _ (.cells #[.int .i64 0] 3) none) (by simp)).kept (grownBy_alloc _ (.cells #[.bool false] 4) none) (by simp)
  have rN := (Row.new (w.alloc (.cells (bRow h).toList.toArray 42)) 3 [.int .i64 0]).kept (grownBy_alloc _ (.cells #[.bool false] 4) none) (by simp)
  have rB := Row.new ((w.alloc (.cells (bRow h).toList.toArray 42)).alloc (.cells #[.int .i64 0] 3)) 4 [.bool false]
  have rP := Row.new (((w.alloc (.cells (bRow h).toList.toArray 42)).alloc (.cells #[.int .i64 0] 3)).alloc (.cells #[.bool false] 4)) 23 [.pointer none]
  have hB0 : Below w.heap.size w ((((w.alloc (.cells (bRow h).toList.toArray 42)).alloc (.cells #[.int .i64 0] 3)).alloc (.cells #[.bool false] 4)).alloc (.cells #[.pointer none] 23)) := ((((Below.refl _ w).alloc (Nat.le_refl _) _).alloc (by simp) _).alloc (by simp; omega) _).alloc (by simp; omega) _
  have hsz : ((((w.alloc (.cells (bRow h) 42)).alloc (.cells #[.int .i64 0] 3)).alloc (.cells #[.bool false] 4)).alloc (.cells #[.pointer none] 23)).heap.size = w.heap.size + 4 := by simp
  have rH2 := rH.kept (grownBy_alloc _ (.cells #[.pointer none] 23) none) (by simp)
  have rN2 := rN.kept (grownBy_alloc _ (.cells #[.pointer none] 23) none) (by simp)
  have rB2 := rB.kept (grownBy_alloc _ (.cells #[.pointer none] 23) none) (by simp)
  clear rH rN rB
  simp only [Array.toArray_toList, List.size_toArray, World.size_alloc] at rH2 rN2 rB2 rP hB0
  obtain ⟨W0, hW0⟩ : ∃ W0, ((((w.alloc (.cells (bRow h) 42)).alloc (.cells #[.int .i64 0] 3)).alloc (.cells #[.bool false] 4)).alloc (.cells #[.pointer none] 23)) = W0 := ⟨_, rfl⟩
  rw [hW0] at rH2 rN2 rB2 rP hB0 hsz ⊢
  clear hW0
  have rP2 : Row W0 (w.heap.size + 1 + 1 + 1) 23 [.pointer none] := rP
  refine wpIn_rangeFunc_ownH hro h1 (gf := 69) (lb := #[.pointer (some ⟨w.heap.size + 1 + 1 + 1, 0, none⟩)]) rfl hf1 (enters_of Tryd.func69 (by kernel_rfl) rfl)
    (all_stops_nil F (n - 1) hf1 hro (w.heap.size + 1 + 1 + 1) w.heap.size W0 (by omega) (rP2.boxed).1) belowK_t (belowK_b (by omega)) (Below.refl _ _) (fun x => x.elim)
    (fun pre W => (Row W (w.heap.size + 1) 3 [.int .i64 0] ∧ Row W (w.heap.size + 1 + 1) 4 [.bool false]) ∧ Below w.heap.size w W)
    (fun _ _ _ => False)
    (OwnFrom.and (Own.from (fun s A B row hs hg hr => ⟨row_own (β := Unit) _ _ (fun _ => _) () A B row hs.1 hg hr, row_own (β := Unit) _ _ (fun _ => _) () A B row hs.2 hg hr⟩) _) (ownFrom_below (Nat.le_refl _) (by omega)))
    (fun _ _ _ _ _ hs _ _ => hs)
    ⟨⟨rN2, rB2⟩, hB0⟩
    (fun x _ _ => x.elim) (fun x => x.elim) ?assign ?body ?done ?stop
  case assign => intro l pre x; exact x.elim
  case body => intro l pre x; exact x.elim
  case done =>
    rintro D ys W hD rfl ⟨⟨rN1, rB1⟩, hB1⟩ hK
    obtain ⟨cN1, cN2⟩ := rN1.boxed
    obtain ⟨cB1, cB2⟩ := rB1.boxed
    have HrN := Lib.hid rN1
    have HrB := Lib.hid rB1
    have HKd := Lib.hid hK
    clear rN1 rB1 hK
    gi_wp2
    have g1 := grownBy_set W (w.heap.size + 1) 0 (.int .i64 0)
    have g2 := grownBy_set (W.setCell ⟨w.heap.size + 1, 0, none⟩ (.int .i64 0)) (w.heap.size + 1 + 1) 0 (.bool false)
    have hr1 := (HrN.out.set 0 (.int .i64 0) (by simp)).kept g2 (by simp)
    have hr2 := (HrB.out.kept g1 (by simp)).set 0 (.bool false) (by simp)
    have hK' := ((KeepsOthers.setCell W ⟨w.heap.size + 1, 0, none⟩ (.int .i64 0)).trans (KeepsOthers.setCell _ ⟨w.heap.size + 1 + 1, 0, none⟩ (.bool false))).same D _ HKd.out rfl
    refine ⟨by simp, .inl ⟨_, _, rfl, run_takeDeferred hK', ?_⟩⟩
    have k1 := cell_kept hr1.boxed.1 (grownBy_putObj' _ D (.deferred none)) (fun r e => by cases e; exact ⟨_, hK', rfl⟩)
    have k2 := cell_kept hr2.boxed.1 (grownBy_putObj' _ D (.deferred none)) (fun r e => by cases e; exact ⟨_, hK', rfl⟩)
    refine ⟨.tuple #[.int .i64 0, .bool false], ?_, rfl, ((hB1.setCell (p := ⟨w.heap.size + 1, 0, none⟩) (by simp) _).setCell (p := ⟨w.heap.size + 1 + 1, 0, none⟩) (by simp; omega) _).trans (belowK_b (w := w) (Nat.le_refl _) _ D _ _ (by omega) hK' rfl rfl)⟩
    simp [results, Tryd.f29, go_sem, k1, k2]
  case stop =>
    rintro D c pre W _ _ h _
    exact h.elim
theorem find_nil (w : World) (h : Tr.T8) (h32 : h.length = 32) :
    Calls Tryd.prog 29 #[.pointer none, .agg (bRow h)] w fun e W' => e = .returned (.tuple #[.int .i64 0, .bool false]) ∧ Below w.heap.size w W' :=
  (callsIn_wide (n := 3)).1 (find_nil_in Fence.wide 3 trivial trivial trivial rfl (Nat.le_refl _) w h h32)
set_option maxRecDepth 100000 in
set_option maxHeartbeats 3200000 in
theorem upto_nil_in (F : Fence) (n : Nat) (hf : F.fn 24) (hfa : F.fn 50) (hf1 : F.fn 69) (hro : F.round = none) (hn : 3 ≤ n) (w : World) (m : Int) :
    CallsIn F n Tryd.prog 24 #[.pointer none, .int .i64 m] w fun e W' => e = .returned (.slice none 0 0) ∧ Below w.heap.size w W' := by
  have h1 : 1 ≤ n := by omega
  refine callsIn_of_wp_marks Tryd.func24 rfl hf ?_ hro
  simp only [Tryd.ntmps24, List.size_toArray, List.length_cons, List.length_nil, Nat.reduceAdd, Nat.reduceSub, Array.replicate_succ, Array.replicate_zero, List.push_toArray, List.append_toArray, List.nil_append, List.cons_append]
  gi_wp2_with (gi_at_call 50; refine (all_in F (n - 1) hfa hro _ _).mono ?_; rintro e w' ⟨rfl, rfl⟩)
  have rB := (Row.new (w.alloc (.cells #[.int .i64 m] 3)) 36 [.slice none 0 0]).kept (grownBy_alloc _ (.cells #[.pointer none] 23) none) (by simp)
  have rP := Row.new ((w.alloc (.cells #[.int .i64 m] 3)).alloc (.cells #[.slice none 0 0] 36)) 23 [.pointer none]
  have hB0 : Below w.heap.size w (((w.alloc (.cells #[.int .i64 m] 3)).alloc (.cells #[.slice none 0 0] 36)).alloc (.cells #[.pointer none] 23)) := (((Below.refl _ w).alloc (Nat.le_refl _) _).alloc (by simp) _).alloc (by simp; omega) _
  have hsz : (((w.alloc (.cells #[.int .i64 m] 3)).alloc (.cells #[.slice none 0 0] 36)).alloc (.cells #[.pointer none] 23)).heap.size = w.heap.size + 3 := by simp
  simp only [World.size_alloc] at rB rP hB0
  obtain ⟨W0, hW0⟩ : ∃ W0, (((w.alloc (.cells #[.int .i64 m] 3)).alloc (.cells #[.slice none 0 0] 36)).alloc (.cells #[.pointer none] 23)) = W0 := ⟨_, rfl⟩
  rw [hW0] at rB hB0 hsz ⊢
  have rP2 : Row W0 (w.heap.size + 1 + 1) 23 [.pointer none] := by rw [← hW0]; exact rP
  have rB2 : Row W0 (w.heap.size + 1) 36 [.slice none 0 0] := rB
  clear hW0 rP rB
  refine wpIn_rangeFunc_ownH hro h1 (gf := 69) (lb := #[.pointer (some ⟨w.heap.size + 1 + 1, 0, none⟩)]) rfl hf1 (enters_of Tryd.func69 (by kernel_rfl) rfl)
    (all_stops_nil F (n - 1) hf1 hro (w.heap.size + 1 + 1) w.heap.size W0 (by omega) (rP2.boxed).1) belowK_t (belowK_b (by omega)) (Below.refl _ _) (fun x => x.elim)
    (fun pre W => Row W (w.heap.size + 1) 36 [.slice none 0 0] ∧ Below w.heap.size w W)
    (fun _ _ _ => False)
    (OwnFrom.and (Own.from (fun s A B row hs hg hr => row_own (β := Unit) _ _ (fun _ => _) () A B row hs hg hr) _) (ownFrom_below (Nat.le_refl _) (by omega)))
    (fun _ _ _ _ _ hs _ _ => hs)
    ⟨rB2, hB0⟩
    (fun x _ _ => x.elim) (fun x => x.elim) ?assign ?body ?done ?stop
  case assign => intro l pre x; exact x.elim
  case body => intro l pre x; exact x.elim
  case done =>
    rintro D ys W hD rfl ⟨rN1, hB1⟩ hK
    obtain ⟨cN1, cN2⟩ := rN1.boxed
    gi_wp2
    refine ⟨by simp, .inl ⟨_, _, rfl, run_takeDeferred hK, ?_⟩⟩
    exact ⟨_, results_tmp rfl _ _ _, rfl, hB1.trans (belowK_b (w := w) (Nat.le_refl _) _ D _ _ (by omega) hK rfl rfl)⟩
  case stop =>
    rintro D c pre W _ _ h _
    exact h.elim
theorem upto_nil (w : World) (m : Int) :
    Calls Tryd.prog 24 #[.pointer none, .int .i64 m] w fun e W' => e = .returned (.slice none 0 0) ∧ Below w.heap.size w W' :=
  (callsIn_wide (n := 3)).1 (upto_nil_in Fence.wide 3 trivial trivial trivial rfl (Nat.le_refl _) w m)
end Go.Proofs.YtjeooegkfjlejaaDoor
