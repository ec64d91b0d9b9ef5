/- cut: Make, where it makes: the walk. -/
import Derived.Test.YtncahgjmdeepeaaCutMakeA
namespace Go.Proofs.Ytncahgjmdeepeaa
open Go.RowKit
set_option linter.unusedVariables false
set_option linter.unusedSimpArgs false

theorem makes_two (w : World) (O1 : Obj) (D : List Value) (tD t1 t2 : TypeId) (n : Nat) (X Y : List Value) :
    let W := ((((w.alloc O1).alloc (.cells D.toArray tD)).drewN n).alloc (.cells X.toArray t1)).alloc (.cells Y.toArray t2)
    Row W (w.heap.size + 1 + 1) t1 X ∧ Row W (w.heap.size + 1 + 1 + 1) t2 Y ∧ Row W (w.heap.size + 1) tD D ∧ Below w.heap.size w W := by
  intro W
  have z1 : (w.alloc O1).heap.size = w.heap.size + 1 := by simp
  have z2 : (((w.alloc O1).alloc (.cells D.toArray tD)).drewN n).heap.size = w.heap.size + 1 + 1 := by rw [World.heap_drewN]; simp
  have z3 : ((((w.alloc O1).alloc (.cells D.toArray tD)).drewN n).alloc (.cells X.toArray t1)).heap.size = w.heap.size + 1 + 1 + 1 := by rw [show ∀ (W : World) (o : Obj), (W.alloc o).heap.size = W.heap.size + 1 from fun W o => by simp, z2]
  have rD := Row.new (w.alloc O1) tD D
  have rX := Row.new (((w.alloc O1).alloc (.cells D.toArray tD)).drewN n) t1 X
  have rY := Row.new ((((w.alloc O1).alloc (.cells D.toArray tD)).drewN n).alloc (.cells X.toArray t1)) t2 Y
  rw [z1] at rD
  rw [z2] at rX
  rw [z3] at rY
  refine ⟨rX.kept (grownBy_alloc _ _ none) (by simp), rY, ((rD.kept (grownBy_drewN _ n none) (by simp)).kept (grownBy_alloc _ _ none) (by simp)).kept (grownBy_alloc _ _ none) (by simp), ?_⟩
  exact ((below_drewN' (((Below.refl w.heap.size w).alloc (Nat.le_refl _) _).alloc (by simp) _) n).alloc (by rw [z2]; omega) _).alloc (by rw [z3]; omega) _

set_option maxRecDepth 20000 in
set_option maxHeartbeats 1600000 in
theorem cutMake_ok (A : Option Addr) (c : Nat) (l : List Rc) (sq first before count : Int) (w : World) (hl : RcsAt w A l) (hlen : l.length ≤ 8796093022208) (hok : Cut.okM first count l = true) :
    Calls Try.prog 15 #[.agg #[.int .i64 sq, .int .i64 first, .int .i64 before, .int .i64 count], .slice A l.length c] w fun e w' =>
      ∃ B, e = .returned (.tuple #[.agg #[.int .i64 sq, .int .i64 first, .int .i64 before, .slice (some ⟨B, 0, none⟩) l.length l.length], .int .i64 0]) ∧ w.heap.size ≤ B ∧ Row w' B 46 (Cut.parts l) ∧ Below w.heap.size w w' := by
  obtain ⟨x, l', rfl⟩ : ∃ x l', l = x :: l' := by
    cases l with
    | nil => cases hok
    | cons x l' => exact ⟨x, l', rfl⟩
  have hcf : (((x :: l').length : Int) = count) ∧ x.idx = first := by
    have e : (decide (((x :: l').length : Int) = count) && decide (x.idx = first)) = true := hok
    simpa using e
  obtain ⟨b, off, rfl, hblt, hc⟩ := hl (by simp)
  have c0 : w.cell? ⟨b, off, none⟩ = some (.int .i64 x.idx) := by
    have := (hc 0 (by simp)).1 0 (.int .i64 x.idx) rfl
    simpa using this
  have hn1 : 0 < (x :: l').length := by simp
  obtain ⟨h1, h2⟩ := hcf
  obtain ⟨l, hle⟩ : ∃ l, l = x :: l' := ⟨_, rfl⟩
  rw [← hle] at hlen h1 hc hn1 ⊢
  subst h2
  rw [← h1]
  have hn0 : ((l.length : Int) == 0) = false := by simp; intro e; rw [e] at hn1; simp at hn1
  have hmk : ∀ W : World, (Instr.makeSlice 34 (.int .i64 (l.length : Int)) (.int .i64 (l.length : Int))).run Try.prog W = .ok (.slice (some ⟨W.heap.size, 0, none⟩) l.length l.length) (W.alloc (.cells (Cut.blanks l.length).toArray 46)) := fun W => make_parts _ hlen W
  have Hc := Lib.hid hc
  clear hc h1 hle hok hl
  go_enter Try.func15, Try.ntmps15
  go_wp2_with fail
  go_quiet (fail)
  go_wp2_with fail
  go_region
  all_goals go_wp2_with fail
  · go_loopw [40] (fun i wr => ∃ k : Nat, k ≤ l.length ∧ i = .int .i64 k ∧ Row wr (w.heap.size + 1 + 1 + 1) 36 [.int .i64 sq, .int .i64 x.idx, .int .i64 before, .slice (some ⟨w.heap.size + 1 + 1, 0, none⟩) l.length l.length] ∧ Row wr (w.heap.size + 1 + 1) 46 (Cut.parts (l.take k) ++ Cut.blanks (l.length - k)) ∧ Row wr (w.heap.size + 1) 36 [.int .i64 0, .int .i64 0, .int .i64 0, .slice none 0 0] ∧ Below w.heap.size w wr) (fun i _ => l.length - (intOf i).toNat)
    case atStart =>
      obtain ⟨a1, a2, a3, a4⟩ := makes_two w (.cells #[.int .i64 sq, .int .i64 x.idx, .int .i64 before, .int .i64 l.length] 33) [.int .i64 0, .int .i64 0, .int .i64 0, .slice none 0 0] 36 46 36 (nq + 1) (Cut.blanks l.length) [.int .i64 sq, .int .i64 x.idx, .int .i64 before, .slice (some ⟨w.heap.size + 1 + 1, 0, none⟩) l.length l.length]
      exact ⟨0, Nat.zero_le _, rfl, a2, a1, a3, a4⟩
    case round =>
      clear c0
      obtain ⟨k, hk, rfl, hrG, hrB, hrD, hb⟩ := hrel
      have HrG := Lib.hid hrG
      have HrB := Lib.hid hrB
      have HrD := Lib.hid hrD
      have Hb := Lib.hid hb
      have g0 := hrG.cell 0 (by simp)
      have g1 := hrG.cell 1 (by simp)
      have g2 := hrG.cell 2 (by simp)
      have g3 := hrG.cell 3 (by simp)
      simp only [List.getElem_cons_zero, List.getElem_cons_succ] at g0 g1 g2 g3
      clear hrG hrB hrD hb
      by_cases hlt : k < l.length
      · have hki : (k : Int) < (l.length : Int) := by omega
        obtain ⟨hra, hrest, hbody, hone⟩ := Hc.out k hlt
        obtain ⟨m, hm⟩ : ∃ m, l.length - k = m + 1 := ⟨l.length - k - 1, by omega⟩
        have htx := fun h => Cut.store_tx2 l k m hlt h hm
        have hdel := fun h => Cut.store_del2 l k m hlt h hm
        obtain ⟨y, hye⟩ : ∃ y, y = l[k] := ⟨_, rfl⟩
        rw [← hye] at hra htx hdel
        have ck : wr.cell? ⟨b, off + k * 68 + 1, none⟩ = some (.int .i64 y.kind) := (Hb.out.cell (p := ⟨b, off + k * 68 + 1, none⟩) hblt).trans (hra 1 _ rfl)
        have cb : wr.cell? ⟨b, off + k * 68 + 3, none⟩ = some (.string y.body) := (Hb.out.cell (p := ⟨b, off + k * 68 + 3, none⟩) hblt).trans (hra 3 _ rfl)
        have Htx := Lib.hid htx
        have Hdel := Lib.hid hdel
        clear hra hrest hbody hone hye hm htx hdel
        by_cases h1 : y.kind = 1
        · have d1 : (y.kind == 1) = true := by rw [h1]; rfl
          have H1 := Lib.hid h1
          clear h1
          go_wp2_with fail
          refine region_named 10 (by kernel_rfl) (by kernel_rfl) ?_
          intro w3 hw3
          have hg3 : wr.grownBy w3 none := by rw [hw3]; exact grownBy_drew _ _
          have hrB3 := HrB.out.kept hg3 (by simp)
          have hrG3 := HrG.out.kept hg3 (by simp)
          have hrD3 := HrD.out.kept hg3 (by simp)
          have hb3 : Below w.heap.size w w3 := Hb.out.grown hg3 Hb.out.size (fun k hk => by cases hk)
          have hfree := hrB3.free (k * 2 + 1)
          have cg3 : w3.cell? ⟨w.heap.size + 1 + 1 + 1, 3, none⟩ = some (.slice (some ⟨w.heap.size + 1 + 1, 0, none⟩) l.length l.length) := (cell_drew hw3 _ _).trans g3
          have cb3 : w3.cell? ⟨b, off + k * 68 + 3, none⟩ = some (.string y.body) := (cell_drew hw3 _ _).trans cb
          have ho : (w3.cell? ⟨w.heap.size + 1 + 1, k * 2 + 1, none⟩).isSome = true := by rw [hrB3.cell (k * 2 + 1) (by rw [Cut.parts_size l k hk]; omega)]; rfl
          obtain ⟨ov, hov⟩ := Option.isSome_iff_exists.1 ho
          have HrB3 := Lib.hid hrB3
          have HrG3 := Lib.hid hrG3
          have HrD3 := Lib.hid hrD3
          have Hb3 := Lib.hid hb3
          clear hw3 hg3 hrB3 hrG3 hrD3 hb3 ho
          simp only [List.take_succ_cons, List.take_zero, List.drop_succ_cons, List.drop_zero]
          repeat still_step
          refine wpStill_nil ?_
          go_wp2_with fail
          refine ⟨⟨k + 1, hlt, by go_num, row_other HrG3.out (by omega), ?_, row_other HrD3.out (by omega), below_set Hb3.out (by omega)⟩, by simp [intOf]; omega⟩
          rw [← Htx.out H1.out]
          exact HrB3.out.set _ _ (by rw [Cut.parts_size l k hk]; omega)
        · have d1 : (y.kind == 1) = false := by simpa using h1
          have H1 := Lib.hid h1
          clear h1
          have hfree := HrB.out.free (k * 2)
          have ho : (wr.cell? ⟨w.heap.size + 1 + 1, k * 2, none⟩).isSome = true := by rw [HrB.out.cell (k * 2) (by rw [Cut.parts_size l k hk]; omega)]; rfl
          obtain ⟨ov, hov⟩ := Option.isSome_iff_exists.1 ho
          clear ho
          go_wp2_with fail
          refine ⟨⟨k + 1, hlt, by go_num, row_other HrG.out (by omega), ?_, row_other HrD.out (by omega), below_set Hb.out (by omega)⟩, by simp [intOf]; omega⟩
          rw [← Hdel.out H1.out]
          exact HrB.out.set _ _ (by rw [Cut.parts_size l k hk]; omega)
      · have hki : (l.length : Int) ≤ (k : Int) := by omega
        have ekn : k = l.length := by omega
        have Ekn := Lib.hid ekn
        have fD := HrD.out.free
        have z0 := HrD.out.cell 0 (by simp)
        have z1 := HrD.out.cell 1 (by simp)
        have z2 := HrD.out.cell 2 (by simp)
        have z3 := HrD.out.cell 3 (by simp)
        simp only [List.getElem_cons_zero, List.getElem_cons_succ] at z0 z1 z2 z3
        clear ekn
        go_wp2_with fail
        obtain ⟨hE, hbE⟩ := four_set HrD.out Hb.out (by omega) (.int .i64 sq) (.int .i64 x.idx) (.int .i64 before) (.slice (some ⟨w.heap.size + 1 + 1, 0, none⟩) l.length l.length)
        refine bodyPost_ret (results_rowL rfl _ _ (w.heap.size + 1) 36 _ _ rfl hE Try.underlying36 rfl rfl _ rfl) rfl ⟨_, rfl, by omega, ?_, hbE⟩
        have hB := HrB.out
        rw [Ekn.out] at hB
        rw [← Cut.parts_all l]
        exact row_other (row_other (row_other (row_other hB (by omega)) (by omega)) (by omega)) (by omega)
  · go_loopw [40] (fun i wr => ∃ k : Nat, k ≤ l.length ∧ i = .int .i64 k ∧ Row wr (w.heap.size + 1 + 1) 36 [.int .i64 sq, .int .i64 x.idx, .int .i64 before, .slice (some ⟨w.heap.size + 1 + 1 + 1, 0, none⟩) l.length l.length] ∧ Row wr (w.heap.size + 1 + 1 + 1) 46 (Cut.parts (l.take k) ++ Cut.blanks (l.length - k)) ∧ Row wr (w.heap.size + 1) 36 [.int .i64 0, .int .i64 0, .int .i64 0, .slice none 0 0] ∧ Below w.heap.size w wr) (fun i _ => l.length - (intOf i).toNat)
    case atStart =>
      obtain ⟨a1, a2, a3, a4⟩ := makes_two w (.cells #[.int .i64 sq, .int .i64 x.idx, .int .i64 before, .int .i64 l.length] 33) [.int .i64 0, .int .i64 0, .int .i64 0, .slice none 0 0] 36 36 46 (nq + 1) [.int .i64 sq, .int .i64 x.idx, .int .i64 before, .slice (some ⟨w.heap.size + 1 + 1 + 1, 0, none⟩) l.length l.length] (Cut.blanks l.length)
      exact ⟨0, Nat.zero_le _, rfl, a1, a2, a3, a4⟩
    case round =>
      clear c0
      obtain ⟨k, hk, rfl, hrG, hrB, hrD, hb⟩ := hrel
      have HrG := Lib.hid hrG
      have HrB := Lib.hid hrB
      have HrD := Lib.hid hrD
      have Hb := Lib.hid hb
      have g0 := hrG.cell 0 (by simp)
      have g1 := hrG.cell 1 (by simp)
      have g2 := hrG.cell 2 (by simp)
      have g3 := hrG.cell 3 (by simp)
      simp only [List.getElem_cons_zero, List.getElem_cons_succ] at g0 g1 g2 g3
      clear hrG hrB hrD hb
      by_cases hlt : k < l.length
      · have hki : (k : Int) < (l.length : Int) := by omega
        obtain ⟨hra, hrest, hbody, hone⟩ := Hc.out k hlt
        obtain ⟨m, hm⟩ : ∃ m, l.length - k = m + 1 := ⟨l.length - k - 1, by omega⟩
        have htx := fun h => Cut.store_tx2 l k m hlt h hm
        have hdel := fun h => Cut.store_del2 l k m hlt h hm
        obtain ⟨y, hye⟩ : ∃ y, y = l[k] := ⟨_, rfl⟩
        rw [← hye] at hra htx hdel
        have ck : wr.cell? ⟨b, off + k * 68 + 1, none⟩ = some (.int .i64 y.kind) := (Hb.out.cell (p := ⟨b, off + k * 68 + 1, none⟩) hblt).trans (hra 1 _ rfl)
        have cb : wr.cell? ⟨b, off + k * 68 + 3, none⟩ = some (.string y.body) := (Hb.out.cell (p := ⟨b, off + k * 68 + 3, none⟩) hblt).trans (hra 3 _ rfl)
        have Htx := Lib.hid htx
        have Hdel := Lib.hid hdel
        clear hra hrest hbody hone hye hm htx hdel
        by_cases h1 : y.kind = 1
        · have d1 : (y.kind == 1) = true := by rw [h1]; rfl
          have H1 := Lib.hid h1
          clear h1
          go_wp2_with fail
          refine region_named 10 (by kernel_rfl) (by kernel_rfl) ?_
          intro w3 hw3
          have hg3 : wr.grownBy w3 none := by rw [hw3]; exact grownBy_drew _ _
          have hrB3 := HrB.out.kept hg3 (by simp)
          have hrG3 := HrG.out.kept hg3 (by simp)
          have hrD3 := HrD.out.kept hg3 (by simp)
          have hb3 : Below w.heap.size w w3 := Hb.out.grown hg3 Hb.out.size (fun k hk => by cases hk)
          have hfree := hrB3.free (k * 2 + 1)
          have cg3 : w3.cell? ⟨w.heap.size + 1 + 1, 3, none⟩ = some (.slice (some ⟨w.heap.size + 1 + 1 + 1, 0, none⟩) l.length l.length) := (cell_drew hw3 _ _).trans g3
          have cb3 : w3.cell? ⟨b, off + k * 68 + 3, none⟩ = some (.string y.body) := (cell_drew hw3 _ _).trans cb
          have ho : (w3.cell? ⟨w.heap.size + 1 + 1 + 1, k * 2 + 1, none⟩).isSome = true := by rw [hrB3.cell (k * 2 + 1) (by rw [Cut.parts_size l k hk]; omega)]; rfl
          obtain ⟨ov, hov⟩ := Option.isSome_iff_exists.1 ho
          have HrB3 := Lib.hid hrB3
          have HrG3 := Lib.hid hrG3
          have HrD3 := Lib.hid hrD3
          have Hb3 := Lib.hid hb3
          clear hw3 hg3 hrB3 hrG3 hrD3 hb3 ho
          simp only [List.take_succ_cons, List.take_zero, List.drop_succ_cons, List.drop_zero]
          repeat still_step
          refine wpStill_nil ?_
          go_wp2_with fail
          refine ⟨⟨k + 1, hlt, by go_num, row_other HrG3.out (by omega), ?_, row_other HrD3.out (by omega), below_set Hb3.out (by omega)⟩, by simp [intOf]; omega⟩
          rw [← Htx.out H1.out]
          exact HrB3.out.set _ _ (by rw [Cut.parts_size l k hk]; omega)
        · have d1 : (y.kind == 1) = false := by simpa using h1
          have H1 := Lib.hid h1
          clear h1
          have hfree := HrB.out.free (k * 2)
          have ho : (wr.cell? ⟨w.heap.size + 1 + 1 + 1, k * 2, none⟩).isSome = true := by rw [HrB.out.cell (k * 2) (by rw [Cut.parts_size l k hk]; omega)]; rfl
          obtain ⟨ov, hov⟩ := Option.isSome_iff_exists.1 ho
          clear ho
          go_wp2_with fail
          refine ⟨⟨k + 1, hlt, by go_num, row_other HrG.out (by omega), ?_, row_other HrD.out (by omega), below_set Hb.out (by omega)⟩, by simp [intOf]; omega⟩
          rw [← Hdel.out H1.out]
          exact HrB.out.set _ _ (by rw [Cut.parts_size l k hk]; omega)
      · have hki : (l.length : Int) ≤ (k : Int) := by omega
        have ekn : k = l.length := by omega
        have Ekn := Lib.hid ekn
        have fD := HrD.out.free
        have z0 := HrD.out.cell 0 (by simp)
        have z1 := HrD.out.cell 1 (by simp)
        have z2 := HrD.out.cell 2 (by simp)
        have z3 := HrD.out.cell 3 (by simp)
        simp only [List.getElem_cons_zero, List.getElem_cons_succ] at z0 z1 z2 z3
        clear ekn
        go_wp2_with fail
        obtain ⟨hE, hbE⟩ := four_set HrD.out Hb.out (by omega) (.int .i64 sq) (.int .i64 x.idx) (.int .i64 before) (.slice (some ⟨w.heap.size + 1 + 1 + 1, 0, none⟩) l.length l.length)
        refine bodyPost_ret (results_rowL rfl _ _ (w.heap.size + 1) 36 _ _ rfl hE Try.underlying36 rfl rfl _ rfl) rfl ⟨_, rfl, by omega, ?_, hbE⟩
        have hB := HrB.out
        rw [Ekn.out] at hB
        rw [← Cut.parts_all l]
        exact row_other (row_other (row_other (row_other hB (by omega)) (by omega)) (by omega)) (by omega)
end Go.Proofs.Ytncahgjmdeepeaa
