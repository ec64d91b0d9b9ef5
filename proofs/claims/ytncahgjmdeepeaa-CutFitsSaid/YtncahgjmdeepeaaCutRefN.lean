/- The reference of layer 21: Make, where it makes. -/
import Derived.Test.YtncahgjmdeepeaaCutRefM
import Derived.Test.YtncahgjmdeepeaaOwnStep
namespace Go.Proofs.Ytncahgjmdeepeaa
open Go.RowKit
set_option linter.unusedVariables false
set_option linter.unusedSimpArgs false

theorem two_cells (w : World) (t : TypeId) (a b : Value) : ∀ j u, [a, b][j]? = some u → (w.alloc (.cells #[a, b] t)).cell? ((⟨w.heap.size, 0, none⟩ : Addr).add j) = some u := by
  intro j u hj
  have hl : j < [a, b].length := (List.getElem?_eq_some_iff.1 hj).1
  have h2 : j = 0 ∨ j = 1 := by simp at hl; omega
  rcases h2 with rfl | rfl
  · have : a = u := by simpa using hj
    subst this
    simp [go_sem, Addr.add]
  · have : b = u := by simpa using hj
    subst this
    simp [go_sem, Addr.add]
theorem one_part (d : Bool) (s : ByteArray) : ∀ u ∈ [Value.bool d, Value.string s], u.oneCell' = true := by
  intro u hu
  simp at hu
  rcases hu with rfl | rfl <;> rfl

theorem below_own {w0 W W' : World} {r : Option Nat} (h : Below w0.heap.size w0 W) (hg : W.grownBy W' r) (hr : ∀ k, r = some k → w0.heap.size ≤ k) : Below w0.heap.size w0 W' :=
  h.grown hg h.size hr
theorem makes_three (w : World) (O1 : Obj) (D : List Value) (tD t1 : TypeId) (n : Nat) (X : List Value) :
    let W := (((w.alloc O1).alloc (.cells D.toArray tD)).drewN n).alloc (.cells X.toArray t1)
    Row W (w.heap.size + 1 + 1) t1 X ∧ Row W (w.heap.size + 1) tD D ∧ w.heap.size + 1 + 1 + 1 ≤ W.heap.size ∧ Below w.heap.size w W := by
  intro W
  have z1 : (w.alloc O1).heap.size = w.heap.size + 1 := by simp
  have z2 : (((w.alloc O1).alloc (.cells D.toArray tD)).drewN n).heap.size = w.heap.size + 1 + 1 := by rw [World.heap_drewN]; simp
  have rD := Row.new (w.alloc O1) tD D
  have rX := Row.new (((w.alloc O1).alloc (.cells D.toArray tD)).drewN n) t1 X
  rw [z1] at rD
  rw [z2] at rX
  refine ⟨rX, (rD.kept (grownBy_drewN _ n none) (by simp)).kept (grownBy_alloc _ _ none) (by simp), ?_, ?_⟩
  · have := rX.lt
    exact this
  · exact (below_drewN' (((Below.refl w.heap.size w).alloc (Nat.le_refl _) _).alloc (by simp) _) n).alloc (by rw [z2]; omega) _
set_option maxRecDepth 20000 in
set_option maxHeartbeats 1600000 in
theorem refMake_ok (A : Option Addr) (c : Nat) (l : List Rc) (sq first before count : Int) (w : World) (hl : RcsAt w A l) (hlen : l.length ≤ 8796093022208) (hok : Cut.okM first count l = true) :
    Calls Try.prog 16 #[.agg #[.int .i64 sq, .int .i64 first, .int .i64 before, .int .i64 count], .slice A l.length c] w fun e w' =>
      ∃ v, e = .returned (.tuple #[.agg #[.int .i64 sq, .int .i64 first, .int .i64 before, v], .int .i64 0]) ∧ w'.ownsRow (w.heap.size + 1 + 1 + 1) 46 2 v l.length (Cut.parts l) ∧ Below w.heap.size w w' := by
  obtain ⟨x, l', rfl⟩ : ∃ x l', l = x :: l' := by
    cases l with
    | nil => cases hok
    | cons x l' => exact ⟨x, l', rfl⟩
  have hcf : (((x :: l').length : Int) = count) ∧ x.idx = first := by
    have e : (decide (((x :: l').length : Int) = count) && decide (x.idx = first)) = true := hok
    simpa using e
  obtain ⟨b, off, rfl, hblt, hc⟩ := hl (by simp)
  have c0 : w.cell? ⟨b, off, none⟩ = some (.int .i64 x.idx) := by
    have := (hc 0 (by simp)).1 0 (.int .i64 x.idx) rfl
    simpa using this
  have hn1 : 0 < (x :: l').length := by simp
  obtain ⟨h1, h2⟩ := hcf
  obtain ⟨l, hle⟩ : ∃ l, l = x :: l' := ⟨_, rfl⟩
  rw [← hle] at hlen h1 hc hn1 ⊢
  subst h2
  rw [← h1]
  have hn0 : (1 : Int) ≤ (l.length : Int) := by omega
  have Hc := Lib.hid hc
  clear hc h1 hle hok hl
  go_enter Try.func16, Try.ntmps16
  go_wp2_with fail
  go_quiet (fail)
  go_wp2_with fail
  obtain ⟨i0, hi, hz0, hz1, hz2⟩ := info_parts part_info
  have Hi := Lib.hid hi; clear hi
  have Hz0 := Lib.hid hz0; clear hz0
  have Hz1 := Lib.hid hz1; clear hz1
  have Hz2 := Lib.hid hz2; clear hz2
  go_loopw [7] (fun i wr => ∃ (k : Nat) (v : Value), k ≤ l.length ∧ i = .int .i64 k ∧ Row wr (w.heap.size + 1 + 1) 36 [.int .i64 sq, .int .i64 x.idx, .int .i64 before, v] ∧ wr.ownsRow (w.heap.size + 1 + 1 + 1) 46 2 v k (Cut.parts (l.take k)) ∧ Row wr (w.heap.size + 1) 36 [.int .i64 0, .int .i64 0, .int .i64 0, .slice none 0 0] ∧ w.heap.size + 1 + 1 + 1 ≤ wr.heap.size ∧ Below w.heap.size w wr) (fun i _ => l.length - (intOf i).toNat)
  case atStart =>
    obtain ⟨a1, a2, a3, a4⟩ := makes_three w (.cells #[.int .i64 sq, .int .i64 x.idx, .int .i64 before, .int .i64 l.length] 33) [.int .i64 0, .int .i64 0, .int .i64 0, .slice none 0 0] 36 36 nq [.int .i64 sq, .int .i64 x.idx, .int .i64 before, .slice none 0 0]
    exact ⟨0, _, Nat.zero_le _, rfl, a1, World.ownsRow_nil _ _ _ _, a2, a3, a4⟩
  case round =>
    clear c0 hn0
    obtain ⟨k, v, hk, rfl, hrG, hown, hrD, hsz, hb⟩ := hrel
    have g0 := hrG.cell 0 (by simp)
    have g1 := hrG.cell 1 (by simp)
    have g2 := hrG.cell 2 (by simp)
    have g3 := hrG.cell 3 (by simp)
    simp only [List.getElem_cons_zero, List.getElem_cons_succ] at g0 g1 g2 g3
    have hneG : some (w.heap.size + 1 + 1) ≠ v.ownBlock := fun e => by have := (hown.lt _ e.symm).1; omega
    have hneD : some (w.heap.size + 1) ≠ v.ownBlock := fun e => by have := (hown.lt _ e.symm).1; omega
    have HrG := Lib.hid hrG
    have Hown := Lib.hid hown
    have HrD := Lib.hid hrD
    have Hsz := Lib.hid hsz
    have Hb := Lib.hid hb
    have HneG := Lib.hid hneG
    have HneD := Lib.hid hneD
    clear hrG hown hrD hb hsz hneG hneD
    by_cases hlt : k < l.length
    · have hki : (k : Int) < (l.length : Int) := by omega
      obtain ⟨hra, hrest, hbody, hone⟩ := Hc.out k hlt
      have hnx := Cut.parts_take l k hlt
      obtain ⟨y, hye⟩ : ∃ y, y = l[k] := ⟨_, rfl⟩
      rw [← hye] at hra hnx
      have ck : wr.cell? ⟨b, off + k * 68 + 1, none⟩ = some (.int .i64 y.kind) := (Hb.out.cell (p := ⟨b, off + k * 68 + 1, none⟩) hblt).trans (hra 1 _ rfl)
      have cb : wr.cell? ⟨b, off + k * 68 + 3, none⟩ = some (.string y.body) := (Hb.out.cell (p := ⟨b, off + k * 68 + 3, none⟩) hblt).trans (hra 3 _ rfl)
      have hs4 : w.heap.size + 1 + 1 < wr.heap.size := HrG.out.lt
      clear hra hrest hbody hone hye
      by_cases h1 : y.kind = 1
      · have d1 : (y.kind == 1) = true := by rw [h1]; rfl
        have hnx' : Cut.parts (l.take (k + 1)) = Cut.parts (l.take k) ++ [.bool false, .string y.body] := by rw [hnx]; simp [Cut.part, h1]
        have Hnx := Lib.hid hnx'
        clear h1 hnx hnx'
        go_wp2_with fail
        go_region_law (refine step_append_own rfl (.tmp 48) (.tmp 55) 34 rfl (w.heap.size + 1 + 1 + 1) 46 i0 (.agg #[.bool false, .string ByteArray.empty]) 2 24 Try.underlying34 Hi.out Hz0.out Hz1.out Hz2.out rfl (by decide) v k (Cut.parts (l.take k)) (by simp [Act.eval, Act.put]) (Hown.out.drew.alloc _) ⟨wr.heap.size, 0, none⟩ 1 1 [.bool false, .string y.body] (by simp [Act.eval, Act.put]) rfl (two_cells _ _ _ _) (one_part _ _) (by decide) (by unfold maxLen; omega) (by omega) (by simp; omega) ?_; intro g cap w' hown4 hgrow4
                       have hrG4 := ((HrG.out.kept (grownBy_drew _ none) (by simp)).kept (grownBy_alloc _ _ none) (by simp)).kept hgrow4 HneG.out
                       have hrD4 := ((HrD.out.kept (grownBy_drew _ none) (by simp)).kept (grownBy_alloc _ _ none) (by simp)).kept hgrow4 HneD.out
                       have q3 := hrG4.cell 3 (by simp)
                       have f3 := hrG4.free 3
                       simp only [List.getElem_cons_zero, List.getElem_cons_succ] at q3
                       have Hown4 := Lib.hid hown4
                       have Hgrow4 := Lib.hid hgrow4
                       have HrG4 := Lib.hid hrG4
                       have HrD4 := Lib.hid hrD4
                       clear hown4 hgrow4 hrG4 hrD4)
        all_goals
          clear g0 g1 g2 g3
          go_wp2_with fail
          refine ⟨⟨k + 1, _, hlt, by go_num, HrG4.out.set 3 _ (by simp), ?_, row_other HrD4.out (by omega), ?_, ?_⟩, by simp [intOf]; omega⟩
          · rw [Hnx.out]; exact ownsRow_setCell_below Hown4.out (by simp) _
          · have := Hgrow4.out.size; simp at this ⊢; omega
          · exact below_set (below_own (((Hb.out.drew).alloc Hb.out.size _)) Hgrow4.out (fun k hk => by have := (Hown.out.lt k hk).1; omega)) (by omega)
      · have d1 : (y.kind == 1) = false := by simpa using h1
        have hnx' : Cut.parts (l.take (k + 1)) = Cut.parts (l.take k) ++ [.bool true, .string ByteArray.empty] := by rw [hnx]; simp [Cut.part, h1]
        have Hnx := Lib.hid hnx'
        clear h1 hnx hnx'
        go_wp2_with (at_builtin; refine wpList_append_own_wide _ rfl (.tmp 59) (.tmp 61) 34 rfl (w.heap.size + 1 + 1 + 1) 46 i0 (.agg #[.bool false, .string ByteArray.empty]) 2 24 Try.underlying34 Hi.out Hz0.out Hz1.out Hz2.out rfl (by decide) _ _ _ rfl (Hown.out.alloc _) ⟨wr.heap.size, 0, none⟩ 1 1 [.bool true, .string ByteArray.empty] rfl rfl (two_cells _ _ _ _) (one_part _ _) (by unfold maxLen; omega) (by omega) (by simp; omega) ?_
                     intro v' w' hown4 hgrow4 _
                     obtain ⟨g, cap, rfl⟩ := ownsRow_succ hown4
                     have hrG4 := (HrG.out.kept (grownBy_alloc _ _ none) (by simp)).kept hgrow4 HneG.out
                     have hrD4 := (HrD.out.kept (grownBy_alloc _ _ none) (by simp)).kept hgrow4 HneD.out
                     have q3 := hrG4.cell 3 (by simp)
                     have f3 := hrG4.free 3
                     simp only [List.getElem_cons_zero, List.getElem_cons_succ] at q3
                     have Hown4 := Lib.hid hown4
                     have Hgrow4 := Lib.hid hgrow4
                     have HrG4 := Lib.hid hrG4
                     have HrD4 := Lib.hid hrD4
                     clear hown4 hgrow4 hrG4 hrD4 g0 g1 g2 g3)
        refine ⟨⟨k + 1, _, hlt, by go_num, HrG4.out.set 3 _ (by simp), ?_, row_other HrD4.out (by omega), ?_, ?_⟩, by simp [intOf]; omega⟩
        · rw [Hnx.out]; exact ownsRow_setCell_below Hown4.out (by simp) _
        · have := Hgrow4.out.size; simp at this ⊢; omega
        · exact below_set (below_own (Hb.out.alloc Hb.out.size _) Hgrow4.out (fun k hk => by have := (Hown.out.lt k hk).1; omega)) (by omega)
    · have hki : (l.length : Int) ≤ (k : Int) := by omega
      have ekn : k = l.length := by omega
      obtain ⟨g, cap, rfl⟩ : ∃ g cap, v = .slice (some ⟨g, 0, none⟩) k cap := by
        obtain ⟨m, rfl⟩ : ∃ m, k = m + 1 := ⟨k - 1, by omega⟩
        exact ownsRow_succ Hown.out
      have Ekn := Lib.hid ekn
      clear ekn
      have fD := HrD.out.free
      have z0 := HrD.out.cell 0 (by simp)
      have z1 := HrD.out.cell 1 (by simp)
      have z2 := HrD.out.cell 2 (by simp)
      have z3 := HrD.out.cell 3 (by simp)
      simp only [List.getElem_cons_zero, List.getElem_cons_succ] at z0 z1 z2 z3
      go_wp2_with fail
      obtain ⟨h1, h2⟩ := four_set HrD.out Hb.out (by omega) (.int .i64 sq) (.int .i64 x.idx) (.int .i64 before) (.slice (some ⟨g, 0, none⟩) k cap)
      have hownE : wr.ownsRow (w.heap.size + 1 + 1 + 1) 46 2 (.slice (some ⟨g, 0, none⟩) k cap) l.length (Cut.parts l) := by
        have h := Hown.out
        have e := Ekn.out
        rw [show l.take k = l by rw [e, List.take_length]] at h
        rw [← e]
        exact h
      refine bodyPost_ret (results_rowL rfl _ _ (w.heap.size + 1) 36 _ _ rfl h1 Try.underlying36 rfl rfl _ rfl) rfl ⟨_, rfl, ?_, h2⟩
      have st : ∀ (W : World) (i : Nat) (u : Value), W.ownsRow (w.heap.size + 1 + 1 + 1) 46 2 (.slice (some ⟨g, 0, none⟩) k cap) l.length (Cut.parts l) → (W.setCell ⟨w.heap.size + 1, i, none⟩ u).ownsRow (w.heap.size + 1 + 1 + 1) 46 2 (.slice (some ⟨g, 0, none⟩) k cap) l.length (Cut.parts l) := fun W i u h => ownsRow_setCell_below h (by simp) u
      exact st _ 3 _ (st _ 2 _ (st _ 1 _ (st _ 0 _ hownE)))
end Go.Proofs.Ytncahgjmdeepeaa
