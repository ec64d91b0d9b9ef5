/- The laws InboxReach and InboxWaits: what their functions return. -/
import Derived.Test.YtjeooegkfjlejaaDoorInbSame
namespace Go.Proofs.YtjeooegkfjlejaaDoor
open Go.RowKit
set_option linter.unusedVariables false
set_option linter.unusedSimpArgs false

def fits12 (n : Int) : Prop := -9223372036854775808 ≤ n ∧ n ≤ 9223372036854775807
def callC (n a t : Int) : List Value := [.int .i64 n, .int .i64 a, .int .i64 t]
/-- a box of the call's own -/
def BoxIn (w W : World) (g : Nat) (T : TypeId) (xs : List Value) : Prop := Row W g T xs ∧ Below w.heap.size w W
theorem BoxIn.step {w W W' : World} {g : Nat} {T : TypeId} {xs : List Value} (h : BoxIn w W g T xs) (hb : Below W.heap.size W W') : BoxIn w W' g T xs := ⟨h.1.kept (grownBy_of_below hb none) (by simp), two_below' h.2 hb⟩
theorem call_cells {W : World} {g : Nat} {T : TypeId} {n a t : Int} (h : Row W g T (callC n a t)) : W.cell? ⟨g, 0, none⟩ = some (.int .i64 n) ∧ W.cell? ⟨g, 1, none⟩ = some (.int .i64 a) ∧ W.cell? ⟨g, 2, none⟩ = some (.int .i64 t) :=
  ⟨h.cell 0 (by simp [callC]), h.cell 1 (by simp [callC]), h.cell 2 (by simp [callC])⟩
set_option maxRecDepth 20000 in
set_option maxHeartbeats 1600000 in
theorem inboxReach_any (A : Option Addr) (c : Nat) (l : List En) (n a t : Int) (hn : fits12 n) (ha : fits12 a) (ht : fits12 t) (w : World) (hE : ListAt 35 EnR w w.heap.size A l) (hl : l.length ≤ 9223372036854775807) (hT : Tab w) :
    Calls Tryd.prog 10 #[.slice A l.length c, .agg (callC n a t).toArray] w fun e w' => e = .returned (.bool true) ∧ Below w.heap.size w w' := by
  have hr0 := Row.new w 72 (callC n a t)
  have hb0 := (Below.refl w.heap.size w).alloc (Nat.le_refl _) (.cells (callC n a t).toArray 72)
  have AW := Lib.hid (fun W (hW : Below w.heap.size w W) => awake12_any W (hT.below hW hT.pos))
  have R1 := Lib.hid (fun W (hW : Below w.heap.size w W) => reach_any A c l n a t hn ha ht W (EnsAt.mono (EnsAt.below hE hW) hW.size) hl)
  have R2 := Lib.hid (fun W (hW : Below w.heap.size w W) => rreach_any A c l n a t hn ha ht W (EnsAt.mono (EnsAt.below hE hW) hW.size) hl)
  have CC := Lib.hid (fun (W : World) (h : Row W w.heap.size 72 (callC n a t)) => call_cells h)
  have H0 := Lib.hid (show BoxIn w _ w.heap.size 72 (callC n a t) from ⟨hr0, hb0⟩)
  generalize Inb.reach (blks l) n a t = R at *
  generalize callC n a t = C at *
  clear hr0 hb0 hE hT hn ha ht
  generalize l.length = m at *
  go_enter Tryd.func10, Tryd.ntmps10
  go_wp2_with fail
  refine wp_region_held_drew (S := fun w' => BoxIn w w' w.heap.size 72 C) (by kernel_rfl) (⟨H0.out.1.kept (grownBy_drew _ none) (by simp), H0.out.2.drew⟩) (fun hHeld => ?_)
  generalize (w.alloc (.cells C.toArray 72)).drew = wq at *
  refine wpAnyH_ready (rs := [0]) (by kernel_rfl) (by simp) (AllReadyH.cons rfl (fun K1 hK1 => ?_) AllReadyH.nil)
  try simp only [Act.put, List.getElem_toArray, List.getElem_cons_succ, List.getElem_cons_zero, List.setIfInBounds_toArray, List.set_cons_zero, List.set_cons_succ]
  go_simp
  refine Calls.mono (AW.out _ hHeld.2) ?_
  rintro e w1 ⟨rfl, hb1⟩
  refine hK1.out _ _ (hHeld.step hb1) (fun hHeld => ?_)
  clear hK1 K1
  try simp only [Act.put, List.getElem_toArray, List.getElem_cons_succ, List.getElem_cons_zero, List.setIfInBounds_toArray, List.set_cons_zero, List.set_cons_succ]
  refine wpAnyH_take (i := 1) (v := .bool true) rfl (by kernel_rfl) (by kernel_rfl) (by kernel_rfl) (fun _ _ _ h => h) (Or.inl ⟨by rfl, fun w' hSw => by go_simp⟩) hHeld ?_
  try simp only [Act.put, List.getElem_toArray, List.getElem_cons_succ, List.getElem_cons_zero, List.setIfInBounds_toArray, List.set_cons_zero, List.set_cons_succ]
  refine wpAnyH_take (i := 2) (v := .slice A m c) rfl (by kernel_rfl) (by kernel_rfl) (by kernel_rfl) (fun _ _ _ h => h) (Or.inl ⟨by rfl, fun w' hSw => by go_simp⟩) hHeld ?_
  try simp only [Act.put, List.getElem_toArray, List.getElem_cons_succ, List.getElem_cons_zero, List.setIfInBounds_toArray, List.set_cons_zero, List.set_cons_succ]
  refine wpAnyH_take (i := 3) (v := .pointer (some ⟨w.heap.size, 0, none⟩)) rfl (by kernel_rfl) (by kernel_rfl) (by kernel_rfl) (fun _ _ _ h => h) (Or.inl ⟨by rfl, fun w' hSw => by go_simp⟩) hHeld ?_
  try simp only [Act.put, List.getElem_toArray, List.getElem_cons_succ, List.getElem_cons_zero, List.setIfInBounds_toArray, List.set_cons_zero, List.set_cons_succ]
  refine wpAnyH_take (i := 4) (v := .int .i64 n) rfl (by kernel_rfl) (by kernel_rfl) (by kernel_rfl) (fun _ _ _ h => h) (Or.inl ⟨by rfl, fun w' hSw => by have hq := hSw; have hc := CC.out _ hq.1; have hd := hc.1; go_simp⟩) hHeld ?_
  try simp only [Act.put, List.getElem_toArray, List.getElem_cons_succ, List.getElem_cons_zero, List.setIfInBounds_toArray, List.set_cons_zero, List.set_cons_succ]
  refine wpAnyH_take (i := 5) (v := .pointer (some ⟨w.heap.size, 1, none⟩)) rfl (by kernel_rfl) (by kernel_rfl) (by kernel_rfl) (fun _ _ _ h => h) (Or.inl ⟨by rfl, fun w' hSw => by go_simp⟩) hHeld ?_
  try simp only [Act.put, List.getElem_toArray, List.getElem_cons_succ, List.getElem_cons_zero, List.setIfInBounds_toArray, List.set_cons_zero, List.set_cons_succ]
  refine wpAnyH_take (i := 6) (v := .int .i64 a) rfl (by kernel_rfl) (by kernel_rfl) (by kernel_rfl) (fun _ _ _ h => h) (Or.inl ⟨by rfl, fun w' hSw => by have hq := hSw; have hc := CC.out _ hq.1; have hd := hc.2.1; go_simp⟩) hHeld ?_
  try simp only [Act.put, List.getElem_toArray, List.getElem_cons_succ, List.getElem_cons_zero, List.setIfInBounds_toArray, List.set_cons_zero, List.set_cons_succ]
  refine wpAnyH_take (i := 7) (v := .pointer (some ⟨w.heap.size, 2, none⟩)) rfl (by kernel_rfl) (by kernel_rfl) (by kernel_rfl) (fun _ _ _ h => h) (Or.inl ⟨by rfl, fun w' hSw => by go_simp⟩) hHeld ?_
  try simp only [Act.put, List.getElem_toArray, List.getElem_cons_succ, List.getElem_cons_zero, List.setIfInBounds_toArray, List.set_cons_zero, List.set_cons_succ]
  refine wpAnyH_take (i := 8) (v := .int .i64 t) rfl (by kernel_rfl) (by kernel_rfl) (by kernel_rfl) (fun _ _ _ h => h) (Or.inl ⟨by rfl, fun w' hSw => by have hq := hSw; have hc := CC.out _ hq.1; have hd := hc.2.2; go_simp⟩) hHeld ?_
  try simp only [Act.put, List.getElem_toArray, List.getElem_cons_succ, List.getElem_cons_zero, List.setIfInBounds_toArray, List.set_cons_zero, List.set_cons_succ]
  refine wpAnyH_take (i := 10) (v := .slice A m c) rfl (by kernel_rfl) (by kernel_rfl) (by kernel_rfl) (fun _ _ _ h => h) (Or.inl ⟨by rfl, fun w' hSw => by go_simp⟩) hHeld ?_
  try simp only [Act.put, List.getElem_toArray, List.getElem_cons_succ, List.getElem_cons_zero, List.setIfInBounds_toArray, List.set_cons_zero, List.set_cons_succ]
  refine wpAnyH_take (i := 11) (v := .pointer (some ⟨w.heap.size, 0, none⟩)) rfl (by kernel_rfl) (by kernel_rfl) (by kernel_rfl) (fun _ _ _ h => h) (Or.inl ⟨by rfl, fun w' hSw => by go_simp⟩) hHeld ?_
  try simp only [Act.put, List.getElem_toArray, List.getElem_cons_succ, List.getElem_cons_zero, List.setIfInBounds_toArray, List.set_cons_zero, List.set_cons_succ]
  refine wpAnyH_take (i := 12) (v := .int .i64 n) rfl (by kernel_rfl) (by kernel_rfl) (by kernel_rfl) (fun _ _ _ h => h) (Or.inl ⟨by rfl, fun w' hSw => by have hq := hSw; have hc := CC.out _ hq.1; have hd := hc.1; go_simp⟩) hHeld ?_
  try simp only [Act.put, List.getElem_toArray, List.getElem_cons_succ, List.getElem_cons_zero, List.setIfInBounds_toArray, List.set_cons_zero, List.set_cons_succ]
  refine wpAnyH_take (i := 13) (v := .pointer (some ⟨w.heap.size, 1, none⟩)) rfl (by kernel_rfl) (by kernel_rfl) (by kernel_rfl) (fun _ _ _ h => h) (Or.inl ⟨by rfl, fun w' hSw => by go_simp⟩) hHeld ?_
  try simp only [Act.put, List.getElem_toArray, List.getElem_cons_succ, List.getElem_cons_zero, List.setIfInBounds_toArray, List.set_cons_zero, List.set_cons_succ]
  refine wpAnyH_take (i := 14) (v := .int .i64 a) rfl (by kernel_rfl) (by kernel_rfl) (by kernel_rfl) (fun _ _ _ h => h) (Or.inl ⟨by rfl, fun w' hSw => by have hq := hSw; have hc := CC.out _ hq.1; have hd := hc.2.1; go_simp⟩) hHeld ?_
  try simp only [Act.put, List.getElem_toArray, List.getElem_cons_succ, List.getElem_cons_zero, List.setIfInBounds_toArray, List.set_cons_zero, List.set_cons_succ]
  refine wpAnyH_take (i := 15) (v := .pointer (some ⟨w.heap.size, 2, none⟩)) rfl (by kernel_rfl) (by kernel_rfl) (by kernel_rfl) (fun _ _ _ h => h) (Or.inl ⟨by rfl, fun w' hSw => by go_simp⟩) hHeld ?_
  try simp only [Act.put, List.getElem_toArray, List.getElem_cons_succ, List.getElem_cons_zero, List.setIfInBounds_toArray, List.set_cons_zero, List.set_cons_succ]
  refine wpAnyH_take (i := 16) (v := .int .i64 t) rfl (by kernel_rfl) (by kernel_rfl) (by kernel_rfl) (fun _ _ _ h => h) (Or.inl ⟨by rfl, fun w' hSw => by have hq := hSw; have hc := CC.out _ hq.1; have hd := hc.2.2; go_simp⟩) hHeld ?_
  try simp only [Act.put, List.getElem_toArray, List.getElem_cons_succ, List.getElem_cons_zero, List.setIfInBounds_toArray, List.set_cons_zero, List.set_cons_succ]
  refine wpAnyH_ready (rs := [9]) (by kernel_rfl) (by simp) (AllReadyH.cons rfl (fun K1 hK1 => ?_) AllReadyH.nil)
  try simp only [Act.put, List.getElem_toArray, List.getElem_cons_succ, List.getElem_cons_zero, List.setIfInBounds_toArray, List.set_cons_zero, List.set_cons_succ]
  go_simp
  refine Calls.mono (R1.out _ hHeld.2) ?_
  rintro e w2 ⟨rfl, rfl⟩
  refine hK1.out _ _ (hHeld) (fun hHeld => ?_)
  clear hK1 K1
  try simp only [Act.put, List.getElem_toArray, List.getElem_cons_succ, List.getElem_cons_zero, List.setIfInBounds_toArray, List.set_cons_zero, List.set_cons_succ]
  refine wpAnyH_ready (rs := [17]) (by kernel_rfl) (by simp) (AllReadyH.cons rfl (fun K1 hK1 => ?_) AllReadyH.nil)
  try simp only [Act.put, List.getElem_toArray, List.getElem_cons_succ, List.getElem_cons_zero, List.setIfInBounds_toArray, List.set_cons_zero, List.set_cons_succ]
  go_simp
  refine Calls.mono (R2.out _ hHeld.2) ?_
  rintro e w3 ⟨rfl, rfl⟩
  refine hK1.out _ _ (hHeld) (fun hHeld => ?_)
  clear hK1 K1
  try simp only [Act.put, List.getElem_toArray, List.getElem_cons_succ, List.getElem_cons_zero, List.setIfInBounds_toArray, List.set_cons_zero, List.set_cons_succ]
  refine wpAnyH_take (i := 18) (v := .bool true) rfl (by kernel_rfl) (by kernel_rfl) (by kernel_rfl) (fun _ _ _ h => h) (Or.inl ⟨by rfl, fun w' hSw => by go_simp⟩) hHeld ?_
  try simp only [Act.put, List.getElem_toArray, List.getElem_cons_succ, List.getElem_cons_zero, List.setIfInBounds_toArray, List.set_cons_zero, List.set_cons_succ]
  refine wpAnyH_take (i := 19) (v := .bool true) rfl (by kernel_rfl) (by kernel_rfl) (by kernel_rfl) (fun _ _ _ h => h) (Or.inl ⟨by rfl, fun w' hSw => by go_simp⟩) hHeld ?_
  try simp only [Act.put, List.getElem_toArray, List.getElem_cons_succ, List.getElem_cons_zero, List.setIfInBounds_toArray, List.set_cons_zero, List.set_cons_succ]
  refine wpAnyH_take (i := 20) (v := .bool true) rfl (by kernel_rfl) (by kernel_rfl) (by kernel_rfl) (fun _ _ _ h => h) (Or.inl ⟨by rfl, fun w' hSw => by go_simp⟩) hHeld ?_
  try simp only [Act.put, List.getElem_toArray, List.getElem_cons_succ, List.getElem_cons_zero, List.setIfInBounds_toArray, List.set_cons_zero, List.set_cons_succ]
  refine wpAnyH_done (by kernel_rfl) ?_ _
  have HRe := Lib.hid hHeld.2
  clear hHeld
  go_wp2_with fail
  go_ret
  exact ⟨rfl, HRe.out⟩
/-- two boxes of the call's own -/
def BoxIn2 (w W : World) (T : TypeId) (xs ys : List Value) : Prop := Row W w.heap.size T xs ∧ Row W (w.heap.size + 1) T ys ∧ Below w.heap.size w W
theorem BoxIn2.step {w W W' : World} {T : TypeId} {xs ys : List Value} (h : BoxIn2 w W T xs ys) (hb : Below W.heap.size W W') : BoxIn2 w W' T xs ys := ⟨h.1.kept (grownBy_of_below hb none) (by simp), h.2.1.kept (grownBy_of_below hb none) (by simp), two_below' h.2.2 hb⟩
set_option maxRecDepth 20000 in
set_option maxHeartbeats 1600000 in
theorem inboxWaits_any (A : Option Addr) (c : Nat) (l : List En) (n a t n2 a2 t2 : Int) (hn : fits12 n) (ha : fits12 a) (ht : fits12 t) (hn2 : fits12 n2) (ha2 : fits12 a2) (ht2 : fits12 t2) (w : World) (hE : ListAt 35 EnR w w.heap.size A l) (hl : l.length ≤ 9223372036854775807) (hT : Tab w) :
    Calls Tryd.prog 13 #[.slice A l.length c, .agg (callC n a t).toArray, .agg (callC n2 a2 t2).toArray] w fun e w' => e = .returned (.bool true) ∧ Below w.heap.size w w' := by
  obtain ⟨rB, hb2, rA⟩ := row_two w (callC n a t).toArray (callC n2 a2 t2).toArray 72 72
  have AW := Lib.hid (fun W (hW : Below w.heap.size w W) => awake12_any W (hT.below hW hT.pos))
  have R1 := Lib.hid (fun W (hW : Below w.heap.size w W) => reach_any A c l n a t hn ha ht W (EnsAt.mono (EnsAt.below hE hW) hW.size) hl)
  have R2 := Lib.hid (fun W (hW : Below w.heap.size w W) => reach_any A c l n2 a2 t2 hn2 ha2 ht2 W (EnsAt.mono (EnsAt.below hE hW) hW.size) hl)
  have C1 := Lib.hid (fun (W : World) (h : Row W w.heap.size 72 (callC n a t)) => call_cells h)
  have C2 := Lib.hid (fun (W : World) (h : Row W (w.heap.size + 1) 72 (callC n2 a2 t2)) => call_cells h)
  have H0 := Lib.hid (show BoxIn2 w _ 72 (callC n a t) (callC n2 a2 t2) from ⟨rA, rB, hb2⟩)
  have g0 := Inb.reach_nonneg (blks l) n a t
  have g1 := Inb.reach_len (blks l) n a t
  have g2 := Inb.reach_n (blks l) n a t
  have g3 := Inb.reach_mono (blks l) n a t n2 a2 t2
  have gl : (blks l).length = l.length := by simp [blks]
  rw [gl] at g1
  have HG3 := Lib.hid g3
  generalize Inb.reach (blks l) n a t = x at *
  generalize Inb.reach (blks l) n2 a2 t2 = y at *
  generalize callC n a t = C at *
  generalize callC n2 a2 t2 = D at *
  clear rA rB hb2 hE hT gl g3
  generalize l.length = m at *
  obtain ⟨mx, hmx⟩ : ∃ mx, mx = max n 0 := ⟨_, rfl⟩
  have emx : max n 0 = mx := hmx.symm
  have b0 : decide (x < 0) = false := by simpa using g0
  have b1 : decide ((m : Int) < x) = false := by simpa using g1
  have b2 : decide (mx < x) = false := by rw [hmx]; simpa using g2
  clear g2 hmx
  unfold fits12 at *
  go_enter Tryd.func13, Tryd.ntmps13
  go_wp2_with fail
  refine wp_region_held_drew (S := fun w' => BoxIn2 w w' 72 C D) (by kernel_rfl) (⟨H0.out.1.kept (grownBy_drew _ none) (by simp), H0.out.2.1.kept (grownBy_drew _ none) (by simp), H0.out.2.2.drew⟩) (fun hHeld => ?_)
  generalize ((w.alloc (.cells C.toArray 72)).alloc (.cells D.toArray 72)).drew = wq at *
  refine wpAnyH_take (i := 0) (v := .slice A m c) rfl (by kernel_rfl) (by kernel_rfl) (by kernel_rfl) (fun _ _ _ h => h) (Or.inl ⟨by rfl, fun w' hSw => by go_simp⟩) hHeld ?_
  try simp only [Act.put, List.getElem_toArray, List.getElem_cons_succ, List.getElem_cons_zero, List.setIfInBounds_toArray, List.set_cons_zero, List.set_cons_succ]
  refine wpAnyH_take (i := 1) (v := .pointer (some ⟨w.heap.size, 0, none⟩)) rfl (by kernel_rfl) (by kernel_rfl) (by kernel_rfl) (fun _ _ _ h => h) (Or.inl ⟨by rfl, fun w' hSw => by go_simp⟩) hHeld ?_
  try simp only [Act.put, List.getElem_toArray, List.getElem_cons_succ, List.getElem_cons_zero, List.setIfInBounds_toArray, List.set_cons_zero, List.set_cons_succ]
  refine wpAnyH_take (i := 2) (v := .int .i64 n) rfl (by kernel_rfl) (by kernel_rfl) (by kernel_rfl) (fun _ _ _ h => h) (Or.inl ⟨by rfl, fun w' hSw => by have hq := hSw; have hc := C1.out _ hq.1; have hd := hc.1; go_simp⟩) hHeld ?_
  try simp only [Act.put, List.getElem_toArray, List.getElem_cons_succ, List.getElem_cons_zero, List.setIfInBounds_toArray, List.set_cons_zero, List.set_cons_succ]
  refine wpAnyH_take (i := 3) (v := .pointer (some ⟨w.heap.size, 1, none⟩)) rfl (by kernel_rfl) (by kernel_rfl) (by kernel_rfl) (fun _ _ _ h => h) (Or.inl ⟨by rfl, fun w' hSw => by go_simp⟩) hHeld ?_
  try simp only [Act.put, List.getElem_toArray, List.getElem_cons_succ, List.getElem_cons_zero, List.setIfInBounds_toArray, List.set_cons_zero, List.set_cons_succ]
  refine wpAnyH_take (i := 4) (v := .int .i64 a) rfl (by kernel_rfl) (by kernel_rfl) (by kernel_rfl) (fun _ _ _ h => h) (Or.inl ⟨by rfl, fun w' hSw => by have hq := hSw; have hc := C1.out _ hq.1; have hd := hc.2.1; go_simp⟩) hHeld ?_
  try simp only [Act.put, List.getElem_toArray, List.getElem_cons_succ, List.getElem_cons_zero, List.setIfInBounds_toArray, List.set_cons_zero, List.set_cons_succ]
  refine wpAnyH_take (i := 5) (v := .pointer (some ⟨w.heap.size, 2, none⟩)) rfl (by kernel_rfl) (by kernel_rfl) (by kernel_rfl) (fun _ _ _ h => h) (Or.inl ⟨by rfl, fun w' hSw => by go_simp⟩) hHeld ?_
  try simp only [Act.put, List.getElem_toArray, List.getElem_cons_succ, List.getElem_cons_zero, List.setIfInBounds_toArray, List.set_cons_zero, List.set_cons_succ]
  refine wpAnyH_take (i := 6) (v := .int .i64 t) rfl (by kernel_rfl) (by kernel_rfl) (by kernel_rfl) (fun _ _ _ h => h) (Or.inl ⟨by rfl, fun w' hSw => by have hq := hSw; have hc := C1.out _ hq.1; have hd := hc.2.2; go_simp⟩) hHeld ?_
  try simp only [Act.put, List.getElem_toArray, List.getElem_cons_succ, List.getElem_cons_zero, List.setIfInBounds_toArray, List.set_cons_zero, List.set_cons_succ]
  refine wpAnyH_take (i := 8) (v := .slice A m c) rfl (by kernel_rfl) (by kernel_rfl) (by kernel_rfl) (fun _ _ _ h => h) (Or.inl ⟨by rfl, fun w' hSw => by go_simp⟩) hHeld ?_
  try simp only [Act.put, List.getElem_toArray, List.getElem_cons_succ, List.getElem_cons_zero, List.setIfInBounds_toArray, List.set_cons_zero, List.set_cons_succ]
  refine wpAnyH_take (i := 9) (v := .pointer (some ⟨(w.heap.size + 1), 0, none⟩)) rfl (by kernel_rfl) (by kernel_rfl) (by kernel_rfl) (fun _ _ _ h => h) (Or.inl ⟨by rfl, fun w' hSw => by go_simp⟩) hHeld ?_
  try simp only [Act.put, List.getElem_toArray, List.getElem_cons_succ, List.getElem_cons_zero, List.setIfInBounds_toArray, List.set_cons_zero, List.set_cons_succ]
  refine wpAnyH_take (i := 10) (v := .int .i64 n2) rfl (by kernel_rfl) (by kernel_rfl) (by kernel_rfl) (fun _ _ _ h => h) (Or.inl ⟨by rfl, fun w' hSw => by have hq := hSw; have hc := C2.out _ hq.2.1; have hd := hc.1; go_simp⟩) hHeld ?_
  try simp only [Act.put, List.getElem_toArray, List.getElem_cons_succ, List.getElem_cons_zero, List.setIfInBounds_toArray, List.set_cons_zero, List.set_cons_succ]
  refine wpAnyH_take (i := 11) (v := .pointer (some ⟨(w.heap.size + 1), 1, none⟩)) rfl (by kernel_rfl) (by kernel_rfl) (by kernel_rfl) (fun _ _ _ h => h) (Or.inl ⟨by rfl, fun w' hSw => by go_simp⟩) hHeld ?_
  try simp only [Act.put, List.getElem_toArray, List.getElem_cons_succ, List.getElem_cons_zero, List.setIfInBounds_toArray, List.set_cons_zero, List.set_cons_succ]
  refine wpAnyH_take (i := 12) (v := .int .i64 a2) rfl (by kernel_rfl) (by kernel_rfl) (by kernel_rfl) (fun _ _ _ h => h) (Or.inl ⟨by rfl, fun w' hSw => by have hq := hSw; have hc := C2.out _ hq.2.1; have hd := hc.2.1; go_simp⟩) hHeld ?_
  try simp only [Act.put, List.getElem_toArray, List.getElem_cons_succ, List.getElem_cons_zero, List.setIfInBounds_toArray, List.set_cons_zero, List.set_cons_succ]
  refine wpAnyH_take (i := 13) (v := .pointer (some ⟨(w.heap.size + 1), 2, none⟩)) rfl (by kernel_rfl) (by kernel_rfl) (by kernel_rfl) (fun _ _ _ h => h) (Or.inl ⟨by rfl, fun w' hSw => by go_simp⟩) hHeld ?_
  try simp only [Act.put, List.getElem_toArray, List.getElem_cons_succ, List.getElem_cons_zero, List.setIfInBounds_toArray, List.set_cons_zero, List.set_cons_succ]
  refine wpAnyH_take (i := 14) (v := .int .i64 t2) rfl (by kernel_rfl) (by kernel_rfl) (by kernel_rfl) (fun _ _ _ h => h) (Or.inl ⟨by rfl, fun w' hSw => by have hq := hSw; have hc := C2.out _ hq.2.1; have hd := hc.2.2; go_simp⟩) hHeld ?_
  try simp only [Act.put, List.getElem_toArray, List.getElem_cons_succ, List.getElem_cons_zero, List.setIfInBounds_toArray, List.set_cons_zero, List.set_cons_succ]
  refine wpAnyH_ready (rs := [7]) (by kernel_rfl) (by simp) (AllReadyH.cons rfl (fun K1 hK1 => ?_) AllReadyH.nil)
  try simp only [Act.put, List.getElem_toArray, List.getElem_cons_succ, List.getElem_cons_zero, List.setIfInBounds_toArray, List.set_cons_zero, List.set_cons_succ]
  go_simp
  refine Calls.mono (R1.out _ hHeld.2.2) ?_
  rintro e w2 ⟨rfl, rfl⟩
  refine hK1.out _ _ (hHeld) (fun hHeld => ?_)
  clear hK1 K1
  try simp only [Act.put, List.getElem_toArray, List.getElem_cons_succ, List.getElem_cons_zero, List.setIfInBounds_toArray, List.set_cons_zero, List.set_cons_succ]
  refine wpAnyH_ready (rs := [15]) (by kernel_rfl) (by simp) (AllReadyH.cons rfl (fun K1 hK1 => ?_) AllReadyH.nil)
  try simp only [Act.put, List.getElem_toArray, List.getElem_cons_succ, List.getElem_cons_zero, List.setIfInBounds_toArray, List.set_cons_zero, List.set_cons_succ]
  go_simp
  refine Calls.mono (R2.out _ hHeld.2.2) ?_
  rintro e w3 ⟨rfl, rfl⟩
  refine hK1.out _ _ (hHeld) (fun hHeld => ?_)
  clear hK1 K1
  try simp only [Act.put, List.getElem_toArray, List.getElem_cons_succ, List.getElem_cons_zero, List.setIfInBounds_toArray, List.set_cons_zero, List.set_cons_succ]
  refine wpAnyH_take (i := 16) (v := .int .i64 x) rfl (by kernel_rfl) (by kernel_rfl) (by kernel_rfl) (fun _ _ _ h => h) (Or.inl ⟨by rfl, fun w' hSw => by go_simp⟩) hHeld ?_
  try simp only [Act.put, List.getElem_toArray, List.getElem_cons_succ, List.getElem_cons_zero, List.setIfInBounds_toArray, List.set_cons_zero, List.set_cons_succ]
  refine wpAnyH_take (i := 17) (v := .int .i64 y) rfl (by kernel_rfl) (by kernel_rfl) (by kernel_rfl) (fun _ _ _ h => h) (Or.inl ⟨by rfl, fun w' hSw => by go_simp⟩) hHeld ?_
  try simp only [Act.put, List.getElem_toArray, List.getElem_cons_succ, List.getElem_cons_zero, List.setIfInBounds_toArray, List.set_cons_zero, List.set_cons_succ]
  refine wpAnyH_done (by kernel_rfl) ?_ _
  have HRe := Lib.hid hHeld
  clear hHeld
  go_wp2_with fail
  refine (AW.out _ HRe.out.2.2).mono ?_
  rintro _ w4 ⟨rfl, hb4⟩
  have HR4 := Lib.hid (HRe.out.step hb4)
  obtain ⟨p0, p1, p2⟩ := C1.out _ HR4.out.1
  obtain ⟨q0, q1, q2⟩ := C2.out _ HR4.out.2.1
  clear hb4
  by_cases h1 : n2 < n
  · have d1 : decide (n2 < n) = true := by simpa using h1
    go_wp2_with fail
    go_ret
    exact ⟨rfl, HR4.out.2.2⟩
  have d1 : decide (n2 < n) = false := by simpa using h1
  by_cases h2 : a2 < a
  · have d2 : decide (a2 < a) = true := by simpa using h2
    go_wp2_with fail
    go_ret
    exact ⟨rfl, HR4.out.2.2⟩
  have d2 : decide (a2 < a) = false := by simpa using h2
  by_cases h3 : t < t2
  · have d3 : decide (t < t2) = true := by simpa using h3
    go_wp2_with fail
    go_ret
    exact ⟨rfl, HR4.out.2.2⟩
  have d3 : decide (t < t2) = false := by simpa using h3
  by_cases h4 : t2 < 0
  · have d4 : decide (t2 < 0) = true := by simpa using h4
    go_wp2_with fail
    go_ret
    exact ⟨rfl, HR4.out.2.2⟩
  have d4 : decide (t2 < 0) = false := by simpa using h4
  have h5 : x ≤ y := HG3.out (by omega) (by omega) (by omega) (by omega)
  have d5 : decide (x ≤ y) = true := by simpa using h5
  go_wp2_with fail
  go_ret
  exact ⟨rfl, HR4.out.2.2⟩
end Go.Proofs.YtjeooegkfjlejaaDoor
