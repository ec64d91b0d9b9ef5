/- What later texts need of the earlier layers. -/
import Derived.Test.YtjeooegkfjlejaaDoorEarO
import Derived.Test.YtjeooegkfjlejaaDoorEarS
import Derived.Test.YtjeooegkfjlejaaDoorEarT
import Derived.Test.YtjeooegkfjlejaaDoorEarC
import Derived.Test.YtjeooegkfjlejaaDoorEarA
import Derived.Test.YtjeooegkfjlejaaDoorEarB
import Derived.Test.YtjeooegkfjlejaaDoorIbA
import Derived.Test.YtjeooegkfjlejaaDoorTrMath
import Derived.Test.YtjeooegkfjlejaaDoorTrHash
import Derived.Test.YtjeooegkfjlejaaDoorTrMem
/- ---- TrLv ---- -/
/- Links, as they lie in memory; link.block. -/
namespace Go.Proofs.YtjeooegkfjlejaaDoor
open Go.RowKit
set_option linter.unusedVariables false
set_option linter.unusedSimpArgs false

/-- a link with where its items lie -/
structure Lv where
  k : Tr.Lk
  A : Option Addr
  cap : Nat
def headC (num salt : Int) (par : List UInt8) : List Value := [.int .i64 num, .int .i64 salt] ++ (bRow par).toList
theorem headC_len {num salt : Int} {par : List UInt8} (h : par.length = 32) : (headC num salt par).length = 34 := by
  unfold headC
  rw [List.length_append, Tx.bRow_len _ h]; rfl
theorem headC_one {num salt : Int} {par : List UInt8} (h : par.length = 32) : ∀ v ∈ headC num salt par, v.oneCell' = true := by
  intro v hv
  rcases List.mem_append.1 hv with hv | hv
  · simp at hv; rcases hv with rfl | rfl <;> rfl
  · exact hash_one _ h v hv
namespace Lv
def cells (x : Lv) : List Value := headC x.k.b.number x.k.b.salt x.k.b.parent ++ (.slice x.A x.k.b.items.length x.cap :: (bRow x.k.hash).toList)
def Fits (x : Lv) : Prop := x.k.b.parent.length = 32 ∧ x.k.hash.length = 32 ∧ Tx.fits x.k.b.number ∧ Tx.fits x.k.b.salt
theorem cells_len {x : Lv} (h : x.Fits) : x.cells.length = 67 := by
  unfold cells
  rw [List.length_append, headC_len h.1, List.length_cons, Tx.bRow_len _ h.2.1]
theorem cells_one {x : Lv} (h : x.Fits) : ∀ v ∈ x.cells, v.oneCell' = true := by
  intro v hv
  rcases List.mem_append.1 hv with hv | hv
  · exact headC_one h.1 v hv
  · rcases List.mem_cons.1 hv with rfl | hv
    · rfl
    · exact hash_one _ h.2.1 v hv
def zero : Lv := ⟨Tr.zeroL, none, 0⟩
theorem zero_fits : zero.Fits := ⟨rfl, rfl, by constructor <;> decide, by constructor <;> decide⟩
theorem at_ {x : Lv} (h : x.Fits) {w : World} {g o : Nat} (hr : w.rangeAt g o x.cells) :
    w.cell? ⟨g, o, none⟩ = some (.int .i64 x.k.b.number) ∧ w.cell? ⟨g, o + 1, none⟩ = some (.int .i64 x.k.b.salt) ∧ w.rangeAt g (o + 2) (bRow x.k.b.parent).toList ∧ w.cell? ⟨g, o + 34, none⟩ = some (.slice x.A x.k.b.items.length x.cap) ∧ w.rangeAt g (o + 35) (bRow x.k.hash).toList ∧
      w.rangeAt g o (headC x.k.b.number x.k.b.salt x.k.b.parent) := by
  have hL := headC_len (num := x.k.b.number) (salt := x.k.b.salt) h.1
  refine ⟨hr 0 _ rfl, hr 1 _ rfl, fun j v hv => ?_, hr 34 _ ?_, fun j v hv => ?_, fun j v hv => hr j v ?_⟩
  · have := hr (2 + j) v (by
      unfold cells headC
      rw [List.append_assoc, List.getElem?_append_right (by simp), List.getElem?_append_left (by simpa using (List.getElem?_eq_some_iff.1 hv).1)]
      simpa using hv)
    rw [Nat.add_assoc]
    exact this
  · unfold cells
    rw [List.getElem?_append_right (by omega), hL]
    rfl
  · have := hr (35 + j) v (by
      unfold cells
      rw [List.getElem?_append_right (by omega), hL, show 35 + j - 34 = j + 1 by omega]
      exact hv)
    rw [Nat.add_assoc]
    exact this
  · unfold cells
    rw [List.getElem?_append_left (List.getElem?_eq_some_iff.1 hv).1]
    exact hv
end Lv
theorem link_size : (Tryd.prog.info? 86).map (·.size) = some 67 := by kernel_rfl
theorem head_size : (Tryd.prog.info? 84).map (·.size) = some 34 := by kernel_rfl
theorem bk_all (a b : Int) (R : List UInt8) (hR : R.length = 32) (A : Option Addr) (cap : Nat) (its : List It) : Tryd.prog.built 45 [(0, .int .i64 a), (1, .int .i64 b), (2, .agg (bRow R)), (3, .slice A its.length cap)] = some (Bk.cells ⟨a, b, R, its⟩ A cap).toArray := by
  have hz := Tx.bRow_len Tx.zero rfl
  have hr := Tx.bRow_len R hR
  have hL := Bk.zeroC_len
  rw [bk_built]
  rw [fill_step _ _ 0 _ [.int .i64 a] _ 0 1 rfl rfl rfl (by rw [hL]; omega)]
  rw [fill_step _ _ 1 _ [.int .i64 b] _ 1 1 rfl rfl rfl (by simp only [List.length_append, List.length_take, List.length_drop, List.length_cons, List.length_nil, hL]; omega)]
  rw [fill_step _ _ 2 _ (bRow R).toList _ 2 32 rfl (by simp [Value.cells]) hr (by simp only [List.length_append, List.length_take, List.length_drop, List.length_cons, List.length_nil, hL]; omega)]
  rw [fill_step _ _ 3 _ [.slice A its.length cap] _ 34 1 rfl rfl rfl (by simp only [List.length_append, List.length_take, List.length_drop, List.length_cons, List.length_nil, hL, hr]; omega)]
  rw [fill_end]
  unfold Bk.zeroC Bk.cells Bk.zero
  simp only [List.cons_append, List.nil_append, List.take_succ_cons, List.take_zero, List.drop_succ_cons, List.drop_zero]
  have e1 : ((bRow Tx.zero).toList ++ [Value.slice none (List.length ([] : List It)) 0]).drop 32 = [Value.slice none (List.length ([] : List It)) 0] := List.drop_left' hz
  rw [e1]
  have e2 : ((bRow R).toList ++ [Value.slice none (List.length ([] : List It)) 0]).take 32 = (bRow R).toList := List.take_left' hr
  have e3 : ((bRow R).toList ++ [Value.slice none (List.length ([] : List It)) 0]).drop 33 = [] := List.drop_of_length_le (by rw [List.length_append, hr]; exact Nat.le_refl _)
  rw [e2, e3]
/-- the answer that holds a block with items of the call's own -/
def BlkOut (base : Nat) (b : Bk) (e : Ending) (w' : World) : Prop := ∃ A c, e = .returned (.agg (b.cells A c).toArray) ∧ w'.ownsRow base 98 4 (.slice A b.items.length c) b.items.length (itFlat b.items)
/-- what the drawn statement of block counts on -/
def BlkIn (w w' : World) (C : List Value) : Prop := Row w' w.heap.size 86 C ∧ (∃ xs, xs.length = 35 ∧ Row w' (w.heap.size + 1) 45 xs) ∧ Below w.heap.size w w'
theorem BlkIn.step {w W W' : World} {C : List Value} (h : BlkIn w W C) (hb : Below W.heap.size W W') : BlkIn w W' C := by
  obtain ⟨h1, ⟨xs, hx, h2⟩, h3⟩ := h
  exact ⟨h1.kept (grownBy_of_below hb none) (by simp), ⟨xs, hx, h2.kept (grownBy_of_below hb none) (by simp)⟩, two_below' h3 hb⟩
set_option maxRecDepth 20000 in
set_option maxHeartbeats 1600000 in
theorem block11_any (x : Lv) (hx : x.Fits) (w : World) (hin : SlIn w w.heap.size x.A x.cap x.k.b.items) :
    Calls Tryd.prog 51 #[.agg x.cells.toArray] w fun e w' => BlkOut w.heap.size x.k.b e w' ∧ Below w.heap.size w w' := by
  have hz45 := block_zv
  obtain ⟨r1, r2, r3⟩ := row_two w x.cells.toArray Bk.zeroC.toArray 86 45
  simp only [List.toList_toArray] at r1 r3
  have H0 : Hid (BlkIn w _ x.cells) := Lib.hid ⟨r3, ⟨_, Bk.zeroC_len, r1⟩, r2⟩
  have HAt : Hid (∀ W, Row W w.heap.size 86 x.cells → W.cell? ⟨w.heap.size, 0, none⟩ = some (.int .i64 x.k.b.number) ∧ W.cell? ⟨w.heap.size, 1, none⟩ = some (.int .i64 x.k.b.salt) ∧ W.rangeAt w.heap.size 2 (bRow x.k.b.parent).toList ∧ W.cell? ⟨w.heap.size, 34, none⟩ = some (.slice x.A x.k.b.items.length x.cap)) := Lib.hid (fun W h => by
    obtain ⟨q0, q1, q2, q3, _⟩ := Lv.at_ hx (row_range h)
    simp only [Nat.zero_add] at q0 q1 q2 q3
    exact ⟨q0, q1, q2, q3⟩)
  have CL : Hid (∀ W, Below w.heap.size w W → Calls Tryd.prog 67 #[.slice x.A x.k.b.items.length x.cap] W fun e w' => CloneOut W.heap.size x.k.b.items e w' ∧ Below W.heap.size W w') := Lib.hid (fun W hW => clone_any _ _ _ W ((hin.below hW).mono hW.size))
  have HP32 := Lib.hid (Tx.bRow_len _ hx.1)
  have HBA := Lib.hid (fun A c => bk_all x.k.b.number x.k.b.salt x.k.b.parent hx.1 A c x.k.b.items)
  have HBL := Lib.hid (fun A c => Bk.cells_len (b := x.k.b) (A := A) (cap := c) hx.1)
  have HB1 := Lib.hid (fun A c => Bk.cells_one (b := x.k.b) (A := A) (cap := c) hx.1)
  have hu42 := Tryd.underlying42
  have hi42 : (Tryd.prog.info? 42).map (·.size) = some (bRow x.k.b.parent).toList.length := by rw [hash_info, HP32.out]
  generalize x.cells = C at *
  obtain ⟨k, A0, c0⟩ := x
  obtain ⟨b, hs⟩ := k
  simp only at HAt CL HP32 HBA HBL HB1 hi42 ⊢
  obtain ⟨m, hm⟩ : ∃ m, m = b.items.length := ⟨_, rfl⟩
  have HM := Lib.hid hm
  rw [← hm] at HAt CL
  clear hin hx hm r1 r2 r3
  go_enter Tryd.func51, Tryd.ntmps51
  go_wp2_with fail
  refine wp_region_held_drew (S := fun w' => BlkIn w w' C) (by kernel_rfl) (H0.out.step ((Below.refl _ _).drew)) (fun hHeld => ?_)
  generalize ((w.alloc (.cells C.toArray 86)).alloc (.cells Bk.zeroC.toArray 45)).drew = wq at *
  refine wpAnyH_take (i := 0) (v := .pointer (some ⟨w.heap.size, 0, none⟩)) rfl (by kernel_rfl) (by kernel_rfl) (by kernel_rfl) (fun _ _ _ h => h) (Or.inl ⟨by rfl, fun w' hSw => by go_simp⟩) hHeld ?_
  try simp only [Act.put, List.getElem_toArray, List.getElem_cons_succ, List.getElem_cons_zero, List.setIfInBounds_toArray, List.set_cons_zero, List.set_cons_succ]
  refine wpAnyH_take (i := 1) (v := .pointer (some ⟨w.heap.size, 0, none⟩)) rfl (by kernel_rfl) (by kernel_rfl) (by kernel_rfl) (fun _ _ _ h => h) (Or.inl ⟨by rfl, fun w' hSw => by go_simp⟩) hHeld ?_
  try simp only [Act.put, List.getElem_toArray, List.getElem_cons_succ, List.getElem_cons_zero, List.setIfInBounds_toArray, List.set_cons_zero, List.set_cons_succ]
  refine wpAnyH_take (i := 2) (v := .int .i64 b.number) rfl (by kernel_rfl) (by kernel_rfl) (by kernel_rfl) (fun _ _ _ h => h) (Or.inl ⟨by rfl, fun w' hSw => by have hq := hSw; have hc := HAt.out _ hq.1; have hd := hc.1; go_simp⟩) hHeld ?_
  try simp only [Act.put, List.getElem_toArray, List.getElem_cons_succ, List.getElem_cons_zero, List.setIfInBounds_toArray, List.set_cons_zero, List.set_cons_succ]
  refine wpAnyH_take (i := 3) (v := .pointer (some ⟨w.heap.size, 0, none⟩)) rfl (by kernel_rfl) (by kernel_rfl) (by kernel_rfl) (fun _ _ _ h => h) (Or.inl ⟨by rfl, fun w' hSw => by go_simp⟩) hHeld ?_
  try simp only [Act.put, List.getElem_toArray, List.getElem_cons_succ, List.getElem_cons_zero, List.setIfInBounds_toArray, List.set_cons_zero, List.set_cons_succ]
  refine wpAnyH_take (i := 4) (v := .pointer (some ⟨w.heap.size, 1, none⟩)) rfl (by kernel_rfl) (by kernel_rfl) (by kernel_rfl) (fun _ _ _ h => h) (Or.inl ⟨by rfl, fun w' hSw => by go_simp⟩) hHeld ?_
  try simp only [Act.put, List.getElem_toArray, List.getElem_cons_succ, List.getElem_cons_zero, List.setIfInBounds_toArray, List.set_cons_zero, List.set_cons_succ]
  refine wpAnyH_take (i := 5) (v := .int .i64 b.salt) rfl (by kernel_rfl) (by kernel_rfl) (by kernel_rfl) (fun _ _ _ h => h) (Or.inl ⟨by rfl, fun w' hSw => by have hq := hSw; have hc := HAt.out _ hq.1; have hd := hc.2.1; go_simp⟩) hHeld ?_
  try simp only [Act.put, List.getElem_toArray, List.getElem_cons_succ, List.getElem_cons_zero, List.setIfInBounds_toArray, List.set_cons_zero, List.set_cons_succ]
  refine wpAnyH_take (i := 6) (v := .pointer (some ⟨w.heap.size, 0, none⟩)) rfl (by kernel_rfl) (by kernel_rfl) (by kernel_rfl) (fun _ _ _ h => h) (Or.inl ⟨by rfl, fun w' hSw => by go_simp⟩) hHeld ?_
  try simp only [Act.put, List.getElem_toArray, List.getElem_cons_succ, List.getElem_cons_zero, List.setIfInBounds_toArray, List.set_cons_zero, List.set_cons_succ]
  refine wpAnyH_take (i := 7) (v := .pointer (some ⟨w.heap.size, 2, none⟩)) rfl (by kernel_rfl) (by kernel_rfl) (by kernel_rfl) (fun _ _ _ h => h) (Or.inl ⟨by rfl, fun w' hSw => by go_simp⟩) hHeld ?_
  try simp only [Act.put, List.getElem_toArray, List.getElem_cons_succ, List.getElem_cons_zero, List.setIfInBounds_toArray, List.set_cons_zero, List.set_cons_succ]
  refine' wpAnyH_take (i := 8) (v := _) rfl (by kernel_rfl) (by kernel_rfl) (by kernel_rfl) (fun _ _ _ h => h) (yieldsIf_load_mid (by rfl) _ _ rfl w.heap.size 2 rfl (bRow b.parent).toList _ (fun w' hSw => (HAt.out _ hSw.1).2.2.1) hu42 rfl hi42) hHeld ?_
  try simp only [Act.put, List.getElem_toArray, List.getElem_cons_succ, List.getElem_cons_zero, List.setIfInBounds_toArray, List.set_cons_zero, List.set_cons_succ]
  refine wpAnyH_take (i := 9) (v := .pointer (some ⟨w.heap.size, 34, none⟩)) rfl (by kernel_rfl) (by kernel_rfl) (by kernel_rfl) (fun _ _ _ h => h) (Or.inl ⟨by rfl, fun w' hSw => by go_simp⟩) hHeld ?_
  try simp only [Act.put, List.getElem_toArray, List.getElem_cons_succ, List.getElem_cons_zero, List.setIfInBounds_toArray, List.set_cons_zero, List.set_cons_succ]
  refine wpAnyH_take (i := 10) (v := .slice A0 m c0) rfl (by kernel_rfl) (by kernel_rfl) (by kernel_rfl) (fun _ _ _ h => h) (Or.inl ⟨by rfl, fun w' hSw => by have hq := hSw; have hc := HAt.out _ hq.1; have hd := hc.2.2.2; go_simp⟩) hHeld ?_
  try simp only [Act.put, List.getElem_toArray, List.getElem_cons_succ, List.getElem_cons_zero, List.setIfInBounds_toArray, List.set_cons_zero, List.set_cons_succ]
  refine wpAnyH_ready (rs := [11]) (by kernel_rfl) (by simp) (AllReadyH.cons rfl (fun K1 hK1 => ?_) AllReadyH.nil)
  try simp only [Act.put, List.getElem_toArray, List.getElem_cons_succ, List.getElem_cons_zero, List.setIfInBounds_toArray, List.set_cons_zero, List.set_cons_succ]
  go_simp
  refine Calls.mono (CL.out _ hHeld.2.2) ?_
  rintro e w2 ⟨⟨A1, c1, rfl, ho1⟩, hb1⟩
  have HO1 := Lib.hid (⟨(two_below' hHeld.2.2 hb1), ho1, hHeld.2.2.size⟩ : Below w.heap.size w w2 ∧ w2.ownsRow wq.heap.size 98 4 (.slice A1 b.items.length c1) b.items.length (itFlat b.items) ∧ w.heap.size ≤ wq.heap.size)
  clear ho1
  refine hK1.out _ _ (hHeld.step hb1) (fun hHeld => ?_)
  clear hK1 K1
  try simp only [Act.put, List.getElem_toArray, List.getElem_cons_succ, List.getElem_cons_zero, List.setIfInBounds_toArray, List.set_cons_zero, List.set_cons_succ]
  clear hb1
  refine' wpAnyH_take (i := 12) (v := .agg (b.cells A1 c1).toArray) rfl (by kernel_rfl) (by kernel_rfl) (by kernel_rfl) (fun _ _ _ h => h) (yieldsIf_buildL (by rfl) 45 [(0, .tmp 5), (1, .tmp 8), (2, .tmp 11), (3, .tmp 14)] rfl [(0, .int .i64 b.number), (1, .int .i64 b.salt), (2, .agg (bRow b.parent)), (3, .slice A1 b.items.length c1)] rfl (b.cells A1 c1).toArray (HBA.out A1 c1)) hHeld ?_
  try simp only [Act.put, List.getElem_toArray, List.getElem_cons_succ, List.getElem_cons_zero, List.setIfInBounds_toArray, List.set_cons_zero, List.set_cons_succ]
  refine wpAnyH_ready (rs := [13]) (by kernel_rfl) (by simp) (AllReadyH.cons rfl (fun K1 hK1 => ?_) AllReadyH.nil)
  try simp only [Act.put, List.getElem_toArray, List.getElem_cons_succ, List.getElem_cons_zero, List.setIfInBounds_toArray, List.set_cons_zero, List.set_cons_succ]
  obtain ⟨hq1, ⟨xs, hxs, hq2⟩, hq3⟩ := hHeld
  rw [if_pos (by rfl)]
  refine wp_store_at 45 (.tmp 2) (.tmp 15) rfl (w.heap.size + 1) 0 (b.cells A1 c1) _ _ rfl rfl hq2 (by rw [HBL.out, hxs]; decide) (by rw [block_size, HBL.out]) (HB1.out A1 c1) ?_
  intro w3 hr3 hg3
  rw [splice_all ((HBL.out A1 c1).trans hxs.symm)] at hr3
  have hb3 := below_own hq3 hg3 (fun k hk => by cases hk; omega)
  have HR3 := Lib.hid hr3
  have HO3 := Lib.hid (HO1.out.2.1.kept hg3 (.inr (row_ne_own hq2 HO1.out.2.1 (by decide))))
  refine hK1.out _ _ ((⟨hq1.kept hg3 (row_diff hq1 hq2 (by decide)), ⟨_, HBL.out A1 c1, hr3⟩, hb3⟩ : BlkIn w w3 C)) (fun hHeld => ?_)
  clear hK1 K1
  try simp only [Act.put, List.getElem_toArray, List.getElem_cons_succ, List.getElem_cons_zero, List.setIfInBounds_toArray, List.set_cons_zero, List.set_cons_succ]
  clear hr3 hg3 hq1 hq2 hq3
  refine wpAnyH_done (by kernel_rfl) ?_ _
  have HBe := Lib.hid hHeld.2.2
  clear hHeld
  go_wp2_with fail
  have hO := HO3.out
  refine bodyPost_ret (results_cell_row rfl _ _ (w.heap.size + 1) 45 (b.cells A1 c1).toArray (0, 0) _ rfl HR3.out Tryd.underlying45 rfl (by rw [block_size, List.size_toArray, HBL.out])) rfl ⟨⟨A1, c1, rfl, ?_⟩, HBe.out⟩
  obtain ⟨h1, h2⟩ := hO
  refine ⟨h1, ?_⟩
  rcases h2 with h2 | ⟨g, cap, cur, q1, q2, q3⟩
  · exact .inl h2
  · exact .inr ⟨g, cap, cur, q1, Nat.le_trans HO1.out.2.2 q2, q3⟩
end Go.Proofs.YtjeooegkfjlejaaDoor
