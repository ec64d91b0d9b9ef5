/- cavalcaderef12.Same over equal lists; what each law of layer 12 begins with. -/
import Derived.Test.YtjeooegkfjlejaaDoorInbMsg
import Derived.Test.YtjeooegkfjlejaaDoorInbRea
import Derived.WalkMore
namespace Go.Proofs.YtjeooegkfjlejaaDoor
open Go.RowKit
set_option linter.unusedVariables false
set_option linter.unusedSimpArgs false

set_option maxRecDepth 20000 in
set_option maxHeartbeats 800000 in
theorem same_any (l : List En) (hf : ∀ e ∈ l, e.Fits) (hl : l.length ≤ 9223372036854775807) (A B : Option Addr) (c d : Nat) (w : World) (hA : ListAt 35 EnR w w.heap.size A l) (hB : ListAt 35 EnR w w.heap.size B l) :
    Calls Tryd.prog 39 #[.slice A l.length c, .slice B l.length d] w fun e w' => e = .returned (.bool true) ∧ Below w.heap.size w w' := by
  have HA := Lib.hid hA
  have HB := Lib.hid hB
  have HF := Lib.hid hf
  obtain ⟨n, hn⟩ : ∃ n, n = l.length := ⟨_, rfl⟩
  rw [← hn] at hl ⊢
  have HN := Lib.hid hn
  have Hb0 := Lib.hid (Below.refl w.heap.size w)
  clear hn hA hB hf
  go_enter Tryd.func39, Tryd.ntmps39
  go_wp2_with fail
  go_loopw [5] (fun i wr => ∃ k : Nat, k ≤ n ∧ i = .int .i64 k ∧ Below w.heap.size w wr) (fun i _ => n - (intOf i).toNat)
  case atStart => exact ⟨0, Nat.zero_le _, rfl, Hb0.out⟩
  case round =>
    obtain ⟨k, hk, rfl, hR⟩ := hrel
    have HR := Lib.hid hR
    clear hR Hb0
    by_cases hkn : k < n
    · have hki : (k : Int) < (n : Int) := by omega
      have hkl : k < l.length := by rw [← HN.out]; exact hkn
      obtain ⟨ba, oa, rfl, hba, hca⟩ := HA.out (by intro e; rw [e] at hkl; simp at hkl)
      obtain ⟨bb, ob, rfl, hbb, hcb⟩ := HB.out (by intro e; rw [e] at hkl; simp at hkl)
      have hra := hca k hkl
      have hrb := hcb k hkl
      have hfk := HF.out l[k] (List.getElem_mem _)
      have heq := fun W => en_same W l[k] hfk
      have HCL := Lib.hid (En.cells_len hfk.1)
      unfold EnR at hra hrb
      clear hca hcb hfk
      generalize l[k].cells = C at *
      have RA : Hid (∀ W, Below w.heap.size w W → W.rangeAt ba (oa + k * 35) C) := Lib.hid (fun W hW => range_below hra hW hba)
      have RB : Hid (∀ W, Below w.heap.size w W → W.rangeAt bb (ob + k * 35) C) := Lib.hid (fun W hW => range_below hrb hW hbb)
      have hu := Tryd.underlying78
      have hi : (Tryd.prog.info? 78).map (·.size) = some C.length := by rw [entry_size, HCL.out]
      clear hra hrb
      go_wp2_with fail
      refine wp_region_noPanic ?_
      refine wp_region_held_drew (S := fun w' => Below w.heap.size w w') (by kernel_rfl) (HR.out.drew) (fun hHeld => ?_)
      generalize wr.drew = wq at *
      refine wpAnyH_take (i := 0) (v := .slice (some ⟨ba, oa, none⟩) n c) rfl (by kernel_rfl) (by kernel_rfl) (by kernel_rfl) (fun _ _ _ h => h) (Or.inl ⟨by rfl, fun w' hSw => by go_simp⟩) hHeld ?_
      try simp only [Act.put, List.getElem_toArray, List.getElem_cons_succ, List.getElem_cons_zero, List.setIfInBounds_toArray, List.set_cons_zero, List.set_cons_succ]
      refine wpAnyH_take (i := 1) (v := .int .i64 k) rfl (by kernel_rfl) (by kernel_rfl) (by kernel_rfl) (fun _ _ _ h => h) (Or.inl ⟨by rfl, fun w' hSw => by go_simp⟩) hHeld ?_
      try simp only [Act.put, List.getElem_toArray, List.getElem_cons_succ, List.getElem_cons_zero, List.setIfInBounds_toArray, List.set_cons_zero, List.set_cons_succ]
      refine wpAnyH_take (i := 2) (v := .pointer (some ⟨ba, (oa + k * 35), none⟩)) rfl (by kernel_rfl) (by kernel_rfl) (by kernel_rfl) (fun _ _ _ h => h) (Or.inl ⟨by rfl, fun w' hSw => by go_simp⟩) hHeld ?_
      try simp only [Act.put, List.getElem_toArray, List.getElem_cons_succ, List.getElem_cons_zero, List.setIfInBounds_toArray, List.set_cons_zero, List.set_cons_succ]
      refine' wpAnyH_take (i := 3) (v := _) rfl (by kernel_rfl) (by kernel_rfl) (by kernel_rfl) (fun _ _ _ h => h) (yieldsIf_load_mid (by rfl) _ _ rfl ba (oa + k * 35) rfl C _ (fun w' hSw => RA.out _ hSw) hu rfl hi) hHeld ?_
      try simp only [Act.put, List.getElem_toArray, List.getElem_cons_succ, List.getElem_cons_zero, List.setIfInBounds_toArray, List.set_cons_zero, List.set_cons_succ]
      refine wpAnyH_take (i := 4) (v := .slice (some ⟨bb, ob, none⟩) n d) rfl (by kernel_rfl) (by kernel_rfl) (by kernel_rfl) (fun _ _ _ h => h) (Or.inl ⟨by rfl, fun w' hSw => by go_simp⟩) hHeld ?_
      try simp only [Act.put, List.getElem_toArray, List.getElem_cons_succ, List.getElem_cons_zero, List.setIfInBounds_toArray, List.set_cons_zero, List.set_cons_succ]
      refine wpAnyH_take (i := 5) (v := .int .i64 k) rfl (by kernel_rfl) (by kernel_rfl) (by kernel_rfl) (fun _ _ _ h => h) (Or.inl ⟨by rfl, fun w' hSw => by go_simp⟩) hHeld ?_
      try simp only [Act.put, List.getElem_toArray, List.getElem_cons_succ, List.getElem_cons_zero, List.setIfInBounds_toArray, List.set_cons_zero, List.set_cons_succ]
      refine wpAnyH_take (i := 6) (v := .pointer (some ⟨bb, (ob + k * 35), none⟩)) rfl (by kernel_rfl) (by kernel_rfl) (by kernel_rfl) (fun _ _ _ h => h) (Or.inl ⟨by rfl, fun w' hSw => by go_simp⟩) hHeld ?_
      try simp only [Act.put, List.getElem_toArray, List.getElem_cons_succ, List.getElem_cons_zero, List.setIfInBounds_toArray, List.set_cons_zero, List.set_cons_succ]
      refine' wpAnyH_take (i := 7) (v := _) rfl (by kernel_rfl) (by kernel_rfl) (by kernel_rfl) (fun _ _ _ h => h) (yieldsIf_load_mid (by rfl) _ _ rfl bb (ob + k * 35) rfl C _ (fun w' hSw => RB.out _ hSw) hu rfl hi) hHeld ?_
      try simp only [Act.put, List.getElem_toArray, List.getElem_cons_succ, List.getElem_cons_zero, List.setIfInBounds_toArray, List.set_cons_zero, List.set_cons_succ]
      refine wpAnyH_take (i := 8) (v := .bool false) rfl (by kernel_rfl) (by kernel_rfl) (by kernel_rfl) (fun _ _ _ h => h) (Or.inl ⟨by rfl, fun w' hSw => by go_simp⟩) hHeld ?_
      try simp only [Act.put, List.getElem_toArray, List.getElem_cons_succ, List.getElem_cons_zero, List.setIfInBounds_toArray, List.set_cons_zero, List.set_cons_succ]
      refine wpAnyH_done (by kernel_rfl) ?_ _
      refine NoPanic.normal ?_
      have HRe := Lib.hid hHeld
      clear hHeld heq
      go_wp2_with fail
      exact ⟨⟨k + 1, hkn, by go_num, HRe.out⟩, by simp [intOf]; omega⟩
    · have hki : (n : Int) ≤ (k : Int) := by omega
      go_wp2_with fail
      go_ret
      exact ⟨rfl, HR.out⟩
/-- the block that awake makes -/
def awkB : Bk := ⟨3, 0, Tx.zero, [⟨1, 1, 0, ⟨#[97]⟩⟩, ⟨2, 0, 2, ByteArray.empty⟩]⟩
theorem link_ne : Inb.link Tx.zero 1 ⟨#[97]⟩ ≠ Tx.zero := by decide +kernel
theorem awk_items : Inb.item ⟨1, 1, 0, ⟨#[97]⟩⟩ = true ∧ Inb.item ⟨2, 0, 2, ByteArray.empty⟩ = false := by constructor <;> decide +kernel
theorem awk_msgs : ∃ K : List UInt8, K.length = 32 ∧ K ≠ Tx.zero ∧ Inb.msgs [awkB] = [⟨1, ⟨#[97]⟩, 3, K⟩] := by
  refine ⟨Inb.link Tx.zero 1 ⟨#[97]⟩, Inb.link_len _ _ _, link_ne, ?_⟩
  show (Inb.step 3 (Inb.step 3 Inb.start ⟨1, 1, 0, ⟨#[97]⟩⟩) ⟨2, 0, 2, ByteArray.empty⟩).2 = _
  rw [Inb.step_no awk_items.2, Inb.step_yes awk_items.1]
  rfl
theorem bk_places : (Tryd.prog.underlying 45).map (fun d => match d with | .struct fields => fields.toList.mapM (fun f => (Tryd.prog.info? f.type).map fun i => (f.offset, i.size)) | _ => Option.none) = some (some [(0, 1), (1, 1), (2, 32), (34, 1)]) := by kernel_rfl
theorem bk_zero : (Tryd.prog.info? 45).map (·.zero) = some (some (.agg Bk.zeroC.toArray)) := by kernel_rfl
theorem bk_info : (Tryd.prog.info? 45).map (fun i => (i.zero, i.size, i.bytes)) = some (some (.agg Bk.zeroC.toArray), 35, 72) := by kernel_rfl
theorem bk_built (parts : List (Nat × Value)) : Tryd.prog.built 45 parts = Instr.fill (#[(0, 1), (1, 1), (2, 32), (34, 1)][·]?) Bk.zeroC.toArray parts := by
  obtain ⟨i0, hi, hz⟩ := Option.map_eq_some_iff.1 bk_zero
  have hp := bk_places
  rw [Tryd.underlying45] at hp
  simp only [Option.map_some, Option.some.injEq] at hp
  unfold Program.built
  rw [hi, Tryd.underlying45]
  simp only [hz, hp]
  rfl
theorem bk_two (a : Int) (A : Option Addr) (cap : Nat) (its : List It) : Tryd.prog.built 45 [(0, .int .i64 a), (3, .slice A its.length cap)] = some (Bk.cells ⟨a, 0, Tx.zero, its⟩ A cap).toArray := by
  have hz := Tx.bRow_len Tx.zero rfl
  have hL := Bk.zeroC_len
  rw [bk_built]
  rw [fill_step _ _ 0 _ [.int .i64 a] _ 0 1 rfl rfl rfl (by rw [hL]; omega)]
  rw [fill_step _ _ 3 _ [.slice A its.length cap] _ 34 1 rfl rfl rfl (by simp only [List.length_append, List.length_take, List.length_drop, List.length_cons, List.length_nil, hL]; omega)]
  rw [fill_end]
  unfold Bk.zeroC Bk.cells Bk.zero
  simp only [List.cons_append, List.nil_append, List.take_succ_cons, List.take_zero, List.drop_succ_cons, List.drop_zero]
  have e1 : ((bRow Tx.zero).toList ++ [Value.slice none (List.length ([] : List It)) 0]).take 32 = (bRow Tx.zero).toList := List.take_left' hz
  have e2 : ((bRow Tx.zero).toList ++ [Value.slice none (List.length ([] : List It)) 0]).drop 33 = [] := List.drop_of_length_le (by rw [List.length_append, hz]; exact Nat.le_refl _)
  rw [e1, e2]
theorem item_a : Tryd.prog.built 98 [(0, .int .i64 1), (1, .int .i64 1), (3, .string ⟨#[97]⟩)] = some (It.mk 1 1 0 ⟨#[97]⟩).cells.toArray := by kernel_rfl
theorem item_b : Tryd.prog.built 98 [(0, .int .i64 2), (2, .int .i64 2)] = some (It.mk 2 0 2 ByteArray.empty).cells.toArray := by kernel_rfl
theorem it_info12 : (Tryd.prog.info? 98).map (fun i => (i.zero, i.size)) = some (some (.agg It.zero.cells.toArray), 4) := by kernel_rfl
theorem two_items : Instr.fill (fun i => some (i * 4, 4)) ((Array.range (2 * 4)).map ((Value.agg It.zero.cells.toArray).cells[· % (Value.agg It.zero.cells.toArray).cells.size]!)) [(0, .agg (It.mk 1 1 0 ⟨#[97]⟩).cells.toArray), (1, .agg (It.mk 2 0 2 ByteArray.empty).cells.toArray)] = some ((It.mk 1 1 0 ⟨#[97]⟩).cells ++ (It.mk 2 0 2 ByteArray.empty).cells).toArray := by kernel_rfl
/-- blocks in one's own block -/
theorem one_block {w : World} {g g2 : Nat} {T1 T2 : TypeId} {cap : Nat} (h1 : Row w g T1 ((It.mk 1 1 0 ⟨#[97]⟩).cells ++ (It.mk 2 0 2 ByteArray.empty).cells)) (h2 : Row w g2 T2 (awkB.cells (some ⟨g, 0, none⟩) 2)) :
    BksAt w w.heap.size (some ⟨g2, 0, none⟩) [awkB] := fun _ => by
  refine ⟨g2, 0, rfl, h2.lt, fun i hi => ?_⟩
  have hi0 : i = 0 := by simp at hi; exact hi
  subst hi0
  refine ⟨some ⟨g, 0, none⟩, 2, row_range h2, ⟨fun _ => ⟨g, 0, rfl, h1.lt, fun j hj => ?_⟩, by show 2 ≤ 9223372036854775807; omega⟩, by show 2 ≤ 2; omega, rfl⟩
  have h := row_range h1
  have hj2 : j = 0 ∨ j = 1 := by have : j < 2 := hj; omega
  rcases hj2 with rfl | rfl
  · intro i v hv
    refine h i v ?_
    have hv : (It.mk 1 1 0 ⟨#[97]⟩).cells[i]? = some v := hv
    rw [List.getElem?_append_left (List.getElem?_eq_some_iff.1 hv).1]
    exact hv
  · intro i v hv
    have := h (4 + i) v (by
      rw [List.getElem?_append_right (by show 4 ≤ 4 + i; omega)]
      show (It.mk 2 0 2 ByteArray.empty).cells[4 + i - 4]? = some v
      rw [Nat.add_sub_cancel_left]
      exact hv)
    rw [show 0 + 1 * 4 + i = 0 + (4 + i) by omega]
    exact this
theorem hash_ne12 {R : List UInt8} (h : R.length = 32) (hn : R ≠ Tx.zero) (W : World) : (Op.equalIn 10000 42 (.agg (bRow R)) (.agg (bRow Tx.zero))).run Tryd.prog W = .ok false W := (hash_eq W R Tx.zero h rfl).trans (by rw [decide_eq_false hn])
theorem reach_a (K : List UInt8) : Inb.reach (blks [⟨1, ⟨#[97]⟩, 3, K⟩]) 1 7 4 = 1 := by show Inb.reach [3] 1 7 4 = 1; decide
theorem reach_b (K : List UInt8) : Inb.reach (blks [⟨1, ⟨#[97]⟩, 3, K⟩]) 1 6 4 = 0 := by show Inb.reach [3] 1 6 4 = 0; decide
set_option maxRecDepth 20000 in
set_option maxHeartbeats 3200000 in
theorem awake12_any (w : World) (hT : Tab w) :
    Calls Tryd.prog 38 #[] w fun e w' => e = .returned (.bool true) ∧ Below w.heap.size w w' := by
  obtain ⟨K, hKl, hKz, hmsg⟩ := awk_msgs
  obtain ⟨i1, hi1, h1⟩ := Option.map_eq_some_iff.1 it_info12
  simp only [Prod.mk.injEq] at h1
  obtain ⟨i2, hi2, h2⟩ := Option.map_eq_some_iff.1 bk_info
  simp only [Prod.mk.injEq] at h2
  have Hi1 := Lib.hid hi1
  have Hz1 := Lib.hid h1.1
  have Hs1 := Lib.hid h1.2
  have Hi2 := Lib.hid hi2
  have Hz2 := Lib.hid h2.1
  have Hs2 := Lib.hid h2.2.1
  have HBL : Hid ((awkB.cells (some ⟨w.heap.size, 0, none⟩) 2).length = 35) := Lib.hid (Bk.cells_len rfl)
  have HBT : Hid (Tryd.prog.built 45 [(0, .int .i64 3), (3, .slice (some ⟨w.heap.size, 0, none⟩) 2 2)] = some (awkB.cells (some ⟨w.heap.size, 0, none⟩) 2).toArray) := Lib.hid (bk_two 3 (some ⟨w.heap.size, 0, none⟩) 2 awkB.items)
  have hb1 := (Below.refl w.heap.size w).alloc (Nat.le_refl _) (.cells ((It.mk 1 1 0 ⟨#[97]⟩).cells ++ (It.mk 2 0 2 ByteArray.empty).cells).toArray 98)
  have hr1 := Row.new w 98 ((It.mk 1 1 0 ⟨#[97]⟩).cells ++ (It.mk 2 0 2 ByteArray.empty).cells)
  have hb2 := hb1.alloc hb1.size (.cells (awkB.cells (some ⟨w.heap.size, 0, none⟩) 2).toArray 45)
  have hr2 := Row.new (w.alloc (.cells ((It.mk 1 1 0 ⟨#[97]⟩).cells ++ (It.mk 2 0 2 ByteArray.empty).cells).toArray 98)) 45 (awkB.cells (some ⟨w.heap.size, 0, none⟩) 2)
  have hr1' := hr1.kept (grownBy_alloc _ (.cells (awkB.cells (some ⟨w.heap.size, 0, none⟩) 2).toArray 45) none) (by simp)
  have hbk := one_block (cap := 0) hr1' hr2
  rw [show (w.alloc (.cells ((It.mk 1 1 0 ⟨#[97]⟩).cells ++ (It.mk 2 0 2 ByteArray.empty).cells).toArray 98)).heap.size = w.heap.size + 1 by simp] at hbk
  have HM := Lib.hid (messages_any (some ⟨w.heap.size + 1, 0, none⟩) 1 [awkB] _ hbk (by decide) (by decide) (hT.below hb2 hT.pos))
  rw [hmsg] at HM
  have HB2 := Lib.hid hb2
  clear hr1 hr2 hr1' hbk hb1 hb2 hi1 hi2 h1 h2 hmsg
  have hIA := item_a
  have hIB := item_b
  have HIA := Lib.hid hIA
  have HIB := Lib.hid hIB
  have HTI := Lib.hid two_items
  have heq := hash_ne12 hKl hKz
  have HK32 := Lib.hid (Tx.bRow_len K hKl)
  have HRA := Lib.hid (reach_a K)
  have HRB := Lib.hid (reach_b K)
  have HKl := Lib.hid hKl
  have HT := Lib.hid hT
  clear hIA hIB hKz hT hKl
  generalize (It.mk 1 1 0 ⟨#[97]⟩).cells = IA at *
  generalize (It.mk 2 0 2 ByteArray.empty).cells = IB at *
  generalize awkB.cells (some ⟨w.heap.size, 0, none⟩) 2 = CB at *
  go_enter Tryd.func38, Tryd.ntmps38
  go_wp2_with (first
  | ((with_reducible show wpList _ _ _ (⟨some 2, .build 98 _, _, _, _, _⟩ :: _) _ _); refine wpList_buildL rfl 98 [(0, .const (.int .i64 1)), (1, .const (.int .i64 1)), (3, .const (.string ⟨#[97]⟩))] rfl (some 2) rfl [(0, .int .i64 1), (1, .int .i64 1), (3, .string ⟨#[97]⟩)] rfl IA.toArray HIA.out ?_)
  | ((with_reducible show wpList _ _ _ (⟨some 3, .build 98 _, _, _, _, _⟩ :: _) _ _); refine wpList_buildL rfl 98 [(0, .const (.int .i64 2)), (2, .const (.int .i64 2))] rfl (some 3) rfl [(0, .int .i64 2), (2, .int .i64 2)] rfl IB.toArray HIB.out ?_)
  | ((with_reducible show wpList _ _ _ (⟨_, .buildSlice 43 _ _, _, _, _, _⟩ :: _) _ _); refine wpList_buildSliceL rfl 43 98 2 [(0, .tmp 2), (1, .tmp 3)] rfl (some 4) rfl [(0, .agg IA.toArray), (1, .agg IB.toArray)] rfl (IA ++ IB).toArray i1 (.agg It.zero.cells.toArray) 4 Tryd.underlying43 Hi1.out Hz1.out Hs1.out (by decide) (by decide) HTI.out ?_)
  | ((with_reducible show wpList _ _ _ (⟨_, .build 45 _, _, _, _, _⟩ :: _) _ _); refine wpList_buildL rfl 45 [(0, .const (.int .i64 3)), (3, .tmp 4)] rfl (some 5) rfl [(0, .int .i64 3), (3, .slice (some ⟨w.heap.size, 0, none⟩) 2 2)] rfl CB.toArray HBT.out ?_)
  | ((with_reducible show wpList _ _ _ (⟨_, .buildSlice 36 _ _, _, _, _, _⟩ :: _) _ _); refine wpList_buildSliceL rfl 36 45 1 [(0, .tmp 5)] rfl (some 6) rfl [(0, .agg CB.toArray)] rfl CB.toArray i2 (.agg Bk.zeroC.toArray) 35 Tryd.underlying36 Hi2.out Hz2.out Hs2.out (by decide) (by decide) (fill_one 35 _ CB HBL.out) ?_))
  refine (HM.out).mono ?_
  rintro _ w3 ⟨⟨v, rfl, ho⟩, hb3⟩
  obtain ⟨gg, cg, rfl⟩ := ownsRow_succ ho
  have hE := ens_own (l := [⟨1, ⟨#[97]⟩, 3, K⟩]) ho (by intro e he; rw [List.mem_singleton.1 he]; exact HKl.out) rfl
  have hr0 : EnR w3 gg 0 ⟨1, ⟨#[97]⟩, 3, K⟩ := by
    obtain ⟨b, off, e1, e2, e3⟩ := hE (by simp)
    injection e1 with e1
    injection e1 with e1 e4
    subst e1 e4
    exact e3 0 (by simp)
  have hx2 := en_block hr0
  have HRK : Hid (w3.rangeAt gg 3 (bRow K).toList) := Lib.hid (fun j v hv => by
    have := hr0 (3 + j) v (by
      show ([Value.int .i64 1, .string ⟨#[97]⟩, .int .i64 3] ++ (bRow K).toList)[3 + j]? = some v
      rw [List.getElem?_append_right (by simp)]
      simpa using hv)
    rw [show 3 + j = 0 + (3 + j) by omega]
    exact this)
  have HE := Lib.hid hE
  have Hb3 := Lib.hid (two_below' HB2.out hb3)
  clear ho hb3 hE hr0
  have hzh := hash_zv
  go_wp2_with ((with_reducible show wpList _ _ _ (⟨_, .load 42 _, _, _, _, _⟩ :: _) _ _); refine wpList_load_tx rfl 42 (.tmp 21) rfl gg 3 rfl (bRow K).toList _ HRK.out Tryd.underlying42 rfl (by rw [hash_info, HK32.out]) ?_)
  have HR1 := Lib.hid (reach_any (some ⟨gg, 0, none⟩) cg [⟨1, ⟨#[97]⟩, 3, K⟩] 1 7 4 (by omega) (by omega) (by omega) w3 HE.out (by simp))
  have HR2 := Lib.hid (reach_any (some ⟨gg, 0, none⟩) cg [⟨1, ⟨#[97]⟩, 3, K⟩] 1 6 4 (by omega) (by omega) (by omega) w3 HE.out (by simp))
  rw [HRA.out] at HR1
  rw [HRB.out] at HR2
  clear heq hzh hx2
  refine HR1.out.mono ?_
  rintro _ w4 ⟨rfl, rfl⟩
  go_wp2_with fail
  refine HR2.out.mono ?_
  rintro _ w5 ⟨rfl, rfl⟩
  go_wp2_with fail
  go_ret
  exact ⟨rfl, Hb3.out⟩
end Go.Proofs.YtjeooegkfjlejaaDoor
