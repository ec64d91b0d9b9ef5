/- box.look. -/
/- What landed: mathematics and memory. -/
/- box.Landed. -/
import Derived.Test.YtinciddchpccnaaDoorPoA
namespace Go.Proofs.YtinciddchpccnaaDoor
open Go.RowKit
set_option linter.unusedVariables false
set_option linter.unusedSimpArgs false

/-- what an item is told to be -/
def Po.itemE (i : It) : Int × Option Bt := if i.kind = 3 then (if i.textE.2 = 0 then Po.read i.text.data.toList else (i.textE.2, none)) else (34, none)
/-- a batch's cells, and where its parts lie -/
def PfOf (o : Option Bt) (C : List Value) (sq : Int) (lo : Nat) (w' : World) : Prop :=
  match o with
  | some u => ∃ A c, C = u.cells A c ∧ sq = u.seq ∧ PartsFrom w' lo A u.parts ∧ u.parts.length ≤ c
  | none => C = Bt.zeroC ∧ sq = 0
theorem PfOf.grown {o : Option Bt} {C : List Value} {sq : Int} {lo : Nat} {w w' : World} {r : Option Nat} (h : PfOf o C sq lo w) (hg : w.grownBy w' r) (hr : ∀ k, r = some k → k < lo) : PfOf o C sq lo w' := by
  match o, h with
  | some u, ⟨A, c, h1, h2, h3, h4⟩ => exact ⟨A, c, h1, h2, h3.grown hg hr, h4⟩
  | none, h => exact h
theorem PfOf.mono {o : Option Bt} {C : List Value} {sq : Int} {lo lo' : Nat} {w : World} (h : PfOf o C sq lo w) (hl : lo' ≤ lo) : PfOf o C sq lo' w := by
  match o, h with
  | some u, ⟨A, c, h1, h2, h3, h4⟩ => exact ⟨A, c, h1, h2, h3.mono hl, h4⟩
  | none, h => exact h
theorem PfOf.cells {o : Option Bt} {C : List Value} {sq : Int} {lo : Nat} {w : World} (h : PfOf o C sq lo w) : C.length = 4 ∧ (∀ v ∈ C, v.oneCell' = true) ∧ C[0]? = some (.int .i64 sq) := by
  have key : ∀ (u : Bt) (A : Option Addr) (c : Nat), (u.cells A c).length = 4 ∧ (∀ v ∈ u.cells A c, v.oneCell' = true) ∧ (u.cells A c)[0]? = some (.int .i64 u.seq) := fun u A c =>
    ⟨rfl, by intro v hv; simp [Bt.cells] at hv; rcases hv with rfl | rfl | rfl | rfl <;> rfl, rfl⟩
  match o, h with
  | some u, ⟨A, c, h1, h2, _, _⟩ => rw [h1, h2]; exact key u A c
  | none, ⟨h1, h2⟩ => rw [h1, h2]; exact key Bt.zero none 0
theorem RdEnds.of {p : Int × Option Bt} {lo : Nat} {e : Ending} {w' : World} (h : RdEnds p lo e w') : ∃ C sq, e = .returned (.tuple #[.agg C.toArray, .int .i64 p.1]) ∧ PfOf p.2 C sq lo w' := by
  obtain ⟨ec, o⟩ := p
  match o, h with
  | some u, ⟨A, c, h1, h2, h3⟩ => exact ⟨_, u.seq, h1, A, c, rfl, rfl, h2, h3⟩
  | none, h => exact ⟨_, 0, h, rfl, rfl⟩
def LookEnds (p : Int × Option Bt) (lo : Nat) (e : Ending) (w' : World) : Prop :=
  ∃ C sq, e = .returned (.tuple #[.agg C.toArray, .agg #[.int .i64 sq, .int .i64 p.1]]) ∧ PfOf p.2 C sq lo w'
theorem It.text_small {i : It} (h : i.textE.2 = 0) : i.text.size ≤ 65472 := by
  unfold It.textE at h
  split at h
  · next hk =>
    have he : i.text.size = i.text.data.toList.length := (Array.length_toList).symm
    rcases (It.ok_iff i).1 hk with ⟨_, _, _, _, h1⟩ | ⟨_, _, _, _, h1⟩
    · omega
    · rw [he, h1]; simp
  · simp at h
theorem It.text_zero (i : It) : i.textE.2 = 0 → i.ok = true := fun h => by
  unfold It.textE at h
  split at h
  · next hk => exact hk
  · simp at h
theorem fd_size : (Tryd.prog.info? 72).map (·.size) = some 2 := by kernel_rfl
theorem fd_zv (w : World) : (zeroValue 72).run Tryd.prog w = .ok (.agg #[.int .i64 0, .int .i64 0]) w := by kernel_rfl
theorem results_rows2 {P : Program} {fn : Func} {p q : Tmp} {ty tz : TypeId} (h : fn.results = #[.cell p ty, .cell q tz]) (tmps : Array Value) (w : World) (g g2 : Nat) (T T2 : TypeId) (xs ys : List Value) (d d2 : TypeDesc)
    (hp : tmps.getD p undef = .pointer (some ⟨g, 0, none⟩)) (hq : tmps.getD q undef = .pointer (some ⟨g2, 0, none⟩)) (hg : Row w g T xs) (hg2 : Row w g2 T2 ys)
    (hu : P.underlying ty = some d) (hd : (match d with | .struct _ | .array _ _ => true | _ => false) = true) (hi : (P.info? ty).map (·.size) = some xs.toArray.size)
    (hu2 : P.underlying tz = some d2) (hd2 : (match d2 with | .struct _ | .array _ _ => true | _ => false) = true) (hi2 : (P.info? tz).map (·.size) = some ys.toArray.size) :
    (results fn tmps).run P w = .ok (.tuple #[.agg xs.toArray, .agg ys.toArray]) w := by
  have e : (results fn tmps).run P w = ((asAddr (tmps.getD p undef)).run P w).andThen fun a w₁ => ((loadVar ty a).run P w₁).andThen fun v w₂ => ((asAddr (tmps.getD q undef)).run P w₂).andThen fun b w₃ => ((loadVar tz b).run P w₃).andThen fun u w₄ => .ok (.tuple #[v, u]) w₄ := by
    simp only [results, h]
    simp [Sem.run_bind, Result.andThen]
  rw [e, hp, hq]
  have hl := run_loadVar_row w g T ty xs.toArray (0, 0) d hg hu hd hi
  have hl2 := run_loadVar_row w g2 T2 tz ys.toArray (0, 0) d2 hg2 hu2 hd2 hi2
  have ha : ∀ g : Nat, (asAddr (.pointer (some ⟨g, 0, none⟩))).run P w = .ok ⟨g, 0, none⟩ w := fun _ => rfl
  rw [ha]
  simp only [Result.andThen, hl]
  rw [ha]
  simp only [Result.andThen, hl2]
set_option maxRecDepth 20000 in
set_option maxHeartbeats 6400000 in
theorem look_any (i : It) (w : World) (hT : Tab w) :
    Calls Tryd.prog 41 #[.agg i.cells.toArray] w fun e w' => LookEnds (Po.itemE i) w.heap.size e w' ∧ Below w.heap.size w w' := by
  have hzb := bt_zv
  have hzf := fd_zv
  have hbz := bt_built0
  have HWr : Hid (∀ W, Calls Tryd.prog 76 #[.agg i.cells.toArray] W fun e w' => e = .returned (two i.textE.1 i.textE.2) ∧ Below W.heap.size W w') := Lib.hid (fun W => writeItem_any i W)
  have HRd : Hid (i.textE.2 = 0 → ∀ W, Tab W → Calls Tryd.prog 13 #[.string i.text] W fun e w' => RdEnds (Po.read i.text.data.toList) W.heap.size e w' ∧ Below W.heap.size W w') := Lib.hid (fun h0 W h => boxRead_any i.text W (by have := It.text_small h0; omega) h)
  have HIE : Hid (Po.itemE i = if i.kind = 3 then (if i.textE.2 = 0 then Po.read i.text.data.toList else (i.textE.2, none)) else (34, none)) := Lib.hid rfl
  have HBL : Hid (Bt.zeroC.length = 4) := Lib.hid rfl
  have HB1 : Hid (∀ v ∈ Bt.zeroC, v.oneCell' = true) := Lib.hid (by intro v hv; simp [Bt.zeroC, Bt.cells, Bt.zero] at hv; rcases hv with rfl | rfl | rfl | rfl <;> rfl)
  have HIL : Hid (i.cells.length = 4) := Lib.hid rfl
  have hi0 : i.cells[0]? = some (.int .i64 i.kind) := rfl
  have hi3 : i.cells[3]? = some (.string i.text) := rfl
  have hI3 := Lib.hid hi3
  obtain ⟨kd, who, nn, tx⟩ := i
  simp only at HWr HRd HIE hi0 hi3 hI3
  generalize (It.mk kd who nn tx).cells = IC at *
  obtain ⟨te, hte⟩ : ∃ te, te = (It.mk kd who nn tx).textE := ⟨_, rfl⟩
  rw [← hte] at HWr HIE HRd
  generalize Po.itemE (It.mk kd who nn tx) = PE at *
  clear hte
  obtain ⟨ts, tc⟩ := te
  unfold two at HWr
  simp only at HWr HIE HRd
  obtain ⟨ZC, hZC⟩ : ∃ ZC, ZC = Bt.zeroC := ⟨_, rfl⟩
  simp only [← hZC] at hzb HBL HB1 hbz
  have HZ := Lib.hid hZC.symm
  clear hZC
  have hb1 := (Below.refl w.heap.size w).alloc (Nat.le_refl _) (.cells IC.toArray 59)
  have hb2 := hb1.alloc hb1.size (.cells ZC.toArray 24)
  have hb3 := hb2.alloc hb2.size (.cells #[.int .i64 0, .int .i64 0] 72)
  have e1 : (w.alloc (.cells IC.toArray 59)).heap.size = w.heap.size + 1 := by simp
  have e2 : ((w.alloc (.cells IC.toArray 59)).alloc (.cells ZC.toArray 24)).heap.size = w.heap.size + 1 + 1 := by simp
  have r1 := Row.new w 59 IC
  have r2 := Row.new (w.alloc (.cells IC.toArray 59)) 24 ZC
  have r3 := Row.new ((w.alloc (.cells IC.toArray 59)).alloc (.cells ZC.toArray 24)) 72 [.int .i64 0, .int .i64 0]
  have r1b := (r1.kept (grownBy_alloc _ (.cells ZC.toArray 24) none) (by simp)).kept (grownBy_alloc _ (.cells #[.int .i64 0, .int .i64 0] 72) none) (by simp)
  have r2b := r2.kept (grownBy_alloc _ (.cells #[.int .i64 0, .int .i64 0] 72) none) (by simp)
  rw [e1] at r2b
  rw [e2] at r3
  have HR1 := Lib.hid r1b
  have HR3 := Lib.hid r2b
  have HF3 : Hid (Row (((w.alloc (.cells IC.toArray 59)).alloc (.cells ZC.toArray 24)).alloc (.cells #[.int .i64 0, .int .i64 0] 72)) (w.heap.size + 1 + 1) 72 [.int .i64 0, .int .i64 0]) := Lib.hid r3
  have HW3 := Lib.hid hb3
  have c0 := (row_range r1b) 0 _ hi0
  have c3 := (row_range r1b) 3 _ hi3
  rw [Nat.zero_add] at c0 c3
  have HT := Lib.hid hT
  clear hb1 hb2 hb3 e1 e2 r1 r2 r3 r1b r2b hi0 hi3 hT
  by_cases hk : kd = 3
  rotate_left
  · have dq : (kd != 3) = true := by simpa using hk
    have hno := HIE.out
    rw [if_neg hk] at hno
    have HNo := Lib.hid hno
    clear hk hno HIE
    go_enter Tryd.func41, Tryd.ntmps41
    go_wp2_with (first
    | ((with_reducible show wpList _ _ _ (⟨_, .build 24 _, _, _, _, _⟩ :: _) _ _); refine wpList_buildL rfl 24 [] rfl (some 11) rfl [] rfl ZC.toArray hbz ?_)
    | (with_reducible show wpList _ _ _ (⟨_, .store 24 _ _, _, _, _, _⟩ :: _) _ _
       refine wpList_store_at rfl 24 (.tmp 2) (.tmp 11) rfl (w.heap.size + 1) 0 ZC _ _ rfl rfl HR3.out (by rw [HBL.out]; decide) (by rw [bt_size, HBL.out]) HB1.out ?_
       intro w8 hr8 hg8
       rw [splice_all rfl] at hr8
       have HR8 := Lib.hid hr8
       have HF8 := Lib.hid (HF3.out.kept hg8 (by simp))
       have HB8 := Lib.hid (below_own HW3.out hg8 (fun k hk => by cases hk; omega))
       clear hr8 hg8)
    | (with_reducible show wpList _ _ _ (⟨_, .store 72 _ _, _, _, _, _⟩ :: _) _ _
       refine wpList_store_at rfl 72 (.tmp 3) (.tmp 12) rfl (w.heap.size + 1 + 1) 0 [.int .i64 0, .int .i64 34] _ _ rfl rfl HF8.out (by simp) (by rw [fd_size]; rfl) (by intro v hv; simp at hv; rcases hv with rfl | rfl <;> rfl) ?_
       intro w9 hr9 hg9
       rw [splice_all (show ([.int .i64 0, .int .i64 34] : List Value).length = ([.int .i64 0, .int .i64 0] : List Value).length from rfl)] at hr9
       have HF9 := Lib.hid hr9
       have HR9 := Lib.hid (HR8.out.kept hg9 (by simp))
       have HB9 := Lib.hid (below_own HB8.out hg9 (fun k hk => by cases hk; omega))
       clear hr9 hg9))
    exact bodyPost_ret (results_rows2 rfl _ _ (w.heap.size + 1) (w.heap.size + 1 + 1) 24 72 _ _ _ _ rfl rfl HR9.out HF9.out Tryd.underlying24 rfl (by rw [bt_size, List.size_toArray, HBL.out]) Tryd.underlying72 rfl (by rw [fd_size]; rfl)) rfl ⟨⟨ZC, 0, by rw [HNo.out], by rw [HNo.out]; exact ⟨HZ.out.symm, rfl⟩⟩, HB9.out⟩
  have dq : (kd != 3) = false := by simp [hk]
  have hie := HIE.out
  rw [if_pos hk] at hie
  clear HIE hk
  go_enter Tryd.func41, Tryd.ntmps41
  go_wp2_with (((with_reducible show wpList _ _ _ (⟨_, .load 59 _, _, _, _, _⟩ :: _) _ _); refine wpList_load_tx rfl 59 (.tmp 1) rfl w.heap.size 0 rfl IC _ (row_range HR1.out) Tryd.underlying59 rfl (by rw [item_size, HIL.out]) ?_))
  refine (HWr.out _).mono ?_
  rintro _ w4 ⟨rfl, hb4⟩
  have HR14 := Lib.hid (HR1.out.below hb4)
  have HR4 := Lib.hid (HR3.out.below hb4)
  have HF4 := Lib.hid (HF3.out.below hb4)
  have HW4 := Lib.hid (two_below' HW3.out hb4)
  have c34 := (row_range HR14.out) 3 _ hI3.out
  rw [Nat.zero_add] at c34
  clear hb4 c0 c3 HR1 HR3 HF3 HW3
  by_cases ht : tc = 0
  rotate_left
  · have dq2 : (tc != 0) = true := by simpa using ht
    rw [if_neg ht] at hie
    have HNo := Lib.hid hie
    clear ht hie
    go_wp2_with (first
    | ((with_reducible show wpList _ _ _ (⟨_, .build 24 _, _, _, _, _⟩ :: _) _ _); refine wpList_buildL rfl 24 [] rfl (some 20) rfl [] rfl ZC.toArray hbz ?_)
    | (with_reducible show wpList _ _ _ (⟨_, .store 24 _ _, _, _, _, _⟩ :: _) _ _
       refine wpList_store_at rfl 24 (.tmp 2) (.tmp 20) rfl (w.heap.size + 1) 0 ZC _ _ rfl rfl HR4.out (by rw [HBL.out]; decide) (by rw [bt_size, HBL.out]) HB1.out ?_
       intro w8 hr8 hg8
       rw [splice_all rfl] at hr8
       have HR8 := Lib.hid hr8
       have HF8 := Lib.hid (HF4.out.kept hg8 (by simp))
       have HB8 := Lib.hid (below_own HW4.out hg8 (fun k hk => by cases hk; omega))
       clear hr8 hg8)
    | (with_reducible show wpList _ _ _ (⟨_, .store 72 _ _, _, _, _, _⟩ :: _) _ _
       refine wpList_store_at rfl 72 (.tmp 3) (.tmp 22) rfl (w.heap.size + 1 + 1) 0 [.int .i64 0, .int .i64 tc] _ _ rfl rfl HF8.out (by simp) (by rw [fd_size]; rfl) (by intro v hv; simp at hv; rcases hv with rfl | rfl <;> rfl) ?_
       intro w9 hr9 hg9
       rw [splice_all (show ([.int .i64 0, .int .i64 tc] : List Value).length = ([.int .i64 0, .int .i64 0] : List Value).length from rfl)] at hr9
       have HF9 := Lib.hid hr9
       have HR9 := Lib.hid (HR8.out.kept hg9 (by simp))
       have HB9 := Lib.hid (below_own HB8.out hg9 (fun k hk => by cases hk; omega))
       clear hr9 hg9))
    exact bodyPost_ret (results_rows2 rfl _ _ (w.heap.size + 1) (w.heap.size + 1 + 1) 24 72 _ _ _ _ rfl rfl HR9.out HF9.out Tryd.underlying24 rfl (by rw [bt_size, List.size_toArray, HBL.out]) Tryd.underlying72 rfl (by rw [fd_size]; rfl)) rfl ⟨⟨ZC, 0, by rw [HNo.out], by rw [HNo.out]; exact ⟨HZ.out.symm, rfl⟩⟩, HB9.out⟩
  have dq2 : (tc != 0) = false := by simp [ht]
  rw [if_pos ht] at hie
  have HPE := Lib.hid hie
  have HRd := Lib.hid (HRd.out ht)
  clear ht hie
  go_wp2_with fail
  refine (HRd.out _ (HT.out.below HW4.out HT.out.pos)).mono ?_
  rintro e w5 ⟨hrd, hb5⟩
  obtain ⟨C6, sq, rfl, hpf⟩ := hrd.of
  obtain ⟨h6l, h61, h60⟩ := hpf.cells
  have HRow := Lib.hid (Row.new w5 24 ZC)
  have HR25 := Lib.hid (HR4.out.below hb5)
  have HF35 := Lib.hid (HF4.out.below hb5)
  have HW5 := Lib.hid (two_below' HW4.out hb5)
  have HLo : Hid (w.heap.size + 1 + 1 < w4.heap.size) := Lib.hid HF4.out.lt
  have HLo5 : Hid (w4.heap.size ≤ w5.heap.size) := Lib.hid hb5.size
  have HPf5 := Lib.hid hpf
  have H6L := Lib.hid h6l
  have H61 := Lib.hid h61
  have H60 := Lib.hid h60
  obtain ⟨ec, hec⟩ : ∃ ec, ec = (Po.read tx.data.toList).1 := ⟨_, rfl⟩
  rw [← hec]
  have HEc := Lib.hid hec
  clear hpf hrd hb5 h6l h61 h60 c34 hec HR4 HF4
  go_wp2_with (with_reducible show wpList _ _ _ (⟨_, .store 24 _ _, _, _, _, _⟩ :: _) _ _
               refine wpList_store_at rfl 24 (.tmp 6) (.tmp 27) rfl w5.heap.size 0 C6 _ _ rfl rfl HRow.out (by rw [HBL.out, H6L.out]; decide) (by rw [bt_size, H6L.out]) H61.out ?_
               intro w6 hr6 hg6
               rw [splice_all (H6L.out.trans HBL.out.symm)] at hr6
               have HR6 := Lib.hid hr6
               have HR26 := Lib.hid ((HR25.out.kept (grownBy_alloc w5 (.cells ZC.toArray 24) none) (by simp)).kept hg6 (by have := HR25.out.lt; simp; omega))
               have HF36 := Lib.hid ((HF35.out.kept (grownBy_alloc w5 (.cells ZC.toArray 24) none) (by simp)).kept hg6 (by have := HF35.out.lt; simp; omega))
               have HW6 := Lib.hid (below_own (HW5.out.alloc HW5.out.size (.cells ZC.toArray 24)) hg6 (fun k hk => by cases hk; exact HW5.out.size))
               have HPf6 := Lib.hid (HPf5.out.grown (grownBy_of_below (below_own ((Below.refl w5.heap.size w5).alloc (Nat.le_refl _) (.cells ZC.toArray 24)) hg6 (fun k hk => by cases hk; exact Nat.le_refl _)) none) (fun k hk => by cases hk))
               clear hr6 hg6)
  have HN6 : Hid (w.heap.size + 1 + 1 < w5.heap.size) := Lib.hid (by have := HLo.out; have := HLo5.out; omega)
  clear HRow HR25 HF35 HW5 HPf5 HR14 HLo5
  generalize w5.heap.size = g6 at *
  refine wp_region_held_drew (S := fun w' => Row w' g6 24 C6) (by kernel_rfl) ((HR6.out.below (Below.refl _ _).drew)) (fun hHeld => ?_)
  have hR2q := Lib.hid (HR26.out.below (Below.refl _ _).drew)
  have hF3q := Lib.hid (HF36.out.below (Below.refl _ _).drew)
  have hBq := Lib.hid (HW6.out.trans ((Below.refl _ _).drew.mono HW6.out.size))
  have hPq := Lib.hid (HPf6.out.grown (grownBy_drew w6 none) (fun k hk => by cases hk))
  generalize w6.drew = wq at *
  refine' wpAnyH_take (i := 0) (v := _) rfl (by kernel_rfl) (by kernel_rfl) (by kernel_rfl) (fun _ _ _ h => h) (yieldsIf_load_mid (by rfl) _ _ rfl g6 0 rfl C6 _ (fun w' hSw => row_range hSw) Tryd.underlying24 rfl (by rw [bt_size, H6L.out])) hHeld ?_
  try simp only [Act.put, List.getElem_toArray, List.getElem_cons_succ, List.getElem_cons_zero, List.setIfInBounds_toArray, List.set_cons_zero, List.set_cons_succ]
  refine wpAnyH_take (i := 1) (v := .pointer (some ⟨g6, 0, none⟩)) rfl (by kernel_rfl) (by kernel_rfl) (by kernel_rfl) (fun _ _ _ h => h) (Or.inl ⟨by rfl, fun w' hSw => by go_simp⟩) hHeld ?_
  try simp only [Act.put, List.getElem_toArray, List.getElem_cons_succ, List.getElem_cons_zero, List.setIfInBounds_toArray, List.set_cons_zero, List.set_cons_succ]
  refine wpAnyH_take (i := 2) (v := .int .i64 sq) rfl (by kernel_rfl) (by kernel_rfl) (by kernel_rfl) (fun _ _ _ h => h) (Or.inl ⟨by rfl, fun w' hSw => by have hq := hSw; have hd := (row_range hq) 0 _ H60.out; rw [Nat.zero_add] at hd; go_simp⟩) hHeld ?_
  try simp only [Act.put, List.getElem_toArray, List.getElem_cons_succ, List.getElem_cons_zero, List.setIfInBounds_toArray, List.set_cons_zero, List.set_cons_succ]
  refine wpAnyH_take (i := 3) (v := .int .i64 ec) rfl (by kernel_rfl) (by kernel_rfl) (by kernel_rfl) (fun _ _ _ h => h) (Or.inl ⟨by rfl, fun w' hSw => by go_simp⟩) hHeld ?_
  try simp only [Act.put, List.getElem_toArray, List.getElem_cons_succ, List.getElem_cons_zero, List.setIfInBounds_toArray, List.set_cons_zero, List.set_cons_succ]
  refine wpAnyH_take (i := 4) (v := .agg #[.int .i64 sq, .int .i64 ec]) rfl (by kernel_rfl) (by kernel_rfl) (by kernel_rfl) (fun _ _ _ h => h) (Or.inl ⟨by rfl, fun w' hSw => by go_simp⟩) hHeld ?_
  try simp only [Act.put, List.getElem_toArray, List.getElem_cons_succ, List.getElem_cons_zero, List.setIfInBounds_toArray, List.set_cons_zero, List.set_cons_succ]
  refine wpAnyH_ready (rs := [5]) (by kernel_rfl) (by simp) (AllReadyH.cons rfl (fun K1 hK1 => ?_) AllReadyH.nil)
  try simp only [Act.put, List.getElem_toArray, List.getElem_cons_succ, List.getElem_cons_zero, List.setIfInBounds_toArray, List.set_cons_zero, List.set_cons_succ]
  rw [if_pos (by rfl)]
  refine wp_store_at 24 (.tmp 2) (.tmp 29) rfl (w.heap.size + 1) 0 C6 _ _ rfl rfl hR2q.out (by rw [HBL.out, H6L.out]; decide) (by rw [bt_size, H6L.out]) H61.out ?_
  intro w8 hr8 hg8
  rw [splice_all (H6L.out.trans HBL.out.symm)] at hr8
  have HR8 := Lib.hid hr8
  have HF8 := Lib.hid (hF3q.out.kept hg8 (by simp))
  have HB8 := Lib.hid (below_own hBq.out hg8 (fun k hk => by cases hk; omega))
  have HP8 := Lib.hid (hPq.out.grown hg8 (fun k hk => by cases hk; have := HLo.out; omega))
  have hH8 := hHeld.kept hg8 (by have := HN6.out; simp; omega)
  clear hr8 hg8
  refine hK1.out _ _ (hH8) (fun hHeld => ?_)
  clear hK1 K1
  try simp only [Act.put, List.getElem_toArray, List.getElem_cons_succ, List.getElem_cons_zero, List.setIfInBounds_toArray, List.set_cons_zero, List.set_cons_succ]
  clear hH8
  refine wpAnyH_ready (rs := [6]) (by kernel_rfl) (by simp) (AllReadyH.cons rfl (fun K1 hK1 => ?_) AllReadyH.nil)
  try simp only [Act.put, List.getElem_toArray, List.getElem_cons_succ, List.getElem_cons_zero, List.setIfInBounds_toArray, List.set_cons_zero, List.set_cons_succ]
  rw [if_pos (by rfl)]
  refine wp_store_at 72 (.tmp 3) (.tmp 33) rfl (w.heap.size + 1 + 1) 0 [.int .i64 sq, .int .i64 ec] _ _ rfl rfl HF8.out (by simp) (by rw [fd_size]; rfl) (by intro v hv; simp at hv; rcases hv with rfl | rfl <;> rfl) ?_
  intro w9 hr9 hg9
  rw [splice_all (show ([.int .i64 sq, .int .i64 ec] : List Value).length = ([.int .i64 0, .int .i64 0] : List Value).length from rfl)] at hr9
  have HF9 := Lib.hid hr9
  have HR9 := Lib.hid (HR8.out.kept hg9 (by simp))
  have HB9 := Lib.hid (below_own HB8.out hg9 (fun k hk => by cases hk; omega))
  have HP9 := Lib.hid (HP8.out.grown hg9 (fun k hk => by cases hk; have := HLo.out; omega))
  have hH9 := hHeld.kept hg9 (by have := HN6.out; simp; omega)
  clear hr9 hg9
  refine hK1.out _ _ (hH9) (fun hHeld => ?_)
  clear hK1 K1
  try simp only [Act.put, List.getElem_toArray, List.getElem_cons_succ, List.getElem_cons_zero, List.setIfInBounds_toArray, List.set_cons_zero, List.set_cons_succ]
  clear hH9
  refine wpAnyH_done (by kernel_rfl) ?_ _
  go_wp2_with fail
  exact bodyPost_ret (results_rows2 rfl _ _ (w.heap.size + 1) (w.heap.size + 1 + 1) 24 72 _ _ _ _ rfl rfl HR9.out HF9.out Tryd.underlying24 rfl (by rw [bt_size, List.size_toArray, H6L.out]) Tryd.underlying72 rfl (by rw [fd_size]; rfl)) rfl ⟨⟨C6, sq, by rw [HPE.out, ← HEc.out], by rw [HPE.out]; exact HP9.out.mono (by have := HLo.out; omega)⟩, HB9.out⟩
end Go.Proofs.YtinciddchpccnaaDoor
namespace Go.Proofs.YtinciddchpccnaaDoor
open Go.RowKit
set_option linter.unusedVariables false
set_option linter.unusedSimpArgs false

namespace Po
theorem read_ok {s : T8} {e : Int} {b : Bt} (h : read s = (e, some b)) : e = 0 ∧ b.ok = true := by
  unfold read at h
  split at h
  · simp at h
  · split at h
    · split at h
      · split at h
        · next u hu =>
          simp only [Prod.mk.injEq, Option.some.injEq] at h
          obtain ⟨rfl, rfl⟩ := h
          exact ⟨rfl, (Bt.text_read hu).2⟩
        · simp at h
      · simp at h
    · simp at h
theorem read_err {s : T8} (h : (read s).1 = 0) : ∃ b, read s = (0, some b) := by
  unfold read at h ⊢
  split at h
  · simp at h
  · split at h
    · next hc =>
      split at h
      · next ho =>
        split at h
        · next u hu => exact ⟨u, by rw [if_pos hc, if_pos ho]⟩
        · simp at h
      · simp at h
    · simp at h
theorem item_ok {i : It} {e : Int} {b : Bt} (h : itemE i = (e, some b)) : e = 0 ∧ b.ok = true := by
  unfold itemE at h
  split at h
  · split at h
    · exact read_ok h
    · simp at h
  · simp at h
theorem item_err {i : It} (h : (itemE i).1 = 0) : ∃ b, itemE i = (0, some b) := by
  unfold itemE at h ⊢
  split at h
  · next hk =>
    split at h
    · next ht =>
      obtain ⟨b, hb⟩ := read_err h
      exact ⟨b, by rw [if_pos hk, if_pos ht]; exact hb⟩
    · next ht => exact absurd h ht
  · simp at h
/-- one item more -/
def step (blk : Int) (s : List (Int × Bt)) (i : It) : List (Int × Bt) :=
  match itemE i with
  | (e, some b) => if e = 0 ∧ b.seq = s.length then s ++ [(blk, b)] else s
  | (_, none) => s
def block (s : List (Int × Bt)) (b : Bk) : List (Int × Bt) := b.items.foldl (step b.number) s
/-- the batches that count -/
def landed (l : List Bk) : List (Int × Bt) := l.foldl block []
theorem step_no {blk : Int} {s : List (Int × Bt)} {i : It} (h : ∀ b, itemE i = (0, some b) → b.seq ≠ s.length) : step blk s i = s := by
  unfold step
  split
  · next e b he =>
    obtain ⟨h0, _⟩ := item_ok he
    subst h0
    rw [if_neg (fun hh => h b he hh.2)]
  · rfl
theorem step_yes {blk : Int} {s : List (Int × Bt)} {i : It} {b : Bt} (h : itemE i = (0, some b)) (hs : b.seq = s.length) : step blk s i = s ++ [(blk, b)] := by
  unfold step
  rw [h]
  simp [hs]
theorem fold_take {α β : Type} {its : List α} {j : Nat} (h : j < its.length) (f : β → α → β) (s : β) : (its.take (j + 1)).foldl f s = f ((its.take j).foldl f s) its[j] := by
  rw [List.take_succ_eq_append_getElem h, List.foldl_append]; rfl
theorem landed_take {l : List Bk} {k : Nat} (h : k < l.length) : landed (l.take (k + 1)) = block (landed (l.take k)) l[k] := fold_take h block []
end Po
/-- a batch that landed, and where its parts lie -/
structure Ld where
  blk : Int
  bt : Bt
  A : Option Addr
  cap : Nat
namespace Ld
def key (x : Ld) : Int × Bt := (x.blk, x.bt)
def cells (x : Ld) : List Value := .int .i64 x.blk :: x.bt.cells x.A x.cap
def flat (l : List Ld) : List Value := l.flatMap cells
theorem cells_len (x : Ld) : x.cells.length = 5 := rfl
theorem flat_snoc (l : List Ld) (x : Ld) : flat (l ++ [x]) = flat l ++ x.cells := by unfold flat; rw [List.flatMap_append]; simp
theorem one (x : Ld) : ∀ v ∈ x.cells, v.oneCell' = true := by
  intro v hv
  simp [cells, Bt.cells] at hv
  rcases hv with rfl | rfl | rfl | rfl | rfl <;> rfl
theorem flat_at : ∀ (l : List Ld) (i : Nat) (hi : i < l.length) (j : Nat) (v : Value), l[i].cells[j]? = some v → (flat l)[i * 5 + j]? = some v
  | x :: r, 0, hi, j, v, h => by
    show (x.cells ++ flat r)[_]? = _
    simp only [List.getElem_cons_zero] at h
    have hj := (List.getElem?_eq_some_iff.1 h).1
    rw [Nat.zero_mul, Nat.zero_add, List.getElem?_append_left hj]
    exact h
  | x :: r, i + 1, hi, j, v, h => by
    have hc := cells_len x
    show (x.cells ++ flat r)[_]? = _
    simp only [List.getElem_cons_succ] at h
    rw [List.getElem?_append_right (by omega), hc, show (i + 1) * 5 + j - 5 = i * 5 + j by omega]
    exact flat_at r i (by simpa using hi) j v h
end Ld
theorem PartsFrom.other {w w' : World} {lo g : Nat} {A : Option Addr} {P : List Pt} {cur : Array Value} {T : TypeId} {fz : Nat × Nat} (h : PartsFrom w lo A P) (hg : w.grownBy w' (some g)) (hr : w.heap[g]? = some (.cells cur T fz)) (hT : T ≠ 57) : PartsFrom w' lo A P := fun hne => by
  obtain ⟨b, off, h1, h2, h3, ⟨cur2, hc⟩, h5⟩ := h hne
  have hbg : b ≠ g := by
    rintro rfl
    rw [hr] at hc
    simp only [Option.some.injEq, Obj.cells.injEq] at hc
    exact hT hc.2.1
  have hne : some b ≠ some g := fun e => hbg (by simpa using e)
  exact ⟨b, off, h1, h2, Nat.lt_of_lt_of_le h3 hg.size, ⟨cur2, (hg.block b h3 hne).trans hc⟩, fun i hi => ⟨hg.cell (h5 i hi).1 hne, hg.cell (h5 i hi).2 hne⟩⟩
theorem own_form13 {w : World} {base : Nat} {e : TypeId} {sz : Nat} {v : Value} {n : Nat} {xs : List Value} (h : w.ownsRow base e sz v n xs) : ∃ A c, v = .slice A n c ∧ n ≤ c ∧ (A = none → n = 0) := by
  rcases h.2 with ⟨rfl, rfl⟩ | ⟨g, cap, cur, rfl, _, _, hn, _⟩
  · exact ⟨none, 0, rfl, Nat.le_refl _, fun _ => rfl⟩
  · exact ⟨some ⟨g, 0, none⟩, cap, rfl, hn, fun h => by cases h⟩
theorem own_heap {w : World} {base : Nat} {e : TypeId} {sz : Nat} {v : Value} {n : Nat} {xs : List Value} (h : w.ownsRow base e sz v n xs) {g : Nat} (hg : v.ownBlock = some g) : ∃ cur fz, w.heap[g]? = some (.cells cur e fz) := by
  rcases h.2 with ⟨rfl, rfl⟩ | ⟨g', cap, cur, rfl, _, hh, _⟩
  · cases hg
  · cases hg; exact ⟨cur, _, hh⟩
/-- what landed, in memory of the call's own -/
def LdAt (w : World) (base : Nat) (v : Value) (L : List (Int × Bt)) : Prop :=
  ∃ ls : List Ld, ls.map Ld.key = L ∧ w.ownsRow base 43 5 v L.length (Ld.flat ls) ∧ ∀ x ∈ ls, PartsFrom w base x.A x.bt.parts ∧ x.bt.parts.length ≤ x.cap
theorem LdAt.nil (w : World) (base : Nat) : LdAt w base (.slice none 0 0) [] := ⟨[], rfl, World.ownsRow_nil _ _ _ _, fun x hx => by simp at hx⟩
theorem LdAt.quiet {w w' : World} {base : Nat} {v : Value} {L : List (Int × Bt)} (h : LdAt w base v L) (hg : w.grownBy w' none) : LdAt w' base v L := by
  obtain ⟨ls, h1, h2, h3⟩ := h
  refine ⟨ls, h1, h2.kept hg ?_, fun x hx => ⟨(h3 x hx).1.grown hg (fun k hk => by cases hk), (h3 x hx).2⟩⟩
  cases ho : v.ownBlock with
  | none => exact .inl rfl
  | some g => exact .inr (by simp)
theorem LdAt.push1 {w w' : World} {base : Nat} {v v' : Value} {L : List (Int × Bt)} {ls : List Ld} {x : Ld} (h1 : ls.map Ld.key = L) (h2 : w.ownsRow base 43 5 v L.length (Ld.flat ls)) (h3 : ∀ x ∈ ls, PartsFrom w base x.A x.bt.parts ∧ x.bt.parts.length ≤ x.cap)
    (hx : PartsFrom w base x.A x.bt.parts) (hc : x.bt.parts.length ≤ x.cap) (hg : w.grownBy w' v.ownBlock)
    (ho : w'.ownsRow base 43 5 v' (L.length + 1) (Ld.flat ls ++ x.cells)) : LdAt w' base v' (L ++ [x.key]) := by
  refine ⟨ls ++ [x], by rw [List.map_append, h1]; rfl, ?_, ?_⟩
  · rw [List.length_append, Ld.flat_snoc]
    exact ho
  · have tr : ∀ (A : Option Addr) (P : List Pt), PartsFrom w base A P → PartsFrom w' base A P := fun A P hp => by
      cases hb : v.ownBlock with
      | none => rw [hb] at hg; exact hp.grown hg (fun k hk => by cases hk)
      | some g =>
        rw [hb] at hg
        obtain ⟨cur, fz, hh⟩ := own_heap h2 hb
        exact hp.other hg hh (by decide)
    intro y hy
    rcases List.mem_append.1 hy with hy | hy
    · exact ⟨tr _ _ (h3 y hy).1, (h3 y hy).2⟩
    · simp only [List.mem_singleton] at hy
      subst hy
      exact ⟨tr _ _ hx, hc⟩
/-- where Landed stands -/
def LsAt (w wr : World) (v : Value) (L : List (Int × Bt)) : Prop := LdAt wr w.heap.size v L ∧ Below w.heap.size w wr
theorem LsAt.step {w wr w' : World} {v : Value} {L : List (Int × Bt)} (h : LsAt w wr v L) (hb : Below wr.heap.size wr w') : LsAt w w' v L := ⟨h.1.quiet (grownBy_of_below hb none), two_below' h.2 hb⟩
theorem LsAt.form {w wr : World} {v : Value} {L : List (Int × Bt)} (h : LsAt w wr v L) : ∃ A c, v = .slice A L.length c := by
  obtain ⟨ls, h1, h2, h3⟩ := h.1
  obtain ⟨A, c, e, _⟩ := own_form13 h2
  exact ⟨A, c, e⟩
theorem fill_one13 (n : Nat) (z : Value) (C : List Value) (hC : C.length = n) : Instr.fill (fun i => some (i * n, n)) ((Array.range (1 * n)).map (z.cells[· % z.cells.size]!)) [(0, .agg C.toArray)] = some C.toArray := by
  have hl : ((Array.range (1 * n)).map (z.cells[· % z.cells.size]!)).toList.length = n := by simp
  have e : (Array.range (1 * n)).map (z.cells[· % z.cells.size]!) = ((Array.range (1 * n)).map (z.cells[· % z.cells.size]!)).toList.toArray := Array.toArray_toList.symm
  rw [e, fill_step _ _ 0 _ C _ 0 n (by simp) (by simp [Value.cells]) hC (by omega), fill_end]
  rw [List.take_zero, List.nil_append, List.drop_of_length_le (by omega), List.append_nil]
theorem row_ne_own13 {w : World} {base g n size : Nat} {e t : TypeId} {v : Value} {xs ys : List Value} (h : Row w g t ys) (hown : w.ownsRow base e size v n xs) (ht : t ≠ e) : v.ownBlock ≠ some g := by
  intro hv
  obtain ⟨cur, fz, hh⟩ := own_heap hown hv
  unfold Row at h
  rw [hh] at h
  simp only [Option.some.injEq, Obj.cells.injEq] at h
  exact ht h.2.1.symm
theorem ld_size : (Tryd.prog.info? 43).map (·.size) = some 5 := by kernel_rfl
theorem ld_built (x : Ld) : Tryd.prog.built 43 [(0, .int .i64 x.blk), (1, .agg (x.bt.cells x.A x.cap).toArray)] = some x.cells.toArray := by kernel_rfl
theorem ld_info : (Tryd.prog.info? 43).map (fun i => (i.zero, i.size, i.bytes)) = some (some (.agg (Ld.cells ⟨0, Bt.zero, none, 0⟩).toArray), 5, 56) := by kernel_rfl
end Go.Proofs.YtinciddchpccnaaDoor
namespace Go.Proofs.YtinciddchpccnaaDoor
open Go.RowKit
set_option linter.unusedVariables false
set_option linter.unusedSimpArgs false

theorem item_one13 (i : It) : ∀ v ∈ i.cells, v.oneCell' = true := by
  intro v hv
  simp [It.cells] at hv
  rcases hv with rfl | rfl | rfl | rfl <;> rfl
theorem own_max13 {w : World} {base : Nat} {e : TypeId} {sz : Nat} {v : Value} {n : Nat} {xs : List Value} (h : w.ownsRow base e sz v n xs) : n ≤ 9223372036854775807 := by
  rcases h.2 with ⟨_, rfl⟩ | ⟨g, cap, cur, _, _, _, h1, h2, _⟩
  · omega
  · unfold maxLen at h2; omega
theorem own_quiet13 (v : Value) : v.ownBlock = none ∨ v.ownBlock ≠ none := Classical.em _
theorem block_num {l : List Bk} {k : Nat} (h : k < l.length) : Po.block (Po.landed (l.take k)) l[k] = l[k].items.foldl (Po.step l[k].number) (Po.landed (l.take k)) := rfl
set_option maxRecDepth 20000 in
set_option maxHeartbeats 6400000 in
theorem landed_any (A : Option Addr) (c : Nat) (l : List Bk) (w : World) (hB : BksAt w w.heap.size A l) (hl : l.length ≤ 9223372036854775807) (hT : Tab w) :
    Calls Tryd.prog 17 #[.slice A l.length c] w fun e w' => (∃ v, e = .returned v ∧ LdAt w' w.heap.size v (Po.landed l)) ∧ Below w.heap.size w w' := by
  obtain ⟨n, hn⟩ : ∃ n, n = l.length := ⟨_, rfl⟩
  rw [← hn]
  have HN := Lib.hid hn
  have HB := Lib.hid hB
  have HT := Lib.hid hT
  have hzb := bt_zv
  have hzf := fd_zv
  have hzk := block_zv
  have hzi := item_zv
  rw [← hn] at hl
  have HBL : Hid (Bt.zeroC.length = 4) := Lib.hid rfl
  obtain ⟨ZC, hZC⟩ : ∃ ZC, ZC = Bt.zeroC := ⟨_, rfl⟩
  simp only [← hZC] at hzb HBL
  obtain ⟨i0, hi, h2⟩ := Option.map_eq_some_iff.1 ld_info
  simp only [Prod.mk.injEq] at h2
  obtain ⟨hz0, hsz, hby⟩ := h2
  have Hi := Lib.hid hi
  obtain ⟨ZL, hZL⟩ : ∃ ZL, ZL = Ld.cells ⟨0, Bt.zero, none, 0⟩ := ⟨_, rfl⟩
  rw [← hZL] at hz0
  have HZL5 : Hid ((Value.agg ZL.toArray).cells.size = 5) := Lib.hid (by rw [hZL]; rfl)
  have Hz := Lib.hid hz0
  have Hsz := Lib.hid hsz
  have Hby := Lib.hid hby
  clear hn hB hT hZC hi hz0 hsz hby hZL
  go_enter Tryd.func17, Tryd.ntmps17
  go_wp2_with fail
  have HL0 : Hid (LsAt w w (.slice none 0 0) (Po.landed (l.take 0))) := Lib.hid ⟨LdAt.nil _ _, Below.refl _ _⟩
  go_loopw [3, 13] (fun v i wr => ∃ (k : Nat) (A3 : Option Addr) (c3 : Nat), k ≤ n ∧ i = .int .i64 k ∧ v = .slice A3 (Po.landed (l.take k)).length c3 ∧ LsAt w wr (.slice A3 (Po.landed (l.take k)).length c3) (Po.landed (l.take k))) (fun _ i _ => n - (intOf i).toNat)
  case atStart => exact ⟨0, none, 0, Nat.zero_le _, rfl, rfl, HL0.out⟩
  case round =>
    obtain ⟨k, A3, c3, hk, rfl, rfl, hM⟩ := hrel
    have HM := Lib.hid hM
    clear hM HL0
    by_cases hlt : k < n
    · have hki : (k : Int) < (n : Int) := by omega
      have hkl : k < l.length := by rw [← HN.out]; exact hlt
      obtain ⟨bb, off, rfl, hbb, hat⟩ := HB.out (by intro e; rw [e] at hkl; simp at hkl)
      obtain ⟨A', cp, hrng, hits, hcap, hpl⟩ := hat k hkl
      have HRun := Lib.hid (Po.landed_take hkl)
      have HBlk := Lib.hid (block_num hkl)
      have HCL := Lib.hid (Bk.cells_len (b := l[k]) (A := A') (cap := cp) hpl)
      have HC1 := Lib.hid (Bk.cells_one (b := l[k]) (A := A') (cap := cp) hpl)
      have H34 := Lib.hid (Bk.cell34 (b := l[k]) (A := A') (cap := cp) hpl)
      have H00 := Lib.hid (Bk.cell0 l[k] A' cp)
      have Hrng := Lib.hid (range_below hrng HM.out.2 hbb)
      have Hits := Lib.hid hits.1
      have hml := hits.2
      obtain ⟨s0, hs0⟩ : ∃ s0, s0 = Po.landed (l.take k) := ⟨_, rfl⟩
      rw [← hs0] at HRun HM HBlk ⊢
      generalize l[k].cells A' cp = C at *
      obtain ⟨its, hit⟩ : ∃ its, its = l[k].items := ⟨_, rfl⟩
      obtain ⟨num, hnum⟩ : ∃ num, num = l[k].number := ⟨_, rfl⟩
      rw [← hit] at HBlk Hits hml H34
      rw [← hnum] at HBlk H00
      obtain ⟨m, hm⟩ : ∃ m, m = its.length := ⟨_, rfl⟩
      rw [← hm] at hml H34
      have HMl := Lib.hid hm
      clear hit hnum hs0 hat hrng hits hcap hpl hm
      have Hwr := Lib.hid (Row.new wr 62 Bk.zeroC)
      have HZL := Lib.hid Bk.zeroC_len
      go_wp2_with (first
      | ((with_reducible show wpList _ _ _ (⟨_, .load 62 _, _, _, _, _⟩ :: _) _ _); refine wpList_load_tx rfl 62 (.tmp 15) rfl bb (off + k * 35) rfl C _ Hrng.out Tryd.underlying62 rfl (by rw [block_size, HCL.out]) ?_)
      | (with_reducible show wpList _ _ _ (⟨_, .store 62 _ _, _, _, _, _⟩ :: _) _ _
         refine wpList_store_at rfl 62 (.tmp 5) (.tmp 16) rfl wr.heap.size 0 C _ _ rfl rfl Hwr.out (by have := HZL.out; have := HCL.out; omega) (by rw [block_size, HCL.out]) HC1.out ?_
         intro w4 hr4 hg4
         rw [splice_all (HCL.out.trans HZL.out.symm)] at hr4
         have c34 := (row_range hr4) 34 _ H34.out
         have HR4 := Lib.hid hr4
         have HM4 := Lib.hid (HM.out.step (below_own ((Below.refl wr.heap.size wr).alloc (Nat.le_refl _) (.cells Bk.zeroC.toArray 62)) hg4 (fun k hk => by cases hk; exact Nat.le_refl _)))
         clear hr4 hg4))
      have hg7 : w.heap.size ≤ wr.heap.size := HM.out.2.size
      clear c34 Hrng Hwr HM hzk H34
      generalize wr.heap.size = g7 at *
      generalize wr = wo at *
      go_loopw [3, 20] (fun v i wr => ∃ (j : Nat) (A3 : Option Addr) (c3 : Nat), j ≤ m ∧ i = .int .i64 j ∧ v = .slice A3 ((its.take j).foldl (Po.step num) s0).length c3 ∧ LsAt w wr (.slice A3 ((its.take j).foldl (Po.step num) s0).length c3) ((its.take j).foldl (Po.step num) s0) ∧ Row wr g7 62 C) (fun _ i _ => m - (intOf i).toNat)
      case atStart => exact ⟨0, A3, c3, Nat.zero_le _, rfl, rfl, HM4.out, HR4.out⟩
      case round =>
        obtain ⟨j, A4, c4, hj, rfl, rfl, hM2, hRow2⟩ := hrel
        have HM2 := Lib.hid hM2
        have HRow2 := Lib.hid hRow2
        clear hM2 hRow2 HM4 HR4
        by_cases hjm : j < m
        · have hji : (j : Int) < (m : Int) := by omega
          have hjl : j < its.length := by rw [← HMl.out]; exact hjm
          obtain ⟨b2, off2, rfl, hb2, hat2⟩ := Hits.out (by intro e; rw [e] at hjl; simp at hjl)
          have Hr2 := Lib.hid (range_below (hat2 j hjl) HM2.out.2 hb2)
          have HF := Lib.hid (Po.fold_take hjl (Po.step num) s0)
          obtain ⟨s1, hs1⟩ : ∃ s1, s1 = (its.take j).foldl (Po.step num) s0 := ⟨_, rfl⟩
          rw [← hs1] at HF HM2 ⊢
          generalize its[j] = it at *
          clear hat2 hs1
          have HLk : Hid (∀ W, Tab W → Calls Tryd.prog 41 #[.agg it.cells.toArray] W fun e w' => LookEnds (Po.itemE it) W.heap.size e w' ∧ Below W.heap.size W w') := Lib.hid (fun W h => look_any it W h)
          have HIL : Hid (it.cells.length = 4) := Lib.hid rfl
          have HI1 := Lib.hid (item_one13 it)
          have HZI : Hid (It.zero.cells.length = 4) := Lib.hid rfl
          have Hnew := Lib.hid (Row.new wr 59 It.zero.cells)
          generalize it.cells = IC at *
          go_wp2_with (first
          | ((with_reducible show wpList _ _ _ (⟨_, .load 59 (.tmp 22), _, _, _, _⟩ :: _) _ _); refine wpList_load_tx rfl 59 (.tmp 22) rfl b2 (off2 + j * 4) rfl IC _ Hr2.out Tryd.underlying59 rfl (by rw [item_size, HIL.out]) ?_)
          | ((with_reducible show wpList _ _ _ (⟨_, .load 59 (.tmp 7), _, _, _, _⟩ :: _) _ _); refine wpList_load_tx rfl 59 (.tmp 7) rfl wr.heap.size 0 rfl IC _ (row_range HR7.out) Tryd.underlying59 rfl (by rw [item_size, HIL.out]) ?_)
          | (with_reducible show wpList _ _ _ (⟨_, .store 59 _ _, _, _, _, _⟩ :: _) _ _
             refine wpList_store_at rfl 59 (.tmp 7) (.tmp 23) rfl wr.heap.size 0 IC _ _ rfl rfl Hnew.out (by have := HIL.out; have := HZI.out; omega) (by rw [item_size, HIL.out]) HI1.out ?_
             intro w7 hr7 hg7
             rw [splice_all (HIL.out.trans HZI.out.symm)] at hr7
             have hbw7 := below_own ((Below.refl wr.heap.size wr).alloc (Nat.le_refl _) (.cells It.zero.cells.toArray 59)) hg7 (fun k hk => by cases hk; exact Nat.le_refl _)
             have HM7 := Lib.hid (HM2.out.step hbw7)
             have HB7 := Lib.hid (HRow2.out.below hbw7)
             have HR7 := Lib.hid hr7
             clear hr7 hg7 hbw7))
          refine (HLk.out _ (HT.out.below HM7.out.2 HT.out.pos)).mono ?_
          rintro _ w8 ⟨⟨C6, sq, rfl, hpf⟩, hb8⟩
          obtain ⟨h6l, h61, h60⟩ := hpf.cells
          have HM8 := Lib.hid (HM7.out.step hb8)
          have HB8 := Lib.hid (HB7.out.below hb8)
          have HPf8 := Lib.hid (hpf.mono HM7.out.2.size)
          have H6L := Lib.hid h6l
          have H61 := Lib.hid h61
          obtain ⟨ec, hec⟩ : ∃ ec, ec = (Po.itemE it).1 := ⟨_, rfl⟩
          rw [← hec]
          have HEc := Lib.hid hec
          have Hn8 := Lib.hid ((Row.new w8 24 ZC).below ((Below.refl _ _).alloc (Nat.le_refl _) (.cells #[.int .i64 0, .int .i64 0] 72)))
          clear hpf hb8 h6l h61 h60 hec HM7 HB7 HR7 Hnew
          have Hf8 := Lib.hid (Row.new (w8.alloc (.cells ZC.toArray 24)) 72 [.int .i64 0, .int .i64 0])
          have hsz8 : (w8.alloc (.cells ZC.toArray 24)).heap.size = w8.heap.size + 1 := by simp
          rw [hsz8] at Hf8
          have hb8a := ((Below.refl w8.heap.size w8).alloc (Nat.le_refl _) (.cells ZC.toArray 24)).alloc (by simp) (.cells #[.int .i64 0, .int .i64 0] 72)
          have Hb8a := Lib.hid hb8a
          have hlen : s1.length ≤ 9223372036854775807 := by
            obtain ⟨ls, _, h2, _⟩ := HM8.out.1
            have := own_max13 h2
            exact this
          clear hsz8 hb8a
          obtain ⟨⟨ls, hmap, ho8, hps8⟩, _⟩ := HM8.out
          have Hmap := Lib.hid hmap
          have Ho8 := Lib.hid ho8
          have Hps := Lib.hid hps8
          clear hmap ho8 hps8
          by_cases hq : sq = (s1.length : Int)
          rotate_left
          · have HQ := Lib.hid hq
            go_wp2_with (first
            | (with_reducible show wpList _ _ _ (⟨_, .store 24 _ _, _, _, _, _⟩ :: _) _ _
               refine wpList_store_at rfl 24 (.tmp 8) (.tmp 27) rfl w8.heap.size 0 C6 _ _ rfl rfl Hn8.out (by have := H6L.out; have := HBL.out; omega) (by rw [bt_size, H6L.out]) H61.out ?_
               intro w9 hr9 hg9
               rw [splice_all (H6L.out.trans HBL.out.symm)] at hr9
               have HR9 := Lib.hid hr9
               have Hf9 := Lib.hid (Hf8.out.kept hg9 (by simp))
               have Hb9 := Lib.hid (below_own Hb8a.out hg9 (fun k hk => by cases hk; exact Nat.le_refl _))
               clear hr9 hg9)
            | (with_reducible show wpList _ _ _ (⟨_, .store 72 (.tmp 9) _, _, _, _, _⟩ :: _) _ _
               refine wpList_store_at rfl 72 (.tmp 9) (.tmp 28) rfl (w8.heap.size + 1) 0 [.int .i64 sq, .int .i64 ec] _ _ rfl rfl Hf9.out (by simp) (by rw [fd_size]; rfl) (by intro v hv; simp at hv; rcases hv with rfl | rfl <;> rfl) ?_
               intro w10 hr10 hg10
               rw [splice_all (show ([.int .i64 sq, .int .i64 ec] : List Value).length = ([.int .i64 0, .int .i64 0] : List Value).length from rfl)] at hr10
               have Hf10 := Lib.hid hr10
               have HR10 := Lib.hid (HR9.out.kept hg10 (by simp))
               have Hb10 := Lib.hid (below_own Hb9.out hg10 (fun k hk => by cases hk; omega))
               have Hn10 := Lib.hid (Row.new w10 72 [.int .i64 0, .int .i64 0])
               have Hl10 : Hid (w8.heap.size + 1 < w10.heap.size) := Lib.hid hr10.lt
               clear hr10 hg10)
            | (with_reducible show wpList _ _ _ (⟨_, .store 72 (.tmp 10) _, _, _, _, _⟩ :: _) _ _
               refine wpList_store_at rfl 72 (.tmp 10) (.tmp 31) rfl w10.heap.size 0 [.int .i64 (s1.length : Int), .int .i64 0] _ _ rfl rfl Hn10.out (by simp) (by rw [fd_size]; rfl) (by intro v hv; simp at hv; rcases hv with rfl | rfl <;> rfl) ?_
               intro w11 hr11 hg11
               rw [splice_all (show ([.int .i64 (s1.length : Int), .int .i64 0] : List Value).length = ([.int .i64 0, .int .i64 0] : List Value).length from rfl)] at hr11
               have hbw11 := below_own ((Below.refl w10.heap.size w10).alloc (Nat.le_refl _) (.cells #[.int .i64 0, .int .i64 0] 72)) hg11 (fun k hk => by cases hk; exact Nat.le_refl _)
               have Hg11 := Lib.hid hr11
               have Hf11 := Lib.hid (Hf10.out.below hbw11)
               have HR11 := Lib.hid (HR10.out.below hbw11)
               have Hb11 := Lib.hid (two_below' Hb10.out hbw11)
               have c011 := (row_range (HB8.out.below Hb11.out)) 0 _ H00.out
               rw [Nat.zero_add] at c011
               clear hr11 hg11 hbw11)
            | ((with_reducible show wpList _ _ _ (⟨_, .load 72 (.tmp 9), _, _, _, _⟩ :: _) _ _); refine wpList_load_tx rfl 72 (.tmp 9) rfl (w8.heap.size + 1) 0 rfl [.int .i64 sq, .int .i64 ec] _ (row_range Hf11.out) Tryd.underlying72 rfl (by rw [fd_size]; rfl) ?_)
            | ((with_reducible show wpList _ _ _ (⟨_, .load 72 (.tmp 10), _, _, _, _⟩ :: _) _ _); refine wpList_load_tx rfl 72 (.tmp 10) rfl w10.heap.size 0 rfl [.int .i64 (s1.length : Int), .int .i64 0] _ (row_range Hg11.out) Tryd.underlying72 rfl (by rw [fd_size]; rfl) ?_))
            have HFn : Hid ((its.take (j + 1)).foldl (Po.step num) s0 = s1) := Lib.hid (by rw [HF.out]; exact Po.step_no (fun b hb hq => by have h1 := HPf8.out; rw [hb] at h1; obtain ⟨_, _, _, h2, _⟩ := h1; exact HQ.out (h2.trans hq)))
            exact ⟨⟨j + 1, A4, c4, hjm, by go_num, by rw [HFn.out], by rw [HFn.out]; exact HM8.out.step Hb11.out, HB8.out.below Hb11.out⟩, by simp [intOf]; omega⟩
          by_cases he : ec = 0
          rotate_left
          · have HE := Lib.hid he
            subst hq
            go_wp2_with (first
            | (with_reducible show wpList _ _ _ (⟨_, .store 24 _ _, _, _, _, _⟩ :: _) _ _
               refine wpList_store_at rfl 24 (.tmp 8) (.tmp 27) rfl w8.heap.size 0 C6 _ _ rfl rfl Hn8.out (by have := H6L.out; have := HBL.out; omega) (by rw [bt_size, H6L.out]) H61.out ?_
               intro w9 hr9 hg9
               rw [splice_all (H6L.out.trans HBL.out.symm)] at hr9
               have HR9 := Lib.hid hr9
               have Hf9 := Lib.hid (Hf8.out.kept hg9 (by simp))
               have Hb9 := Lib.hid (below_own Hb8a.out hg9 (fun k hk => by cases hk; exact Nat.le_refl _))
               clear hr9 hg9)
            | (with_reducible show wpList _ _ _ (⟨_, .store 72 (.tmp 9) _, _, _, _, _⟩ :: _) _ _
               refine wpList_store_at rfl 72 (.tmp 9) (.tmp 28) rfl (w8.heap.size + 1) 0 [.int .i64 (s1.length : Int), .int .i64 ec] _ _ rfl rfl Hf9.out (by simp) (by rw [fd_size]; rfl) (by intro v hv; simp at hv; rcases hv with rfl | rfl <;> rfl) ?_
               intro w10 hr10 hg10
               rw [splice_all (show ([.int .i64 (s1.length : Int), .int .i64 ec] : List Value).length = ([.int .i64 0, .int .i64 0] : List Value).length from rfl)] at hr10
               have Hf10 := Lib.hid hr10
               have HR10 := Lib.hid (HR9.out.kept hg10 (by simp))
               have Hb10 := Lib.hid (below_own Hb9.out hg10 (fun k hk => by cases hk; omega))
               have Hn10 := Lib.hid (Row.new w10 72 [.int .i64 0, .int .i64 0])
               have Hl10 : Hid (w8.heap.size + 1 < w10.heap.size) := Lib.hid hr10.lt
               clear hr10 hg10)
            | (with_reducible show wpList _ _ _ (⟨_, .store 72 (.tmp 10) _, _, _, _, _⟩ :: _) _ _
               refine wpList_store_at rfl 72 (.tmp 10) (.tmp 31) rfl w10.heap.size 0 [.int .i64 (s1.length : Int), .int .i64 0] _ _ rfl rfl Hn10.out (by simp) (by rw [fd_size]; rfl) (by intro v hv; simp at hv; rcases hv with rfl | rfl <;> rfl) ?_
               intro w11 hr11 hg11
               rw [splice_all (show ([.int .i64 (s1.length : Int), .int .i64 0] : List Value).length = ([.int .i64 0, .int .i64 0] : List Value).length from rfl)] at hr11
               have hbw11 := below_own ((Below.refl w10.heap.size w10).alloc (Nat.le_refl _) (.cells #[.int .i64 0, .int .i64 0] 72)) hg11 (fun k hk => by cases hk; exact Nat.le_refl _)
               have Hg11 := Lib.hid hr11
               have Hf11 := Lib.hid (Hf10.out.below hbw11)
               have HR11 := Lib.hid (HR10.out.below hbw11)
               have Hb11 := Lib.hid (two_below' Hb10.out hbw11)
               have c011 := (row_range (HB8.out.below Hb11.out)) 0 _ H00.out
               rw [Nat.zero_add] at c011
               clear hr11 hg11 hbw11)
            | ((with_reducible show wpList _ _ _ (⟨_, .load 72 (.tmp 9), _, _, _, _⟩ :: _) _ _); refine wpList_load_tx rfl 72 (.tmp 9) rfl (w8.heap.size + 1) 0 rfl [.int .i64 (s1.length : Int), .int .i64 ec] _ (row_range Hf11.out) Tryd.underlying72 rfl (by rw [fd_size]; rfl) ?_)
            | ((with_reducible show wpList _ _ _ (⟨_, .load 72 (.tmp 10), _, _, _, _⟩ :: _) _ _); refine wpList_load_tx rfl 72 (.tmp 10) rfl w10.heap.size 0 rfl [.int .i64 (s1.length : Int), .int .i64 0] _ (row_range Hg11.out) Tryd.underlying72 rfl (by rw [fd_size]; rfl) ?_))
            have HFn : Hid ((its.take (j + 1)).foldl (Po.step num) s0 = s1) := Lib.hid (by rw [HF.out]; exact Po.step_no (fun b hb hq => HE.out (by rw [HEc.out, hb])))
            exact ⟨⟨j + 1, A4, c4, hjm, by go_num, by rw [HFn.out], by rw [HFn.out]; exact HM8.out.step Hb11.out, HB8.out.below Hb11.out⟩, by simp [intOf]; omega⟩
          subst hq
          subst he
          obtain ⟨u, hu⟩ := Po.item_err HEc.out.symm
          have hpf := HPf8.out
          rw [hu] at hpf
          obtain ⟨A6, c6, h6, hqu, hpu, hcu⟩ := hpf
          have Hu := Lib.hid hu
          have Hq : Hid (u.seq = s1.length) := Lib.hid hqu.symm
          have Hpu := Lib.hid hpu
          have Hcu := Lib.hid hcu
          have hsq : s1.length ≤ 1099511627776 := by
            have := (Bt.ok_iff u).1 (Po.item_ok hu).2
            have h3 := Hq.out
            omega
          have hbu := ld_built ⟨num, u, A6, c6⟩
          simp only [← h6] at hbu
          obtain ⟨XC, hXC⟩ : ∃ XC, XC = Ld.cells ⟨num, u, A6, c6⟩ := ⟨_, rfl⟩
          rw [← hXC] at hbu
          have HXC := Lib.hid hXC.symm
          have HXL : Hid (XC.length = 5) := Lib.hid (by rw [hXC]; rfl)
          have HX1 : Hid (∀ v ∈ XC, v.oneCell' = true) := Lib.hid (by rw [hXC]; exact Ld.one _)
          have HBu := Lib.hid hbu
          have hk63 : s1.length + 1 ≤ maxLen := by unfold maxLen; omega
          have hk48 : ((s1.length + 1) + (s1.length + 1) / 4 + 192) * 56 ≤ 281474976710656 := by omega
          clear hu h6 hqu hpu hcu hsq hbu hXC
          go_wp2_with (first
          | (with_reducible show wpList _ _ _ (⟨_, .store 24 _ _, _, _, _, _⟩ :: _) _ _
             refine wpList_store_at rfl 24 (.tmp 8) (.tmp 27) rfl w8.heap.size 0 C6 _ _ rfl rfl Hn8.out (by have := H6L.out; have := HBL.out; omega) (by rw [bt_size, H6L.out]) H61.out ?_
             intro w9 hr9 hg9
             rw [splice_all (H6L.out.trans HBL.out.symm)] at hr9
             have HR9 := Lib.hid hr9
             have Hf9 := Lib.hid (Hf8.out.kept hg9 (by simp))
             have Hb9 := Lib.hid (below_own Hb8a.out hg9 (fun k hk => by cases hk; exact Nat.le_refl _))
             clear hr9 hg9)
          | (with_reducible show wpList _ _ _ (⟨_, .store 72 (.tmp 9) _, _, _, _, _⟩ :: _) _ _
             refine wpList_store_at rfl 72 (.tmp 9) (.tmp 28) rfl (w8.heap.size + 1) 0 [.int .i64 (s1.length : Int), .int .i64 0] _ _ rfl rfl Hf9.out (by simp) (by rw [fd_size]; rfl) (by intro v hv; simp at hv; rcases hv with rfl | rfl <;> rfl) ?_
             intro w10 hr10 hg10
             rw [splice_all (show ([.int .i64 (s1.length : Int), .int .i64 0] : List Value).length = ([.int .i64 0, .int .i64 0] : List Value).length from rfl)] at hr10
             have Hf10 := Lib.hid hr10
             have HR10 := Lib.hid (HR9.out.kept hg10 (by simp))
             have Hb10 := Lib.hid (below_own Hb9.out hg10 (fun k hk => by cases hk; omega))
             have Hn10 := Lib.hid (Row.new w10 72 [.int .i64 0, .int .i64 0])
             have Hl10 : Hid (w8.heap.size + 1 < w10.heap.size) := Lib.hid hr10.lt
             clear hr10 hg10)
          | (with_reducible show wpList _ _ _ (⟨_, .store 72 (.tmp 10) _, _, _, _, _⟩ :: _) _ _
             refine wpList_store_at rfl 72 (.tmp 10) (.tmp 31) rfl w10.heap.size 0 [.int .i64 (s1.length : Int), .int .i64 0] _ _ rfl rfl Hn10.out (by simp) (by rw [fd_size]; rfl) (by intro v hv; simp at hv; rcases hv with rfl | rfl <;> rfl) ?_
             intro w11 hr11 hg11
             rw [splice_all (show ([.int .i64 (s1.length : Int), .int .i64 0] : List Value).length = ([.int .i64 0, .int .i64 0] : List Value).length from rfl)] at hr11
             have hbw11 := below_own ((Below.refl w10.heap.size w10).alloc (Nat.le_refl _) (.cells #[.int .i64 0, .int .i64 0] 72)) hg11 (fun k hk => by cases hk; exact Nat.le_refl _)
             have Hg11 := Lib.hid hr11
             have Hf11 := Lib.hid (Hf10.out.below hbw11)
             have HR11 := Lib.hid (HR10.out.below hbw11)
             have Hb11 := Lib.hid (two_below' Hb10.out hbw11)
             have c011 := (row_range (HB8.out.below Hb11.out)) 0 _ H00.out
             rw [Nat.zero_add] at c011
             clear hr11 hg11 hbw11)
          | ((with_reducible show wpList _ _ _ (⟨_, .load 72 (.tmp 9), _, _, _, _⟩ :: _) _ _); refine wpList_load_tx rfl 72 (.tmp 9) rfl (w8.heap.size + 1) 0 rfl [.int .i64 (s1.length : Int), .int .i64 0] _ (row_range Hf11.out) Tryd.underlying72 rfl (by rw [fd_size]; rfl) ?_)
          | ((with_reducible show wpList _ _ _ (⟨_, .load 72 (.tmp 10), _, _, _, _⟩ :: _) _ _); refine wpList_load_tx rfl 72 (.tmp 10) rfl w10.heap.size 0 rfl [.int .i64 (s1.length : Int), .int .i64 0] _ (row_range Hg11.out) Tryd.underlying72 rfl (by rw [fd_size]; rfl) ?_)
          | ((with_reducible show wpList _ _ _ (⟨_, .load 24 (.tmp 8), _, _, _, _⟩ :: _) _ _); refine wpList_load_tx rfl 24 (.tmp 8) rfl w8.heap.size 0 rfl C6 _ (row_range HR11.out) Tryd.underlying24 rfl (by rw [bt_size, H6L.out]) ?_)
          | ((with_reducible show wpList _ _ _ (⟨_, .build 43 _, _, _, _, _⟩ :: _) _ _); refine wpList_buildL rfl 43 [(0, .tmp 37), (1, .tmp 38)] rfl (some 39) rfl [(0, .int .i64 num), (1, .agg C6.toArray)] rfl XC.toArray HBu.out ?_)
          | ((with_reducible show wpList _ _ _ (⟨_, .buildSlice 36 _ _, _, _, _, _⟩ :: _) _ _)
             refine wpList_buildSliceL rfl 36 43 1 [(0, .tmp 39)] rfl (some 40) rfl [(0, .agg XC.toArray)] rfl XC.toArray i0 (.agg ZL.toArray) 5 Tryd.underlying36 Hi.out Hz.out Hsz.out (by decide) (by decide) (fill_one13 5 _ XC HXL.out) ?_
             have Hnew := Lib.hid (row_news (Row.new w11 43 XC))
             have Hb12 := Lib.hid (Hb11.out.alloc Hb11.out.size (.cells XC.toArray 43))
             have Ho12 := Lib.hid (Ho8.out.kept (grownBy_of_below Hb12.out none) (own_quiet13 _))
             have hz12 : w.heap.size ≤ (w11.alloc (.cells XC.toArray 43)).heap.size := by have := HM8.out.2.size; have := Hb12.out.size; omega)
          | (at_builtin
             refine wpList_append_own_wide _ rfl (.tmp 35) (.tmp 40) 36 rfl w.heap.size 43 i0 (.agg ZL.toArray) 5 56 Tryd.underlying36 Hi.out Hz.out Hsz.out Hby.out HZL5.out (by decide) _ _ _ rfl Ho12.out ⟨w11.heap.size, 0, none⟩ 1 1 XC rfl (by rw [HXL.out]) Hnew.out HX1.out hk63 hk48 hz12 ?_
             intro v' w13 hown13 hgrow13 _
             obtain ⟨g13, cp13, rfl⟩ := ownsRow_succ hown13
             have Hown13 := Lib.hid hown13
             have Hg13 := Lib.hid hgrow13
             clear hown13 hgrow13))
          have HFn : Hid ((its.take (j + 1)).foldl (Po.step num) s0 = s1 ++ [(num, u)]) := Lib.hid (by rw [HF.out]; exact Po.step_yes Hu.out Hq.out)
          have hp12 := fun (A : Option Addr) (P : List Pt) (h : PartsFrom w8 w.heap.size A P) => h.grown (grownBy_of_below Hb12.out none) (fun k hk => by cases hk)
          have hL13 : LdAt w13 w.heap.size (.slice (some ⟨g13, 0, none⟩) (s1.length + 1) cp13) (s1 ++ [(num, u)]) := LdAt.push1 (x := ⟨num, u, A6, c6⟩) Hmap.out Ho12.out (fun x hx => ⟨hp12 _ _ (Hps.out x hx).1, (Hps.out x hx).2⟩) (hp12 _ _ Hpu.out) Hcu.out Hg13.out (by rw [HXC.out]; exact Hown13.out)
          have hbe12 : Below w.heap.size w (w11.alloc (.cells XC.toArray 43)) := two_below' HM8.out.2 Hb12.out
          have hbe : Below w.heap.size w w13 := below_own hbe12 Hg13.out (fun k hk => (Ho12.out.lt k hk).1)
          have hr12 := HB8.out.below Hb12.out
          refine ⟨⟨j + 1, some ⟨g13, 0, none⟩, cp13, hjm, by go_num, by rw [HFn.out, List.length_append]; rfl, ?_, hr12.kept Hg13.out (row_ne_own13 hr12 Ho12.out (by decide)).symm⟩, by simp [intOf]; omega⟩
          rw [HFn.out, List.length_append]
          exact ⟨hL13, hbe⟩
        · have hji : (m : Int) ≤ (j : Int) := by omega
          have hje : j = its.length := by rw [← HMl.out]; omega
          have HMe := Lib.hid HM2.out
          have HFe : Hid ((its.take j).foldl (Po.step num) s0 = Po.landed (l.take (k + 1))) := Lib.hid (by rw [HRun.out, HBlk.out, hje, List.take_length])
          rw [HFe.out] at HMe ⊢
          clear hje HM2
          go_wp2_with fail
          exact ⟨⟨k + 1, _, _, hlt, by go_num, rfl, HMe.out⟩, by simp [intOf]; omega⟩
    · have hki : (n : Int) ≤ (k : Int) := by omega
      have hke : k = l.length := by rw [← HN.out]; omega
      have hMe : LsAt w wr (.slice A3 (Po.landed l).length c3) (Po.landed l) := by
        have := HM.out
        rw [hke, List.take_length] at this
        exact this
      have hte : Po.landed (l.take k) = Po.landed l := by rw [hke, List.take_length]
      rw [hte]
      have HMe := Lib.hid hMe
      clear hke hMe hte HM
      go_wp2_with fail
      go_ret
      exact ⟨⟨_, rfl, HMe.out.1⟩, HMe.out.2⟩
end Go.Proofs.YtinciddchpccnaaDoor
