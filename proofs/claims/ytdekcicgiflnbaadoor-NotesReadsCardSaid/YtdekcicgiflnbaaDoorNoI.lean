/- notes: WriteItem. -/
/- notes: hashes. -/
import Derived.Test.YtdekcicgiflnbaaDoorNoH
import Derived.Deep.RegionLaw
import Derived.Laws.CopyOwn
import Derived.Lib.BufferWrite
namespace Go.Proofs.YtdekcicgiflnbaaDoor
open Go.RowKit
set_option linter.unusedVariables false
set_option linter.unusedSimpArgs false

namespace It
def cells (i : It) : List Value := [.int .i64 i.kind, .int .i64 i.who, .int .i64 i.n, .string i.text]
end It
/-- texts behind numbers: an owned row, appended to -/
theorem str5 : ∃ i0 : TypeInfo, Tryd.prog.info? 9 = some i0 ∧ i0.zero = some (.string ByteArray.empty) ∧ i0.size = 1 ∧ i0.bytes = 16 := by
  obtain ⟨i0, hi, h2⟩ := Option.map_eq_some_iff.1 str_info5
  simp only [Prod.mk.injEq] at h2
  exact ⟨i0, hi, h2.1, h2.2.1, h2.2.2⟩
set_option maxRecDepth 20000 in
theorem writeItem_no (i : It) (w : World) (h : i.ok = false) :
    Calls Tryd.prog 43 #[.agg i.cells.toArray] w fun e w' => e = .returned (.tuple #[S [], .int .i64 2]) ∧ Below w.heap.size w w' := by
  have MB := fun W => itemMayBe_any i.kind i.who i.n i.text W
  unfold It.ok at h
  rw [h] at MB
  have HMB := Lib.hid MB
  clear MB h
  unfold It.cells
  go_enter Tryd.func43, Tryd.ntmps43
  go_wp2_with fail
  refine (HMB.out _).mono ?_
  rintro _ w1 ⟨rfl, hb1⟩
  have Hb1 := Lib.hid (tx_below (grownBy_of_below hb1 none))
  clear hb1
  go_wp2_with fail
  go_ret2
  exact ⟨rfl, Hb1.out⟩
set_option maxRecDepth 20000 in
set_option maxHeartbeats 1600000 in
theorem writeItem_ok (i : It) (w : World) (h : i.ok = true) :
    Calls Tryd.prog 43 #[.agg i.cells.toArray] w fun e w' => e = .returned (.tuple #[S (Oct.listE i.fields).1, .int .i64 (Oct.listE i.fields).2]) ∧ Below w.heap.size w w' := by
  obtain ⟨i0, hi, hz, hs, hby⟩ := str5
  have Hi := Lib.hid hi
  have Hz := Lib.hid hz
  have Hs := Lib.hid hs
  have Hby := Lib.hid hby
  have hn := It.ok_num h
  simp only [No.num_iff] at hn
  have MB := fun W => itemMayBe_any i.kind i.who i.n i.text W
  unfold It.ok at h
  rw [h] at MB
  have HMB := Lib.hid MB
  have NB : Hid (∀ (W : World) (nb : Nat), Row W nb 3 (Is [i.kind, i.who, i.n]) → Calls Tryd.prog 83 #[.slice (some ⟨nb, 0, none⟩) 3 3] W fun e w' => ∃ v, e = .returned v ∧ w'.ownsRow W.heap.size 9 1 v 3 ([Oct.num i.kind.toNat, Oct.num i.who.toNat, Oct.num i.n.toNat].map S) ∧ Below W.heap.size W w') := fun W nb hN =>
    numbers_any [i.kind, i.who, i.n] 3 (by intro x hx; simp at hx; rcases hx with rfl | rfl | rfl <;> omega) W nb hN (by simp)
  have hff : [Oct.num i.kind.toNat, Oct.num i.who.toNat, Oct.num i.n.toNat].map S ++ [Value.string i.text] = i.fields.map S := rfl
  have Hff := Lib.hid hff
  have hfl : 3 = i.fields.length - 1 := rfl
  have hfl4 : 3 + 1 = i.fields.length := rfl
  have Hfl := Lib.hid hfl4
  unfold It.cells
  generalize i.fields = L at *
  generalize [Oct.num i.kind.toNat, Oct.num i.who.toNat, Oct.num i.n.toNat].map S = NS at *
  generalize i.kind = kd at *
  generalize i.who = who at *
  generalize i.n = n at *
  generalize i.text = tx at *
  clear hi hz hs hby hn MB h hff hfl hfl4
  go_enter Tryd.func43, Tryd.ntmps43
  go_wp2_with fail
  refine (HMB.out _).mono ?_
  rintro _ w1 ⟨rfl, hb1⟩
  have hS0 : RowIn w w1.drew w.heap.size 59 [.int .i64 kd, .int .i64 who, .int .i64 n, .string tx] := (rowIn_call hb1).drew
  have HS0 := Lib.hid hS0
  clear hb1 hS0
  go_wp2_with fail
  refine wp_region_held_drew (S := fun w' => RowIn w w' w.heap.size 59 [.int .i64 kd, .int .i64 who, .int .i64 n, .string tx]) (by kernel_rfl) (HS0.out) (fun hHeld => ?_)
  generalize w1.drew = w9 at *
  refine wpAnyH_take (i := 0) (v := .pointer (some ⟨w.heap.size, 0, none⟩)) rfl (by kernel_rfl) (by kernel_rfl) (by kernel_rfl) (fun _ _ _ h => h) (Or.inl ⟨by rfl, fun w' hSw => by go_simp⟩) hHeld ?_
  try simp only [Act.put, List.getElem_toArray, List.getElem_cons_succ, List.getElem_cons_zero, List.setIfInBounds_toArray, List.set_cons_zero, List.set_cons_succ]
  refine wpAnyH_take (i := 1) (v := .int .i64 kd) rfl (by kernel_rfl) (by kernel_rfl) (by kernel_rfl) (fun _ _ _ h => h) (Or.inl ⟨by rfl, fun w' hSw => by have hq := hSw; have hc := hq.1.cell 0 (by simp); go_simp⟩) hHeld ?_
  try simp only [Act.put, List.getElem_toArray, List.getElem_cons_succ, List.getElem_cons_zero, List.setIfInBounds_toArray, List.set_cons_zero, List.set_cons_succ]
  refine wpAnyH_take (i := 2) (v := .pointer (some ⟨w.heap.size, 1, none⟩)) rfl (by kernel_rfl) (by kernel_rfl) (by kernel_rfl) (fun _ _ _ h => h) (Or.inl ⟨by rfl, fun w' hSw => by go_simp⟩) hHeld ?_
  try simp only [Act.put, List.getElem_toArray, List.getElem_cons_succ, List.getElem_cons_zero, List.setIfInBounds_toArray, List.set_cons_zero, List.set_cons_succ]
  refine wpAnyH_take (i := 3) (v := .int .i64 who) rfl (by kernel_rfl) (by kernel_rfl) (by kernel_rfl) (fun _ _ _ h => h) (Or.inl ⟨by rfl, fun w' hSw => by have hq := hSw; have hc := hq.1.cell 1 (by simp); go_simp⟩) hHeld ?_
  try simp only [Act.put, List.getElem_toArray, List.getElem_cons_succ, List.getElem_cons_zero, List.setIfInBounds_toArray, List.set_cons_zero, List.set_cons_succ]
  refine wpAnyH_take (i := 4) (v := .pointer (some ⟨w.heap.size, 2, none⟩)) rfl (by kernel_rfl) (by kernel_rfl) (by kernel_rfl) (fun _ _ _ h => h) (Or.inl ⟨by rfl, fun w' hSw => by go_simp⟩) hHeld ?_
  try simp only [Act.put, List.getElem_toArray, List.getElem_cons_succ, List.getElem_cons_zero, List.setIfInBounds_toArray, List.set_cons_zero, List.set_cons_succ]
  refine wpAnyH_take (i := 5) (v := .int .i64 n) rfl (by kernel_rfl) (by kernel_rfl) (by kernel_rfl) (fun _ _ _ h => h) (Or.inl ⟨by rfl, fun w' hSw => by have hq := hSw; have hc := hq.1.cell 2 (by simp); go_simp⟩) hHeld ?_
  try simp only [Act.put, List.getElem_toArray, List.getElem_cons_succ, List.getElem_cons_zero, List.setIfInBounds_toArray, List.set_cons_zero, List.set_cons_succ]
  refine wpAnyH_take (i := 8) (v := .pointer (some ⟨w.heap.size, 3, none⟩)) rfl (by kernel_rfl) (by kernel_rfl) (by kernel_rfl) (fun _ _ _ h => h) (Or.inl ⟨by rfl, fun w' hSw => by go_simp⟩) hHeld ?_
  try simp only [Act.put, List.getElem_toArray, List.getElem_cons_succ, List.getElem_cons_zero, List.setIfInBounds_toArray, List.set_cons_zero, List.set_cons_succ]
  refine wpAnyH_take (i := 9) (v := .string tx) rfl (by kernel_rfl) (by kernel_rfl) (by kernel_rfl) (fun _ _ _ h => h) (Or.inl ⟨by rfl, fun w' hSw => by have hq := hSw; have hc := hq.1.cell 3 (by simp); go_simp⟩) hHeld ?_
  try simp only [Act.put, List.getElem_toArray, List.getElem_cons_succ, List.getElem_cons_zero, List.setIfInBounds_toArray, List.set_cons_zero, List.set_cons_succ]
  refine wpAnyH_ready (rs := [6, 10]) (by kernel_rfl) (by simp) (AllReadyH.cons rfl (fun K1 hK1 => ?_) (AllReadyH.cons rfl (fun K1 hK1 => ?_) AllReadyH.nil))
  · skip
    try simp only [Act.put, List.getElem_toArray, List.getElem_cons_succ, List.getElem_cons_zero, List.setIfInBounds_toArray, List.set_cons_zero, List.set_cons_succ]
    go_simp
    have hd2 := (Below.refl w9.heap.size w9).alloc (Nat.le_refl _) (.cells #[.int .i64 kd, .int .i64 who, .int .i64 n] 3)
    have r1 : Row (w9.alloc (.cells #[.int .i64 kd, .int .i64 who, .int .i64 n] 3)) w9.heap.size 3 (Is [kd, who, n]) := Row.new w9 3 (Is [kd, who, n])
    have hHeld2 := hHeld.step hd2
    generalize w9.alloc (.cells #[.int .i64 kd, .int .i64 who, .int .i64 n] 3) = wb1 at *
    obtain ⟨gb3, gb3e⟩ : ∃ gb3, gb3 = w9.heap.size := ⟨_, rfl⟩
    rw [← gb3e] at r1 ⊢
    refine hK1.out _ _ (hHeld2) (fun hHeld => ?_)
    clear hK1 K1
    try simp only [Act.put, List.getElem_toArray, List.getElem_cons_succ, List.getElem_cons_zero, List.setIfInBounds_toArray, List.set_cons_zero, List.set_cons_succ]
    clear hHeld2 gb3e
    refine wpAnyH_ready (rs := [7, 10]) (by kernel_rfl) (by simp) (AllReadyH.cons rfl (fun K1 hK1 => ?_) (AllReadyH.cons rfl (fun K1 hK1 => ?_) AllReadyH.nil))
    · skip
      try simp only [Act.put, List.getElem_toArray, List.getElem_cons_succ, List.getElem_cons_zero, List.setIfInBounds_toArray, List.set_cons_zero, List.set_cons_succ]
      go_simp
      refine Calls.mono (NB.out _ _ r1) ?_
      rintro e wn4 ⟨vN, rfl, hown, hn5⟩
      have hown := hown.mono hHeld.size
      clear r1
      refine hK1.out _ _ (hHeld.step hn5) (fun hHeld => ?_)
      clear hK1 K1
      try simp only [Act.put, List.getElem_toArray, List.getElem_cons_succ, List.getElem_cons_zero, List.setIfInBounds_toArray, List.set_cons_zero, List.set_cons_succ]
      refine wpAnyH_ready (rs := [10]) (by kernel_rfl) (by simp) (AllReadyH.cons rfl (fun K1 hK1 => ?_) AllReadyH.nil)
      try simp only [Act.put, List.getElem_toArray, List.getElem_cons_succ, List.getElem_cons_zero, List.setIfInBounds_toArray, List.set_cons_zero, List.set_cons_succ]
      go_simp
      have hd7 := (Below.refl wn4.heap.size wn4).alloc (Nat.le_refl _) (.cells #[.string tx] 9)
      have r2 : Row (wn4.alloc (.cells #[.string tx] 9)) wn4.heap.size 9 ([.string tx]) := Row.new wn4 9 ([.string tx])
      have hown := own_below hown hd7
      have hHeld2 := hHeld.step hd7
      generalize wn4.alloc (.cells #[.string tx] 9) = wb6 at *
      obtain ⟨gb8, gb8e⟩ : ∃ gb8, gb8 = wn4.heap.size := ⟨_, rfl⟩
      rw [← gb8e] at r2 ⊢
      refine hK1.out _ _ (hHeld2) (fun hHeld => ?_)
      clear hK1 K1
      try simp only [Act.put, List.getElem_toArray, List.getElem_cons_succ, List.getElem_cons_zero, List.setIfInBounds_toArray, List.set_cons_zero, List.set_cons_succ]
      clear hHeld2 gb8e
      refine wpAnyH_ready (rs := [11]) (by kernel_rfl) (by simp) (AllReadyH.cons rfl (fun K1 hK1 => ?_) AllReadyH.nil)
      try simp only [Act.put, List.getElem_toArray, List.getElem_cons_succ, List.getElem_cons_zero, List.setIfInBounds_toArray, List.set_cons_zero, List.set_cons_succ]
      rw [if_pos (by rfl)]
      refine wp_append_own_wide wb6 _ _ 73 rfl w.heap.size 9 i0 (.string ByteArray.empty) 1 16 Tryd.underlying73 Hi.out Hz.out Hs.out Hby.out rfl (by decide) vN 3 NS rfl hown ⟨gb8, 0, none⟩ 1 1 [.string tx] rfl rfl (row_news r2) (by intro u hu; simp at hu; first | (subst hu; rfl) | (rcases hu with rfl | rfl <;> rfl)) (by unfold maxLen; omega) (by omega) hHeld.size fun vP wp9 hownP hgrow _ => ?_
      have hHeld2 := own_keeps hHeld (by decide) hown (Nat.le_refl _) hgrow
      clear hown r2 hgrow
      refine hK1.out _ _ (hHeld2) (fun hHeld => ?_)
      clear hK1 K1
      try simp only [Act.put, List.getElem_toArray, List.getElem_cons_succ, List.getElem_cons_zero, List.setIfInBounds_toArray, List.set_cons_zero, List.set_cons_succ]
      refine wpAnyH_ready (rs := [12]) (by kernel_rfl) (by simp) (AllReadyH.cons rfl (fun K1 hK1 => ?_) AllReadyH.nil)
      try simp only [Act.put, List.getElem_toArray, List.getElem_cons_succ, List.getElem_cons_zero, List.setIfInBounds_toArray, List.set_cons_zero, List.set_cons_succ]
      go_simp
      refine Calls.mono (list_owned L Hff.out hownP Hfl.out) ?_
      rintro e wl10 ⟨rfl, hl11⟩
      refine hK1.out _ _ (hHeld.step hl11) (fun hHeld => ?_)
      clear hK1 K1
      try simp only [Act.put, List.getElem_toArray, List.getElem_cons_succ, List.getElem_cons_zero, List.setIfInBounds_toArray, List.set_cons_zero, List.set_cons_succ]
      refine wpAnyH_take (i := 13) (v := S (Oct.listE L).1) rfl (by kernel_rfl) (by kernel_rfl) (by kernel_rfl) (fun _ _ _ h => h) (Or.inl ⟨by rfl, fun w' hSw => by go_simp⟩) hHeld ?_
      try simp only [Act.put, List.getElem_toArray, List.getElem_cons_succ, List.getElem_cons_zero, List.setIfInBounds_toArray, List.set_cons_zero, List.set_cons_succ]
      refine wpAnyH_take (i := 14) (v := .int .i64 (Oct.listE L).2) rfl (by kernel_rfl) (by kernel_rfl) (by kernel_rfl) (fun _ _ _ h => h) (Or.inl ⟨by rfl, fun w' hSw => by go_simp⟩) hHeld ?_
      try simp only [Act.put, List.getElem_toArray, List.getElem_cons_succ, List.getElem_cons_zero, List.setIfInBounds_toArray, List.set_cons_zero, List.set_cons_succ]
      refine wpAnyH_take (i := 15) (v := S (Oct.listE L).1) rfl (by kernel_rfl) (by kernel_rfl) (by kernel_rfl) (fun _ _ _ h => h) (Or.inl ⟨by rfl, fun w' hSw => by go_simp⟩) hHeld ?_
      try simp only [Act.put, List.getElem_toArray, List.getElem_cons_succ, List.getElem_cons_zero, List.setIfInBounds_toArray, List.set_cons_zero, List.set_cons_succ]
      refine wpAnyH_take (i := 16) (v := .int .i64 (Oct.listE L).2) rfl (by kernel_rfl) (by kernel_rfl) (by kernel_rfl) (fun _ _ _ h => h) (Or.inl ⟨by rfl, fun w' hSw => by go_simp⟩) hHeld ?_
      try simp only [Act.put, List.getElem_toArray, List.getElem_cons_succ, List.getElem_cons_zero, List.setIfInBounds_toArray, List.set_cons_zero, List.set_cons_succ]
      refine wpAnyH_done (by kernel_rfl) ?_ _
      have Hbe := Lib.hid hHeld.2
      clear hHeld
      go_wp2_with fail
      go_ret2
      exact ⟨rfl, Hbe.out⟩
    · skip
      try simp only [Act.put, List.getElem_toArray, List.getElem_cons_succ, List.getElem_cons_zero, List.setIfInBounds_toArray, List.set_cons_zero, List.set_cons_succ]
      go_simp
      have hd13 := (Below.refl wb1.heap.size wb1).alloc (Nat.le_refl _) (.cells #[.string tx] 9)
      have r2 : Row (wb1.alloc (.cells #[.string tx] 9)) wb1.heap.size 9 ([.string tx]) := Row.new wb1 9 ([.string tx])
      have r1 := r1.kept (grownBy_of_below hd13 none) (by simp)
      have hHeld2 := hHeld.step hd13
      generalize wb1.alloc (.cells #[.string tx] 9) = wb12 at *
      obtain ⟨gb14, gb14e⟩ : ∃ gb14, gb14 = wb1.heap.size := ⟨_, rfl⟩
      rw [← gb14e] at r2 ⊢
      refine hK1.out _ _ (hHeld2) (fun hHeld => ?_)
      clear hK1 K1
      try simp only [Act.put, List.getElem_toArray, List.getElem_cons_succ, List.getElem_cons_zero, List.setIfInBounds_toArray, List.set_cons_zero, List.set_cons_succ]
      clear hHeld2 gb14e
      refine wpAnyH_ready (rs := [7]) (by kernel_rfl) (by simp) (AllReadyH.cons rfl (fun K1 hK1 => ?_) AllReadyH.nil)
      try simp only [Act.put, List.getElem_toArray, List.getElem_cons_succ, List.getElem_cons_zero, List.setIfInBounds_toArray, List.set_cons_zero, List.set_cons_succ]
      go_simp
      refine Calls.mono (NB.out _ _ r1) ?_
      rintro e wn15 ⟨vN, rfl, hown, hn16⟩
      have hown := hown.mono hHeld.size
      clear r1
      have r2 := r2.kept (grownBy_of_below hn16 none) (by simp)
      refine hK1.out _ _ (hHeld.step hn16) (fun hHeld => ?_)
      clear hK1 K1
      try simp only [Act.put, List.getElem_toArray, List.getElem_cons_succ, List.getElem_cons_zero, List.setIfInBounds_toArray, List.set_cons_zero, List.set_cons_succ]
      refine wpAnyH_ready (rs := [11]) (by kernel_rfl) (by simp) (AllReadyH.cons rfl (fun K1 hK1 => ?_) AllReadyH.nil)
      try simp only [Act.put, List.getElem_toArray, List.getElem_cons_succ, List.getElem_cons_zero, List.setIfInBounds_toArray, List.set_cons_zero, List.set_cons_succ]
      rw [if_pos (by rfl)]
      refine wp_append_own_wide wn15 _ _ 73 rfl w.heap.size 9 i0 (.string ByteArray.empty) 1 16 Tryd.underlying73 Hi.out Hz.out Hs.out Hby.out rfl (by decide) vN 3 NS rfl hown ⟨gb14, 0, none⟩ 1 1 [.string tx] rfl rfl (row_news r2) (by intro u hu; simp at hu; first | (subst hu; rfl) | (rcases hu with rfl | rfl <;> rfl)) (by unfold maxLen; omega) (by omega) hHeld.size fun vP wp17 hownP hgrow _ => ?_
      have hHeld2 := own_keeps hHeld (by decide) hown (Nat.le_refl _) hgrow
      clear hown r2 hgrow
      refine hK1.out _ _ (hHeld2) (fun hHeld => ?_)
      clear hK1 K1
      try simp only [Act.put, List.getElem_toArray, List.getElem_cons_succ, List.getElem_cons_zero, List.setIfInBounds_toArray, List.set_cons_zero, List.set_cons_succ]
      refine wpAnyH_ready (rs := [12]) (by kernel_rfl) (by simp) (AllReadyH.cons rfl (fun K1 hK1 => ?_) AllReadyH.nil)
      try simp only [Act.put, List.getElem_toArray, List.getElem_cons_succ, List.getElem_cons_zero, List.setIfInBounds_toArray, List.set_cons_zero, List.set_cons_succ]
      go_simp
      refine Calls.mono (list_owned L Hff.out hownP Hfl.out) ?_
      rintro e wl18 ⟨rfl, hl19⟩
      refine hK1.out _ _ (hHeld.step hl19) (fun hHeld => ?_)
      clear hK1 K1
      try simp only [Act.put, List.getElem_toArray, List.getElem_cons_succ, List.getElem_cons_zero, List.setIfInBounds_toArray, List.set_cons_zero, List.set_cons_succ]
      refine wpAnyH_take (i := 13) (v := S (Oct.listE L).1) rfl (by kernel_rfl) (by kernel_rfl) (by kernel_rfl) (fun _ _ _ h => h) (Or.inl ⟨by rfl, fun w' hSw => by go_simp⟩) hHeld ?_
      try simp only [Act.put, List.getElem_toArray, List.getElem_cons_succ, List.getElem_cons_zero, List.setIfInBounds_toArray, List.set_cons_zero, List.set_cons_succ]
      refine wpAnyH_take (i := 14) (v := .int .i64 (Oct.listE L).2) rfl (by kernel_rfl) (by kernel_rfl) (by kernel_rfl) (fun _ _ _ h => h) (Or.inl ⟨by rfl, fun w' hSw => by go_simp⟩) hHeld ?_
      try simp only [Act.put, List.getElem_toArray, List.getElem_cons_succ, List.getElem_cons_zero, List.setIfInBounds_toArray, List.set_cons_zero, List.set_cons_succ]
      refine wpAnyH_take (i := 15) (v := S (Oct.listE L).1) rfl (by kernel_rfl) (by kernel_rfl) (by kernel_rfl) (fun _ _ _ h => h) (Or.inl ⟨by rfl, fun w' hSw => by go_simp⟩) hHeld ?_
      try simp only [Act.put, List.getElem_toArray, List.getElem_cons_succ, List.getElem_cons_zero, List.setIfInBounds_toArray, List.set_cons_zero, List.set_cons_succ]
      refine wpAnyH_take (i := 16) (v := .int .i64 (Oct.listE L).2) rfl (by kernel_rfl) (by kernel_rfl) (by kernel_rfl) (fun _ _ _ h => h) (Or.inl ⟨by rfl, fun w' hSw => by go_simp⟩) hHeld ?_
      try simp only [Act.put, List.getElem_toArray, List.getElem_cons_succ, List.getElem_cons_zero, List.setIfInBounds_toArray, List.set_cons_zero, List.set_cons_succ]
      refine wpAnyH_done (by kernel_rfl) ?_ _
      have Hbe := Lib.hid hHeld.2
      clear hHeld
      go_wp2_with fail
      go_ret2
      exact ⟨rfl, Hbe.out⟩
  · skip
    try simp only [Act.put, List.getElem_toArray, List.getElem_cons_succ, List.getElem_cons_zero, List.setIfInBounds_toArray, List.set_cons_zero, List.set_cons_succ]
    go_simp
    have hd21 := (Below.refl w9.heap.size w9).alloc (Nat.le_refl _) (.cells #[.string tx] 9)
    have r2 : Row (w9.alloc (.cells #[.string tx] 9)) w9.heap.size 9 ([.string tx]) := Row.new w9 9 ([.string tx])
    have hHeld2 := hHeld.step hd21
    generalize w9.alloc (.cells #[.string tx] 9) = wb20 at *
    obtain ⟨gb22, gb22e⟩ : ∃ gb22, gb22 = w9.heap.size := ⟨_, rfl⟩
    rw [← gb22e] at r2 ⊢
    refine hK1.out _ _ (hHeld2) (fun hHeld => ?_)
    clear hK1 K1
    try simp only [Act.put, List.getElem_toArray, List.getElem_cons_succ, List.getElem_cons_zero, List.setIfInBounds_toArray, List.set_cons_zero, List.set_cons_succ]
    clear hHeld2 gb22e
    refine wpAnyH_ready (rs := [6]) (by kernel_rfl) (by simp) (AllReadyH.cons rfl (fun K1 hK1 => ?_) AllReadyH.nil)
    try simp only [Act.put, List.getElem_toArray, List.getElem_cons_succ, List.getElem_cons_zero, List.setIfInBounds_toArray, List.set_cons_zero, List.set_cons_succ]
    go_simp
    have hd24 := (Below.refl wb20.heap.size wb20).alloc (Nat.le_refl _) (.cells #[.int .i64 kd, .int .i64 who, .int .i64 n] 3)
    have r1 : Row (wb20.alloc (.cells #[.int .i64 kd, .int .i64 who, .int .i64 n] 3)) wb20.heap.size 3 (Is [kd, who, n]) := Row.new wb20 3 (Is [kd, who, n])
    have r2 := r2.kept (grownBy_of_below hd24 none) (by simp)
    have hHeld2 := hHeld.step hd24
    generalize wb20.alloc (.cells #[.int .i64 kd, .int .i64 who, .int .i64 n] 3) = wb23 at *
    obtain ⟨gb25, gb25e⟩ : ∃ gb25, gb25 = wb20.heap.size := ⟨_, rfl⟩
    rw [← gb25e] at r1 ⊢
    refine hK1.out _ _ (hHeld2) (fun hHeld => ?_)
    clear hK1 K1
    try simp only [Act.put, List.getElem_toArray, List.getElem_cons_succ, List.getElem_cons_zero, List.setIfInBounds_toArray, List.set_cons_zero, List.set_cons_succ]
    clear hHeld2 gb25e
    refine wpAnyH_ready (rs := [7]) (by kernel_rfl) (by simp) (AllReadyH.cons rfl (fun K1 hK1 => ?_) AllReadyH.nil)
    try simp only [Act.put, List.getElem_toArray, List.getElem_cons_succ, List.getElem_cons_zero, List.setIfInBounds_toArray, List.set_cons_zero, List.set_cons_succ]
    go_simp
    refine Calls.mono (NB.out _ _ r1) ?_
    rintro e wn26 ⟨vN, rfl, hown, hn27⟩
    have hown := hown.mono hHeld.size
    clear r1
    have r2 := r2.kept (grownBy_of_below hn27 none) (by simp)
    refine hK1.out _ _ (hHeld.step hn27) (fun hHeld => ?_)
    clear hK1 K1
    try simp only [Act.put, List.getElem_toArray, List.getElem_cons_succ, List.getElem_cons_zero, List.setIfInBounds_toArray, List.set_cons_zero, List.set_cons_succ]
    refine wpAnyH_ready (rs := [11]) (by kernel_rfl) (by simp) (AllReadyH.cons rfl (fun K1 hK1 => ?_) AllReadyH.nil)
    try simp only [Act.put, List.getElem_toArray, List.getElem_cons_succ, List.getElem_cons_zero, List.setIfInBounds_toArray, List.set_cons_zero, List.set_cons_succ]
    rw [if_pos (by rfl)]
    refine wp_append_own_wide wn26 _ _ 73 rfl w.heap.size 9 i0 (.string ByteArray.empty) 1 16 Tryd.underlying73 Hi.out Hz.out Hs.out Hby.out rfl (by decide) vN 3 NS rfl hown ⟨gb22, 0, none⟩ 1 1 [.string tx] rfl rfl (row_news r2) (by intro u hu; simp at hu; first | (subst hu; rfl) | (rcases hu with rfl | rfl <;> rfl)) (by unfold maxLen; omega) (by omega) hHeld.size fun vP wp28 hownP hgrow _ => ?_
    have hHeld2 := own_keeps hHeld (by decide) hown (Nat.le_refl _) hgrow
    clear hown r2 hgrow
    refine hK1.out _ _ (hHeld2) (fun hHeld => ?_)
    clear hK1 K1
    try simp only [Act.put, List.getElem_toArray, List.getElem_cons_succ, List.getElem_cons_zero, List.setIfInBounds_toArray, List.set_cons_zero, List.set_cons_succ]
    refine wpAnyH_ready (rs := [12]) (by kernel_rfl) (by simp) (AllReadyH.cons rfl (fun K1 hK1 => ?_) AllReadyH.nil)
    try simp only [Act.put, List.getElem_toArray, List.getElem_cons_succ, List.getElem_cons_zero, List.setIfInBounds_toArray, List.set_cons_zero, List.set_cons_succ]
    go_simp
    refine Calls.mono (list_owned L Hff.out hownP Hfl.out) ?_
    rintro e wl29 ⟨rfl, hl30⟩
    refine hK1.out _ _ (hHeld.step hl30) (fun hHeld => ?_)
    clear hK1 K1
    try simp only [Act.put, List.getElem_toArray, List.getElem_cons_succ, List.getElem_cons_zero, List.setIfInBounds_toArray, List.set_cons_zero, List.set_cons_succ]
    refine wpAnyH_take (i := 13) (v := S (Oct.listE L).1) rfl (by kernel_rfl) (by kernel_rfl) (by kernel_rfl) (fun _ _ _ h => h) (Or.inl ⟨by rfl, fun w' hSw => by go_simp⟩) hHeld ?_
    try simp only [Act.put, List.getElem_toArray, List.getElem_cons_succ, List.getElem_cons_zero, List.setIfInBounds_toArray, List.set_cons_zero, List.set_cons_succ]
    refine wpAnyH_take (i := 14) (v := .int .i64 (Oct.listE L).2) rfl (by kernel_rfl) (by kernel_rfl) (by kernel_rfl) (fun _ _ _ h => h) (Or.inl ⟨by rfl, fun w' hSw => by go_simp⟩) hHeld ?_
    try simp only [Act.put, List.getElem_toArray, List.getElem_cons_succ, List.getElem_cons_zero, List.setIfInBounds_toArray, List.set_cons_zero, List.set_cons_succ]
    refine wpAnyH_take (i := 15) (v := S (Oct.listE L).1) rfl (by kernel_rfl) (by kernel_rfl) (by kernel_rfl) (fun _ _ _ h => h) (Or.inl ⟨by rfl, fun w' hSw => by go_simp⟩) hHeld ?_
    try simp only [Act.put, List.getElem_toArray, List.getElem_cons_succ, List.getElem_cons_zero, List.setIfInBounds_toArray, List.set_cons_zero, List.set_cons_succ]
    refine wpAnyH_take (i := 16) (v := .int .i64 (Oct.listE L).2) rfl (by kernel_rfl) (by kernel_rfl) (by kernel_rfl) (fun _ _ _ h => h) (Or.inl ⟨by rfl, fun w' hSw => by go_simp⟩) hHeld ?_
    try simp only [Act.put, List.getElem_toArray, List.getElem_cons_succ, List.getElem_cons_zero, List.setIfInBounds_toArray, List.set_cons_zero, List.set_cons_succ]
    refine wpAnyH_done (by kernel_rfl) ?_ _
    have Hbe := Lib.hid hHeld.2
    clear hHeld
    go_wp2_with fail
    go_ret2
    exact ⟨rfl, Hbe.out⟩
theorem writeItem_any (i : It) (w : World) :
    Calls Tryd.prog 43 #[i.v] w fun e w' => e = .returned (two i.textE.1 i.textE.2) ∧ Below w.heap.size w w' := by
  unfold It.textE
  rcases Bool.eq_false_or_eq_true i.ok with h | h
  · rw [if_pos h]; exact writeItem_ok i w h
  · rw [if_neg (by rw [h]; simp)]; exact writeItem_no i w h
end Go.Proofs.YtdekcicgiflnbaaDoor
namespace Go.Proofs.YtdekcicgiflnbaaDoor
open Go.RowKit
set_option linter.unusedVariables false
set_option linter.unusedSimpArgs false

/-- a text copied into a block's middle, as one step of a region that draws its order -/
theorem step_copy_str {P : Program} {ops : Array Oper} {o : Oper} {a : Act} {w : World} {K : Act → World → Prop} {Q : Exit → Act → World → Prop} {E : Prop} (hgd : o.guard = none) (d s : Operand) (dT sT elem : TypeId)
    (ho : o.op = .call { callee := .builtin .copy, args := #[d, s], argTypes := #[dT, sT] }) (hu : P.underlying dT = some (.slice elem)) (hz : (P.info? elem).map (·.size) = some 1)
    (g off dLen dCap : Nat) (t : ByteArray) (xs : List Value) (T : TypeId) (hd : a.eval d = .slice (some ⟨g, off, none⟩) dLen dCap) (hs : a.eval s = .string t)
    (hg : Row w g T xs) (hle : t.size ≤ dLen) (hfit : off + t.size ≤ xs.length)
    (h : ∀ w', Row w' g T (xs.take off ++ (Lib.byteCells t.data.toList ++ xs.drop (off + t.size))) → w.grownBy w' (some g) → K (a.put o.dst (goInt t.size)) w') :
    if Region.wanted o (yielded ops a.tmps) = true then Oper.wp P o a w K Q else E := by
  have hw : Region.wanted o (yielded ops a.tmps) = true := by simp [Region.wanted, hgd]
  rw [if_pos hw]
  have hg' : w.heap[g]? = some (.cells xs.toArray T (0, 0)) := hg
  have hr := Lib.run_copy_row_string (P := P) w dT sT o.type elem g off dLen dCap t _ T hu hz hg' hle (by simpa using hfit)
  unfold Oper.wp execOp
  simp only [ho, resolve, invoke, builtin, Sem.run_bind, Sem.run_pure, Result.andThen_ok, List.map_toArray, List.map_cons, List.map_nil, hd, hs, hr]
  refine h _ ?_ ⟨rfl, rfl, rfl, by simp [World.setRow], fun k hk hne => setRow_other w g k _ (fun e => hne (by rw [e]))⟩
  have := setRow_heap w g (xs.toArray) ((xs.toArray.toList.take off ++ Lib.byteCells t.data.toList ++ xs.toArray.toList.drop (off + t.size)).toArray) T (0, 0) hg'
  simp only [List.append_assoc] at this ⊢
  exact this
namespace No
def ptrsAt (g : Nat) (os : List Nat) : List Value := os.map fun o => .pointer (some ⟨g, o, none⟩)
theorem ptrsAt_at {w : World} {g pb : Nat} {os : List Nat} {T : TypeId} (h : Row w pb T (ptrsAt g os)) (k : Nat) (hk : k < os.length) : w.cell? ⟨pb, k, none⟩ = some (.pointer (some ⟨g, os[k], none⟩)) := by
  rw [h.cell k (by simpa [ptrsAt] using hk)]
  simp [ptrsAt]
/-- hashes laid into a block's cells -/
def putH (xs : List Value) : List (Nat × T8) → List Value
  | [] => xs
  | p :: r => putH (xs.take p.1 ++ ((bRow p.2).toList ++ xs.drop (p.1 + 32))) r
theorem putH_snoc : ∀ (L : List (Nat × T8)) (xs : List Value) (o : Nat) (h : T8), putH xs (L ++ [(o, h)]) = (putH xs L).take o ++ ((bRow h).toList ++ (putH xs L).drop (o + 32))
  | [], _, _, _ => rfl
  | p :: L, xs, o, h => by
    simp only [List.cons_append, putH]
    exact putH_snoc L _ o h
theorem putH_len : ∀ (L : List (Nat × T8)) (xs : List Value), (∀ p ∈ L, p.1 + 32 ≤ xs.length ∧ p.2.length = 32) → (putH xs L).length = xs.length
  | [], _, _ => rfl
  | p :: L, xs, h => by
    have hp := h p (by simp)
    have e : (xs.take p.1 ++ ((bRow p.2).toList ++ xs.drop (p.1 + 32))).length = xs.length := by
      rw [List.length_append, List.length_append, List.length_take, List.length_drop, Tx.bRow_len _ hp.2]
      omega
    unfold putH
    rw [putH_len L _ (fun q hq => by rw [e]; exact h q (by simp [hq])), e]
theorem byte_row (x : T8) (h : x.length = 32) : Lib.byteCells x = (bRow x).toList := by
  rw [bRow_yRow x h]
  unfold yRow Lib.byteCells
  simp
def AllH (l : List T8) : Prop := ∀ h ∈ l, h.length = 32
/-- what hashes leaves -/
def HashOf (F : Prop) (g : Nat) (T : TypeId) (xs : List Value) (e : Ending) (w' : World) : Prop :=
  (F ∧ e = .returned (.bool true) ∧ Row w' g T xs) ∨ (¬ F ∧ e = .returned (.bool false))
end No
set_option maxRecDepth 20000 in
set_option maxHeartbeats 800000 in
theorem noHashes_any (l : List No.T8) (A : Option Addr) (c cp : Nat) (os : List Nat) (xs : List Value) (T : TypeId) (w : World) (g pb : Nat) (n : Nat) (hno : n = os.length)
    (hll : l.length ≤ 2000) (hT : Texts w g A l) (hg : Row w g T xs) (hp : Row w pb 106 (No.ptrsAt g os)) (hgp : g < pb) (ho : ∀ o ∈ os, o + 32 ≤ xs.length) (hn4 : os.length ≤ 100) (h0 : 0 < os.length) :
    Calls Tryd.prog 89 #[.slice A l.length c, .slice (some ⟨pb, 0, none⟩) n cp] w fun e w' => No.HashOf (l.length = os.length ∧ No.AllH l) g T (No.putH xs (os.zip l)) e w' ∧ Below g w w' := by
  subst hno
  obtain ⟨F, hF⟩ : ∃ F, F = (l.length = os.length ∧ No.AllH l) := ⟨_, rfl⟩
  rw [← hF]
  have HF := Lib.hid hF
  clear hF
  by_cases hlt : l.length ≠ os.length
  · have hd : ((l.length : Int) != (os.length : Int)) = true := by simp; omega
    have hnF : ¬ F := by rw [HF.out]; exact fun h => hlt h.1
    have HnF := Lib.hid hnF
    clear hnF HF
    generalize l.length = m at *
    generalize os.length = n at *
    clear hT hg hp hlt
    go_enter Tryd.func89, Tryd.ntmps89
    go_wp2_with fail
    go_ret
    exact ⟨.inr ⟨HnF.out, rfl⟩, Below.refl _ _⟩
  have hle : l.length = os.length := Decidable.not_not.1 hlt
  obtain ⟨b, off, rfl, hbg, hct⟩ := hT (by intro e; rw [e] at hle; simp at hle; omega)
  have hnm : ((l.length : Int) != (os.length : Int)) = false := by simp; omega
  rw [hle] at hnm ⊢
  obtain ⟨n, hn⟩ : ∃ n, n = os.length := ⟨_, rfl⟩
  rw [← hn] at hnm h0 hn4 ⊢
  have hgw : g < w.heap.size := hg.lt
  have HN := Lib.hid hn
  have HL := Lib.hid hle
  have Hct := Lib.hid hct
  have Hg := Lib.hid hg
  have Hp := Lib.hid hp
  have Ho := Lib.hid ho
  have I5 : Hid ((Tryd.prog.info? 5).map (·.size) = some 1) := (by kernel_rfl : (Tryd.prog.info? 5).map (·.size) = some 1)
  clear hn hct hT hg hp ho hle hlt
  go_enter Tryd.func89, Tryd.ntmps89
  go_wp2_with fail
  go_loopw [14] (fun i wr => ∃ k : Nat, k ≤ n ∧ i = .int .i64 k ∧ (∀ j (h : j < l.length), j < k → l[j].length = 32) ∧ Row wr g T (No.putH xs ((os.zip l).take k)) ∧ Row wr pb 106 (No.ptrsAt g os) ∧ (∀ i (h : i < l.length), wr.cell? ⟨b, off + i, none⟩ = some (S l[i])) ∧ Below g w wr) (fun i _ => n - (intOf i).toNat)
  case atStart => exact ⟨0, Nat.zero_le _, rfl, fun j h h1 => by omega, by rw [List.take_zero]; exact Hg.out, Hp.out, Hct.out, Below.refl _ _⟩
  case round =>
    obtain ⟨k, hk, rfl, hall, hru, hpk, hck, hbk⟩ := hrel
    have Hall := Lib.hid hall
    have Hru := Lib.hid hru
    have Hpk := Lib.hid hpk
    have Hck := Lib.hid hck
    have Hbk := Lib.hid hbk
    clear hru hpk hck hbk hall Hg Hp Hct
    by_cases hkn : k < n
    · have hki : (k : Int) < (n : Int) := by omega
      have hko : k < os.length := by rw [← HN.out]; exact hkn
      have hkl : k < l.length := by rw [HL.out]; exact hko
      have ctx := Hck.out k hkl
      have cp := No.ptrsAt_at Hpk.out k hko
      obtain ⟨x, hx⟩ : ∃ x, x = l[k] := ⟨_, rfl⟩
      obtain ⟨o, hoo⟩ : ∃ o, o = os[k] := ⟨_, rfl⟩
      rw [← hx] at ctx
      rw [← hoo] at cp
      by_cases hx32 : x.length = 32
      · have hxd : ((x.length : Int) != 32) = false := by simp; omega
        have hzl : (No.putH xs ((os.zip l).take k)).length = xs.length := No.putH_len _ _ (fun p hp => by
          obtain ⟨j, hj, he⟩ := List.mem_iff_getElem.1 (List.mem_of_mem_take hp)
          have hjk := List.mem_take_iff_getElem.1 hp
          obtain ⟨j2, hj2, he2⟩ := hjk
          rw [List.getElem_zip] at he2
          subst he2
          exact ⟨Ho.out _ (List.getElem_mem _), Hall.out j2 _ (by omega)⟩)
        have htk : (os.zip l).take (k + 1) = (os.zip l).take k ++ [(o, x)] := by
          rw [List.take_succ_eq_append_getElem (by rw [List.length_zip]; omega), List.getElem_zip, ← hx, ← hoo]
        have hput : No.putH xs ((os.zip l).take (k + 1)) = (No.putH xs ((os.zip l).take k)).take o ++ ((bRow x).toList ++ (No.putH xs ((os.zip l).take k)).drop (o + 32)) := by rw [htk, No.putH_snoc]
        have hall2 : ∀ j (h : j < l.length), j < k + 1 → l[j].length = 32 := fun j h hj => by
          by_cases e : j = k
          · subst e; rw [← hx]; exact hx32
          · exact Hall.out j h (by omega)
        have hob : o + 32 ≤ (No.putH xs ((os.zip l).take k)).length := by rw [hzl, hoo]; exact Ho.out _ (List.getElem_mem _)
        obtain ⟨zs, hzs⟩ : ∃ zs, zs = No.putH xs ((os.zip l).take (k + 1)) := ⟨_, rfl⟩
        rw [← hzs] at hput
        have Hzs := Lib.hid hzs
        have Hput := Lib.hid hput
        have Hall2 := Lib.hid hall2
        have Hx32 := Lib.hid hx32
        have Hob := Lib.hid hob
        generalize No.putH xs ((os.zip l).take k) = ys at *
        clear hzs hx hoo hzl htk hput hall2 hx32 hob
        go_wp2_with fail
        go_region_law (refine step_copy_str rfl (.tmp 27) (.tmp 31) _ _ 5 rfl Tryd.underlying81 I5.out g o 32 32 ⟨x.toArray⟩ ys T rfl rfl Hru.out (by show x.length ≤ 32; rw [Hx32.out]; omega) (by show o + x.length ≤ _; rw [Hx32.out]; exact Hob.out) ?_; intro w5 hr5 hg5)
        have hz5 : Row w5 g T zs := by
          have e : (⟨x.toArray⟩ : ByteArray).size = 32 := Hx32.out
          have e2 : Lib.byteCells (⟨x.toArray⟩ : ByteArray).data.toList = (bRow x).toList := No.byte_row x Hx32.out
          rw [e, e2] at hr5
          rw [Hput.out]
          exact hr5
        have Hz5 := Lib.hid hz5
        have Hp5 := Lib.hid ((Hpk.out.kept (grownBy_drew wr none) (by simp)).kept hg5 (by simp; omega))
        have Hc5 := Lib.hid (fun i (h : i < l.length) => hg5.cell (w := wr.drew) (a := ⟨b, off + i, none⟩) (Hck.out i h) (by simp; omega))
        have Hb5 := Lib.hid (Hbk.out.drew.grown hg5 (by have := Hbk.out.size; exact Nat.le_trans (Nat.le_of_lt hgw) this) (fun k hk => by cases hk; exact Nat.le_refl _))
        clear hr5 hg5 hz5
        go_wp2_with fail
        refine ⟨⟨k + 1, hkn, by go_num, Hall2.out, by rw [← Hzs.out]; exact Hz5.out, Hp5.out, Hc5.out, Hb5.out⟩, by simp [intOf]; omega⟩
      · have hxd : ((x.length : Int) != 32) = true := by simp; omega
        have hnf : ¬ F := by rw [HF.out]; exact fun h => hx32 (by rw [hx]; exact h.2 _ (List.getElem_mem _))
        have Hnf := Lib.hid hnf
        clear hx hx32 hnf hoo
        go_wp2_with fail
        go_ret
        exact ⟨.inr ⟨Hnf.out, rfl⟩, Hbk.out⟩
    · have hki : (n : Int) ≤ (k : Int) := by omega
      obtain rfl : k = n := by omega
      have hfin : F := HF.out.mpr ⟨HL.out, fun h hh => by
        obtain ⟨j, hj, rfl⟩ := List.mem_iff_getElem.1 hh
        exact Hall.out j hj (by have := HN.out; have := HL.out; omega)⟩
      have hrf : Row wr g T (No.putH xs (os.zip l)) := by
        have := Hru.out
        rw [List.take_of_length_le (by rw [List.length_zip, HL.out, ← HN.out]; omega)] at this
        exact this
      have Hfin := Lib.hid hfin
      have Hrf := Lib.hid hrf
      clear hfin hrf
      go_wp2_with fail
      go_ret
      exact ⟨.inl ⟨Hfin.out, rfl, Hrf.out⟩, Hbk.out⟩
end Go.Proofs.YtdekcicgiflnbaaDoor
