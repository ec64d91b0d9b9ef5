/- slices.Insert at any place. -/
/- slices.Insert where there is no room, and at any place. -/
/- Two pools side by side: the own one and the reference's. -/
import Derived.Test.YtoicpidiejhjeaaPlIns
import Derived.Test.YtoicpidiejhjeaaCopyW
import Derived.Shelf.RegionOpenPlain
import Derived.Laws.Externs
import Derived.Test.YtoicpidiejhjeaaPlRPut4
namespace Go.Proofs.Ytoicpidiejhjeaa
open Go.RowKit
set_option linter.unusedVariables false
set_option linter.unusedSimpArgs false
set_option maxRecDepth 100000

theorem wait_size (W : World) : (Go.sizeOf 38).run Try.prog W = .ok 76 W := by kernel_rfl
theorem overlaps_no (W : World) (gv g off lb cb : Nat) (X Y : List Value) (hv : Row W gv 38 X) (hg : Row W g 38 Y) (hY : Y ≠ []) (hne : gv ≠ g) :
    (callFunc 43 #[.slice (some ⟨gv, 0, none⟩) 1 1, .slice (some ⟨g, off, none⟩) lb cb]).run Try.prog W = .ok (.value (.bool false)) W := by
  have hsh : ∀ {b : Nat} {xs : List Value}, Row W b 38 xs → W.shape? b = some (38, xs.length) := by
    intro b xs h
    unfold Row at h
    unfold World.shape?
    rw [h]
    simp
  rw [run_callFunc_extern Try.func43 (by kernel_rfl) (by kernel_rfl) (by kernel_rfl) (e := Extern.SlicesOverlaps.overlaps #[30, 30] #[4]) (by kernel_rfl),
    Lib.run_overlaps_apart W 30 4 38 Try.underlying30 76 wait_size ⟨gv, 0, none⟩ ⟨g, off, none⟩ 1 1 lb cb hne _ _ _ _ (hsh hv) (hsh hg) (by intro e; exact hY (List.length_eq_zero_iff.1 e)) (hv.free _) (hv.free _)]
  rfl
theorem OwnL.of_row {α : Type} {w : World} {base : Nat} {e : TypeId} {m : Nat} {f : α → List Value} {g n c : Nat} {l : List α} {cur : List Value} (hl : l.length = n) (hf : ∀ x ∈ l, (f x).length = m) (hb : base ≤ g) (hg : w.heap[g]? = some (.cells cur.toArray e (0, 0))) (hnc : n ≤ c) (hcm : c ≤ maxLen) (hcs : cur.length = c * m) (ht : cur.take (n * m) = Rw.flat f l) : OwnL w base e m f (.slice (some ⟨g, 0, none⟩) n c) l := by
  subst hl
  exact ⟨Rw.flat_len hf, .inr ⟨g, c, cur.toArray, rfl, hb, hg, hnc, hcm, by simpa using hcs, by simpa using ht⟩⟩
set_option maxHeartbeats 6400000 in
theorem insOk_room (l : List Wt) (x : Wt) (hx : x.Ok) (hw : ∀ y ∈ l, y.Ok) (hl : l.length ≤ 100000) (W : World) (base g c gv p : Nat) (cur FA FB : List Value) (hp : p < l.length) (hroom : l.length + 1 ≤ c) (hcm : c ≤ maxLen)
    (hg : W.heap[g]? = some (.cells cur.toArray 38 (0, 0))) (hcs : cur.length = c * 76) (htake : cur.take (l.length * 76) = FA ++ FB) (hFA : FA.length = p * 76) (hFB : FB.length = (l.length - p) * 76) (hF1 : ∀ v ∈ FB, v.oneCell' = true)
    (hrow : Row W gv 38 x.cells) (hne : gv ≠ g) :
    Calls Try.prog 29 #[.slice (some ⟨g, 0, none⟩) l.length c, .int .i64 p, .slice (some ⟨gv, 0, none⟩) 1 1] W fun e w' => ∃ cur2, e = .returned (.slice (some ⟨g, 0, none⟩) (l.length + 1) c) ∧ w'.heap[g]? = some (.cells (List.toArray cur2) 38 (0, 0)) ∧ cur2.length = c * 76 ∧ cur2.take ((l.length + 1) * 76) = FA ++ (x.cells ++ FB) ∧ W.grownBy w' (some g) := by
  obtain ⟨n, hn⟩ : ∃ n, l.length = n := ⟨_, rfl⟩
  rw [hn] at hl hp hroom htake hFB ⊢
  have hX := Wt.cells_len hx
  have hX1 := Wt.cells_one hx
  obtain ⟨X, hXe⟩ : ∃ X, x.cells = X := ⟨_, rfl⟩
  rw [hXe] at hX hX1 hrow ⊢
  clear hn hXe hx hw
  have hcb : c ≤ 9223372036854775807 := by unfold maxLen at hcm; omega
  obtain ⟨s1, s2⟩ := splice_shift hFA hX hFB (Nat.le_of_lt hp) (by rw [hcs]; exact Nat.mul_le_mul_right _ hroom) htake
  have hz2 : ¬ ((p : Int) = (n : Int)) := by omega
  have e2 : ((p : Int) == (n : Int)) = false := by simpa using hz2
  have hw1 : IntKind.i64.wrap ((n : Int) + 1) = (n : Int) + 1 := IntWalk.i64_in _ (by omega)
  have hw2 : IntKind.i64.wrap ((p : Int) + 1) = (p : Int) + 1 := IntWalk.i64_in _ (by omega)
  have hn1 : ((n : Int) + 1).toNat = n + 1 := by omega
  have hp1 : ((p : Int) + 1).toNat = p + 1 := by omega
  have hc1 : decide ((n : Int) + 1 > (c : Int)) = false := decide_eq_false (by omega)
  have hc2 : decide ((c : Int) < (n : Int) + 1) = false := decide_eq_false (by omega)
  have hb1 : (0 : Int) ≤ (p : Int) + 1 := by omega
  have hb1n : (0 : Int) ≤ (n : Int) + 1 := by omega
  have hb2 : ¬ (c = p + 1) := by omega
  have hb2' : ¬ (c = p) := by omega
  have hb3 : (p : Int) + 1 ≤ (n : Int) + 1 := by omega
  have hb4 : (p : Int) ≤ (n : Int) + 1 := by omega
  have hb5 : (n : Int) + 1 ≤ (c : Int) := by omega
  have hb6 : (p : Int) ≤ (n : Int) := by omega
  have hcur : cur ≠ [] := by intro e; rw [e] at hcs; simp at hcs; omega
  have HOv : Hid (∀ lb cb, (callFunc 43 #[.slice (some ⟨gv, 0, none⟩) 1 1, .slice (some ⟨g, (p + 1) * 76, none⟩) lb cb]).run Try.prog W = .ok (.value (.bool false)) W) := Lib.hid (fun lb cb => overlaps_no W gv g _ lb cb X cur hrow hg hcur hne)
  have hov := HOv.out
  have HG := Lib.hid hg
  have HR := Lib.hid hrow
  have HC1 : Hid (∀ (w' : World), (∀ k, w'.heap[k]? = W.heap[k]?) → ∀ j v, FB[j]? = some v → w'.cell? ((⟨g, p * 76, none⟩ : Addr).add j) = some v) := Lib.hid (fun w' hh j v hj => by
    have hjl := (List.getElem?_eq_some_iff.1 hj).1
    have e : (⟨g, p * 76, none⟩ : Addr).add j = ⟨g, p * 76 + j, none⟩ := by unfold Addr.add; split <;> simp_all
    have hr2 : Row w' g 38 cur := (hh g).trans hg
    have h0 := congrArg (fun t => t[p * 76 + j]?) htake
    simp only [List.getElem?_append_right (by omega : FA.length ≤ p * 76 + j), hFA, Nat.add_sub_cancel_left, hj] at h0
    rw [List.getElem?_take_of_lt (by rw [hFB, Nat.sub_mul] at hjl; have := Nat.mul_le_mul_right 76 (Nat.le_of_lt hp); omega)] at h0
    obtain ⟨h1, h2⟩ := List.getElem?_eq_some_iff.1 h0
    rw [e, hr2.cell _ h1, h2])
  have HFit1 : Hid ((p + 1) * 76 + FB.length ≤ cur.length) := Lib.hid (by rw [hFB, hcs]; have := Nat.mul_le_mul_right 76 hroom; rw [Nat.sub_mul]; have := Nat.mul_le_mul_right 76 (Nat.le_of_lt hp); omega)
  have HFit2 : Hid (p * 76 + X.length ≤ (splice cur ((p + 1) * 76) FB).length) := Lib.hid (by rw [length_splice _ _ _ HFit1.out, hcs, hX]; have := Nat.mul_le_mul_right 76 (show p + 1 ≤ c by omega); omega)
  have HMin : Hid (Nat.min (n + 1 - p) (n - p) = n - p) := Lib.hid (by show min _ _ = _; omega)
  have HMin2 : Hid (Nat.min 1 (n + 1 - p) = 1) := Lib.hid (by show min _ _ = _; omega)
  have HFB := Lib.hid hFB
  have HF1 := Lib.hid hF1
  have HX := Lib.hid hX
  have HX1 := Lib.hid hX1
  have HS := Lib.hid s1
  have HS2 := Lib.hid s2
  have HCs := Lib.hid hcs
  have HNe := Lib.hid hne
  clear hg hrow hFB hF1 hX hX1 s1 s2 hcs hcur hFA htake hne hcm
  have mixed : Try.prog.follows Departure.mixedOrders = true := by kernel_rfl
  go_enter Try.func29, Try.ntmps29
  go_wp2_with (simp only [hov])
  go_region_law_o (first
    | (refine step_copy_wide rfl _ _ 30 30 rfl 38 76 Try.underlying30 wait_info g ((p + 1) * 76) (n - p) (c - (p + 1)) ⟨g, p * 76, none⟩ (n + 1 - p) (c - p) (n - p) (by simp [Act.eval, Act.put]) (by simp [Act.eval, Act.put]) cur _ HG.out FB HMin.out HFB.out (HC1.out _ (fun _ => rfl)) HFit1.out HF1.out ?_
       intro w1 hg1 hgr1
       have HG1 := Lib.hid hg1
       have HGr1 : Hid (W.grownBy w1 (some g)) := Lib.hid ⟨hgr1.os, hgr1.tape, hgr1.output, hgr1.size, hgr1.block⟩
       have HR1 : Hid (Row w1 gv 38 X) := Lib.hid (HR.out.kept HGr1.out (by intro e; injection e with e; exact HNe.out e))
       clear hg1 hgr1))
  go_wp2_with (first
    | ((with_reducible show wpList _ _ _ (⟨_, .call { callee := .builtin .copy, args := _, argTypes := _ }, _, _, _, _⟩ :: _) _ _)
       refine wpList_copy_wide rfl _ _ 30 30 rfl 38 76 Try.underlying30 wait_info g (p * 76) (n + 1 - p) _ ⟨gv, 0, none⟩ 1 1 1 rfl rfl _ _ HG1.out X HMin2.out (by rw [HX.out]) (fun j v hj => ?_) HFit2.out HX1.out ?_
       · have e : (⟨gv, 0, none⟩ : Addr).add j = ⟨gv, j, none⟩ := by unfold Addr.add; split <;> simp_all
         rw [e]
         have := row_range HR1.out j v hj
         rwa [Nat.zero_add] at this
       intro w2 hg2 hgr2
       have HG2 := Lib.hid hg2
       have HGr2 := Lib.hid hgr2
       clear hg2 hgr2))
  go_ret
  exact ⟨_, rfl, HG2.out, HS.out.trans HCs.out, HS2.out, ⟨HGr2.out.os.trans HGr1.out.os, HGr2.out.tape.trans HGr1.out.tape, HGr2.out.output.trans HGr1.out.output, Nat.le_trans HGr1.out.size HGr2.out.size, fun k hk hne => (HGr2.out.block k (Nat.lt_of_lt_of_le hk HGr1.out.size) hne).trans (HGr1.out.block k hk hne)⟩⟩
end Go.Proofs.Ytoicpidiejhjeaa
namespace Go.Proofs.Ytoicpidiejhjeaa
open Go.RowKit
set_option linter.unusedVariables false
set_option linter.unusedSimpArgs false
set_option maxRecDepth 100000

set_option maxHeartbeats 6400000 in
theorem insOk_grow (x : Wt) (hx : x.Ok) (n : Nat) (hl : n ≤ 100000) (W : World) (g gv p : Nat) (cur FA FB : List Value) (hp : p < n)
    (hg : W.heap[g]? = some (.cells cur.toArray 38 (0, 0))) (hcs : cur.length = n * 76) (htake : cur.take (n * 76) = FA ++ FB) (hFA : FA.length = p * 76) (hFB : FB.length = (n - p) * 76) (hF1 : ∀ v ∈ FB, v.oneCell' = true)
    (hrow : Row W gv 38 x.cells) :
    Calls Try.prog 29 #[.slice (some ⟨g, 0, none⟩) n n, .int .i64 p, .slice (some ⟨gv, 0, none⟩) 1 1] W fun e w' => ∃ cap cur2, e = .returned (.slice (some ⟨W.heap.size, 0, none⟩) (n + 1) cap) ∧ w'.heap[W.heap.size]? = some (.cells (List.toArray cur2) 38 (0, 0)) ∧ n + 1 ≤ cap ∧ cap ≤ maxLen ∧ cur2.length = cap * 76 ∧ cur2.take ((n + 1) * 76) = FA ++ (x.cells ++ FB) ∧ Below W.heap.size W w' := by
  have hX := Wt.cells_len hx
  have hX1 := Wt.cells_one hx
  obtain ⟨X, hXe⟩ : ∃ X, x.cells = X := ⟨_, rfl⟩
  rw [hXe] at hX hX1 hrow ⊢
  clear hXe hx
  have hwhole : cur = FA ++ FB := by rw [← htake, List.take_of_length_le (by omega)]
  have hgW : ∀ {W' : World}, Below W.heap.size W W' → W'.heap[g]? = some (.cells cur.toArray 38 (0, 0)) := fun hb => (hb.block g (Array.getElem?_eq_some_iff.1 hg).1).trans hg
  have hadd : ∀ (q o j : Nat), (⟨q, o, none⟩ : Addr).add j = ⟨q, o + j, none⟩ := fun q o j => by unfold Addr.add; split <;> simp_all
  have hcell : ∀ {W' : World}, Below W.heap.size W W' → ∀ j v, cur[j]? = some v → W'.cell? ⟨g, j, none⟩ = some v := fun hb j v hj => by
    obtain ⟨h1, h2⟩ := List.getElem?_eq_some_iff.1 hj
    have hr : Row _ g 38 cur := hgW hb
    rw [hr.cell _ h1, h2]
  obtain ⟨k, hk⟩ : ∃ k, p + k = n + 1 := ⟨n + 1 - p, by omega⟩
  obtain ⟨i0, hi, h2⟩ := Option.map_eq_some_iff.1 wait_whole
  simp only [Prod.mk.injEq] at h2
  obtain ⟨hz, hsz, hby⟩ := h2
  have hz76 : Wt.none.cells.length = 76 := Wt.cells_len Wt.none_ok
  obtain ⟨cap, W1, cur1, hrun, hg1, hc1, hcn, hcm, ht1, hb1⟩ := run_append_zeros_at (P := Try.prog) W 30 3 30 38 i0 (.agg Wt.none.cells.toArray) .i64 .i64 76 168 Try.underlying30 Try.underlying3 hi hz hsz hby (by simpa [Value.cells] using hz76) (by decide) ⟨g, 0, none⟩ p n FA hFA (fun j v hj => by
    rw [hadd, Nat.zero_add]
    refine hcell (Below.refl _ _) j v ?_
    rw [hwhole, List.getElem?_append_left (List.getElem?_eq_some_iff.1 hj).1]
    exact hj) k (by omega) (by omega) (by unfold maxLen; omega) (by omega)
  rw [hk] at hrun hcn
  obtain ⟨s1, s2⟩ := splice_fresh hFA hX hFB (Nat.le_of_lt hp) (by rw [hc1]; exact Nat.mul_le_mul_right _ hcn) ht1
  have HRun := Lib.hid hrun
  have HG1 := Lib.hid hg1
  have HB1 := Lib.hid hb1
  have HR1 : Hid (Row W1 gv 38 X) := Lib.hid (hrow.below hb1)
  have HCell : Hid (∀ (W' : World), Below W.heap.size W W' → ∀ j v, FB[j]? = some v → W'.cell? ((⟨g, p * 76, none⟩ : Addr).add j) = some v) := Lib.hid (fun W' hb j v hj => by
    rw [hadd]
    refine hcell hb _ _ ?_
    rw [hwhole, List.getElem?_append_right (by omega), hFA, Nat.add_sub_cancel_left]
    exact hj)
  have HFit2 : Hid (p * 76 + X.length ≤ cur1.length) := Lib.hid (by rw [hc1, hX]; have := Nat.mul_le_mul_right 76 (show p + 1 ≤ cap by omega); omega)
  have HFit1 : Hid ((p + 1) * 76 + FB.length ≤ (splice cur1 (p * 76) X).length) := Lib.hid (by rw [length_splice _ _ _ HFit2.out, hFB, hc1]; have := Nat.mul_le_mul_right 76 hcn; rw [Nat.sub_mul]; have := Nat.mul_le_mul_right 76 (Nat.le_of_lt hp); omega)
  have HMin : Hid (Nat.min (n - p) (n - p) = n - p) := Lib.hid (Nat.min_self _)
  have HMin2 : Hid (Nat.min 1 (n + 1 - p) = 1) := Lib.hid (by show min _ _ = _; omega)
  have HFB := Lib.hid hFB
  have HF1 := Lib.hid hF1
  have HX := Lib.hid hX
  have HX1 := Lib.hid hX1
  have HS := Lib.hid s1
  have HS2 := Lib.hid s2
  have HCs := Lib.hid hc1
  have HCn := Lib.hid hcn
  have HCm := Lib.hid hcm
  have hz2 : ¬ ((p : Int) = (n : Int)) := by omega
  have e2 : ((p : Int) == (n : Int)) = false := by simpa using hz2
  have hw1 : IntKind.i64.wrap ((n : Int) + 1) = (n : Int) + 1 := IntWalk.i64_in _ (by omega)
  have hw2 : IntKind.i64.wrap ((p : Int) + 1) = (p : Int) + 1 := IntWalk.i64_in _ (by omega)
  have hw3 : IntKind.i64.wrap ((n : Int) + 1 - (p : Int)) = (k : Int) := (IntWalk.i64_in _ (by omega)).trans (by omega)
  have hn1 : ((n : Int) + 1).toNat = n + 1 := by omega
  have hp1 : ((p : Int) + 1).toNat = p + 1 := by omega
  have hd1 : decide ((n : Int) + 1 > (n : Int)) = true := decide_eq_true (by omega)
  have hd2 : decide ((n : Int) < (n : Int) + 1) = true := decide_eq_true (by omega)
  have hb1' : (0 : Int) ≤ (p : Int) + 1 := by omega
  have hb2 : ¬ (cap = p + 1) := by omega
  have hb2' : ¬ (cap = p) := by omega
  have hb2n : ¬ (n = p) := by omega
  have hb3 : (p : Int) + 1 ≤ (n : Int) + 1 := by omega
  have hb4 : (p : Int) ≤ (n : Int) + 1 := by omega
  have hb6 : (p : Int) ≤ (n : Int) := by omega
  have hcapb : cap ≤ 9223372036854775807 := by unfold maxLen at hcm; omega
  have HBo : Hid (∀ W1 W2, Below W.heap.size W W1 → W1.grownBy W2 (some W.heap.size) → Below W.heap.size W W2) := Lib.hid (fun W1 W2 h1 h2 => below_own h1 h2 (fun k hk => by cases hk; exact Nat.le_refl _))
  generalize hgn : W.heap.size = gn at *
  have HGn := Lib.hid hgn
  clear hgn hg hrow hFB hF1 hX hX1 s1 s2 hcs hFA htake hcm hcn hc1 hwhole hgW hcell hadd hg1 hb1 hrun ht1 hi hz hsz hby hz76
  have mixed : Try.prog.follows Departure.mixedOrders = true := by kernel_rfl
  go_enter Try.func29, Try.ntmps29
  go_wp2_with (first
    | ((with_reducible show wpList _ _ _ (⟨_, .call { callee := .builtin .append, args := #[.tmp 34, .tmp 39], argTypes := _ }, _, _, _, _⟩ :: _) _ _)
       refine Lib.wpList_append_run _ rfl _ _ _ _ rfl _ _ rfl rfl _ _ HRun.out ?_)
    | ((with_reducible show wpList _ _ _ (⟨_, .call { callee := .builtin .copy, args := _, argTypes := _ }, _, _, _, _⟩ :: _) _ _)
       refine wpList_copy_wide rfl _ _ 30 30 rfl 38 76 Try.underlying30 wait_info gn (p * 76) (n + 1 - p) _ ⟨gv, 0, none⟩ 1 1 1 rfl rfl _ _ HG1.out X HMin2.out (by rw [HX.out]) (fun j v hj => ?_) HFit2.out HX1.out ?_
       · have e : (⟨gv, 0, none⟩ : Addr).add j = ⟨gv, j, none⟩ := by unfold Addr.add; split <;> simp_all
         rw [e]
         have := row_range HR1.out j v hj
         rwa [Nat.zero_add] at this
       intro w2 hg2 hgr2
       have HG2 := Lib.hid hg2
       have HB2 : Hid (Below gn W w2) := Lib.hid (HBo.out _ _ HB1.out hgr2)
       clear hg2 hgr2))
  go_region_law_o (first
    | (refine step_copy_wide rfl _ _ 30 30 rfl 38 76 Try.underlying30 wait_info gn ((p + 1) * 76) (n - p) (cap - (p + 1)) ⟨g, p * 76, none⟩ (n - p) (n - p) (n - p) (by simp [Act.eval, Act.put]) (by simp [Act.eval, Act.put]) _ _ HG2.out FB HMin.out HFB.out (HCell.out _ (HB2.out.drew)) HFit1.out HF1.out ?_
       intro w3 hg3 hgr3
       have HG3 := Lib.hid hg3
       have HB3 : Hid (Below gn W w3) := Lib.hid (HBo.out _ _ HB2.out.drew hgr3)
       clear hg3 hgr3))
  go_wp2_with fail
  go_ret
  exact ⟨_, _, rfl, HG3.out, HCn.out, HCm.out, HS.out.trans HCs.out, HS2.out, HB3.out⟩
theorem insOk_all (l : List Wt) (x : Wt) (hx : x.Ok) (hw : ∀ y ∈ l, y.Ok) (hl : l.length ≤ 100000) : InsOk l x := by
  by_cases hp : Pl.pos l x.ix = l.length
  · exact insOk_last l x hx hl hp
  intro W base A c gv hown hbase hrow hne
  have hpl := Pl.pos_le l x.ix
  have hlens := Wt.lens hw
  have hmem : ∀ z ∈ Pl.ins l x, (Wt.cells z).length = 76 := fun z hz => by
    rcases Pl.ins_mem.1 hz with rfl | hz
    · exact Wt.cells_len hx
    · exact hlens z hz
  have hil := Pl.ins_len l x
  have hFA : (Rw.flat Wt.cells (l.take (Pl.pos l x.ix))).length = Pl.pos l x.ix * 76 := by
    rw [Rw.flat_len (m := 76) (fun y hy => hlens y (List.mem_of_mem_take hy)), List.length_take, Nat.min_eq_left hpl]
  have hFB : (Rw.flat Wt.cells (l.drop (Pl.pos l x.ix))).length = (l.length - Pl.pos l x.ix) * 76 := by
    rw [Rw.flat_len (m := 76) (fun y hy => hlens y (List.mem_of_mem_drop hy)), List.length_drop]
  have hF1 : ∀ v ∈ Rw.flat Wt.cells (l.drop (Pl.pos l x.ix)), v.oneCell' = true := fun v hv => by
    obtain ⟨y, hy, hv⟩ := List.mem_flatMap.1 hv
    exact Wt.cells_one (hw y (List.mem_of_mem_drop hy)) v hv
  have hfl : Rw.flat Wt.cells l = Rw.flat Wt.cells (l.take (Pl.pos l x.ix)) ++ Rw.flat Wt.cells (l.drop (Pl.pos l x.ix)) := by rw [← Rw.flat_append, List.take_append_drop]
  have hfi : Rw.flat Wt.cells (Pl.ins l x) = Rw.flat Wt.cells (l.take (Pl.pos l x.ix)) ++ (x.cells ++ Rw.flat Wt.cells (l.drop (Pl.pos l x.ix))) := by
    unfold Pl.ins
    rw [Rw.flat_append, Rw.flat_cons]
  rcases hown.own.2 with ⟨_, h0⟩ | ⟨g, cap, cur, hv, hbg, hg, hnc, hcm, hcs, htake⟩
  · omega
  injection hv with e1 e2 e3
  subst e1
  subst e3
  have hgv : gv ≠ g := fun e => hne (by rw [e]; rfl)
  rw [hfl] at htake
  have hg' : W.heap[g]? = some (.cells cur.toList.toArray 38 (0, 0)) := by simpa using hg
  have hcs' : cur.toList.length = c * 76 := by simpa using hcs
  by_cases hr : l.length + 1 ≤ c
  · refine (insOk_room l x hx hw hl W base g c gv (Pl.pos l x.ix) cur.toList _ _ (by omega) hr hcm hg' hcs' htake hFA hFB hF1 hrow hgv).mono ?_
    rintro e w' ⟨cur2, rfl, h1, h2, h3, h4⟩
    exact ⟨_, rfl, OwnL.of_row hil hmem hbg h1 hr hcm h2 (by rw [hfi]; exact h3), Chg.of_grown (S := fun k => (Value.slice (some ⟨g, 0, none⟩) l.length c).ownBlock = some k) h4 (fun k hk => .inl hk), fun k hk => .inl hk⟩
  · have hc : c = l.length := by omega
    subst hc
    refine (insOk_grow x hx l.length hl W g gv (Pl.pos l x.ix) cur.toList _ _ (by omega) hg' hcs' htake hFA hFB hF1 hrow).mono ?_
    rintro e w' ⟨cap, cur2, rfl, h1, h2, h3, h4, h5, h6⟩
    exact ⟨_, rfl, OwnL.of_row hil hmem hbase h1 h2 h3 h4 (by rw [hfi]; exact h5), Chg.of_below h6, fun k hk => .inr (by cases hk; exact Nat.le_refl _)⟩
end Go.Proofs.Ytoicpidiejhjeaa
namespace Go.Proofs.Ytoicpidiejhjeaa
open Go.RowKit
set_option linter.unusedVariables false
set_option linter.unusedSimpArgs false
set_option maxRecDepth 100000

abbrev OT : TypeId := 63
abbrev RT18 : TypeId := 32
theorem PAt.putAll {w : World} {base B size : Nat} {v : Value} {l : List Wt} (h : PAt OT w base B v size l) (x : Wt) (hx : x.Ok) :
    Calls Try.prog 10 #[.pointer (some ⟨B, 0, none⟩), .agg x.cells.toArray] w fun e w' => e = .returned (.tuple #[.agg (Pl.putG size l x).cells.toArray, .bool (Pl.putF size l x), .int .i64 (Pl.putE size l x)]) ∧ PTo OT w w' base B v size (Pl.put size l x) := by
  refine h.put x hx (fun _ => ?_)
  have hn := h.n256
  split
  · exact insOk_all _ x hx (fun y hy => h.wok y (List.mem_of_mem_eraseIdx hy)) (by have := List.length_eraseIdx_le l (Pl.poor l l.length); omega)
  · exact insOk_all _ x hx h.wok (by omega)
theorem PAt.rput {w : World} {base B size : Nat} {v : Value} {l : List Wt} (h : PAt RT18 w base B v size l) (x : Wt) (hx : x.Ok) :
    Calls Try.prog 11 #[.pointer (some ⟨B, 0, none⟩), .agg x.cells.toArray] w fun e w' => e = .returned (.tuple #[.agg (Pl.putG size l x).cells.toArray, .bool (Pl.putF size l x), .int .i64 (Pl.putE size l x)]) ∧ PTo RT18 w w' base B v size (Pl.put size l x) := by
  by_cases hm : Pl.May x
  · by_cases hc : Pl.clash l x
    · obtain ⟨e1, e2, e3, e4⟩ := Pl.put_twice (size := size) hm hc
      rw [e1, e2, e3, e4]
      exact (h.rput_twice x hx hm hc).mono fun e w' ⟨q1, q2⟩ => ⟨q1, h.to q2⟩
    · by_cases hf : Pl.full size l = true
      · have hs : size ≤ l.length := by unfold Pl.full at hf; simpa using hf
        by_cases hp : x.tx.fee ≤ (Pl.g l (Pl.poor l l.length)).tx.fee
        · obtain ⟨e1, e2, e3, e4⟩ := Pl.put_full hm hc hf hp
          rw [e1, e2, e3, e4]
          exact (h.rput_full x hx hm hc hs hp).mono fun e w' ⟨q1, q2⟩ => ⟨q1, h.to q2⟩
        · obtain ⟨e1, e2, e3, e4⟩ := Pl.put_take hm hc hf hp
          rw [e1, e2, e3, e4]
          exact h.rput_take x hx hm hc hs hp
      · have hs : ¬ size ≤ l.length := by unfold Pl.full at hf; simpa using hf
        obtain ⟨e1, e2, e3, e4⟩ := Pl.put_ins hm hc hf
        rw [e1, e2, e3, e4]
        exact h.rput_room x hx hm hc hs
  · obtain ⟨e1, e2, e3, e4⟩ := Pl.put_no (size := size) (l := l) hm
    rw [e1, e2, e3, e4]
    exact (rput_arg B x hx hm w).mono fun e w' ⟨q1, q2⟩ => ⟨q1, h.to q2⟩
/-- both pools, and boxes -/
structure Du (w W : World) (base B : Nat) (v : Value) (rbase RB : Nat) (rv : Value) (size : Nat) (L L2 : List Wt) (rows : Rows18) : Prop where
  low : Below w.heap.size w W
  hb : w.heap.size ≤ base
  hrb : w.heap.size ≤ rbase
  pat : PAt OT W base B v size L
  ref : PAt RT18 W rbase RB rv size L2
  row : ∀ x ∈ rows, Row W x.1 x.2.1 x.2.2
  sep : ∀ x ∈ rows, ¬ PS B v x.1 ∧ ¬ PS RB rv x.1 ∧ w.heap.size ≤ x.1
  ap : ∀ k, PS B v k → ¬ PS RB rv k
section
variable {w W W' : World} {base B rbase RB size g : Nat} {v rv : Value} {L L2 L' : List Wt} {rows rows' : Rows18} {T : TypeId} {C : List Value}
theorem Du.below (h : Du w W base B v rbase RB rv size L L2 rows) (hb : Below W.heap.size W W') : Du w W' base B v rbase RB rv size L L2 rows :=
  ⟨two_below' h.low hb, h.hb, h.hrb, h.pat.below hb, h.ref.below hb, fun x hx => (h.row x hx).below hb, h.sep, h.ap⟩
theorem Du.alloc (h : Du w W base B v rbase RB rv size L L2 rows) (C : List Value) (T : TypeId) : Du w (W.alloc (.cells C.toArray T)) base B v rbase RB rv size L L2 ((W.heap.size, T, C) :: rows) := by
  have hb := (Below.refl W.heap.size W).alloc (Nat.le_refl _) (.cells C.toArray T)
  have h2 := h.below hb
  refine ⟨h2.low, h2.hb, h2.hrb, h2.pat, h2.ref, fun x hx => ?_, fun x hx => ?_, h2.ap⟩
  · rcases List.mem_cons.1 hx with rfl | hx
    · exact Row.new W T C
    · exact h2.row x hx
  · rcases List.mem_cons.1 hx with rfl | hx
    · exact ⟨fun hk => by have := (h.pat.lt _ hk).2; simp only at this; omega, fun hk => by have := (h.ref.lt _ hk).2; simp only at this; omega, h.low.size⟩
    · exact h2.sep x hx
theorem Du.write (h : Du w W base B v rbase RB rv size L L2 rows) (hg : W.grownBy W' (some g)) (hr : Row W' g T C) (hm : ∃ T0 C0, (g, T0, C0) ∈ rows) (hs : ∀ x ∈ rows', x = (g, T, C) ∨ (x ∈ rows ∧ x.1 ≠ g)) : Du w W' base B v rbase RB rv size L L2 rows' := by
  obtain ⟨T0, C0, hm⟩ := hm
  have ho := h.sep _ hm
  have hc : Chg (fun k => k = g) W W' := Chg.of_grown hg (fun k hk => by cases hk; exact .inl rfl)
  refine ⟨below_chg h.low hc h.low.size (fun k hk => by rw [hk]; exact ho.2.2), h.hb, h.hrb, h.pat.chg hc (fun k hk e => ho.1 (e ▸ hk)), h.ref.chg hc (fun k hk e => ho.2.1 (e ▸ hk)), fun x hx => ?_, fun x hx => ?_, h.ap⟩
  · rcases hs x hx with rfl | ⟨hx, hne⟩
    · exact hr
    · exact (h.row x hx).kept hg (by simpa using hne)
  · rcases hs x hx with rfl | ⟨hx, hne⟩
    · exact ho
    · exact h.sep x hx
theorem Du.sub (h : Du w W base B v rbase RB rv size L L2 rows) (hs : ∀ x ∈ rows', x ∈ rows) : Du w W base B v rbase RB rv size L L2 rows' :=
  ⟨h.low, h.hb, h.hrb, h.pat, h.ref, fun x hx => h.row x (hs x hx), fun x hx => h.sep x (hs x hx), h.ap⟩
theorem Du.own (h : Du w W base B v rbase RB rv size L L2 rows) (hp : PTo OT W W' base B v size L') : ∃ v', Du w W' base B v' rbase RB rv size L' L2 rows := by
  obtain ⟨v', h1, hc, h3⟩ := hp
  have hlow : ∀ k, PS B v k → w.heap.size ≤ k := fun k hk => Nat.le_trans h.hb (h.pat.lt k hk).1
  refine ⟨v', below_chg h.low hc h.low.size hlow, h.hb, h.hrb, h1, h.ref.chg hc (fun k hk hp => h.ap k hp hk), fun x hx => hc.row (h.row x hx) (h.sep x hx).1, fun x hx => ⟨fun hk => ?_, (h.sep x hx).2⟩, fun k hk => ?_⟩
  · rcases h3 _ hk with q | q
    · exact (h.sep x hx).1 q
    · have := (h.row x hx).lt; omega
  · rcases h3 k hk with q | q
    · exact h.ap k q
    · exact fun e => by have := (h.ref.lt k e).2; omega
theorem Du.rown (h : Du w W base B v rbase RB rv size L L2 rows) (hp : PTo RT18 W W' rbase RB rv size L') : ∃ v', Du w W' base B v rbase RB v' size L L' rows := by
  obtain ⟨v', h1, hc, h3⟩ := hp
  have hlow : ∀ k, PS RB rv k → w.heap.size ≤ k := fun k hk => Nat.le_trans h.hrb (h.ref.lt k hk).1
  refine ⟨v', below_chg h.low hc h.low.size hlow, h.hb, h.hrb, h.pat.chg hc (fun k hk hp => h.ap k hk hp), h1, fun x hx => hc.row (h.row x hx) (h.sep x hx).2.1, fun x hx => ⟨(h.sep x hx).1, fun hk => ?_, (h.sep x hx).2.2⟩, fun k hk hk2 => ?_⟩
  · rcases h3 _ hk with q | q
    · exact (h.sep x hx).2.1 q
    · have := (h.row x hx).lt; omega
  · rcases h3 k hk2 with q | q
    · exact h.ap k hk q
    · have := (h.pat.lt k hk).2; omega
end
/-- the same, whatever the lists are made of -/
def DuE (w W : World) (base B rbase RB size : Nat) (L L2 : List Wt) (rows : Rows18) : Prop := ∃ v rv, Du w W base B v rbase RB rv size L L2 rows
section
variable {w W W' : World} {base B rbase RB size g : Nat} {L L2 L' : List Wt} {rows rows' : Rows18} {T : TypeId} {C : List Value}
theorem DuE.below (h : DuE w W base B rbase RB size L L2 rows) (hb : Below W.heap.size W W') : DuE w W' base B rbase RB size L L2 rows := by
  obtain ⟨v, rv, h⟩ := h; exact ⟨v, rv, h.below hb⟩
theorem DuE.alloc (h : DuE w W base B rbase RB size L L2 rows) (C : List Value) (T : TypeId) : DuE w (W.alloc (.cells C.toArray T)) base B rbase RB size L L2 ((W.heap.size, T, C) :: rows) := by
  obtain ⟨v, rv, h⟩ := h; exact ⟨v, rv, h.alloc C T⟩
theorem DuE.write (h : DuE w W base B rbase RB size L L2 rows) (hg : W.grownBy W' (some g)) (hr : Row W' g T C) (hm : ∃ T0 C0, (g, T0, C0) ∈ rows) (hs : ∀ x ∈ rows', x = (g, T, C) ∨ (x ∈ rows ∧ x.1 ≠ g)) : DuE w W' base B rbase RB size L L2 rows' := by
  obtain ⟨v, rv, h⟩ := h; exact ⟨v, rv, h.write hg hr hm hs⟩
theorem DuE.low (h : DuE w W base B rbase RB size L L2 rows) : Below w.heap.size w W := by obtain ⟨v, rv, h⟩ := h; exact h.low
theorem DuE.row (h : DuE w W base B rbase RB size L L2 rows) {x : Nat × TypeId × List Value} (hx : x ∈ rows) : Row W x.1 x.2.1 x.2.2 := by obtain ⟨v, rv, h⟩ := h; exact h.row x hx
theorem DuE.sub (h : DuE w W base B rbase RB size L L2 rows) (hs : ∀ x ∈ rows', x ∈ rows) : DuE w W base B rbase RB size L L2 rows' := by obtain ⟨v, rv, h⟩ := h; exact ⟨v, rv, h.sub hs⟩
theorem DuE.n256 (h : DuE w W base B rbase RB size L L2 rows) : L.length ≤ 256 := by obtain ⟨v, rv, h⟩ := h; exact h.pat.n256
theorem DuE.put (h : DuE w W base B rbase RB size L L2 rows) (x : Wt) (hx : x.Ok) :
    Calls Try.prog 10 #[.pointer (some ⟨B, 0, none⟩), .agg x.cells.toArray] W fun e w' => e = .returned (.tuple #[.agg (Pl.putG size L x).cells.toArray, .bool (Pl.putF size L x), .int .i64 (Pl.putE size L x)]) ∧ DuE w w' base B rbase RB size (Pl.put size L x) L2 rows := by
  obtain ⟨v, rv, h⟩ := h
  exact (h.pat.putAll x hx).mono fun e w' ⟨q1, q2⟩ => ⟨q1, by obtain ⟨v', h'⟩ := h.own q2; exact ⟨v', rv, h'⟩⟩
theorem DuE.rput (h : DuE w W base B rbase RB size L L2 rows) (x : Wt) (hx : x.Ok) :
    Calls Try.prog 11 #[.pointer (some ⟨RB, 0, none⟩), .agg x.cells.toArray] W fun e w' => e = .returned (.tuple #[.agg (Pl.putG size L2 x).cells.toArray, .bool (Pl.putF size L2 x), .int .i64 (Pl.putE size L2 x)]) ∧ DuE w w' base B rbase RB size L (Pl.put size L2 x) rows := by
  obtain ⟨v, rv, h⟩ := h
  exact (h.ref.rput x hx).mono fun e w' ⟨q1, q2⟩ => ⟨q1, by obtain ⟨v', h'⟩ := h.rown q2; exact ⟨v, v', h'⟩⟩
theorem DuE.next0 (h : DuE w W base B rbase RB size L L2 rows) (now : Int) (f : FuncId) (cap : Value) (nx : Int → Int) (hN : NextFn W f cap nx) (hb : Pl.best L now nx L.length = none) :
    Calls Try.prog 15 #[.pointer (some ⟨B, 0, none⟩), .int .i64 now, .func (.func f) #[] #[cap]] W fun e w' => e = .returned (.tuple #[.agg Wt.none.cells.toArray, .bool false]) ∧ DuE w w' base B rbase RB size L L2 rows := by
  obtain ⟨v, rv, h⟩ := h
  exact (h.pat.next_none now f cap nx hN hb).mono fun e w' ⟨q1, q2⟩ => ⟨q1, by obtain ⟨v', h'⟩ := h.own q2; exact ⟨v', rv, h'⟩⟩
theorem DuE.next1 (h : DuE w W base B rbase RB size L L2 rows) (now : Int) (f : FuncId) (cap : Value) (nx : Int → Int) (hN : NextFn W f cap nx) (b : Wt) (hb : Pl.best L now nx L.length = some b) :
    Calls Try.prog 15 #[.pointer (some ⟨B, 0, none⟩), .int .i64 now, .func (.func f) #[] #[cap]] W fun e w' => e = .returned (.tuple #[.agg b.cells.toArray, .bool true]) ∧ DuE w w' base B rbase RB size ((L.eraseIdx (Pl.pos L b.ix)).map (Pl.raise b)) L2 rows := by
  obtain ⟨v, rv, h⟩ := h
  exact (h.pat.next_some now f cap nx hN b hb).mono fun e w' ⟨q1, q2⟩ => ⟨q1, by obtain ⟨v', h'⟩ := h.own q2; exact ⟨v', rv, h'⟩⟩
theorem DuE.rnext0 (h : DuE w W base B rbase RB size L L2 rows) (now : Int) {gN : Nat} (N : List Int) (hN : N.length = 64) (hrow : Row W gN 3 (Is N)) (hb : Pl.best L2 now (Pl.nxf N) L2.length = none) :
    Calls Try.prog 17 #[.pointer (some ⟨RB, 0, none⟩), .int .i64 now, .slice (some ⟨gN, 0, none⟩) 64 64] W fun e w' => e = .returned (.tuple #[.agg Wt.none.cells.toArray, .bool false]) ∧ DuE w w' base B rbase RB size L L2 rows := by
  obtain ⟨v, rv, h⟩ := h
  have := h.ref.rnext now N hN hrow
  rw [hb] at this
  exact this.mono fun e w' ⟨q1, q2⟩ => ⟨q1, v, rv, h.below q2⟩
theorem DuE.rnext1 (h : DuE w W base B rbase RB size L L2 rows) (now : Int) {gN : Nat} (N : List Int) (hN : N.length = 64) (hrow : Row W gN 3 (Is N)) (b : Wt) (hb : Pl.best L2 now (Pl.nxf N) L2.length = some b) :
    Calls Try.prog 17 #[.pointer (some ⟨RB, 0, none⟩), .int .i64 now, .slice (some ⟨gN, 0, none⟩) 64 64] W fun e w' => e = .returned (.tuple #[.agg b.cells.toArray, .bool true]) ∧ DuE w w' base B rbase RB size L ((L2.eraseIdx (Pl.pos L2 b.ix)).map (Pl.raise b)) rows := by
  obtain ⟨v, rv, h⟩ := h
  have := h.ref.rnext now N hN hrow
  rw [hb] at this
  exact this.mono fun e w' ⟨q1, q2⟩ => ⟨q1, by obtain ⟨v', h'⟩ := h.rown q2; exact ⟨v, v', h'⟩⟩
/-- the own Old, and what it told, which no later call of the reference's touches -/
theorem DuE.old (h : DuE w W base B rbase RB size L L2 rows) (now : Int) :
    Calls Try.prog 13 #[.pointer (some ⟨B, 0, none⟩), .int .i64 now] W fun e w' => ∃ A c, e = .returned (.slice A (Pl.old L now).length c) ∧ DuE w w' base B rbase RB size (Pl.young L now) L2 rows ∧ OwnL w' W.heap.size 38 76 Wt.cells (.slice A (Pl.old L now).length c) (Pl.old L now) ∧ (∀ b ∈ Pl.old L now, b.Ok) ∧
      ∀ rv, PAt RT18 w' rbase RB rv size L2 → ∀ k, (Value.slice A (Pl.old L now).length c).ownBlock = some k → ¬ PS RB rv k := by
  obtain ⟨v, rv, h⟩ := h
  refine (h.pat.old now).mono fun e w' ⟨u, q1, v', h1, ho, h2, h3, h4⟩ => ?_
  obtain ⟨A, c, rfl, _, _⟩ := ho.form
  refine ⟨A, c, q1, ?_, ho, fun b hb => h.pat.wok b (by unfold Pl.old at hb; exact (List.mem_filter.1 hb).1), fun rv2 hr k hk hp => ?_⟩
  · obtain ⟨v9, h9⟩ := h.own ⟨v', h1, h2, h3⟩
    exact ⟨v9, rv, h9⟩
  · have : rv2 = rv := by
      have a := hr.c1
      have b := (h.ref.chg h2 (fun k hk hp => h.ap k hp hk)).c1
      rw [a] at b
      injection b
    subst this
    have := (ho.lt k hk).1
    have := (h.ref.lt k hp).2
    omega
theorem DuE.rold (h : DuE w W base B rbase RB size L L2 rows) (now : Int) {A0 : Option Addr} {c0 s0 : Nat} {l0 : List Wt} (ho0 : OwnL W s0 38 76 Wt.cells (.slice A0 l0.length c0) l0) (hl0 : ∀ b ∈ l0, b.Ok) (h256 : l0.length ≤ 256) (hap : ∀ rv, PAt RT18 W rbase RB rv size L2 → ∀ k, (Value.slice A0 l0.length c0).ownBlock = some k → ¬ PS RB rv k) :
    Calls Try.prog 14 #[.pointer (some ⟨RB, 0, none⟩), .int .i64 now] W fun e w' => ∃ A c, e = .returned (.slice A (Pl.old L2 now).length c) ∧ DuE w w' base B rbase RB size L (Pl.young L2 now) rows ∧ SlW w' w'.heap.size A c (Pl.old L2 now) ∧ SlW w' w'.heap.size A0 c0 l0 := by
  obtain ⟨v, rv, h⟩ := h
  refine (h.ref.rold now).mono fun e w' ⟨u, q1, v', h1, ho, h2, h3, h4⟩ => ?_
  obtain ⟨A, c, rfl, _, _⟩ := ho.form
  refine ⟨A, c, q1, ?_, ho.slW (fun x hx => h.ref.wok x (by unfold Pl.old at hx; exact (List.mem_filter.1 hx).1)) (by have := Pl.old_len L2 now; have := h.ref.n256; omega), (ho0.chg h2 (hap rv h.ref)).slW hl0 (by omega)⟩
  obtain ⟨v9, h9⟩ := h.rown ⟨v', h1, h2, h3⟩
  exact ⟨v, v9, h9⟩
theorem DuE.all (h : DuE w W base B rbase RB size L L2 rows) :
    Calls Try.prog 18 #[.pointer (some ⟨B, 0, none⟩)] W fun e w' => ∃ A c, e = .returned (.slice A L.length c) ∧ Below W.heap.size W w' ∧ SlW w' w'.heap.size A c L := by
  obtain ⟨v, rv, h⟩ := h
  refine h.pat.all.mono fun e w' ⟨⟨u, q1, ho⟩, hb⟩ => ?_
  obtain ⟨A, c, rfl, _, _⟩ := ho.form
  exact ⟨A, c, q1, hb, ho.slW h.pat.wok (by have := h.pat.n256; omega)⟩
theorem DuE.len (h : DuE w W base B rbase RB size L L2 rows) : Calls Try.prog 19 #[.pointer (some ⟨B, 0, none⟩)] W fun e w' => e = .returned (.int .i64 L.length) ∧ W = w' := by
  obtain ⟨v, rv, h⟩ := h
  exact h.pat.len
/-- the reference's list as it stands in memory -/
theorem DuE.rl (h : DuE w W base B rbase RB size L L2 rows) : ∃ A c, W.cell? ⟨RB, 1, none⟩ = some (.slice A L2.length c) ∧ ∀ W', Below W.heap.size W W' → W'.cell? ⟨RB, 1, none⟩ = some (.slice A L2.length c) ∧ SlW W' W'.heap.size A c L2 := by
  obtain ⟨v, rv, h⟩ := h
  obtain ⟨A, c, rfl, _, _⟩ := h.ref.own.form
  exact ⟨A, c, h.ref.c1, fun W' hb => ⟨(h.ref.below hb).c1, (h.ref.below hb).slW⟩⟩
end
end Go.Proofs.Ytoicpidiejhjeaa
