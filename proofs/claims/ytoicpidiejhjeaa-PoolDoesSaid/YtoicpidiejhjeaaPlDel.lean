/- slices.Delete of one element of a list of structs in a row of the call's own. -/
import Derived.Test.YtoicpidiejhjeaaPlMem
import Derived.Deep.LoopGhost
import Derived.Deep.RegionLaw
import Derived.Lib.Walk
import Derived.Lib.SliceRun
namespace Go.Proofs.Ytoicpidiejhjeaa
open Go.RowKit
set_option linter.unusedVariables false
set_option linter.unusedSimpArgs false
set_option maxRecDepth 100000

/-- 'clear' of one struct -/
theorem run_clear_one {P : Program} (w : World) (t e ty : TypeId) (zs : List Value) (ht : P.underlying t = some (.slice e)) (hv : ∀ w, (zeroValue e).run P w = .ok (.agg zs.toArray) w) (h1 : ∀ v ∈ zs, v.oneCell' = true) (b o c : Nat)
    (hc : ∀ j, j < zs.length → (w.cell? ⟨b, o + j, none⟩).isSome = true) (hf : ∀ j, j < zs.length → w.frozen? ⟨b, o + j, none⟩ = false) :
    (Builtin.clear_ #[t] ty #[.slice (some ⟨b, o, none⟩) 1 c]).run P w = .ok (.tuple #[]) (w.setCells b o zs) := by
  have hzc : (Builtin.zeroCells zs.toArray 1).toList = zs := by
    simp [Builtin.zeroCells]
    apply List.ext_getElem
    · simp
    · intro i h1 h2
      simp [Nat.mod_eq_of_lt h2, h2]
  have hst := run_storeCells_cells (P := P) b o zs 0 w (by simpa using hc) (by simpa using hf) h1
  simp only [Nat.add_zero] at hst
  simp [Builtin.clear_, run_underlying ht, hv, Value.cells, hzc, hst]
theorem row_own {α : Type} {w : World} {base g n c m : Nat} {e : TypeId} {f : α → List Value} {l : List α} {xs : List Value} (hr : Row w g e xs) (hb : base ≤ g) (hn : n = l.length) (hnc : n ≤ c) (hc : c ≤ maxLen) (hx : xs.length = c * m) (ht : xs.take (n * m) = Rw.flat f l) (hl : (Rw.flat f l).length = l.length * m) : OwnL w base e m f (.slice (some ⟨g, 0, none⟩) n c) l := by
  subst hn
  exact ⟨hl, .inr ⟨g, c, xs.toArray, rfl, hb, hr, hnc, hc, by simpa using hx, by simpa using ht⟩⟩
theorem OwnL.row {α : Type} {w : World} {base g n c m : Nat} {e : TypeId} {f : α → List Value} {l : List α} (h : OwnL w base e m f (.slice (some ⟨g, 0, none⟩) n c) l) : ∃ xs, Row w g e xs ∧ base ≤ g ∧ n = l.length ∧ n ≤ c ∧ c ≤ maxLen ∧ xs.length = c * m ∧ xs.take (n * m) = Rw.flat f l := by
  rcases h.own.2 with ⟨h', _⟩ | ⟨g', cap', cur, h', hb, hg, hnc, hcm, hcs, htake⟩
  · simp at h'
  · simp only [Value.slice.injEq, Option.some.injEq, Addr.mk.injEq, and_true, true_and] at h'
    obtain ⟨rfl, rfl, rfl⟩ := h'
    exact ⟨cur.toList, hg, hb, rfl, hnc, hcm, by simpa using hcs, htake⟩
def ZW : List Value := Wt.none.cells
theorem ZW_len : ZW.length = 76 := Wt.cells_len Wt.none_ok
theorem ZW_one : ∀ v ∈ ZW, v.oneCell' = true := Wt.cells_one Wt.none_ok
set_option maxHeartbeats 3200000 in
theorem delete_any {w : World} {base g c : Nat} {l : List Wt} (m i : Nat) (h : OwnL w base 38 76 Wt.cells (.slice (some ⟨g, 0, none⟩) (m + 1) c) l) (hl : ∀ b ∈ l, b.Ok) (hi : i ≤ m) :
    Calls Try.prog 39 #[.slice (some ⟨g, 0, none⟩) (m + 1) c, .int .i64 i, .int .i64 ((i : Int) + 1)] w fun e w' =>
      e = .returned (.slice (some ⟨g, 0, none⟩) m c) ∧ OwnL w' base 38 76 Wt.cells (.slice (some ⟨g, 0, none⟩) m c) (l.eraseIdx i) ∧ w.grownBy w' (some g) := by
  obtain ⟨xs, hr, hb, hn, hnc, hcm, hx, ht⟩ := h.row
  have hf76 : ∀ x ∈ l, (Wt.cells x).length = 76 := fun x hx => Wt.cells_len (hl x hx)
  have hc2 : (m + 1) * 76 ≤ c * 76 := Nat.mul_le_mul_right 76 hnc
  obtain ⟨news, hnews⟩ : ∃ news, news = Rw.flat Wt.cells (l.drop (i + 1)) := ⟨_, rfl⟩
  have hlen : news.length = (m - i) * 76 := by
    rw [hnews, Rw.flat_len (m := 76) (fun x hx => hf76 x (List.mem_of_mem_drop hx)), List.length_drop, ← hn]
    congr 1; omega
  have hsplit : Rw.flat Wt.cells l = Rw.flat Wt.cells (l.take (i + 1)) ++ news := by rw [hnews, ← Rw.flat_append, List.take_append_drop]
  have hil : (Rw.flat Wt.cells (l.take (i + 1))).length = (i + 1) * 76 := by
    rw [Rw.flat_len (m := 76) (fun x hx => hf76 x (List.mem_of_mem_take hx)), List.length_take, ← hn, Nat.min_eq_left (by omega)]
  have hxs : ∀ j v, news[j]? = some v → xs[(i + 1) * 76 + j]? = some v := fun j v hv => by
    have hj : j < news.length := (List.getElem?_eq_some_iff.1 hv).1
    have e : (xs.take ((m + 1) * 76))[(i + 1) * 76 + j]? = some v := by
      rw [ht, hsplit, List.getElem?_append_right (by rw [hil]; omega), hil, Nat.add_sub_cancel_left]
      exact hv
    rw [List.getElem?_take_of_lt (by rw [hlen] at hj; omega)] at e
    exact e
  have hsrc0 : ∀ j v, news[j]? = some v → w.cell? ⟨g, (i + 1) * 76 + j, none⟩ = some v := fun j v hv => by
    obtain ⟨h1, h2⟩ := List.getElem?_eq_some_iff.1 (hxs j v hv)
    rw [hr.cell _ h1, h2]
  obtain ⟨A, hA, hsrc⟩ : ∃ A : Addr, (if c = i + 1 then (some ⟨g, 0, none⟩ : Option Addr) else some ⟨g, (i + 1) * 76, none⟩) = some A ∧ Hid (∀ t u, news[t]? = some u → w.drew.cell? (A.add t) = some u) := by
    by_cases hci : c = i + 1
    · refine ⟨⟨g, 0, none⟩, by simp [hci], Lib.hid (fun t u hu => ?_)⟩
      have h0 : news.length = 0 := by rw [hlen]; have : m - i = 0 := by omega
                                      rw [this, Nat.zero_mul]
      rw [List.length_eq_zero_iff.1 h0] at hu
      simp at hu
    · refine ⟨⟨g, (i + 1) * 76, none⟩, by simp [hci], Lib.hid (fun t u hu => ?_)⟩
      have e : (⟨g, (i + 1) * 76, none⟩ : Addr).add t = ⟨g, (i + 1) * 76 + t, none⟩ := by unfold Addr.add; split <;> simp_all
      rw [e]
      exact hsrc0 t u hu
  have s1 : Hid (news.length = (m - i) * 76) := Lib.hid hlen
  have s2 : Hid (∀ u ∈ news, u.oneCell' = true) := Lib.hid (by
    intro u hu
    rw [hnews] at hu
    obtain ⟨x, hx, hux⟩ := List.mem_flatMap.1 hu
    exact Wt.cells_one (hl x (List.mem_of_mem_drop hx)) u hux)
  have s3 : Hid (∀ t, t < news.length → (w.drew.cell? ⟨g, 0 + i * 76 + t, none⟩).isSome = true ∧ w.drew.frozen? ⟨g, 0 + i * 76 + t, none⟩ = false) := Lib.hid (by
    intro t ht2
    rw [hlen] at ht2
    have h1 : 0 + i * 76 + t < xs.length := by rw [hx]; omega
    exact ⟨by show (w.cell? _).isSome = true; rw [hr.cell _ h1]; rfl, hr.free _⟩)
  obtain ⟨W1, hW1⟩ : ∃ W1, W1 = w.drew.setCells g (0 + i * 76) news := ⟨_, rfl⟩
  have hrd : Row w.drew g 38 xs := hr
  obtain ⟨r1, g1⟩ := row_setCells news (0 + i * 76) w.drew xs hrd (by rw [hlen, hx]; omega)
  rw [← hW1] at r1 g1
  obtain ⟨ys, hys⟩ : ∃ ys, ys = xs.take (0 + i * 76) ++ (news ++ xs.drop (0 + i * 76 + news.length)) := ⟨_, rfl⟩
  rw [← hys] at r1
  have hyl : ys.length = c * 76 := by
    rw [hys]
    simp only [List.length_append, List.length_take, List.length_drop, hlen, hx]
    omega
  obtain ⟨r2, g2⟩ := row_setCells ZW (m * 76) W1 ys r1 (by rw [ZW_len, hyl]; omega)
  have hcl := fun ty => run_clear_one (P := Try.prog) W1 30 38 ty ZW Try.underlying30 wait_zv ZW_one g (m * 76) (c - m) (fun j hj => by rw [ZW_len] at hj; rw [r1.cell _ (by rw [hyl]; omega)]; rfl) (fun j hj => r1.free _)
  obtain ⟨W2, hW2⟩ : ∃ W2, W2 = W1.setCells g (m * 76) ZW := ⟨_, rfl⟩
  rw [← hW2] at r2 g2 hcl
  have hfin : OwnL W2 base 38 76 Wt.cells (.slice (some ⟨g, 0, none⟩) m c) (l.eraseIdx i) := by
    have hfe : ∀ x ∈ l.eraseIdx i, (Wt.cells x).length = 76 := fun x hx => hf76 x (List.mem_of_mem_eraseIdx hx)
    refine row_own r2 hb (by rw [List.length_eraseIdx_of_lt (by omega)]; omega) (by omega) hcm ?_ ?_ (Rw.flat_len hfe)
    · simp only [List.length_append, List.length_take, List.length_drop, ZW_len, hyl]
      omega
    · have e1 : (ys.take (m * 76)).length = m * 76 := by rw [List.length_take, hyl]; omega
      rw [List.take_append_of_le_length (by omega), List.take_take, Nat.min_self, hys, Nat.zero_add]
      have e2 : (xs.take (i * 76)).length = i * 76 := by rw [List.length_take, hx]; omega
      rw [← List.append_assoc, List.take_append_of_le_length (by rw [List.length_append, e2, hlen]; omega), List.take_of_length_le (by rw [List.length_append, e2, hlen]; omega), hnews, List.eraseIdx_eq_take_drop_succ, Rw.flat_append]
      congr 1
      rw [Rw.flat_take (m := 76) hf76 i (by omega), ← ht, List.take_take]
      congr 1; omega
  have HF := Lib.hid hfin
  have HG : Hid (w.grownBy W2 (some g)) := Lib.hid (by
    have h0 : w.grownBy w.drew (some g) := grownBy_drew _ _
    exact (h0.trans g1).trans g2)
  obtain ⟨i0, hi0, hz1⟩ := Option.map_eq_some_iff.1 wait_info
  have Hi0 := Lib.hid hi0
  have Hz1 := Lib.hid hz1
  have hW : Hid (W1 = w.drew.setCells g (0 + i * 76) news) := Lib.hid hW1
  have hWW : Hid (w.drew.setCells g (i * 76) news = W1) := Lib.hid (by rw [hW1, Nat.zero_add])
  have hic : i ≤ c := by omega
  have hjc : i + 1 ≤ c := by omega
  have hjm : i + 1 ≤ m + 1 := by omega
  have him : i + (m - i) = m := by omega
  have hm1 : m + 1 - m = 1 := by omega
  have hcl2 : Hid (∀ ty, (Builtin.clear_ #[30] ty #[.slice (some ⟨g, m * 76, none⟩) 1 (c - m)]).run Try.prog W1 = .ok (.tuple #[]) W2) := Lib.hid hcl
  have hne : ¬ ((i : Int) = (i : Int) + 1) := by omega
  have hi1 : (0 : Int) ≤ (i : Int) + 1 := by omega
  have dne : decide ((i : Int) = (i : Int) + 1) = false := decide_eq_false hne
  clear hW1 h hr hb hn hx ht hf76 hc2 hnews hlen hsplit hil hxs hsrc0 hrd r1 g1 hys hyl r2 g2 hcl hW2 hfin hi0 hz1 hl
  go_enter Try.func39, Try.ntmps39
  go_wp2_with fail
  go_region_law (refine step_append_room rfl (.tmp 22) (.tmp 25) 30 rfl 38 i0 76 Try.underlying30 Hi0.out Hz1.out g 0 i c (by simp [Act.eval, Act.put]) A (m - i) (c - (i + 1)) news (by simp [Act.eval, Act.put]) s1.out hsrc.out s2.out (by omega) s3.out ?_)
  rw [hWW.out]
  have hcl := hcl2.out
  have hm1' : m + 1 - m = 1 := hm1
  go_wp2_with fail
  go_ret
  exact ⟨rfl, HF.out, HG.out⟩
end Go.Proofs.Ytoicpidiejhjeaa
