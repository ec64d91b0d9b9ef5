/- find: where what has an Index stands. -/
import Derived.Test.YtoicpidiejhjeaaPlMem
namespace Go.Proofs.Ytoicpidiejhjeaa
open Go.RowKit
set_option linter.unusedVariables false
set_option linter.unusedSimpArgs false
set_option maxRecDepth 100000

theorem isNaN_any (a : Int) (W : World) : Calls Try.prog 51 #[.int .i64 a] W fun e w' => e = .returned (.bool false) ∧ W = w' := by
  go_enter Try.func51, Try.ntmps51
  go_wp2_with fail
  go_ret
  exact ⟨by simp, rfl⟩
def Pl.cmp (a b : Int) : Int := if a < b then -1 else if b < a then 1 else 0
theorem compare_any (a b : Int) (W : World) : Calls Try.prog 42 #[.int .i64 a, .int .i64 b] W fun e w' => e = .returned (.int .i64 (Pl.cmp a b)) ∧ W = w' := by
  have N := Lib.hid (fun x => isNaN_any x W)
  obtain ⟨r, hr⟩ : ∃ r, Pl.cmp a b = r := ⟨_, rfl⟩
  rw [hr]
  unfold Pl.cmp at hr
  have HR := Lib.hid hr
  clear hr
  by_cases h1 : a < b
  · have hr : r = -1 := by rw [← HR.out, if_pos h1]
    subst hr
    have d1 : decide (a < b) = true := decide_eq_true h1
    clear HR h1
    go_enter Try.func42, Try.ntmps42
    go_wp2_with fail
    refine (N.out _).mono ?_
    rintro _ w1 ⟨rfl, rfl⟩
    go_wp2_with fail
    refine (N.out _).mono ?_
    rintro _ w1 ⟨rfl, rfl⟩
    go_wp2_with fail
    go_ret
    exact ⟨rfl, rfl⟩
  · have d1 : decide (a < b) = false := decide_eq_false h1
    by_cases h2 : b < a
    · have hr : r = 1 := by rw [← HR.out, if_neg h1, if_pos h2]
      subst hr
      have d2 : decide (b < a) = true := decide_eq_true h2
      clear HR h1 h2
      go_enter Try.func42, Try.ntmps42
      go_wp2_with fail
      refine (N.out _).mono ?_
      rintro _ w1 ⟨rfl, rfl⟩
      go_wp2_with fail
      refine (N.out _).mono ?_
      rintro _ w1 ⟨rfl, rfl⟩
      go_wp2_with fail
      go_ret
      exact ⟨rfl, rfl⟩
    · have hr : r = 0 := by rw [← HR.out, if_neg h1, if_neg h2]
      subst hr
      have d2 : decide (b < a) = false := decide_eq_false h2
      clear HR h1 h2
      go_enter Try.func42, Try.ntmps42
      go_wp2_with fail
      refine (N.out _).mono ?_
      rintro _ w1 ⟨rfl, rfl⟩
      go_wp2_with fail
      refine (N.out _).mono ?_
      rintro _ w1 ⟨rfl, rfl⟩
      go_wp2_with fail
      go_ret
      exact ⟨rfl, rfl⟩
theorem find1_any (w : Wt) (hw : w.Ok) (i : Int) (W : World) : Calls Try.prog 41 #[.agg w.cells.toArray, .int .i64 i] W fun e w' => e = .returned (.int .i64 (Pl.cmp w.ix i)) ∧ Below W.heap.size W w' := by
  have HB := Lib.hid ((Below.refl W.heap.size W).alloc (Nat.le_refl _) (.cells w.cells.toArray 38))
  obtain ⟨_, _, _, c72, _, _, _⟩ := WBox.row hw (Row.new W 38 w.cells)
  have CM := Lib.hid (fun W => compare_any w.ix i W)
  clear hw
  generalize w.cells = C at *
  generalize w.ix = a at *
  go_enter Try.func41, Try.ntmps41
  go_wp2_with fail
  refine (CM.out _).mono ?_
  rintro _ w1 ⟨rfl, rfl⟩
  go_wp2_with fail
  go_ret
  exact ⟨rfl, HB.out⟩
theorem Pl.cmp_neg {a b : Int} : (Pl.cmp a b < 0) ↔ a < b := by unfold Pl.cmp; split <;> (try split) <;> omega
theorem Pl.cmp_zero {a b : Int} : (Pl.cmp a b = 0) ↔ a = b := by unfold Pl.cmp; split <;> (try split) <;> omega
set_option maxHeartbeats 3200000 in
theorem search_any (l : List Wt) (hl : ∀ x ∈ l, x.Ok) (hs : Pl.Srt l) (A : Option Addr) (c : Nat) (t : Int) (w : World) (hA : LsAt Wt.cells 76 w w.heap.size A l) (hn0 : l.length ≤ 1000000) :
    Calls Try.prog 40 #[.slice A l.length c, .int .i64 t, .func (.func 41) #[] #[]] w fun e w' => e = .returned (.tuple #[.int .i64 (Pl.pos l t), .bool (decide (∃ x ∈ l, x.ix = t))]) ∧ Below w.heap.size w w' := by
  have HA := Lib.hid hA
  have HL := Lib.hid hl
  have HS := Lib.hid hs
  obtain ⟨n, hn⟩ : ∃ n, n = l.length := ⟨_, rfl⟩
  rw [← hn] at hn0 ⊢
  have HN := Lib.hid hn
  have F1 := Lib.hid (fun x hx W => find1_any x (hl x hx) t W)
  obtain ⟨p, hp⟩ : ∃ p, Pl.pos l t = p := ⟨_, rfl⟩
  obtain ⟨b, hbe⟩ : ∃ b, decide (∃ x ∈ l, x.ix = t) = b := ⟨_, rfl⟩
  rw [hp, hbe]
  have HPp := Lib.hid hp
  have HBe := Lib.hid hbe
  clear hA hl hs hn hp hbe
  go_enter Try.func40, Try.ntmps40
  go_wp2_with fail
  go_loopw [9, 10] (fun si sj wr => ∃ i j : Nat, i ≤ j ∧ j ≤ n ∧ si = .int .i64 i ∧ sj = .int .i64 j ∧ (∀ k (hk : k < l.length), k < i → l[k].ix < t) ∧ (∀ k (hk : k < l.length), j ≤ k → t ≤ l[k].ix) ∧ Below w.heap.size w wr) (fun si sj _ => (intOf sj).toNat - (intOf si).toNat)
  case atStart => exact ⟨0, n, Nat.zero_le _, Nat.le_refl _, rfl, rfl, fun k hk h => by omega, fun k hk h => by have := HN.out; omega, Below.refl _ _⟩
  case round =>
    obtain ⟨i, j, hij, hjn, rfl, rfl, h1, h2, hb⟩ := hrel
    have H1 := Lib.hid h1
    have H2 := Lib.hid h2
    have HB := Lib.hid hb
    clear h1 h2 hb
    by_cases hlt : i < j
    · have hlti : (i : Int) < (j : Int) := by omega
      obtain ⟨m, hm⟩ : ∃ m, m = (i + j) / 2 := ⟨_, rfl⟩
      have hmi : i ≤ m := by omega
      have hmj : m < j := by omega
      have e1 : IntKind.i64.wrap ((i : Int) + j) = ((i + j : Nat) : Int) := by rw [IntWalk.i64_in _ (by omega)]; omega
      have e2 : IntKind.u64.wrap ((i + j : Nat) : Int) = ((i + j : Nat) : Int) := by unfold IntKind.wrap; simp [IntKind.bits, IntKind.signed]; omega
      have hml : m < l.length := by have := HN.out; omega
      obtain ⟨g, rfl, hg, hat⟩ := HA.out (by intro e; rw [e] at hml; simp at hml)
      have hxm := List.getElem_mem hml
      have HX := Lib.hid (HL.out _ hxm)
      have HR : Hid (wr.rangeAt g (m * 76) l[m].cells) := Lib.hid (fun q u hu => (HB.out.cell (p := ⟨g, m * 76 + q, none⟩) hg).trans (hat m hml q u hu))
      have FX := Lib.hid (F1.out l[m] hxm)
      have HC76 := Lib.hid (Wt.cells_len HX.out)
      have hcm : (Pl.cmp l[m].ix t < 0) ↔ l[m].ix < t := Pl.cmp_neg
      obtain ⟨r, hr⟩ : ∃ r, Pl.cmp l[m].ix t = r := ⟨_, rfl⟩
      rw [hr] at FX hcm
      generalize l[m].cells = C at *
      have hmn : (m : Int) < (n : Int) := by omega
      have hm0 : (0 : Int) ≤ (m : Int) := by omega
      have em : ((i : Int) + (j : Int)) / 2 = (m : Int) := by omega
      have em' : (i + j) / 2 = m := hm.symm
      clear hm hat hxm hr
      by_cases hr0 : r < 0
      · have dr : decide (r < 0) = true := decide_eq_true hr0
        have HX1 := Lib.hid (hcm.1 hr0)
        clear hcm hr0
        go_wp2_with ((with_reducible show wpList _ _ _ (⟨_, .load 38 (.tmp 27), _, _, _, _⟩ :: _) _ _); refine wpList_load_tx rfl 38 (.tmp 27) rfl g (m * 76) (rfl) C _ (HR.out) Try.underlying38 rfl (by rw [wait_info, HC76.out]) ?_)
        refine (FX.out _).mono ?_
        rintro _ w3 ⟨rfl, hb3⟩
        have HB3 := Lib.hid (two_below' HB.out hb3)
        clear hb3
        go_wp2_with fail
        refine ⟨⟨m + 1, j, by omega, hjn, by go_num, rfl, fun k hk hkm => ?_, H2.out, HB3.out⟩, by simp [intOf]; omega⟩
        rcases Nat.lt_or_ge k m with q | q
        · have := List.pairwise_iff_getElem.1 HS.out k m hk hml q
          have := HX1.out
          omega
        · have : k = m := by omega
          subst this
          exact HX1.out
      · have dr : decide (r < 0) = false := decide_eq_false hr0
        have HX1 : Hid (t ≤ l[m].ix) := Lib.hid (by have := fun q => hr0 (hcm.2 q); omega)
        clear hcm hr0
        go_wp2_with ((with_reducible show wpList _ _ _ (⟨_, .load 38 (.tmp 27), _, _, _, _⟩ :: _) _ _); refine wpList_load_tx rfl 38 (.tmp 27) rfl g (m * 76) (rfl) C _ (HR.out) Try.underlying38 rfl (by rw [wait_info, HC76.out]) ?_)
        refine (FX.out _).mono ?_
        rintro _ w3 ⟨rfl, hb3⟩
        have HB3 := Lib.hid (two_below' HB.out hb3)
        clear hb3
        go_wp2_with fail
        refine ⟨⟨i, m, hmi, by omega, rfl, rfl, H1.out, fun k hk hkm => ?_, HB3.out⟩, by simp [intOf]; omega⟩
        rcases Nat.lt_or_ge m k with q | q
        · have := List.pairwise_iff_getElem.1 HS.out m k hml hk q
          have := HX1.out
          omega
        · have : k = m := by omega
          subst this
          exact HX1.out
    · have hij' : j = i := by omega
      have hlti : ¬ (i : Int) < (j : Int) := by omega
      have hp : i = Pl.pos l t := Pl.pos_at HS.out (by have := HN.out; omega) H1.out (fun k hk h => by have := H2.out k hk (by omega); omega)
      have hp' : i = p := hp.trans HPp.out
      have HP := Lib.hid hp
      subst hp'
      subst hij'
      clear hp hlt HPp
      by_cases hin : j < n
      · have hji : (j : Int) < (n : Int) := by omega
        have hj0 : (0 : Int) ≤ (j : Int) := by omega
        have hml : j < l.length := by have := HN.out; omega
        obtain ⟨g, rfl, hg, hat⟩ := HA.out (by intro e; rw [e] at hml; simp at hml)
        have hxm := List.getElem_mem hml
        have HX := Lib.hid (HL.out _ hxm)
        have HR : Hid (wr.rangeAt g (j * 76) l[j].cells) := Lib.hid (fun q u hu => (HB.out.cell (p := ⟨g, j * 76 + q, none⟩) hg).trans (hat j hml q u hu))
        have FX := Lib.hid (F1.out l[j] hxm)
        have HC76 := Lib.hid (Wt.cells_len HX.out)
        have hcm : (Pl.cmp l[j].ix t = 0) ↔ l[j].ix = t := Pl.cmp_zero
        obtain ⟨r, hr⟩ : ∃ r, Pl.cmp l[j].ix t = r := ⟨_, rfl⟩
        rw [hr] at FX hcm
        have hex : (r == 0) = b := by
          rw [← HBe.out, Bool.eq_iff_iff, beq_iff_eq, hcm, decide_eq_true_eq]
          refine ⟨fun q => ⟨_, hxm, q⟩, fun ⟨x, hx, hxt⟩ => ?_⟩
          obtain ⟨k, hk, rfl⟩ := List.getElem_of_mem hx
          have e := Pl.pos_has HS.out hk
          rw [hxt, ← HP.out] at e
          subst e
          exact hxt
        generalize l[j].cells = C at *
        clear hat hxm hr hcm
        have HEX := Lib.hid hex
        clear hex
        go_wp2_with ((with_reducible show wpList _ _ _ (⟨_, .load 38 (.tmp 43), _, _, _, _⟩ :: _) _ _); refine wpList_load_tx rfl 38 (.tmp 43) rfl g (j * 76) (rfl) C _ (HR.out) Try.underlying38 rfl (by rw [wait_info, HC76.out]) ?_)
        refine (FX.out _).mono ?_
        rintro _ w3 ⟨rfl, hb3⟩
        have HB3 := Lib.hid (two_below' HB.out hb3)
        clear hb3
        go_wp2_with fail
        go_ret2
        exact ⟨by rw [← HEX.out]; simp, HB3.out⟩
      · have hji : ¬ (j : Int) < (n : Int) := by omega
        have hex : b = false := by
          rw [← HBe.out, decide_eq_false_iff_not]
          rintro ⟨x, hx, hxt⟩
          obtain ⟨k, hk, rfl⟩ := List.getElem_of_mem hx
          have := H1.out k hk (by have := HN.out; omega)
          omega
        subst hex
        clear HBe
        go_wp2_with fail
        go_ret2
        exact ⟨rfl, HB.out⟩
theorem PAt.find (w : World) {base B size : Nat} {v : Value} {l : List Wt} (i : Int) (h : PAt 63 w base B v size l) :
    Calls Try.prog 28 #[.pointer (some ⟨B, 0, none⟩), .int .i64 i] w fun e w' => e = .returned (.tuple #[.int .i64 (Pl.pos l i), .bool (decide (∃ x ∈ l, x.ix = i))]) ∧ Below w.heap.size w w' := by
  obtain ⟨A, c, rfl, _, _⟩ := h.own.form
  have c1 := h.c1
  have SR := Lib.hid (search_any l h.wok h.ok.srt A c i w (h.own.lsAt (Wt.lens h.wok)) (by have := h.n256; omega))
  generalize l.length = n at *
  generalize Pl.pos l i = p at *
  generalize decide (∃ x ∈ l, x.ix = i) = b at *
  clear h
  go_enter Try.func28, Try.ntmps28
  go_wp2_with fail
  refine SR.out.mono ?_
  rintro _ w1 ⟨rfl, hb⟩
  have HB := Lib.hid hb
  clear hb
  go_wp2_with fail
  go_ret2
  exact ⟨rfl, HB.out⟩
end Go.Proofs.Ytoicpidiejhjeaa
