/- poorest: the place of the least Fee. -/
import Derived.Test.YtoicpidiejhjeaaPlMem
namespace Go.Proofs.Ytoicpidiejhjeaa
open Go.RowKit
set_option linter.unusedVariables false
set_option linter.unusedSimpArgs false
set_option maxRecDepth 100000

set_option maxHeartbeats 3200000 in
theorem PAt.poorest {w : World} {base B size : Nat} {v : Value} {l : List Wt} (h : PAt 63 w base B v size l) :
    Calls Try.prog 26 #[.pointer (some ⟨B, 0, none⟩)] w fun e w' => e = .returned (.int .i64 (Pl.poor l l.length)) ∧ Below w.heap.size w w' := by
  obtain ⟨A, c, rfl, _, _⟩ := h.own.form
  have HA := Lib.hid (h.own.lsAt (Wt.lens h.wok))
  have HH := Lib.hid h
  have HW := Lib.hid h.wok
  have hn256 := h.n256
  have HP0 : Hid (Pl.poor l 0 = 0) := Lib.hid rfl
  have HPs : Hid (∀ k, Pl.poor l (k + 1) = if (Pl.g l k).tx.fee ≤ (Pl.g l (Pl.poor l k)).tx.fee then k else Pl.poor l k) := Lib.hid (fun k => rfl)
  have HPl := Lib.hid (Pl.poor_lt l)
  have HG := Lib.hid (fun k hk => @Pl.g_eq l k hk)
  have HZ76 := Lib.hid (Wt.cells_len Wt.none_ok)
  have hzv := wait_zv
  have hcell1 : Hid (∀ W, Below w.heap.size w W → W.cell? ⟨B, 1, none⟩ = some (.slice A l.length c)) := Lib.hid (fun W hW => (h.below hW).c1)
  generalize Wt.none.cells = ZT at *
  obtain ⟨n, hn⟩ : ∃ n, n = l.length := ⟨_, rfl⟩
  rw [← hn] at hn256 hcell1 ⊢
  have HN := Lib.hid hn
  have c1 := hcell1.out w (Below.refl _ _)
  clear hn h
  generalize Pl.poor l = P at *
  generalize Pl.g l = G at *
  go_enter Try.func26, Try.ntmps26
  go_wp2_with fail
  clear c1
  go_loopw [3, 11] (fun s3 si wr => ∃ k : Nat, k ≤ n ∧ s3 = .int .i64 (P k) ∧ si = .int .i64 k ∧ Below w.heap.size w wr) (fun _ i _ => n - (intOf i).toNat)
  case atStart => exact ⟨0, Nat.zero_le _, (by rw [HP0.out]; rfl), rfl, Below.refl _ _⟩
  case round =>
    obtain ⟨k, hk, rfl, rfl, hb⟩ := hrel
    have HB := Lib.hid hb
    clear hb
    by_cases hkn : k < n
    · have hki : (k : Int) < (n : Int) := by omega
      have hk0 : (0 : Int) ≤ (k : Int) := by omega
      have hkl : k < l.length := by have := HN.out; omega
      obtain ⟨g, rfl, hg, hat⟩ := HA.out (by intro e; rw [e] at hkl; simp at hkl)
      have hpk : P k < l.length := by
        rcases Nat.eq_zero_or_pos k with q | q
        · rw [q, HP0.out]; omega
        · have := HPl.out k q; omega
      have hpn : P k < n := by have := HN.out; omega
      have HX := Lib.hid (HW.out _ (List.getElem_mem hkl))
      have HY := Lib.hid (HW.out _ (List.getElem_mem hpk))
      have HC76 := Lib.hid (Wt.cells_len HX.out)
      have HC1 := Lib.hid (Wt.cells_one HX.out)
      have HR : Hid (wr.rangeAt g (k * 76) l[k].cells) := Lib.hid (fun q u hu => (HB.out.cell (p := ⟨g, k * 76 + q, none⟩) hg).trans (hat k hkl q u hu))
      have HFee : Hid (∀ W, Below w.heap.size w W → W.cell? ⟨g, P k * 76 + 2, none⟩ = some (.int .i64 l[P k].tx.fee)) := Lib.hid (fun W hW => (hW.cell (p := ⟨g, P k * 76 + 2, none⟩) hg).trans (WBox.of HY.out (hat _ hpk)).2.2.1)
      have HBx := Lib.hid (fun W b (hr : Row W b 38 l[k].cells) => (WBox.row HX.out hr).2.2.1)
      have hps := HPs.out k
      rw [HG.out k hkl, HG.out _ hpk] at hps
      generalize l[k].tx.fee = f1 at *
      generalize l[P k].tx.fee = f2 at *
      have HPS := Lib.hid hps
      generalize l[k].cells = C at *
      obtain ⟨p, hp⟩ : ∃ p, P k = p := ⟨_, rfl⟩
      rw [hp] at HFee HPS hpn ⊢
      have hpi : (p : Int) < (n : Int) := by omega
      have hp0 : (0 : Int) ≤ (p : Int) := by omega
      clear hat hps hp hpk HX HY
      go_wp2_with (first
        | ((with_reducible show wpList _ _ _ (⟨_, .load 38 (.tmp 14), _, _, _, _⟩ :: _) _ _); refine wpList_load_tx rfl 38 (.tmp 14) rfl g (k * 76) (rfl) C _ (HR.out) Try.underlying38 rfl (by rw [wait_info, HC76.out]) ?_)
        | (
           with_reducible show wpList _ _ _ (⟨_, .store 38 (.tmp 5) _, _, _, _, _⟩ :: _) _ _
           refine wpList_store_at rfl 38 (.tmp 5) (.tmp 15) rfl wr.heap.size 0 C ZT _ rfl rfl (Row.new wr 38 ZT) (by have := HZ76.out; have := HC76.out; omega) (by rw [wait_info, HC76.out]) HC1.out ?_
           intro w4 hr hg
           rw [splice_all (HC76.out.trans HZ76.out.symm)] at hr
           have HB4 := Lib.hid (below_own (two_below' HB.out ((Below.refl _ _).alloc (Nat.le_refl _) _)) hg (fun k hk => by cases hk; exact HB.out.size))
           have HR4 := Lib.hid hr
           clear hr hg))
      have HC4 : Hid (∀ W, Below w4.heap.size w4 W → W.cell? ⟨wr.heap.size, 2, none⟩ = some (.int .i64 f1) ∧ W.cell? ⟨B, 1, none⟩ = some (.slice (some ⟨g, 0, none⟩) n c) ∧ W.cell? ⟨g, p * 76 + 2, none⟩ = some (.int .i64 f2)) := Lib.hid (fun W hW => ⟨HBx.out _ _ (HR4.out.below hW), hcell1.out _ (two_below' HB4.out hW), HFee.out _ (two_below' HB4.out hW)⟩)
      generalize wr.heap.size = gb at *
      obtain ⟨d1, d2, d3⟩ := HC4.out w4 (Below.refl _ _)
      by_cases hf : f1 ≤ f2
      · have df : decide (f1 ≤ f2) = true := decide_eq_true hf
        have hP : P (k + 1) = k := by rw [HPS.out, if_pos hf]
        have HP1 := Lib.hid hP
        clear hf hP
        go_quiet (fail)
        clear d1 d2 d3
        go_wp2_with fail
        exact ⟨⟨k + 1, by omega, by rw [HP1.out], by go_num, two_below' HB4.out (below_drewN' (Below.refl _ _) _)⟩, by simp [intOf]; omega⟩
      · have df : decide (f1 ≤ f2) = false := decide_eq_false hf
        have hP : P (k + 1) = p := by rw [HPS.out, if_neg hf]
        have HP1 := Lib.hid hP
        clear hf hP
        go_quiet (fail)
        clear d1 d2 d3
        go_wp2_with fail
        exact ⟨⟨k + 1, by omega, by rw [HP1.out], by go_num, two_below' HB4.out (below_drewN' (Below.refl _ _) _)⟩, by simp [intOf]; omega⟩
    · have hki : ¬ (k : Int) < (n : Int) := by omega
      have hkn' : k = n := by omega
      subst hkn'
      clear hkn
      go_wp2_with fail
      go_ret
      exact ⟨rfl, HB.out⟩
end Go.Proofs.Ytoicpidiejhjeaa
