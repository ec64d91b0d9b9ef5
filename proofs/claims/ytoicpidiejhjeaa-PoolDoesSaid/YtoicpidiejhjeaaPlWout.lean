/- The reference's without: all but one. -/
import Derived.Test.YtoicpidiejhjeaaPlWaits
namespace Go.Proofs.Ytoicpidiejhjeaa
open Go.RowKit
set_option linter.unusedVariables false
set_option linter.unusedSimpArgs false
set_option maxRecDepth 100000

/-- all but those of an index -/
def Pl.wout (l : List Wt) (i : Int) : List Wt := l.filter (fun x => x.ix != i)
theorem Pl.wout_len (l : List Wt) (i : Int) : (Pl.wout l i).length ≤ l.length := List.length_filter_le _ _
theorem Pl.wout_take (l : List Wt) (i : Int) (k : Nat) (hk : k < l.length) : Pl.wout (l.take (k + 1)) i = Pl.wout (l.take k) i ++ (if l[k].ix != i then [l[k]] else []) := by
  unfold Pl.wout
  rw [List.take_succ_eq_append_getElem hk, List.filter_append]
  congr 1
  rw [List.filter_cons, List.filter_nil]
/-- in a list that rises: just one is left out -/
theorem Pl.wout_erase {l : List Wt} (h : Pl.Srt l) (q : Nat) (hq : q < l.length) : Pl.wout l l[q].ix = l.eraseIdx q := by
  have e : l = l.take q ++ l[q] :: l.drop (q + 1) := by rw [← List.drop_eq_getElem_cons hq, List.take_append_drop]
  have hp := List.pairwise_iff_getElem.1 h
  rw [List.eraseIdx_eq_take_drop_succ]
  unfold Pl.wout
  have e2 : l.filter (fun x => x.ix != l[q].ix) = (l.take q ++ l[q] :: l.drop (q + 1)).filter (fun x => x.ix != l[q].ix) := by rw [← e]
  rw [e2, List.filter_append, List.filter_cons]
  have h1 : (l.take q).filter (fun x => x.ix != l[q].ix) = l.take q := by
    rw [List.filter_eq_self]
    intro x hx
    obtain ⟨j, hj, rfl⟩ := List.mem_iff_getElem.1 hx
    rw [List.length_take] at hj
    rw [List.getElem_take]
    have := hp j q (by omega) hq (by omega)
    simp
    omega
  have h2 : (l.drop (q + 1)).filter (fun x => x.ix != l[q].ix) = l.drop (q + 1) := by
    rw [List.filter_eq_self]
    intro x hx
    obtain ⟨j, hj, rfl⟩ := List.mem_iff_getElem.1 hx
    rw [List.length_drop] at hj
    rw [List.getElem_drop]
    have := hp q (q + 1 + j) hq (by omega) (by omega)
    simp
    omega
  rw [h1, h2]
  simp
set_option maxHeartbeats 3200000 in
theorem without_any (A : Option Addr) (c : Nat) (l : List Wt) (i : Int) (w : World) (hin : SlW w w.heap.size A c l) (h256 : l.length ≤ 256) : Calls Try.prog 32 #[.slice A l.length c, .int .i64 i] w fun e w' => ∃ u, e = .returned u ∧ OwnL w' w.heap.size 38 76 Wt.cells u (Pl.wout l i) ∧ Below w.heap.size w w' := by
  have HIn := Lib.hid hin
  have HO := Lib.hid (Pl.wout_take l i)
  obtain ⟨n, hn⟩ : ∃ n, l.length = n := ⟨_, rfl⟩
  rw [hn] at h256 ⊢
  have HN := Lib.hid hn
  clear hin hn
  go_enter Try.func32, Try.ntmps32
  go_wp2_with fail
  go_loopw [5, 6] (fun s5 s6 wr => ∃ k : Nat, k ≤ n ∧ s6 = .int .i64 k ∧ Below w.heap.size w wr ∧ OwnL wr w.heap.size 38 76 Wt.cells s5 (Pl.wout (l.take k) i)) (fun _ i _ => n - (intOf i).toNat)
  case atStart => exact ⟨0, Nat.zero_le _, rfl, Below.refl _ _, OwnL.nil _ _ _ _ _⟩
  case round =>
    obtain ⟨k, hk, rfl, hb, ho⟩ := hrel
    have HB := Lib.hid hb
    have HOw := Lib.hid ho
    clear hb ho
    have hk0 : (0 : Int) ≤ (k : Int) := by omega
    by_cases hkn : k < n
    · have hki : (k : Int) < (n : Int) := by omega
      have hkl : k < l.length := by have := HN.out; omega
      obtain ⟨g, rfl, hg, hat⟩ := HIn.out.1 (by intro e; rw [e] at hkl; simp at hkl)
      have xk := HIn.out.2.2.2.2 _ (List.getElem_mem hkl)
      have HR : Hid (wr.rangeAt g (k * 76) l[k].cells) := Lib.hid (fun r u hu => (HB.out.cell (p := ⟨g, k * 76 + r, none⟩) hg).trans (hat k hkl r u hu))
      have d4 : wr.cell? ⟨g, k * 76 + 72, none⟩ = some (.int .i64 l[k].ix) := (WBox.of xk HR.out).2.2.2.1
      have hks := HO.out k hkl
      have HL1 : Hid ((Pl.wout (l.take k) i).length ≤ 100000) := Lib.hid (Nat.le_trans (Pl.wout_len _ _) (by rw [List.length_take]; omega))
      obtain ⟨X, hX⟩ : ∃ X, l[k] = X := ⟨_, rfl⟩
      rw [hX] at xk HR d4 hks
      have HX := Lib.hid xk
      have HC76 := Lib.hid (Wt.cells_len xk)
      obtain ⟨C, hC⟩ : ∃ C, X.cells = C := ⟨_, rfl⟩
      rw [hC] at HR HC76
      have HCx := Lib.hid hC
      obtain ⟨xi, hxi⟩ : ∃ xi, X.ix = xi := ⟨_, rfl⟩
      rw [hxi] at d4 hks
      clear hg hat xk hX hC hxi hkl
      by_cases he : xi = i
      · have dn : (xi != i) = false := by simpa using he
        rw [dn, if_neg (by decide), List.append_nil] at hks
        have HKS := Lib.hid hks
        clear hks he
        go_wp2_with fail
        exact ⟨⟨k + 1, by omega, by go_num, HB.out, by rw [HKS.out]; exact HOw.out⟩, by simp [intOf]; omega⟩
      · have dn : (xi != i) = true := by simpa using he
        rw [dn, if_pos rfl] at hks
        have HKS := Lib.hid hks
        clear hks he
        go_wp2_with (first
        | ((with_reducible show wpList _ _ _ (⟨_, .load 38 (.tmp 23), _, _, _, _⟩ :: _) _ _); refine wpList_load_tx rfl 38 (.tmp 23) rfl g (k * 76) (by first | rfl | simp) C _ (HR.out) Try.underlying38 rfl (by rw [wait_info, HC76.out]) ?_)
        | ((with_reducible show wpList _ _ _ (⟨some 25, .buildSlice 30 _ _, _, _, _, _⟩ :: _) _ _)
           refine wpList_push rfl rfl (.tmp 24) 25 (.tmp 20) rfl rfl rfl (X) (HX.out) C (HCx.out) rfl (w.heap.size) _ _ (HOw.out) (HB.out.size) (HL1.out) rfl rfl ?_
           intro v9 w9 ho9 hc9 hk9
           have HO9 := Lib.hid ho9
           have HB9 := Lib.hid (below_chg HB.out hc9 HB.out.size (fun k hk => (HOw.out.own.lt k hk).1))
           clear ho9 hc9 hk9))
        exact ⟨⟨k + 1, by omega, by go_num, HB9.out, by rw [HKS.out]; exact HO9.out⟩, by simp [intOf]; omega⟩
    · have hki : ¬ (k : Int) < (n : Int) := by omega
      have hke : l.take k = l := List.take_of_length_le (by have := HN.out; omega)
      rw [hke] at HOw
      clear hke
      go_wp2_with fail
      go_ret
      exact ⟨_, rfl, HOw.out, HB.out⟩
end Go.Proofs.Ytoicpidiejhjeaa
