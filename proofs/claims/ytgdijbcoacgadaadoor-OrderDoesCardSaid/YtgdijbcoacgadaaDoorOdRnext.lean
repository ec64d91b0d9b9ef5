/- The reference's Next. -/
import Derived.Test.YtgdijbcoacgadaaDoorOdRtake
import Derived.Test.YtgdijbcoacgadaaDoorOrRread
namespace Go.Proofs.YtgdijbcoacgadaaDoor
open Go.RowKit
set_option linter.unusedVariables false
set_option linter.unusedSimpArgs false
set_option maxRecDepth 100000

theorem Od.cnt_take {rs : List Rp} {k : Nat} (h : k < rs.length) (who : Int) : Od.cnt (rs.take (k + 1)) who = Od.cnt (rs.take k) who + if Od.by_ rs[k] = who then 1 else 0 := by
  rw [← List.take_append_getElem h, Od.cnt_push]
set_option maxHeartbeats 6400000 in
theorem rnext19_any (rs : List Rp) (A : Option Addr) (c : Nat) (who : Int) (hw : 0 ≤ who) (w : World) (h : SlR w w.heap.size A c rs) :
    Calls Tryd.prog 15 #[.slice A rs.length c, .int .i64 who] w fun e w' => e = .returned (.int .i64 (Od.cnt rs who)) ∧ Below w.heap.size w w' := by
  have H1 := Lib.hid h
  have hl6 : rs.length ≤ 1000000 := h.2.2.2.1
  have hzx : ∀ W : World, (zeroValue 50).run Tryd.prog W = .ok (.agg Tx.none.cells.toArray) W := tx_zv
  have HX72 := Lib.hid (Tx.cells_length Tx.none_ok)
  have HX1 := Lib.hid (Tx.cells_one Tx.none_ok)
  obtain ⟨ZX, hZX⟩ : ∃ ZX, Tx.none.cells = ZX := ⟨_, rfl⟩
  rw [hZX] at hzx HX72 HX1
  have HZX := Lib.hid hZX
  obtain ⟨n, hn⟩ : ∃ n, rs.length = n := ⟨_, rfl⟩
  rw [hn] at hl6 ⊢
  have HN := Lib.hid hn
  clear h hn hZX
  go_enter Tryd.func15, Tryd.ntmps15
  go_wp2_with fail
  go_loopw [5, 6] (fun s5 s6 wr => ∃ k : Nat, k ≤ n ∧ s5 = .int .i64 (Od.cnt (rs.take k) who) ∧ s6 = .int .i64 k ∧ Below w.heap.size w wr) (fun _ i _ => n - (intOf i).toNat)
  case atStart => exact ⟨0, Nat.zero_le _, rfl, rfl, Below.refl _ _⟩
  case round =>
    obtain ⟨k, hk, rfl, rfl, hb⟩ := hrel
    have HB := Lib.hid hb
    clear hb
    have hk0 : (0 : Int) ≤ (k : Int) := by omega
    by_cases hkn : k < n
    · have hki : (k : Int) < (n : Int) := by omega
      have hkl : k < rs.length := by rw [HN.out]; exact hkn
      obtain ⟨g, off, rfl, hg, hat⟩ := H1.out.1 (by intro e; rw [e] at hkl; simp at hkl)
      have hf := H1.out.2.2.2.2 _ (List.getElem_mem hkl)
      have hrg : ∀ W, Below w.heap.size w W → W.rangeAt g (off + k * 68) rs[k].cells := fun W hW q u hu => (hW.cell (p := ⟨g, off + k * 68 + q, none⟩) hg).trans (hat k hkl q u hu)
      have c1 := (Rp.at hf.prev (hrg wr HB.out)).2.1
      have c3 := (Rp.at hf.prev (hrg wr HB.out)).2.2.2.1
      have hnx := Od.cnt_take hkl who
      have hcl : Od.cnt (rs.take k) who ≤ 1000000 := by have := Od.cnt_le (rs.take k) who; rw [List.length_take] at this; omega
      have HF := Lib.hid hf.body
      generalize rs[k] = r at *
      clear hf hat hrg hkl
      by_cases h1 : r.kind = 1
      · have d1 : decide (r.kind = 1) = true := decide_eq_true h1
        have d1b : (r.kind == 1) = true := by simpa using h1
        have RD := Lib.hid (rread19_any r.body wr HF.out)
        cases hr : Tx.read r.body.data.toList with
        | none =>
          have hby : Od.by_ r = -1 := by unfold Od.by_ Od.whose; rw [if_pos h1, hr]
          rw [hby, if_neg (by omega)] at hnx
          rw [hr] at RD
          have HNx := Lib.hid hnx
          clear hnx hby hr
          rw [h1] at c1
          clear h1 d1 d1b
          go_wp2_with fail
          refine RD.out.mono ?_
          rintro _ w2 ⟨⟨en, hen, rfl⟩, hb2⟩
          have HB2 := Lib.hid (two_below' HB.out hb2)
          have den : decide (en = 0) = false := decide_eq_false (by simpa using hen)
          have denb : (en == 0) = false := by simpa using hen
          rw [show Tx.pairV (Tx.none, en) = .tuple #[.agg ZX.toArray, .int .i64 en] by rw [← HZX.out]; rfl]
          clear hb2 hen RD
          go_wp2_with (first
            | (
               with_reducible show wpList _ _ _ (⟨_, .store 50 (.tmp 7) _, _, _, _, _⟩ :: _) _ _
               refine wpList_store_at rfl 50 (.tmp 7) (.tmp 28) rfl w2.heap.size 0 ZX ZX _ rfl rfl (Row.new w2 50 ZX) (by have := HX72.out; have := HX72.out; omega) (by rw [tx_info, HX72.out]) HX1.out ?_
               intro w3 hr hg
               rw [splice_all (HX72.out.trans HX72.out.symm)] at hr
               have hbx := below_own ((Below.refl w2.heap.size w2).alloc (Nat.le_refl _) (.cells ZX.toArray 50)) hg (fun k hk => by cases hk; exact Nat.le_refl _)
               have HB3 := Lib.hid (two_below' HB2.out hbx)
               skip
               clear hbx
               clear hr hg))
          exact ⟨⟨k + 1, by omega, by rw [HNx.out]; rfl, by go_num, HB3.out⟩, by simp [intOf]; omega⟩
        | some t =>
          have hby : Od.by_ r = t.frm := by unfold Od.by_ Od.whose; rw [if_pos h1, hr]
          rw [hby] at hnx
          rw [hr] at RD
          have htk := (Tx.read_err hr).1
          have HT72 := Lib.hid (Tx.cells_length htk)
          have HT1 := Lib.hid (Tx.cells_one htk)
          have HT0 : Hid (∀ {g : Nat} (W : World), Row W g 50 t.cells → W.cell? ⟨g, 0, none⟩ = some (.int .i64 t.frm)) := Lib.hid (fun W h => by have := tx_range h 0 (.int .i64 t.frm) rfl; exact this)
          have HRD : Hid (Calls Tryd.prog 24 #[.string r.body] wr fun e w' => e = .returned (.tuple #[.agg t.cells.toArray, .int .i64 0]) ∧ Below wr.heap.size wr w') := RD
          have ew : IntKind.i64.wrap ((Od.cnt (rs.take k) who : Nat) + 1 : Int) = ((Od.cnt (rs.take k) who : Nat) : Int) + 1 := IntWalk.i64_in _ (by omega)
          generalize t.cells = CT at *
          generalize t.frm = tf at *
          clear hby hr htk RD
          rw [h1] at c1
          clear h1 d1 d1b
          by_cases hq : tf = who
          · rw [if_pos hq] at hnx
            have HNx := Lib.hid hnx
            have dq : decide (tf = who) = true := decide_eq_true hq
            have dqb : (tf == who) = true := by simpa using hq
            clear hnx
            go_wp2_with fail
            refine HRD.out.mono ?_
            rintro _ w2 ⟨rfl, hb2⟩
            have HB2 := Lib.hid (two_below' HB.out hb2)
            clear hb2 HRD
            go_wp2_with (first
              | (
                 with_reducible show wpList _ _ _ (⟨_, .store 50 (.tmp 7) _, _, _, _, _⟩ :: _) _ _
                 refine wpList_store_at rfl 50 (.tmp 7) (.tmp 28) rfl w2.heap.size 0 CT ZX _ rfl rfl (Row.new w2 50 ZX) (by have := HX72.out; have := HT72.out; omega) (by rw [tx_info, HT72.out]) HT1.out ?_
                 intro w3 hr hg
                 rw [splice_all (HT72.out.trans HX72.out.symm)] at hr
                 have hbx := below_own ((Below.refl w2.heap.size w2).alloc (Nat.le_refl _) (.cells ZX.toArray 50)) hg (fun k hk => by cases hk; exact Nat.le_refl _)
                 have HB3 := Lib.hid (two_below' HB2.out hbx)
                 have c0 := HT0.out _ hr
                 clear hbx
                 clear hr hg))
            exact ⟨⟨k + 1, by omega, by rw [HNx.out]; first | rfl | go_num | simp, by go_num, HB3.out⟩, by simp [intOf]; omega⟩
          · rw [if_neg hq] at hnx
            have HNx := Lib.hid hnx
            have dq : decide (tf = who) = false := decide_eq_false hq
            have dqb : (tf == who) = false := by simpa using hq
            clear hnx
            go_wp2_with fail
            refine HRD.out.mono ?_
            rintro _ w2 ⟨rfl, hb2⟩
            have HB2 := Lib.hid (two_below' HB.out hb2)
            clear hb2 HRD
            go_wp2_with (first
              | (
                 with_reducible show wpList _ _ _ (⟨_, .store 50 (.tmp 7) _, _, _, _, _⟩ :: _) _ _
                 refine wpList_store_at rfl 50 (.tmp 7) (.tmp 28) rfl w2.heap.size 0 CT ZX _ rfl rfl (Row.new w2 50 ZX) (by have := HX72.out; have := HT72.out; omega) (by rw [tx_info, HT72.out]) HT1.out ?_
                 intro w3 hr hg
                 rw [splice_all (HT72.out.trans HX72.out.symm)] at hr
                 have hbx := below_own ((Below.refl w2.heap.size w2).alloc (Nat.le_refl _) (.cells ZX.toArray 50)) hg (fun k hk => by cases hk; exact Nat.le_refl _)
                 have HB3 := Lib.hid (two_below' HB2.out hbx)
                 have c0 := HT0.out _ hr
                 clear hbx
                 clear hr hg))
            exact ⟨⟨k + 1, by omega, by rw [HNx.out]; rfl, by go_num, HB3.out⟩, by simp [intOf]; omega⟩
      · have d1 : decide (r.kind = 1) = false := decide_eq_false h1
        have d1b : (r.kind == 1) = false := by simpa using h1
        have d1p : (r.kind = 1) = False := by simpa using h1
        have hby : Od.by_ r = -1 := by unfold Od.by_ Od.whose; rw [if_neg h1]
        rw [hby, if_neg (by omega)] at hnx
        have HNx := Lib.hid hnx
        clear hnx hby h1
        go_wp2_with fail
        exact ⟨⟨k + 1, by omega, by rw [HNx.out]; rfl, by go_num, HB.out⟩, by simp [intOf]; omega⟩
    · have hki : ¬ (k : Int) < (n : Int) := by omega
      have hri : rs.take k = rs := List.take_of_length_le (by rw [HN.out]; omega)
      rw [hri]
      clear hri
      go_wp2_with fail
      go_ret
      exact ⟨rfl, HB.out⟩
end Go.Proofs.YtgdijbcoacgadaaDoor
