/- disk: Rename. -/
import Derived.Test.YtpphljdnnlfjhaaDoorDiskRem
namespace Go.Proofs.YtpphljdnnlfjhaaDoor
open Go.RowKit Go.Maps
set_option maxRecDepth 100000
set_option linter.unusedVariables false
set_option linter.unusedSimpArgs false

def renameR (l : List Fl) (r : Int) (a b : Fl.Nm) : List Fl × Int × Int :=
  if r = 0 then (l, r, 8) else match Fl.find l a with | none => (l, r, 34) | some f => if Disk.word b = true then (Fl.put (Fl.drop l a) ⟨b, f.b, f.safe⟩, oneR r, 0) else (l, r, 2)
theorem DiskTo.renamed {w w4 w5 w6 w7 : World} {B g M : Nat} {V : Fl.Nm → Value} {l : List Fl} {r r5 : Int} (hd : DiskIn w B g M V l r) {a : Fl.Nm} {f : Fl} {v : Value}
    (h12 : Chg (DiskOwn g M l V) w w4) (h45 : Below w4.heap.size w4 w5) (hv2 : ∀ k, v.ownBlock = some k → DiskOwn g M l V k) (h56 : w5.grownBy w6 (some M))
    (h7 : DiskIn w7 B g M (fun x => if x = f.name then v else V x) (Fl.put (Fl.drop l a) f) r5) (h67 : w6.grownBy w7 (some g)) : DiskTo w w7 B g M V l (Fl.put (Fl.drop l a) f) r5 := by
  refine ⟨_, h7, ?_, fun k hk => ?_⟩
  · refine ((h12.trans (Chg.of_below (S := DiskOwn g M l V) h45) (fun k h => .inl h)).trans (Chg.of_grown (S := DiskOwn g M l V) h56 (fun k e => by cases e; exact .inl (.inr (.inl rfl)))) (fun k h => .inl h)).trans (Chg.of_grown (S := DiskOwn g M l V) h67 (fun k e => by cases e; exact .inl (.inl rfl))) (fun k h => .inl h)
  · rcases DiskOwn.put (hd.sorted.drop a) hk with h | h
    · exact .inl h.dropped
    · exact .inl (hv2 k h)
theorem word_len {b : Fl.Nm} (h : Disk.word b = true) : b.length ≤ 16 := by
  unfold Disk.word at h
  simp at h
  omega
set_option maxRecDepth 20000 in
set_option maxHeartbeats 1600000 in
theorem rename_at9 {w : World} {B g M : Nat} {V : Fl.Nm → Value} {l : List Fl} {r : Int} (nm to : Fl.Nm) (hd : DiskIn w B g M V l r) (hn : nm.length ≤ maxLen) (ht : to.length ≤ 140737488351232) :
    Calls Tryd.prog 49 #[.pointer (some ⟨g, 0, none⟩), Sb nm, Sb to] w fun e w' => e = .returned (.int .i64 (renameR l r nm to).2.2) ∧ DiskTo w w' B g M V l (renameR l r nm to).1 (renameR l r nm to).2.1 := by
  have HF := Lib.hid (find9 nm hd hn)
  have HD := Lib.hid hd
  have HN := Lib.hid hn
  have hto : to.length ≤ maxLen := by unfold maxLen; omega
  have HT := Lib.hid hto
  obtain ⟨R, hR⟩ : ∃ R, R = renameR l r nm to := ⟨_, rfl⟩
  rw [← hR]
  unfold renameR at hR
  have HI : Hid (∀ w, Calls Tryd.prog 40 #[Sb to] w fun e w' => e = .returned (.bool (Disk.word to)) ∧ w = w') := Lib.hid fun w => isName_any ⟨to.toArray⟩ w (show to.toArray.size ≤ _ by simpa using ht)
  clear hd hn hto ht
  rcases codeR_cases l r nm with ⟨h0, hc⟩ | ⟨h0, hf, hc⟩ | ⟨h0, f, hf, hc, hbs, hsf, hfr⟩
  · rw [if_pos h0] at hR
    rw [hc] at HF
    have HR := Lib.hid hR
    generalize safeR l r nm = s at *
    clear h0 hR hc
    go_enter Tryd.func49, Tryd.ntmps49
    go_wp2_with fail
    refine HF.out.mono ?_
    rintro _ w1 ⟨A, n, c, rfl, hb, hx1, hx2, hx3⟩
    clear hx1 hx2 hx3
    have Hb := Lib.hid (hb.alloc hb.size (.cells #[.slice A n c, .int .i64 s] 75))
    clear hb
    go_wp2_with fail
    go_ret
    exact ⟨by rw [HR.out]; rfl, by rw [HR.out]; exact .same HD.out Hb.out⟩
  · rw [if_neg h0, hf] at hR
    rw [hc] at HF
    have HR := Lib.hid hR
    generalize safeR l r nm = s at *
    clear h0 hR hc hf
    go_enter Tryd.func49, Tryd.ntmps49
    go_wp2_with fail
    refine HF.out.mono ?_
    rintro _ w1 ⟨A, n, c, rfl, hb, hx1, hx2, hx3⟩
    clear hx1 hx2 hx3
    have Hb := Lib.hid (hb.alloc hb.size (.cells #[.slice A n c, .int .i64 s] 75))
    clear hb
    go_wp2_with fail
    go_ret
    exact ⟨by rw [HR.out]; rfl, by rw [HR.out]; exact .same HD.out Hb.out⟩
  · rw [if_neg h0, hf] at hR
    simp only at hR
    rw [hc] at HF
    by_cases hw : Disk.word to = true
    · rw [if_pos hw] at hR
      rw [hw] at HI
      have HR := Lib.hid hR
      have H0 := Lib.hid h0
      have Hf := Lib.hid hf
      have Hbs := Lib.hid hbs
      have Hsf := Lib.hid hsf
      have Hfr := Lib.hid (hfr V)
      have Hw := Lib.hid hw
      generalize safeR l r nm = s at *
      clear h0 hR hc hf hbs hsf hfr hw
      go_enter Tryd.func49, Tryd.ntmps49
      go_wp2_with fail
      refine HF.out.mono ?_
      rintro _ w1 ⟨A, n, c, rfl, hb, hnl, hown, hfr⟩
      obtain ⟨sk, hsk, hkk⟩ := HD.out.row
      obtain ⟨D, hD, hV⟩ := HD.out.map
      have hfv : V nm = .slice A n c := by have := Hfr.out; rw [hfr] at this; injection this with h1; exact h1.symm
      have hA := HD.out.own_apart Hf.out
      rw [hfv] at hA
      have hb2 := hb.alloc hb.size (.cells #[.slice A n c, .int .i64 s] 75)
      have hrow2 := Row.new w1 75 [.slice A n c, .int .i64 s]
      have c0 : (w1.alloc (.cells #[.slice A n c, .int .i64 s] 75)).cell? ⟨g, 0, none⟩ = some (.map (some M)) := (DkAt.box (hsk.below hb2)).1
      have hDk : (w1.alloc (.cells #[.slice A n c, .int .i64 s] 75)).ownsMap Tryd.prog 9 heldV M l.length D := hD.kept (grownBy_of_below hb2 none) (by simp)
      have hd2 := HD.out.below hb2
      have ho2 := hown.alloc (.cells #[.slice A n c, .int .i64 s] 75)
      rw [Hbs.out] at ho2
      have hMq : M ≠ w1.heap.size := by have := hD.lt; have := hb.size; omega
      have Hb2 := Lib.hid hb2
      have HDk := Lib.hid hDk
      have Hd2 := Lib.hid hd2
      have HV := Lib.hid hV
      have HA := Lib.hid hA
      have Ho2 := Lib.hid ho2
      have Hrow2 := Lib.hid hrow2
      have HMq := Lib.hid hMq
      clear hb hsk hkk hD hV hb2 hDk hd2 hfv hA hnl hown hfr ho2 hrow2 hMq
      go_wp2_with fail
      refine (HI.out _).mono ?_
      rintro _ w2 ⟨rfl, rfl⟩
      go_wp2_with (first
        | (at_delete; refine wpList_delete_own _ rfl _ _ 58 9 rfl 75 lawS Tryd.underlying58 _ M l.length D rfl HDk.out _ _ rfl (keyS nm HN.out) ?_
           intro w4 hown4 hturn
           have hg4 := hturn.grown
           have Hd4 := Lib.hid (Hd2.out.dropped HV.out hown4 hg4)
           have Hown4 := Lib.hid hown4
           have hrow4 := Hrow2.out.kept hg4 (by simpa using fun e => HMq.out e.symm)
           have c0 : w4.cell? ⟨g, 0, none⟩ = some (.map (some M)) := by obtain ⟨sk, hsk, _⟩ := Hd4.out.row; exact (DkAt.box hsk).1
           have d0 := hrow4.cell 0 (by simp)
           have d1 := hrow4.cell 1 (by simp)
           simp only [List.getElem_cons_zero, List.getElem_cons_succ] at d0 d1
           have Ho4 := Lib.hid (Ho2.out.kept hg4 (.inr (fun e => own_not_map Ho2.out HDk.out e.symm)))
           have Hg4 := Lib.hid hg4
           clear hown4 hturn hg4 hrow4
           go_frame)
        | fail)
      refine region_named 6 (by kernel_rfl) (by kernel_rfl) ?_
      intro w5 hw5
      have hb5 : Below w4.heap.size w4 w5 := by rw [hw5]; exact (Below.refl _ _).drew
      have hm5 : w5.ownsMap Tryd.prog 9 heldV M l.length (D.del (KS nm)) := by rw [hw5]; exact Hown4.out.kept (grownBy_drew _ none) (by simp)
      have c0 := (cell_drew hw5 g 0).trans c0
      have d0 := (cell_drew hw5 w1.heap.size 0).trans d0
      have d1 := (cell_drew hw5 w1.heap.size 1).trans d1
      have Hb5 := Lib.hid hb5
      have Hm5 := Lib.hid hm5
      clear hw5 hb5 hm5
      have hll : l.length < maxLen := by have := HD.out.len; unfold maxLen; omega
      have hstore : ∀ w6 : World, w6.ownsMap Tryd.prog 9 heldV M (l.length + 1) ((D.del (KS nm)).put (KS to) (.held (Fv (.slice A n c) s))) → w5.grownBy w6 (some M) → DiskIn w6 B g M (fun x => if x = to then .slice A n c else V x) (Fl.put (Fl.drop l nm) ⟨to, f.b, f.safe⟩) r := by
        intro w6 hm6 hg6
        have hok := HD.out.ok f (Fl.find_mem Hf.out)
        rw [Hsf.out] at hm6
        have ho5 := Ho4.out.kept (grownBy_of_below Hb5.out none) (by cases A <;> simp [Value.ownBlock])
        refine Hd4.out.stored (f := ⟨to, f.b, f.safe⟩) (Chg.of_below (S := fun _ => False) Hb5.out) (fun k h => h.elim) ho5 (fun k h x hx _ => (HA.out k h).1.2.2 x (Fl.mem_drop.1 hx).1 (Fl.mem_drop.1 hx).2) (HV.out.del nm) hm6 hg6 ?_ ⟨hok.1, hok.2.1, hok.2.2.1, word_len Hw.out⟩
        have h1 := Fl.length_put _ (HD.out.sorted.drop nm) ⟨to, f.b, f.safe⟩
        have h2 := Fl.length_drop_of_mem HD.out.sorted (nm := nm) (by rw [Hf.out]; rfl)
        have h3 := HD.out.len
        rw [h1]
        split <;> omega
      simp only [List.take_succ_cons, List.take_zero, List.drop_succ_cons, List.drop_zero]
      repeat still_step
      refine wpStill_nil ?_
      go_wp2_with (first
        | (at_mapUpdate; refine wpList_mapUpdate_own _ rfl _ _ _ 58 rfl 9 75 lawS Tryd.underlying58 _ M l.length _ rfl Hm5.out hll _ _ _ rfl rfl (keyS to HT.out) _ [] (heldV_eq _) ?_; intro w6 hown6 hg6
           have hd6 := hstore w6 hown6 hg6
           have Hg6 := Lib.hid hg6
           have Hd6 := Lib.hid hd6
           clear hown6 hg6 hd6)
        | fail)
      refine (done9 Hd6.out H0.out).mono ?_
      rintro _ w7 ⟨rfl, hd7, hg7⟩
      have Hd7 := Lib.hid hd7
      have Hg7 := Lib.hid hg7
      clear hd7 hg7
      go_wp2_with fail
      go_ret
      refine ⟨by rw [HR.out]; rfl, by rw [HR.out]; exact .renamed HD.out ((Chg.of_below Hb2.out).trans (Chg.of_grown (S := DiskOwn g M l V) Hg4.out (fun k e => by cases e; exact .inl (.inr (.inl rfl)))) (fun k h => .inl h)) Hb5.out (fun k h => (HA.out k h).2) Hg6.out Hd7.out Hg7.out⟩
    · rw [if_neg hw] at hR
      rw [Bool.not_eq_true] at hw
      rw [hw] at HI
      have HR := Lib.hid hR
      generalize safeR l r nm = s at *
      clear h0 hR hc hf hbs hsf hfr hw
      go_enter Tryd.func49, Tryd.ntmps49
      go_wp2_with fail
      refine HF.out.mono ?_
      rintro _ w1 ⟨A, n, c, rfl, hb, hx1, hx2, hx3⟩
      clear hx1 hx2 hx3
      have Hb := Lib.hid (hb.alloc hb.size (.cells #[.slice A n c, .int .i64 s] 75))
      clear hb
      go_wp2_with fail
      refine (HI.out _).mono ?_
      rintro _ w2 ⟨rfl, rfl⟩
      go_wp2_with fail
      go_ret
      exact ⟨by rw [HR.out]; rfl, by rw [HR.out]; exact .same HD.out Hb.out⟩
end Go.Proofs.YtpphljdnnlfjhaaDoor
