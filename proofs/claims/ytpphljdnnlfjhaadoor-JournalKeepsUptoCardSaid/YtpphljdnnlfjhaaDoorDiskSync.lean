/- disk: Sync, Remove. -/
import Derived.Test.YtpphljdnnlfjhaaDoorDiskPut
namespace Go.Proofs.YtpphljdnnlfjhaaDoor
open Go.RowKit Go.Maps
set_option maxRecDepth 100000
set_option linter.unusedVariables false
set_option linter.unusedSimpArgs false

theorem heldV_eq (v : Value) : heldV v = some (.held v, []) := rfl
/-- the disk is then so -/
def DiskTo (w w' : World) (B g M : Nat) (V : Fl.Nm → Value) (l l' : List Fl) (r' : Int) : Prop :=
  ∃ V', DiskIn w' B g M V' l' r' ∧ Chg (DiskOwn g M l V) w w' ∧ ∀ k, DiskOwn g M l' V' k → DiskOwn g M l V k ∨ w.heap.size ≤ k
theorem DiskTo.same {w w' : World} {B g M : Nat} {V : Fl.Nm → Value} {l : List Fl} {r : Int} (hd : DiskIn w B g M V l r) (hb : Below w.heap.size w w') : DiskTo w w' B g M V l l r :=
  ⟨V, hd.kept (Chg.of_below (S := fun _ => False) hb) (fun _ _ h => h), Chg.of_below hb, fun _ h => .inl h⟩
theorem DiskIn.below {w w' : World} {B g M : Nat} {V : Fl.Nm → Value} {l : List Fl} {r : Int} (hd : DiskIn w B g M V l r) (hb : Below w.heap.size w w') : DiskIn w' B g M V l r :=
  hd.kept (Chg.of_below (S := fun _ => False) hb) (fun _ _ h => h)
/-- behind a store and a counted operation -/
theorem DiskTo.stored {w w3 w4 w5 : World} {B g M : Nat} {V : Fl.Nm → Value} {l : List Fl} {r r5 : Int} (hd : DiskIn w B g M V l r) {f : Fl} {v : Value} {T : Nat → Prop}
    (h12 : Chg T w w3) (hT2 : ∀ k, T k → DiskOwn g M l V k) (hv2 : ∀ k, v.ownBlock = some k → DiskOwn g M l V k ∨ w.heap.size ≤ k) (h23 : w3.grownBy w4 (some M))
    (h5 : DiskIn w5 B g M (fun x => if x = f.name then v else V x) (Fl.put l f) r5) (h45 : w4.grownBy w5 (some g)) : DiskTo w w5 B g M V l (Fl.put l f) r5 := by
  refine ⟨_, h5, ?_, fun k hk => ?_⟩
  · refine ((h12.mono hT2).trans (Chg.of_grown (S := DiskOwn g M l V) h23 (fun k e => by cases e; exact .inl (.inr (.inl rfl)))) (fun k h => .inl h)).trans (Chg.of_grown (S := DiskOwn g M l V) h45 (fun k e => by cases e; exact .inl (.inl rfl))) (fun k h => .inl h)
  · rcases DiskOwn.put hd.sorted hk with h | h
    · exact .inl h
    · exact hv2 k h
theorem DiskIn.own_apart {w : World} {B g M : Nat} {V : Fl.Nm → Value} {l : List Fl} {r : Int} (hd : DiskIn w B g M V l r) {nm : Fl.Nm} {f : Fl} (hf : Fl.find l nm = some f) : ∀ k, (V nm).ownBlock = some k → (k ≠ g ∧ k ≠ M ∧ ∀ x ∈ l, x.name ≠ nm → (V x.name).ownBlock ≠ some k) ∧ DiskOwn g M l V k := by
  intro k hk
  have hn := Fl.find_name hf
  have hm := Fl.find_mem hf
  rw [← hn] at hk
  exact ⟨⟨(hd.apart_f hm hk).1, (hd.apart_f hm hk).2, fun x hx hne => hd.apart f hm x hx (fun e => hne (e.symm.trans hn)) k hk⟩, .inr (.inr ⟨f, hm, hk⟩)⟩
def syncR (l : List Fl) (r : Int) (nm : Fl.Nm) : List Fl × Int × Int :=
  if r = 0 then (l, r, 8) else match Fl.find l nm with | none => (l, r, 34) | some f => (Fl.put l ⟨nm, f.b, f.b.length⟩, oneR r, 0)
theorem codeR_cases (l : List Fl) (r : Int) (nm : Fl.Nm) : (r = 0 ∧ codeR l r nm = 8) ∨ (r ≠ 0 ∧ Fl.find l nm = none ∧ codeR l r nm = 34) ∨ (r ≠ 0 ∧ ∃ f, Fl.find l nm = some f ∧ codeR l r nm = 0 ∧ bytesR l r nm = f.b ∧ safeR l r nm = f.safe ∧ ∀ V, findR V l r nm = (V nm, f.safe, 0)) := by
  unfold codeR bytesR safeR findR
  by_cases h : r = 0
  · exact .inl ⟨h, by simp [h]⟩
  · rcases hf : Fl.find l nm with _ | f
    · exact .inr (.inl ⟨h, rfl, by simp [h]⟩)
    · exact .inr (.inr ⟨h, f, rfl, by simp [h], by simp [h], by simp [h], fun V => by simp [h]⟩)
set_option maxRecDepth 20000 in
set_option maxHeartbeats 1600000 in
theorem sync_at9 {w : World} {B g M : Nat} {V : Fl.Nm → Value} {l : List Fl} {r : Int} (nm : Fl.Nm) (hd : DiskIn w B g M V l r) (hn : nm.length ≤ maxLen) :
    Calls Tryd.prog 30 #[.pointer (some ⟨g, 0, none⟩), Sb nm] w fun e w' => e = .returned (.int .i64 (syncR l r nm).2.2) ∧ DiskTo w w' B g M V l (syncR l r nm).1 (syncR l r nm).2.1 := by
  have HF := Lib.hid (find9 nm hd hn)
  have HD := Lib.hid hd
  have HN := Lib.hid hn
  obtain ⟨R, hR⟩ : ∃ R, R = syncR l r nm := ⟨_, rfl⟩
  rw [← hR]
  unfold syncR at hR
  have hbl := bytesR_le hd nm
  clear hd hn
  rcases codeR_cases l r nm with ⟨h0, hc⟩ | ⟨h0, hf, hc⟩ | ⟨h0, f, hf, hc, hbs, hsf, hfr⟩
  · rw [if_pos h0] at hR
    rw [hc] at HF
    have HR := Lib.hid hR
    generalize safeR l r nm = s at *
    clear h0 hR hc hbl
    go_enter Tryd.func30, Tryd.ntmps30
    go_wp2_with fail
    refine HF.out.mono ?_
    rintro _ w1 ⟨A, n, c, rfl, hb, hx1, hx2, hx3⟩
    clear hx1 hx2 hx3
    have Hb := Lib.hid (hb.alloc hb.size (.cells #[.slice A n c, .int .i64 s] 75))
    clear hb
    go_wp2_with fail
    go_ret
    exact ⟨by rw [HR.out]; rfl, by rw [HR.out]; exact .same HD.out Hb.out⟩
  · rw [if_neg h0, hf] at hR
    rw [hc] at HF
    have HR := Lib.hid hR
    generalize safeR l r nm = s at *
    clear h0 hR hc hbl
    go_enter Tryd.func30, Tryd.ntmps30
    go_wp2_with fail
    refine HF.out.mono ?_
    rintro _ w1 ⟨A, n, c, rfl, hb, hx1, hx2, hx3⟩
    clear hx1 hx2 hx3
    have Hb := Lib.hid (hb.alloc hb.size (.cells #[.slice A n c, .int .i64 s] 75))
    clear hb
    go_wp2_with fail
    go_ret
    exact ⟨by rw [HR.out]; rfl, by rw [HR.out]; exact .same HD.out Hb.out⟩
  · rw [if_neg h0, hf] at hR
    rw [hc] at HF
    have HR := Lib.hid hR
    have H0 := Lib.hid h0
    have Hf := Lib.hid hf
    have Hbs := Lib.hid hbs
    have Hsf := Lib.hid hsf
    have Hfr := Lib.hid hfr
    generalize safeR l r nm = s at *
    clear h0 hR hc hf hbs hsf hfr
    go_enter Tryd.func30, Tryd.ntmps30
    go_wp2_with fail
    refine HF.out.mono ?_
    rintro _ w1 ⟨A, n, c, rfl, hb, hnl, hown, hfr⟩
    obtain ⟨sk, hsk, hkk⟩ := HD.out.row
    obtain ⟨D, hD, hV⟩ := HD.out.map
    have hb2 := hb.alloc hb.size (.cells #[.slice A n c, .int .i64 (n : Int)] 75)
    have hrow2 := Row.new w1 75 [.slice A n c, .int .i64 (n : Int)]
    have c0 : (w1.alloc (.cells #[.slice A n c, .int .i64 (n : Int)] 75)).cell? ⟨g, 0, none⟩ = some (.map (some M)) := (DkAt.box (hsk.below hb2)).1
    have hDk : (w1.alloc (.cells #[.slice A n c, .int .i64 (n : Int)] 75)).ownsMap Tryd.prog 9 heldV M l.length D := hD.kept (grownBy_of_below hb2 none) (by simp)
    have d0 := hrow2.cell 0 (by simp)
    have d1 := hrow2.cell 1 (by simp)
    simp only [List.getElem_cons_zero, List.getElem_cons_succ] at d0 d1
    have Hb2 := Lib.hid hb2
    have HDk := Lib.hid hDk
    have HV := Lib.hid hV
    have Hown := Lib.hid hown
    have Hnl := Lib.hid hnl
    have Hfr2 := Lib.hid hfr
    clear hb hsk hkk hD hV hb2 hrow2 hDk hown hnl hfr
    go_wp2_with fail
    refine region_named 6 (by kernel_rfl) (by kernel_rfl) ?_
    intro w3 hw3
    have hb3 : Below w.heap.size w w3 := by rw [hw3]; exact Hb2.out.drew
    have hm3 : w3.ownsMap Tryd.prog 9 heldV M l.length D := by rw [hw3]; exact HDk.out.kept (grownBy_drew _ none) (by simp)
    have ho3 : w3.ownsRow B 5 1 (.slice A n c) (bytesR l r nm).length (cel8 (bytesR l r nm)) := by rw [hw3]; exact (Hown.out.alloc _).kept (grownBy_drew _ none) (by cases A <;> simp [Value.ownBlock])
    have c0 := (cell_drew hw3 g 0).trans c0
    have d0 := (cell_drew hw3 w1.heap.size 0).trans d0
    have d1 := (cell_drew hw3 w1.heap.size 1).trans d1
    have Hb3 := Lib.hid hb3
    have Hm3 := Lib.hid hm3
    have Ho3 := Lib.hid ho3
    clear hw3 hb3 hm3 ho3
    have hfv : V nm = .slice A n c := by have := Hfr.out V; rw [Hfr2.out] at this; injection this with h1; exact h1.symm
    have hA := HD.out.own_apart Hf.out
    rw [hfv] at hA
    have HA := Lib.hid hA
    have hnf : (n : Int) = (f.b.length : Int) := by rw [Hnl.out, Hbs.out]
    have hll : l.length < maxLen := by have := HD.out.len; unfold maxLen; omega
    have hstore : ∀ w4 : World, w4.ownsMap Tryd.prog 9 heldV M (l.length + 1) (D.put (KS nm) (.held (Fv (.slice A n c) (n : Int)))) → w3.grownBy w4 (some M) → DiskIn w4 B g M (fun x => if x = nm then .slice A n c else V x) (Fl.put l ⟨nm, f.b, f.b.length⟩) r := by
      intro w4 hm4 hg4
      have hok := HD.out.ok f (Fl.find_mem Hf.out)
      have ho3 := Ho3.out
      rw [Hbs.out] at ho3
      rw [hnf] at hm4
      refine HD.out.stored (f := ⟨nm, f.b, f.b.length⟩) (Chg.of_below (S := fun _ => False) Hb3.out) (fun k h => h.elim) ho3 (fun k h => (HA.out k h).1.2.2) HV.out hm4 hg4 ?_ ⟨by simp, by simp, hok.2.2.1, by rw [← Fl.find_name Hf.out]; exact hok.2.2.2⟩
      have := Fl.length_put l HD.out.sorted ⟨nm, f.b, f.b.length⟩
      rw [show (Fl.find l nm).isSome = true by rw [Hf.out]; rfl] at this
      rw [this]
      exact HD.out.len
    clear hfv hA hnf
    simp only [List.take_succ_cons, List.take_zero, List.drop_succ_cons, List.drop_zero]
    repeat still_step
    refine wpStill_nil ?_
    go_wp2_with (first
      | (at_mapUpdate; refine wpList_mapUpdate_own _ rfl _ _ _ 58 rfl 9 75 lawS Tryd.underlying58 _ M l.length _ rfl Hm3.out hll _ _ _ rfl rfl (keyS nm HN.out) _ [] (heldV_eq _) ?_; intro w4 hown4 hg4
         have hd4 := hstore w4 hown4 hg4
         have Hg4 := Lib.hid hg4
         have Hd4 := Lib.hid hd4
         clear hown4 hg4 hd4)
      | fail)
    refine (done9 Hd4.out H0.out).mono ?_
    rintro _ w5 ⟨rfl, hd5, hg5⟩
    have Hd5 := Lib.hid hd5
    have Hg5 := Lib.hid hg5
    clear hd5 hg5
    go_wp2_with fail
    go_ret
    refine ⟨by rw [HR.out]; rfl, by rw [HR.out]; exact .stored HD.out (Chg.of_below (S := fun _ => False) Hb3.out) (fun k h => h.elim) (fun k h => .inl (HA.out k h).2) Hg4.out Hd5.out Hg5.out⟩
end Go.Proofs.YtpphljdnnlfjhaaDoor
