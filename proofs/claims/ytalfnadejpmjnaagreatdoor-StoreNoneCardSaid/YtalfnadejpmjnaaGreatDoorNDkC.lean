/- What later texts need of the earlier layers. -/
import Derived.Test.YtalfnadejpmjnaaGreatDoorNSlO
import Derived.Test.YtalfnadejpmjnaaGreatDoorNSlS
import Derived.Test.YtalfnadejpmjnaaGreatDoorNSlT
import Derived.Test.YtalfnadejpmjnaaGreatDoorNDkA
import Derived.Test.YtalfnadejpmjnaaGreatDoorNDkB
import Derived.Deep.DeepAppendWide
import Derived.Shelf.Sort.Plain
import Derived.Shelf.Slices.In.SortNone
import Derived.Deep.AppendSrc
import Derived.OwnWalk
import Derived.Below
import Derived.WalkKit
/- ---- DiskPut ---- -/
/- disk: what a store into its map, a delete, a counted operation leave. -/
namespace Go.Proofs.YtalfnadejpmjnaaGreatDoor.Jn
set_option maxRecDepth 100000
open Go.RowKit Go.Maps
set_option linter.unusedVariables false
set_option linter.unusedSimpArgs false

theorem own_not_map {w : World} {B n : Nat} {e : TypeId} {v : Value} {xs : List Value} (h : w.ownsRow B e 1 v n xs) {M n2 : Nat} {D : DataW Value} (hm : w.ownsMap Tryz.prog 9 heldV M n2 D) : some M ≠ v.ownBlock := by
  intro e1
  rcases h.2 with ⟨e2, _⟩ | ⟨q, cap, cur, hv, hb, hh, _⟩
  · rw [e2] at e1; cases e1
  · rw [hv] at e1
    obtain ⟨es, clock, hb2, _⟩ := hm
    have : M = q := by injection e1
    subst this
    rw [hh] at hb2
    cases hb2
theorem DiskIn.stored {w w2 w3 : World} {B g M : Nat} {V : Fl.Nm → Value} {l : List Fl} {r : Int} (hd : DiskIn w B g M V l r) {f : Fl} {v : Value} {T : Nat → Prop} {n : Nat} {D : DataW Value}
    (h12 : Chg T w w2) (hT : ∀ k, T k → k ≠ g ∧ k ≠ M ∧ ∀ x ∈ l, x.name ≠ f.name → (V x.name).ownBlock ≠ some k)
    (hown : w2.ownsRow B 5 1 v f.b.length (cel8 f.b)) (hvb : ∀ k, v.ownBlock = some k → ∀ x ∈ l, x.name ≠ f.name → (V x.name).ownBlock ≠ some k)
    (hV : View D l V) (hmap : w3.ownsMap Tryz.prog 9 heldV M n (D.put (KS f.name) (.held (Fv v f.safe)))) (h23 : w2.grownBy w3 (some M)) (hlen : (Fl.put l f).length ≤ 8) (hok : FileOk f) :
    DiskIn w3 B g M (fun x => if x = f.name then v else V x) (Fl.put l f) r := by
  have hgM := hd.apart_gM
  obtain ⟨D0, hD0, hV0⟩ := hd.map
  have hm2 := h12.map hD0 (fun h => (hT M h).2.1 rfl)
  obtain ⟨s, hs, hk⟩ := hd.row
  refine ⟨⟨s, (h12.row hs (fun h => (hT g h).1 rfl)).kept h23 (by simpa using hgM), hk⟩, MapAt.mk hmap (hV.put hd.sorted f v) (hd.sorted.put f), fun x hx => ?_, fun x hx y hy hxy k hk1 hk2 => ?_, hd.sorted.put f, hlen, fun x hx => ?_, hd.lo⟩
  · rcases Fl.mem_put_of_find hd.sorted hx with rfl | ⟨hx, hne⟩
    · simp only [↓reduceIte]
      exact hown.kept h23 (.inr (fun e => own_not_map hown hm2 e.symm))
    · simp only [if_neg hne]
      have h1 := h12.ownsRow (hd.files x hx) (fun k e h => (hT k h).2.2 x hx hne e)
      exact h1.kept h23 (.inr (fun e => own_not_map h1 hm2 e.symm))
  · rcases Fl.mem_put_of_find hd.sorted hx with ex | ⟨hx', hnx⟩
    · rcases Fl.mem_put_of_find hd.sorted hy with ey | ⟨hy', hny⟩
      · exact hxy (by rw [ex, ey])
      · rw [if_pos (by rw [ex])] at hk1
        rw [if_neg hny] at hk2
        exact hvb k hk1 y hy' hny hk2
    · rcases Fl.mem_put_of_find hd.sorted hy with ey | ⟨hy', hny⟩
      · rw [if_neg hnx] at hk1
        rw [if_pos (by rw [ey])] at hk2
        exact hvb k hk2 x hx' hnx hk1
      · rw [if_neg hnx] at hk1
        rw [if_neg hny] at hk2
        exact hd.apart x hx' y hy' hxy k hk1 hk2
  · rcases Fl.mem_put hx with rfl | hx
    · exact hok
    · exact hd.ok x hx
theorem DiskOwn.put {g M : Nat} {l : List Fl} {V : Fl.Nm → Value} {f : Fl} {v : Value} (hs : Fl.Sorted l) {k : Nat} (h : DiskOwn g M (Fl.put l f) (fun x => if x = f.name then v else V x) k) : DiskOwn g M l V k ∨ v.ownBlock = some k := by
  rcases h with h | h | ⟨x, hx, hk⟩
  · exact .inl (.inl h)
  · exact .inl (.inr (.inl h))
  · rcases Fl.mem_put_of_find hs hx with rfl | ⟨hx, hne⟩
    · simp only [↓reduceIte] at hk; exact .inr hk
    · simp only [if_neg hne] at hk
      exact .inl (.inr (.inr ⟨x, hx, hk⟩))
theorem DiskIn.dropped {w w2 : World} {B g M : Nat} {V : Fl.Nm → Value} {l : List Fl} {r : Int} (hd : DiskIn w B g M V l r) {nm : Fl.Nm} {n : Nat} {D : DataW Value}
    (hV : View D l V) (hmap : w2.ownsMap Tryz.prog 9 heldV M n (D.del (KS nm))) (h12 : w.grownBy w2 (some M)) : DiskIn w2 B g M V (Fl.drop l nm) r := by
  have hgM := hd.apart_gM
  obtain ⟨D0, hD0, hV0⟩ := hd.map
  obtain ⟨s, hs, hk⟩ := hd.row
  refine ⟨⟨s, Row.kept hs h12 (by simpa using hgM), hk⟩, MapAt.mk hmap (hV.del nm) (hd.sorted.drop nm), fun x hx => ?_, fun x hx y hy hxy => ?_, hd.sorted.drop nm, Nat.le_trans (Fl.length_drop _ _) hd.len, fun x hx => ?_, hd.lo⟩
  · have h1 := hd.files x (Fl.mem_drop.1 hx).1
    exact h1.kept h12 (.inr (fun e => own_not_map h1 hD0 e.symm))
  · exact hd.apart x (Fl.mem_drop.1 hx).1 y (Fl.mem_drop.1 hy).1 hxy
  · exact hd.ok x (Fl.mem_drop.1 hx).1
theorem DiskOwn.dropped {g M : Nat} {l : List Fl} {V : Fl.Nm → Value} {nm : Fl.Nm} {k : Nat} (h : DiskOwn g M (Fl.drop l nm) V k) : DiskOwn g M l V k := by
  rcases h with h | h | ⟨x, hx, hk⟩
  · exact .inl h
  · exact .inr (.inl h)
  · exact .inr (.inr ⟨x, (Fl.mem_drop.1 hx).1, hk⟩)
/-- an operation counted -/
def oneR (r : Int) : Int := if 0 < r then r - 1 else r
theorem DkOk.one {s : Dk} {r : Int} (h : DkOk s r) (h0 : r ≠ 0) : DkOk s.one (oneR r) := by
  unfold Dk.one oneR
  rcases h with ⟨h1, h2, rfl⟩ | ⟨h1, h2, h3, h4, h5⟩
  · rw [h1]
    simp only [Bool.false_eq_true, ↓reduceIte]
    rw [if_neg (by omega)]
    exact .inl ⟨h1, h2, rfl⟩
  · rw [if_pos h1, if_pos (by omega), h2]
    exact .inr ⟨rfl, rfl, by omega, by omega, rfl⟩
theorem DiskIn.turn {w w2 : World} {B g M : Nat} {V : Fl.Nm → Value} {l : List Fl} {r r2 : Int} (hd : DiskIn w B g M V l r) {s : Dk} (hs : DkAt w2 g (.map (some M)) s) (hk : DkOk s r2) (hg : w.grownBy w2 (some g)) : DiskIn w2 B g M V l r2 := by
  have hgM := hd.apart_gM
  obtain ⟨D, hD, hV⟩ := hd.map
  exact ⟨⟨s, hs, hk⟩, ⟨D, hD.kept hg (by simpa using hgM.symm), hV⟩, fun x hx => (hd.files x hx).kept hg (.inr (fun e => (hd.apart_f hx e).1 rfl)), hd.apart, hd.sorted, hd.len, hd.ok, hd.lo⟩
theorem done9 {w : World} {B g M : Nat} {V : Fl.Nm → Value} {l : List Fl} {r : Int} (hd : DiskIn w B g M V l r) (h0 : r ≠ 0) :
    Calls Tryz.prog 84 #[.pointer (some ⟨g, 0, none⟩)] w fun e w' => e = .returned (.int .i64 0) ∧ DiskIn w' B g M V l (oneR r) ∧ w.grownBy w' (some g) := by
  obtain ⟨s, hs, hk⟩ := hd.row
  refine (done_at hs (fun ha => ?_)).mono ?_
  · rcases hk with ⟨h1, _, _⟩ | ⟨h1, h2, h3, h4, h5⟩
    · rw [h1] at ha; cases ha
    · rw [h2]; omega
  · rintro e w' ⟨rfl, h1, h2⟩
    exact ⟨rfl, hd.turn h1 (hk.one h0) h2, h2⟩
end Go.Proofs.YtalfnadejpmjnaaGreatDoor.Jn

/- ---- DiskSync ---- -/
/- disk: Sync, Remove. -/
namespace Go.Proofs.YtalfnadejpmjnaaGreatDoor.Jn
set_option maxRecDepth 100000
open Go.RowKit Go.Maps
set_option linter.unusedVariables false
set_option linter.unusedSimpArgs false

theorem heldV_eq (v : Value) : heldV v = some (.held v, []) := rfl
/-- the disk is then so -/
def DiskTo (w w' : World) (B g M : Nat) (V : Fl.Nm → Value) (l l' : List Fl) (r' : Int) : Prop :=
  ∃ V', DiskIn w' B g M V' l' r' ∧ Chg (DiskOwn g M l V) w w' ∧ ∀ k, DiskOwn g M l' V' k → DiskOwn g M l V k ∨ w.heap.size ≤ k
theorem DiskTo.same {w w' : World} {B g M : Nat} {V : Fl.Nm → Value} {l : List Fl} {r : Int} (hd : DiskIn w B g M V l r) (hb : Below w.heap.size w w') : DiskTo w w' B g M V l l r :=
  ⟨V, hd.kept (Chg.of_below (S := fun _ => False) hb) (fun _ _ h => h), Chg.of_below hb, fun _ h => .inl h⟩
theorem DiskIn.below {w w' : World} {B g M : Nat} {V : Fl.Nm → Value} {l : List Fl} {r : Int} (hd : DiskIn w B g M V l r) (hb : Below w.heap.size w w') : DiskIn w' B g M V l r :=
  hd.kept (Chg.of_below (S := fun _ => False) hb) (fun _ _ h => h)
/-- behind a store and a counted operation -/
theorem DiskTo.stored {w w3 w4 w5 : World} {B g M : Nat} {V : Fl.Nm → Value} {l : List Fl} {r r5 : Int} (hd : DiskIn w B g M V l r) {f : Fl} {v : Value} {T : Nat → Prop}
    (h12 : Chg T w w3) (hT2 : ∀ k, T k → DiskOwn g M l V k) (hv2 : ∀ k, v.ownBlock = some k → DiskOwn g M l V k ∨ w.heap.size ≤ k) (h23 : w3.grownBy w4 (some M))
    (h5 : DiskIn w5 B g M (fun x => if x = f.name then v else V x) (Fl.put l f) r5) (h45 : w4.grownBy w5 (some g)) : DiskTo w w5 B g M V l (Fl.put l f) r5 := by
  refine ⟨_, h5, ?_, fun k hk => ?_⟩
  · refine ((h12.mono hT2).trans (Chg.of_grown (S := DiskOwn g M l V) h23 (fun k e => by cases e; exact .inl (.inr (.inl rfl)))) (fun k h => .inl h)).trans (Chg.of_grown (S := DiskOwn g M l V) h45 (fun k e => by cases e; exact .inl (.inl rfl))) (fun k h => .inl h)
  · rcases DiskOwn.put hd.sorted hk with h | h
    · exact .inl h
    · exact hv2 k h
theorem DiskIn.own_apart {w : World} {B g M : Nat} {V : Fl.Nm → Value} {l : List Fl} {r : Int} (hd : DiskIn w B g M V l r) {nm : Fl.Nm} {f : Fl} (hf : Fl.find l nm = some f) : ∀ k, (V nm).ownBlock = some k → (k ≠ g ∧ k ≠ M ∧ ∀ x ∈ l, x.name ≠ nm → (V x.name).ownBlock ≠ some k) ∧ DiskOwn g M l V k := by
  intro k hk
  have hn := Fl.find_name hf
  have hm := Fl.find_mem hf
  rw [← hn] at hk
  exact ⟨⟨(hd.apart_f hm hk).1, (hd.apart_f hm hk).2, fun x hx hne => hd.apart f hm x hx (fun e => hne (e.symm.trans hn)) k hk⟩, .inr (.inr ⟨f, hm, hk⟩)⟩
def syncR (l : List Fl) (r : Int) (nm : Fl.Nm) : List Fl × Int × Int :=
  if r = 0 then (l, r, 8) else match Fl.find l nm with | none => (l, r, 34) | some f => (Fl.put l ⟨nm, f.b, f.b.length⟩, oneR r, 0)
theorem codeR_cases (l : List Fl) (r : Int) (nm : Fl.Nm) : (r = 0 ∧ codeR l r nm = 8) ∨ (r ≠ 0 ∧ Fl.find l nm = none ∧ codeR l r nm = 34) ∨ (r ≠ 0 ∧ ∃ f, Fl.find l nm = some f ∧ codeR l r nm = 0 ∧ bytesR l r nm = f.b ∧ safeR l r nm = f.safe ∧ ∀ V, findR V l r nm = (V nm, f.safe, 0)) := by
  unfold codeR bytesR safeR findR
  by_cases h : r = 0
  · exact .inl ⟨h, by simp [h]⟩
  · rcases hf : Fl.find l nm with _ | f
    · exact .inr (.inl ⟨h, rfl, by simp [h]⟩)
    · exact .inr (.inr ⟨h, f, rfl, by simp [h], by simp [h], by simp [h], fun V => by simp [h]⟩)
set_option maxRecDepth 20000 in
set_option maxHeartbeats 1600000 in
theorem sync_at9 {w : World} {B g M : Nat} {V : Fl.Nm → Value} {l : List Fl} {r : Int} (nm : Fl.Nm) (hd : DiskIn w B g M V l r) (hn : nm.length ≤ maxLen) :
    Calls Tryz.prog 58 #[.pointer (some ⟨g, 0, none⟩), Sb nm] w fun e w' => e = .returned (.int .i64 (syncR l r nm).2.2) ∧ DiskTo w w' B g M V l (syncR l r nm).1 (syncR l r nm).2.1 := by
  have HF := Lib.hid (find9 nm hd hn)
  have HD := Lib.hid hd
  have HN := Lib.hid hn
  obtain ⟨R, hR⟩ : ∃ R, R = syncR l r nm := ⟨_, rfl⟩
  rw [← hR]
  unfold syncR at hR
  have hbl := bytesR_le hd nm
  clear hd hn
  rcases codeR_cases l r nm with ⟨h0, hc⟩ | ⟨h0, hf, hc⟩ | ⟨h0, f, hf, hc, hbs, hsf, hfr⟩
  · rw [if_pos h0] at hR
    rw [hc] at HF
    have HR := Lib.hid hR
    generalize safeR l r nm = s at *
    clear h0 hR hc hbl
    go_enter Tryz.func58, Tryz.ntmps58
    go_wp2_with fail
    refine HF.out.mono ?_
    rintro _ w1 ⟨A, n, c, rfl, hb, hx1, hx2, hx3⟩
    clear hx1 hx2 hx3
    have Hb := Lib.hid (hb.alloc hb.size (.cells #[.slice A n c, .int .i64 s] 87))
    clear hb
    go_wp2_with fail
    go_ret
    exact ⟨by rw [HR.out]; rfl, by rw [HR.out]; exact .same HD.out Hb.out⟩
  · rw [if_neg h0, hf] at hR
    rw [hc] at HF
    have HR := Lib.hid hR
    generalize safeR l r nm = s at *
    clear h0 hR hc hbl
    go_enter Tryz.func58, Tryz.ntmps58
    go_wp2_with fail
    refine HF.out.mono ?_
    rintro _ w1 ⟨A, n, c, rfl, hb, hx1, hx2, hx3⟩
    clear hx1 hx2 hx3
    have Hb := Lib.hid (hb.alloc hb.size (.cells #[.slice A n c, .int .i64 s] 87))
    clear hb
    go_wp2_with fail
    go_ret
    exact ⟨by rw [HR.out]; rfl, by rw [HR.out]; exact .same HD.out Hb.out⟩
  · rw [if_neg h0, hf] at hR
    rw [hc] at HF
    have HR := Lib.hid hR
    have H0 := Lib.hid h0
    have Hf := Lib.hid hf
    have Hbs := Lib.hid hbs
    have Hsf := Lib.hid hsf
    have Hfr := Lib.hid hfr
    generalize safeR l r nm = s at *
    clear h0 hR hc hf hbs hsf hfr
    go_enter Tryz.func58, Tryz.ntmps58
    go_wp2_with fail
    refine HF.out.mono ?_
    rintro _ w1 ⟨A, n, c, rfl, hb, hnl, hown, hfr⟩
    obtain ⟨sk, hsk, hkk⟩ := HD.out.row
    obtain ⟨D, hD, hV⟩ := HD.out.map
    have hb2 := hb.alloc hb.size (.cells #[.slice A n c, .int .i64 (n : Int)] 87)
    have hrow2 := Row.new w1 87 [.slice A n c, .int .i64 (n : Int)]
    have c0 : (w1.alloc (.cells #[.slice A n c, .int .i64 (n : Int)] 87)).cell? ⟨g, 0, none⟩ = some (.map (some M)) := (DkAt.box (hsk.below hb2)).1
    have hDk : (w1.alloc (.cells #[.slice A n c, .int .i64 (n : Int)] 87)).ownsMap Tryz.prog 9 heldV M l.length D := hD.kept (grownBy_of_below hb2 none) (by simp)
    have d0 := hrow2.cell 0 (by simp)
    have d1 := hrow2.cell 1 (by simp)
    simp only [List.getElem_cons_zero, List.getElem_cons_succ] at d0 d1
    have Hb2 := Lib.hid hb2
    have HDk := Lib.hid hDk
    have HV := Lib.hid hV
    have Hown := Lib.hid hown
    have Hnl := Lib.hid hnl
    have Hfr2 := Lib.hid hfr
    clear hb hsk hkk hD hV hb2 hrow2 hDk hown hnl hfr
    go_wp2_with fail
    refine region_named 6 (by kernel_rfl) (by kernel_rfl) ?_
    intro w3 hw3
    have hb3 : Below w.heap.size w w3 := by rw [hw3]; exact Hb2.out.drew
    have hm3 : w3.ownsMap Tryz.prog 9 heldV M l.length D := by rw [hw3]; exact HDk.out.kept (grownBy_drew _ none) (by simp)
    have ho3 : w3.ownsRow B 5 1 (.slice A n c) (bytesR l r nm).length (cel8 (bytesR l r nm)) := by rw [hw3]; exact (Hown.out.alloc _).kept (grownBy_drew _ none) (by cases A <;> simp [Value.ownBlock])
    have c0 := (cell_drew hw3 g 0).trans c0
    have d0 := (cell_drew hw3 w1.heap.size 0).trans d0
    have d1 := (cell_drew hw3 w1.heap.size 1).trans d1
    have Hb3 := Lib.hid hb3
    have Hm3 := Lib.hid hm3
    have Ho3 := Lib.hid ho3
    clear hw3 hb3 hm3 ho3
    have hfv : V nm = .slice A n c := by have := Hfr.out V; rw [Hfr2.out] at this; injection this with h1; exact h1.symm
    have hA := HD.out.own_apart Hf.out
    rw [hfv] at hA
    have HA := Lib.hid hA
    have hnf : (n : Int) = (f.b.length : Int) := by rw [Hnl.out, Hbs.out]
    have hll : l.length < maxLen := by have := HD.out.len; unfold maxLen; omega
    have hstore : ∀ w4 : World, w4.ownsMap Tryz.prog 9 heldV M (l.length + 1) (D.put (KS nm) (.held (Fv (.slice A n c) (n : Int)))) → w3.grownBy w4 (some M) → DiskIn w4 B g M (fun x => if x = nm then .slice A n c else V x) (Fl.put l ⟨nm, f.b, f.b.length⟩) r := by
      intro w4 hm4 hg4
      have hok := HD.out.ok f (Fl.find_mem Hf.out)
      have ho3 := Ho3.out
      rw [Hbs.out] at ho3
      rw [hnf] at hm4
      refine HD.out.stored (f := ⟨nm, f.b, f.b.length⟩) (Chg.of_below (S := fun _ => False) Hb3.out) (fun k h => h.elim) ho3 (fun k h => (HA.out k h).1.2.2) HV.out hm4 hg4 ?_ ⟨by simp, by simp, hok.2.2.1, by rw [← Fl.find_name Hf.out]; exact hok.2.2.2⟩
      have := Fl.length_put l HD.out.sorted ⟨nm, f.b, f.b.length⟩
      rw [show (Fl.find l nm).isSome = true by rw [Hf.out]; rfl] at this
      rw [this]
      exact HD.out.len
    clear hfv hA hnf
    simp only [List.take_succ_cons, List.take_zero, List.drop_succ_cons, List.drop_zero]
    repeat still_step
    refine wpStill_nil ?_
    go_wp2_with (first
      | (at_mapUpdate; refine wpList_mapUpdate_own _ rfl _ _ _ 71 rfl 9 87 lawS Tryz.underlying71 _ M l.length _ rfl Hm3.out hll _ _ _ rfl rfl (keyS nm HN.out) _ [] (heldV_eq _) ?_; intro w4 hown4 hg4
         have hd4 := hstore w4 hown4 hg4
         have Hg4 := Lib.hid hg4
         have Hd4 := Lib.hid hd4
         clear hown4 hg4 hd4)
      | fail)
    refine (done9 Hd4.out H0.out).mono ?_
    rintro _ w5 ⟨rfl, hd5, hg5⟩
    have Hd5 := Lib.hid hd5
    have Hg5 := Lib.hid hg5
    clear hd5 hg5
    go_wp2_with fail
    go_ret
    refine ⟨by rw [HR.out]; rfl, by rw [HR.out]; exact .stored HD.out (Chg.of_below (S := fun _ => False) Hb3.out) (fun k h => h.elim) (fun k h => .inl (HA.out k h).2) Hg4.out Hd5.out Hg5.out⟩
end Go.Proofs.YtalfnadejpmjnaaGreatDoor.Jn

/- ---- DiskRem ---- -/
/- disk: Remove, Rename. -/
namespace Go.Proofs.YtalfnadejpmjnaaGreatDoor.Jn
set_option maxRecDepth 100000
open Go.RowKit Go.Maps
set_option linter.unusedVariables false
set_option linter.unusedSimpArgs false

def removeR (l : List Fl) (r : Int) (nm : Fl.Nm) : List Fl × Int × Int :=
  if r = 0 then (l, r, 8) else match Fl.find l nm with | none => (l, r, 34) | some f => (Fl.drop l nm, oneR r, 0)
theorem DiskTo.dropped {w w3 w4 w5 : World} {B g M : Nat} {V : Fl.Nm → Value} {l : List Fl} {r5 : Int} {nm : Fl.Nm} (h12 : Below w.heap.size w w3) (h23 : w3.grownBy w4 (some M))
    (h5 : DiskIn w5 B g M V (Fl.drop l nm) r5) (h45 : w4.grownBy w5 (some g)) : DiskTo w w5 B g M V l (Fl.drop l nm) r5 :=
  ⟨V, h5, ((Chg.of_below h12).trans (Chg.of_grown (S := DiskOwn g M l V) h23 (fun k e => by cases e; exact .inl (.inr (.inl rfl)))) (fun k h => .inl h)).trans (Chg.of_grown (S := DiskOwn g M l V) h45 (fun k e => by cases e; exact .inl (.inl rfl))) (fun k h => .inl h), fun k hk => .inl hk.dropped⟩
set_option maxRecDepth 20000 in
set_option maxHeartbeats 1600000 in
theorem remove_at9 {w : World} {B g M : Nat} {V : Fl.Nm → Value} {l : List Fl} {r : Int} (nm : Fl.Nm) (hd : DiskIn w B g M V l r) (hn : nm.length ≤ maxLen) :
    Calls Tryz.prog 54 #[.pointer (some ⟨g, 0, none⟩), Sb nm] w fun e w' => e = .returned (.int .i64 (removeR l r nm).2.2) ∧ DiskTo w w' B g M V l (removeR l r nm).1 (removeR l r nm).2.1 := by
  have HF := Lib.hid (find9 nm hd hn)
  have HD := Lib.hid hd
  have HN := Lib.hid hn
  obtain ⟨R, hR⟩ : ∃ R, R = removeR l r nm := ⟨_, rfl⟩
  rw [← hR]
  unfold removeR at hR
  clear hd hn
  rcases codeR_cases l r nm with ⟨h0, hc⟩ | ⟨h0, hf, hc⟩ | ⟨h0, f, hf, hc, hbs, hsf, hfr⟩
  · rw [if_pos h0] at hR
    rw [hc] at HF
    have HR := Lib.hid hR
    generalize safeR l r nm = s at *
    clear h0 hR hc
    go_enter Tryz.func54, Tryz.ntmps54
    go_wp2_with fail
    refine HF.out.mono ?_
    rintro _ w1 ⟨A, n, c, rfl, hb, hx1, hx2, hx3⟩
    clear hx1 hx2 hx3
    have Hb := Lib.hid (hb.alloc hb.size (.cells #[.slice A n c, .int .i64 s] 87))
    clear hb
    go_wp2_with fail
    go_ret
    exact ⟨by rw [HR.out]; rfl, by rw [HR.out]; exact .same HD.out Hb.out⟩
  · rw [if_neg h0, hf] at hR
    rw [hc] at HF
    have HR := Lib.hid hR
    generalize safeR l r nm = s at *
    clear h0 hR hc hf
    go_enter Tryz.func54, Tryz.ntmps54
    go_wp2_with fail
    refine HF.out.mono ?_
    rintro _ w1 ⟨A, n, c, rfl, hb, hx1, hx2, hx3⟩
    clear hx1 hx2 hx3
    have Hb := Lib.hid (hb.alloc hb.size (.cells #[.slice A n c, .int .i64 s] 87))
    clear hb
    go_wp2_with fail
    go_ret
    exact ⟨by rw [HR.out]; rfl, by rw [HR.out]; exact .same HD.out Hb.out⟩
  · rw [if_neg h0, hf] at hR
    rw [hc] at HF
    have HR := Lib.hid hR
    have H0 := Lib.hid h0
    generalize safeR l r nm = s at *
    clear h0 hR hc hf hbs hsf hfr
    go_enter Tryz.func54, Tryz.ntmps54
    go_wp2_with fail
    refine HF.out.mono ?_
    rintro _ w1 ⟨A, n, c, rfl, hb, hx1, hx2, hx3⟩
    clear hx1 hx2 hx3
    obtain ⟨sk, hsk, hkk⟩ := HD.out.row
    obtain ⟨D, hD, hV⟩ := HD.out.map
    have hb2 := hb.alloc hb.size (.cells #[.slice A n c, .int .i64 s] 87)
    have c0 : (w1.alloc (.cells #[.slice A n c, .int .i64 s] 87)).cell? ⟨g, 0, none⟩ = some (.map (some M)) := (DkAt.box (hsk.below hb2)).1
    have hDk : (w1.alloc (.cells #[.slice A n c, .int .i64 s] 87)).ownsMap Tryz.prog 9 heldV M l.length D := hD.kept (grownBy_of_below hb2 none) (by simp)
    have hd2 := HD.out.below hb2
    have Hb2 := Lib.hid hb2
    have HDk := Lib.hid hDk
    have Hd2 := Lib.hid hd2
    have HV := Lib.hid hV
    clear hb hsk hkk hD hV hb2 hDk hd2
    go_wp2_with (first
      | (at_delete; refine wpList_delete_own _ rfl _ _ 71 9 rfl 87 lawS Tryz.underlying71 _ M l.length D rfl HDk.out _ _ rfl (keyS nm HN.out) ?_
         intro w4 hown4 hturn
         have Hg4 := Lib.hid hturn.grown
         have Hd4 := Lib.hid (Hd2.out.dropped HV.out hown4 hturn.grown)
         clear hown4 hturn
         go_frame)
      | fail)
    refine (done9 Hd4.out H0.out).mono ?_
    rintro _ w5 ⟨rfl, hd5, hg5⟩
    have Hd5 := Lib.hid hd5
    have Hg5 := Lib.hid hg5
    clear hd5 hg5
    go_wp2_with fail
    go_ret
    exact ⟨by rw [HR.out]; rfl, by rw [HR.out]; exact .dropped Hb2.out Hg4.out Hd5.out Hg5.out⟩
end Go.Proofs.YtalfnadejpmjnaaGreatDoor.Jn

/- ---- DiskRen ---- -/
/- disk: Rename. -/
namespace Go.Proofs.YtalfnadejpmjnaaGreatDoor.Jn
set_option maxRecDepth 100000
open Go.RowKit Go.Maps
set_option linter.unusedVariables false
set_option linter.unusedSimpArgs false

def renameR (l : List Fl) (r : Int) (a b : Fl.Nm) : List Fl × Int × Int :=
  if r = 0 then (l, r, 8) else match Fl.find l a with | none => (l, r, 34) | some f => if Disk.word b = true then (Fl.put (Fl.drop l a) ⟨b, f.b, f.safe⟩, oneR r, 0) else (l, r, 2)
theorem DiskTo.renamed {w w4 w5 w6 w7 : World} {B g M : Nat} {V : Fl.Nm → Value} {l : List Fl} {r r5 : Int} (hd : DiskIn w B g M V l r) {a : Fl.Nm} {f : Fl} {v : Value}
    (h12 : Chg (DiskOwn g M l V) w w4) (h45 : Below w4.heap.size w4 w5) (hv2 : ∀ k, v.ownBlock = some k → DiskOwn g M l V k) (h56 : w5.grownBy w6 (some M))
    (h7 : DiskIn w7 B g M (fun x => if x = f.name then v else V x) (Fl.put (Fl.drop l a) f) r5) (h67 : w6.grownBy w7 (some g)) : DiskTo w w7 B g M V l (Fl.put (Fl.drop l a) f) r5 := by
  refine ⟨_, h7, ?_, fun k hk => ?_⟩
  · refine ((h12.trans (Chg.of_below (S := DiskOwn g M l V) h45) (fun k h => .inl h)).trans (Chg.of_grown (S := DiskOwn g M l V) h56 (fun k e => by cases e; exact .inl (.inr (.inl rfl)))) (fun k h => .inl h)).trans (Chg.of_grown (S := DiskOwn g M l V) h67 (fun k e => by cases e; exact .inl (.inl rfl))) (fun k h => .inl h)
  · rcases DiskOwn.put (hd.sorted.drop a) hk with h | h
    · exact .inl h.dropped
    · exact .inl (hv2 k h)
theorem word_len {b : Fl.Nm} (h : Disk.word b = true) : b.length ≤ 16 := by
  unfold Disk.word at h
  simp at h
  omega
set_option maxRecDepth 20000 in
set_option maxHeartbeats 1600000 in
theorem rename_at9 {w : World} {B g M : Nat} {V : Fl.Nm → Value} {l : List Fl} {r : Int} (nm to : Fl.Nm) (hd : DiskIn w B g M V l r) (hn : nm.length ≤ maxLen) (ht : to.length ≤ 140737488351232) :
    Calls Tryz.prog 124 #[.pointer (some ⟨g, 0, none⟩), Sb nm, Sb to] w fun e w' => e = .returned (.int .i64 (renameR l r nm to).2.2) ∧ DiskTo w w' B g M V l (renameR l r nm to).1 (renameR l r nm to).2.1 := by
  have HF := Lib.hid (find9 nm hd hn)
  have HD := Lib.hid hd
  have HN := Lib.hid hn
  have hto : to.length ≤ maxLen := by unfold maxLen; omega
  have HT := Lib.hid hto
  obtain ⟨R, hR⟩ : ∃ R, R = renameR l r nm to := ⟨_, rfl⟩
  rw [← hR]
  unfold renameR at hR
  have HI : Hid (∀ w, Calls Tryz.prog 89 #[Sb to] w fun e w' => e = .returned (.bool (Disk.word to)) ∧ w = w') := Lib.hid fun w => isName_any ⟨to.toArray⟩ w (show to.toArray.size ≤ _ by simpa using ht)
  clear hd hn hto ht
  rcases codeR_cases l r nm with ⟨h0, hc⟩ | ⟨h0, hf, hc⟩ | ⟨h0, f, hf, hc, hbs, hsf, hfr⟩
  · rw [if_pos h0] at hR
    rw [hc] at HF
    have HR := Lib.hid hR
    generalize safeR l r nm = s at *
    clear h0 hR hc
    go_enter Tryz.func124, Tryz.ntmps124
    go_wp2_with fail
    refine HF.out.mono ?_
    rintro _ w1 ⟨A, n, c, rfl, hb, hx1, hx2, hx3⟩
    clear hx1 hx2 hx3
    have Hb := Lib.hid (hb.alloc hb.size (.cells #[.slice A n c, .int .i64 s] 87))
    clear hb
    go_wp2_with fail
    go_ret
    exact ⟨by rw [HR.out]; rfl, by rw [HR.out]; exact .same HD.out Hb.out⟩
  · rw [if_neg h0, hf] at hR
    rw [hc] at HF
    have HR := Lib.hid hR
    generalize safeR l r nm = s at *
    clear h0 hR hc hf
    go_enter Tryz.func124, Tryz.ntmps124
    go_wp2_with fail
    refine HF.out.mono ?_
    rintro _ w1 ⟨A, n, c, rfl, hb, hx1, hx2, hx3⟩
    clear hx1 hx2 hx3
    have Hb := Lib.hid (hb.alloc hb.size (.cells #[.slice A n c, .int .i64 s] 87))
    clear hb
    go_wp2_with fail
    go_ret
    exact ⟨by rw [HR.out]; rfl, by rw [HR.out]; exact .same HD.out Hb.out⟩
  · rw [if_neg h0, hf] at hR
    simp only at hR
    rw [hc] at HF
    by_cases hw : Disk.word to = true
    · rw [if_pos hw] at hR
      rw [hw] at HI
      have HR := Lib.hid hR
      have H0 := Lib.hid h0
      have Hf := Lib.hid hf
      have Hbs := Lib.hid hbs
      have Hsf := Lib.hid hsf
      have Hfr := Lib.hid (hfr V)
      have Hw := Lib.hid hw
      generalize safeR l r nm = s at *
      clear h0 hR hc hf hbs hsf hfr hw
      go_enter Tryz.func124, Tryz.ntmps124
      go_wp2_with fail
      refine HF.out.mono ?_
      rintro _ w1 ⟨A, n, c, rfl, hb, hnl, hown, hfr⟩
      obtain ⟨sk, hsk, hkk⟩ := HD.out.row
      obtain ⟨D, hD, hV⟩ := HD.out.map
      have hfv : V nm = .slice A n c := by have := Hfr.out; rw [hfr] at this; injection this with h1; exact h1.symm
      have hA := HD.out.own_apart Hf.out
      rw [hfv] at hA
      have hb2 := hb.alloc hb.size (.cells #[.slice A n c, .int .i64 s] 87)
      have hrow2 := Row.new w1 87 [.slice A n c, .int .i64 s]
      have c0 : (w1.alloc (.cells #[.slice A n c, .int .i64 s] 87)).cell? ⟨g, 0, none⟩ = some (.map (some M)) := (DkAt.box (hsk.below hb2)).1
      have hDk : (w1.alloc (.cells #[.slice A n c, .int .i64 s] 87)).ownsMap Tryz.prog 9 heldV M l.length D := hD.kept (grownBy_of_below hb2 none) (by simp)
      have hd2 := HD.out.below hb2
      have ho2 := hown.alloc (.cells #[.slice A n c, .int .i64 s] 87)
      rw [Hbs.out] at ho2
      have hMq : M ≠ w1.heap.size := by have := hD.lt; have := hb.size; omega
      have Hb2 := Lib.hid hb2
      have HDk := Lib.hid hDk
      have Hd2 := Lib.hid hd2
      have HV := Lib.hid hV
      have HA := Lib.hid hA
      have Ho2 := Lib.hid ho2
      have Hrow2 := Lib.hid hrow2
      have HMq := Lib.hid hMq
      clear hb hsk hkk hD hV hb2 hDk hd2 hfv hA hnl hown hfr ho2 hrow2 hMq
      go_wp2_with fail
      refine (HI.out _).mono ?_
      rintro _ w2 ⟨rfl, rfl⟩
      go_wp2_with (first
        | (at_delete; refine wpList_delete_own _ rfl _ _ 71 9 rfl 87 lawS Tryz.underlying71 _ M l.length D rfl HDk.out _ _ rfl (keyS nm HN.out) ?_
           intro w4 hown4 hturn
           have hg4 := hturn.grown
           have Hd4 := Lib.hid (Hd2.out.dropped HV.out hown4 hg4)
           have Hown4 := Lib.hid hown4
           have hrow4 := Hrow2.out.kept hg4 (by simpa using fun e => HMq.out e.symm)
           have c0 : w4.cell? ⟨g, 0, none⟩ = some (.map (some M)) := by obtain ⟨sk, hsk, _⟩ := Hd4.out.row; exact (DkAt.box hsk).1
           have d0 := hrow4.cell 0 (by simp)
           have d1 := hrow4.cell 1 (by simp)
           simp only [List.getElem_cons_zero, List.getElem_cons_succ] at d0 d1
           have Ho4 := Lib.hid (Ho2.out.kept hg4 (.inr (fun e => own_not_map Ho2.out HDk.out e.symm)))
           have Hg4 := Lib.hid hg4
           clear hown4 hturn hg4 hrow4
           go_frame)
        | fail)
      refine region_named 6 (by kernel_rfl) (by kernel_rfl) ?_
      intro w5 hw5
      have hb5 : Below w4.heap.size w4 w5 := by rw [hw5]; exact (Below.refl _ _).drew
      have hm5 : w5.ownsMap Tryz.prog 9 heldV M l.length (D.del (KS nm)) := by rw [hw5]; exact Hown4.out.kept (grownBy_drew _ none) (by simp)
      have c0 := (cell_drew hw5 g 0).trans c0
      have d0 := (cell_drew hw5 w1.heap.size 0).trans d0
      have d1 := (cell_drew hw5 w1.heap.size 1).trans d1
      have Hb5 := Lib.hid hb5
      have Hm5 := Lib.hid hm5
      clear hw5 hb5 hm5
      have hll : l.length < maxLen := by have := HD.out.len; unfold maxLen; omega
      have hstore : ∀ w6 : World, w6.ownsMap Tryz.prog 9 heldV M (l.length + 1) ((D.del (KS nm)).put (KS to) (.held (Fv (.slice A n c) s))) → w5.grownBy w6 (some M) → DiskIn w6 B g M (fun x => if x = to then .slice A n c else V x) (Fl.put (Fl.drop l nm) ⟨to, f.b, f.safe⟩) r := by
        intro w6 hm6 hg6
        have hok := HD.out.ok f (Fl.find_mem Hf.out)
        rw [Hsf.out] at hm6
        have ho5 := Ho4.out.kept (grownBy_of_below Hb5.out none) (by cases A <;> simp [Value.ownBlock])
        refine Hd4.out.stored (f := ⟨to, f.b, f.safe⟩) (Chg.of_below (S := fun _ => False) Hb5.out) (fun k h => h.elim) ho5 (fun k h x hx _ => (HA.out k h).1.2.2 x (Fl.mem_drop.1 hx).1 (Fl.mem_drop.1 hx).2) (HV.out.del nm) hm6 hg6 ?_ ⟨hok.1, hok.2.1, hok.2.2.1, word_len Hw.out⟩
        have h1 := Fl.length_put _ (HD.out.sorted.drop nm) ⟨to, f.b, f.safe⟩
        have h2 := Fl.length_drop_of_mem HD.out.sorted (nm := nm) (by rw [Hf.out]; rfl)
        have h3 := HD.out.len
        rw [h1]
        split <;> omega
      simp only [List.take_succ_cons, List.take_zero, List.drop_succ_cons, List.drop_zero]
      repeat still_step
      refine wpStill_nil ?_
      go_wp2_with (first
        | (at_mapUpdate; refine wpList_mapUpdate_own _ rfl _ _ _ 71 rfl 9 87 lawS Tryz.underlying71 _ M l.length _ rfl Hm5.out hll _ _ _ rfl rfl (keyS to HT.out) _ [] (heldV_eq _) ?_; intro w6 hown6 hg6
           have hd6 := hstore w6 hown6 hg6
           have Hg6 := Lib.hid hg6
           have Hd6 := Lib.hid hd6
           clear hown6 hg6 hd6)
        | fail)
      refine (done9 Hd6.out H0.out).mono ?_
      rintro _ w7 ⟨rfl, hd7, hg7⟩
      have Hd7 := Lib.hid hd7
      have Hg7 := Lib.hid hg7
      clear hd7 hg7
      go_wp2_with fail
      go_ret
      refine ⟨by rw [HR.out]; rfl, by rw [HR.out]; exact .renamed HD.out ((Chg.of_below Hb2.out).trans (Chg.of_grown (S := DiskOwn g M l V) Hg4.out (fun k e => by cases e; exact .inl (.inr (.inl rfl)))) (fun k h => .inl h)) Hb5.out (fun k h => (HA.out k h).2) Hg6.out Hd7.out Hg7.out⟩
    · rw [if_neg hw] at hR
      rw [Bool.not_eq_true] at hw
      rw [hw] at HI
      have HR := Lib.hid hR
      generalize safeR l r nm = s at *
      clear h0 hR hc hf hbs hsf hfr hw
      go_enter Tryz.func124, Tryz.ntmps124
      go_wp2_with fail
      refine HF.out.mono ?_
      rintro _ w1 ⟨A, n, c, rfl, hb, hx1, hx2, hx3⟩
      clear hx1 hx2 hx3
      have Hb := Lib.hid (hb.alloc hb.size (.cells #[.slice A n c, .int .i64 s] 87))
      clear hb
      go_wp2_with fail
      refine (HI.out _).mono ?_
      rintro _ w2 ⟨rfl, rfl⟩
      go_wp2_with fail
      go_ret
      exact ⟨by rw [HR.out]; rfl, by rw [HR.out]; exact .same HD.out Hb.out⟩
end Go.Proofs.YtalfnadejpmjnaaGreatDoor.Jn
