/- The reference of layer 9: Sync, Remove, Rename. -/
import Derived.Test.YtfebknhggapljaaDiskRput
namespace Go.Proofs.Ytfebknhggapljaa
open Go.RowKit
set_option linter.unusedVariables false
set_option linter.unusedSimpArgs false

/-- the reference's disk in memory: its block g, its files in v -/
structure RefIn (w : World) (B g : Nat) (v : Value) (l : List Fl) (r : Int) : Prop where
  row : RkAt w g v r
  files : FlsAt w B v l
  sorted : Fl.Sorted l
  len : l.length ≤ 8
  ok : ∀ f ∈ l, FileOk f
  lo : B ≤ g
  top : r ≤ 9223372036854775807
def RefOwn (g : Nat) (v : Value) (k : Nat) : Prop := k = g ∨ v.ownBlock = some k
def RefTo (w w' : World) (B g : Nat) (v : Value) (l' : List Fl) (r' : Int) : Prop :=
  ∃ v', RefIn w' B g v' l' r' ∧ Chg (RefOwn g v) w w' ∧ ∀ k, v'.ownBlock = some k → RefOwn g v k ∨ w.heap.size ≤ k
theorem RefIn.apart {w : World} {B g : Nat} {v : Value} {l : List Fl} {r : Int} (h : RefIn w B g v l r) : some g ≠ v.ownBlock := by
  intro e
  rcases h.files.2 with ⟨e2, _⟩ | ⟨q, cap, cur, hv, hb, hh, _⟩
  · rw [e2] at e; cases e
  · rw [hv] at e
    have : g = q := by injection e
    subst this
    have hr := h.row
    unfold RkAt Row at hr
    rw [hr] at hh
    simp at hh
theorem RefIn.kept {w w' : World} {B g : Nat} {v : Value} {l : List Fl} {r : Int} {T : Nat → Prop} (h : RefIn w B g v l r) (hc : Chg T w w') (hT : ∀ k, RefOwn g v k → ¬ T k) : RefIn w' B g v l r :=
  ⟨hc.row h.row (hT g (.inl rfl)), hc.ownsRow h.files (fun k e => hT k (.inr e)), h.sorted, h.len, h.ok, h.lo, h.top⟩
theorem RefIn.below {w w' : World} {B g : Nat} {v : Value} {l : List Fl} {r : Int} (h : RefIn w B g v l r) (hb : Below w.heap.size w w') : RefIn w' B g v l r :=
  h.kept (Chg.of_below (S := fun _ => False) hb) (fun _ _ h => h)
theorem RefTo.same {w w' : World} {B g : Nat} {v : Value} {l : List Fl} {r : Int} (h : RefIn w B g v l r) (hb : Below w.heap.size w w') : RefTo w w' B g v l r :=
  ⟨v, h.below hb, Chg.of_below hb, fun k hk => .inl (.inr hk)⟩
theorem RefTo.fin {w w1 w2 w3 : World} {B g : Nat} {v v' : Value} {l l' : List Fl} {r r' : Int} (h : RefIn w B g v l r) (h1 : w.grownBy w1 (some g)) (h12 : w1.grownBy w2 (some g)) (hf : FlsAt w2 w1.heap.size v' l') (h3 : RkAt w3 g v' r') (h23 : w2.grownBy w3 (some g))
    (hs : Fl.Sorted l') (hl : l'.length ≤ 8) (hok : ∀ f ∈ l', FileOk f) (ht : r' ≤ 9223372036854775807) : RefTo w w3 B g v l' r' := by
  have hgl : g < w.heap.size := Row.lt h.row
  have hlt := hf.lt
  refine ⟨v', ⟨h3, own_lo9 (hf.kept h23 (.inr (fun e => by have := (hlt g e).1; have := h1.size; omega))) (by have := h.lo; have := h1.size; omega), hs, hl, hok, h.lo, ht⟩, ?_, fun k hk => .inr (by have := (hlt k hk).1; have := h1.size; omega)⟩
  exact ((Chg.of_grown (S := RefOwn g v) h1 (fun k e => by cases e; exact .inl (.inl rfl))).trans (Chg.of_grown (S := RefOwn g v) h12 (fun k e => by cases e; exact .inl (.inl rfl))) (fun k h => .inl h)).trans (Chg.of_grown (S := RefOwn g v) h23 (fun k e => by cases e; exact .inl (.inl rfl))) (fun k h => .inl h)
theorem at_from (nm : Fl.Nm) : ∀ (l : List Fl) (k : Nat), (Fl.find l nm = none ∧ Fl.atFrom nm k l = -1) ∨ ∃ i, ∃ h : i < l.length, Fl.find l nm = some l[i] ∧ Fl.atFrom nm k l = ((k + i : Nat) : Int)
  | [], k => .inl ⟨rfl, rfl⟩
  | f :: r, k => by
    rw [Fl.find_cons, Fl.atFrom]
    by_cases h : f.name = nm
    · exact .inr ⟨0, by simp, by simp [h], by simp [h]⟩
    · rw [if_neg h, if_neg h]
      rcases at_from nm r (k + 1) with ⟨h1, h2⟩ | ⟨i, hi, h1, h2⟩
      · exact .inl ⟨h1, h2⟩
      · exact .inr ⟨i + 1, by simpa using hi, by simpa using h1, by rw [h2]; congr 1; omega⟩
theorem RefIn.found {w : World} {B g : Nat} {v : Value} {l : List Fl} {r : Int} (hd : RefIn w B g v l r) (nm : Fl.Nm) : (r = 0) ∨ (r ≠ 0 ∧ Fl.find l nm = none ∧ Fl.at_ l nm = -1) ∨ (r ≠ 0 ∧ ∃ (i b c n : Nat) (f : Fl), Fl.find l nm = some f ∧ Fl.at_ l nm = (i : Int) ∧ f.name = nm ∧ FileOk f ∧
      v = .slice (some ⟨b, 0, none⟩) n c ∧ Hid (n = l.length) ∧ i < n ∧ b < w.heap.size ∧ w.cell? ⟨g, 0, none⟩ = some (.slice (some ⟨b, 0, none⟩) n c) ∧ w.cell? ⟨b, i * 3, none⟩ = some (Sb nm) ∧ w.cell? ⟨b, i * 3 + 1, none⟩ = some (Sb f.b) ∧ w.cell? ⟨b, i * 3 + 2, none⟩ = some (.int .i64 f.safe)) := by
  by_cases h : r = 0
  · exact .inl h
  · rcases at_from nm l 0 with ⟨h1, h2⟩ | ⟨i, hi, h1, h2⟩
    · exact .inr (.inl ⟨h, h1, h2⟩)
    · obtain ⟨A, c, rfl⟩ := hd.files.form
      obtain ⟨b, rfl, hb1, hb2, c1, c2, c3⟩ := hd.files.at i hi
      rw [Fl.find_name h1] at c1
      exact .inr (.inr ⟨h, i, b, c, l.length, l[i], h1, by rw [show Fl.at_ l nm = Fl.atFrom nm 0 l from rfl, h2]; simp, Fl.find_name h1, hd.ok _ (Fl.find_mem h1), rfl, rfl, hi, hb2, Row.cell hd.row 0 (by simp), c1, c2, c3⟩)
theorem rdown9 {w : World} {B g : Nat} {v : Value} {l : List Fl} {r : Int} (h : RefIn w B g v l r) : Calls Try.prog 13 #[.pointer (some ⟨g, 0, none⟩)] w fun e w' => e = .returned (.bool (r == 0)) ∧ w = w' := rdown_at h.row
theorem rat9 {w : World} {B g : Nat} {v : Value} {l : List Fl} {r : Int} (nm : Fl.Nm) (h : RefIn w B g v l r) : Calls Try.prog 35 #[.pointer (some ⟨g, 0, none⟩), Sb nm] w fun e w' => e = .returned (.int .i64 (Fl.at_ l nm)) ∧ w = w' :=
  at9_any nm h.row h.files (by have := h.len; omega)
theorem oneR_le {r : Int} (h : r ≤ 9223372036854775807) : oneR r ≤ 9223372036854775807 := by unfold oneR; split <;> omega
set_option maxRecDepth 20000 in
set_option maxHeartbeats 1600000 in
theorem rsync9 {w : World} {B g : Nat} {v : Value} {l : List Fl} {r : Int} (nm : Fl.Nm) (hd : RefIn w B g v l r) :
    Calls Try.prog 27 #[.pointer (some ⟨g, 0, none⟩), Sb nm] w fun e w' => e = .returned (.int .i64 (syncR l r nm).2.2) ∧ RefTo w w' B g v (syncR l r nm).1 (syncR l r nm).2.1 := by
  have HD := Lib.hid hd
  have HW := Lib.hid (rdown9 hd)
  have HT := Lib.hid (rat9 nm hd)
  obtain ⟨R, hR⟩ : ∃ R, R = syncR l r nm := ⟨_, rfl⟩
  rw [← hR]
  unfold syncR at hR
  rcases hd.found nm with h0 | ⟨h0, hf, ha⟩ | ⟨h0, i, b, c, n, f, hf, ha, hnm, hok, rfl, hn, hin, hb, c0, c1, c2, c3⟩
  · rw [if_pos h0] at hR
    have HR := Lib.hid hR
    subst h0
    clear hR hd
    go_enter Try.func27, Try.ntmps27
    go_wp2_with fail
    refine HW.out.mono ?_
    rintro _ w1 ⟨rfl, rfl⟩
    go_wp2_with fail
    go_ret
    exact ⟨by rw [HR.out]; rfl, by rw [HR.out]; exact .same HD.out (Below.refl _ _)⟩
  · rw [if_neg h0, hf] at hR
    rw [ha] at HT
    have HR := Lib.hid hR
    have h0b : (r == 0) = false := by simpa using h0
    clear hR hd h0 hf ha
    go_enter Try.func27, Try.ntmps27
    go_wp2_with fail
    refine HW.out.mono ?_
    rintro _ w1 ⟨rfl, rfl⟩
    go_wp2_with fail
    refine HT.out.mono ?_
    rintro _ w1 ⟨rfl, rfl⟩
    go_wp2_with fail
    go_ret
    exact ⟨by rw [HR.out]; rfl, by rw [HR.out]; exact .same HD.out (Below.refl _ _)⟩
  · rw [if_neg h0, hf] at hR
    simp only at hR
    rw [ha] at HT
    have hlp := Fl.length_put l hd.sorted ⟨nm, f.b, (f.b.length : Int)⟩
    rw [show (Fl.find l nm).isSome = true by rw [hf]; rfl] at hlp
    have hpok : ∀ x ∈ (Fl.put l ⟨nm, f.b, (f.b.length : Int)⟩), FileOk x := fun x hx => by
      rcases Fl.mem_put hx with rfl | hx
      · exact ⟨by simp, by simp, hok.2.2.1, by rw [← hnm]; exact hok.2.2.2⟩
      · exact hd.ok x hx
    have hfin := fun (w2 w3 : World) (v' : Value) (h12 : (w.alloc (.cells #[Sb nm, Sb f.b, .int .i64 (f.b.length : Int)] 60)).grownBy w2 (some g)) (hfx : FlsAt w2 (w.alloc (.cells #[Sb nm, Sb f.b, .int .i64 (f.b.length : Int)] 60)).heap.size v' (Fl.put l ⟨nm, f.b, (f.b.length : Int)⟩)) (h3 : RkAt w3 g v' (oneR r)) (h23 : w2.grownBy w3 (some g)) =>
      @RefTo.fin w _ w2 w3 B g _ v' l (Fl.put l ⟨nm, f.b, (f.b.length : Int)⟩) r (oneR r) hd (grownBy_alloc _ _ _) h12 hfx h3 h23 (hd.sorted.put _) (by rw [hlp]; exact hd.len) hpok (oneR_le hd.top)
    have hput := rput_any (w := (w.alloc (.cells #[Sb nm, Sb f.b, .int .i64 (f.b.length : Int)] 60))) (lo := B) (left := r) (l := l) ⟨nm, f.b, (f.b.length : Int)⟩ (Row.below hd.row (Below.alloc (Below.refl _ _) (Nat.le_refl _) _)) (hd.files.alloc _) (by have := hd.len; omega) hd.sorted
    have h0b : (r == 0) = false := by simpa using h0
    have htop := hd.top
    have hil : (i : Int) < (n : Int) := by omega
    have hgq : g ≠ w.heap.size := by have : g < w.heap.size := Row.lt hd.row; omega
    have hbq : b ≠ w.heap.size := by omega
    have HR := Lib.hid hR
    have Hfin := Lib.hid hfin
    have Hput := Lib.hid hput
    have Htop := Lib.hid htop
    have Hn := Lib.hid hn
    clear hR hd h0 hf ha hok hnm hlp hpok hfin hput HD htop hn
    go_enter Try.func27, Try.ntmps27
    go_wp2_with fail
    refine HW.out.mono ?_
    rintro _ w1 ⟨rfl, rfl⟩
    go_wp2_with fail
    refine HT.out.mono ?_
    rintro _ w1 ⟨rfl, rfl⟩
    go_wp2_with fail
    refine Hput.out.mono ?_
    rintro _ w2 ⟨rfl, v', hr2, hf2, hg2⟩
    have Hr2 := Lib.hid hr2
    have Hf2 := Lib.hid hf2
    have Hg2 := Lib.hid hg2
    clear hr2 hf2 hg2
    go_wp2_with fail
    refine (rone_at Hr2.out Htop.out).mono ?_
    rintro _ w3 ⟨rfl, hr3, hg3⟩
    have Hto := Lib.hid (Hfin.out w2 w3 v' Hg2.out Hf2.out hr3 hg3)
    clear hr3 hg3
    go_wp2_with fail
    go_ret
    exact ⟨by rw [HR.out]; rfl, by rw [HR.out]; exact Hto.out⟩
set_option maxRecDepth 20000 in
set_option maxHeartbeats 1600000 in
theorem rremove9 {w : World} {B g : Nat} {v : Value} {l : List Fl} {r : Int} (nm : Fl.Nm) (hd : RefIn w B g v l r) :
    Calls Try.prog 29 #[.pointer (some ⟨g, 0, none⟩), Sb nm] w fun e w' => e = .returned (.int .i64 (removeR l r nm).2.2) ∧ RefTo w w' B g v (removeR l r nm).1 (removeR l r nm).2.1 := by
  have HD := Lib.hid hd
  have HW := Lib.hid (rdown9 hd)
  have HT := Lib.hid (rat9 nm hd)
  obtain ⟨R, hR⟩ : ∃ R, R = removeR l r nm := ⟨_, rfl⟩
  rw [← hR]
  unfold removeR at hR
  rcases hd.found nm with h0 | ⟨h0, hf, ha⟩ | ⟨h0, i, b, c, n, f, hf, ha, hnm, hok, rfl, hn, hin, hb, c0, c1, c2, c3⟩
  · rw [if_pos h0] at hR
    have HR := Lib.hid hR
    subst h0
    clear hR hd
    go_enter Try.func29, Try.ntmps29
    go_wp2_with fail
    refine HW.out.mono ?_
    rintro _ w1 ⟨rfl, rfl⟩
    go_wp2_with fail
    go_ret
    exact ⟨by rw [HR.out]; rfl, by rw [HR.out]; exact .same HD.out (Below.refl _ _)⟩
  · rw [if_neg h0, hf] at hR
    rw [ha] at HT
    have HR := Lib.hid hR
    have h0b : (r == 0) = false := by simpa using h0
    clear hR hd h0 hf ha
    go_enter Try.func29, Try.ntmps29
    go_wp2_with fail
    refine HW.out.mono ?_
    rintro _ w1 ⟨rfl, rfl⟩
    go_wp2_with fail
    refine HT.out.mono ?_
    rintro _ w1 ⟨rfl, rfl⟩
    go_wp2_with fail
    go_ret
    exact ⟨by rw [HR.out]; rfl, by rw [HR.out]; exact .same HD.out (Below.refl _ _)⟩
  · rw [if_neg h0, hf] at hR
    simp only at hR
    rw [ha] at HT
    have hfin := fun (w2 w3 : World) (v' : Value) (h12 : w.grownBy w2 (some g)) (hfx : FlsAt w2 w.heap.size v' (Fl.drop l nm)) (h3 : RkAt w3 g v' (oneR r)) (h23 : w2.grownBy w3 (some g)) =>
      @RefTo.fin w _ w2 w3 B g _ v' l (Fl.drop l nm) r (oneR r) hd (grownBy_refl _ _) h12 hfx h3 h23 (hd.sorted.drop _) (Nat.le_trans (Fl.length_drop _ _) hd.len) (fun x hx => hd.ok x (Fl.mem_drop.1 hx).1) (oneR_le hd.top)
    have hdrop := drop9_any (lo := B) nm hd.row hd.files (by have := hd.len; omega)
    have h0b : (r == 0) = false := by simpa using h0
    have hnn : ¬ ((i : Int) < 0) := by omega
    have HR := Lib.hid hR
    have Hfin := Lib.hid hfin
    have Hdrop := Lib.hid hdrop
    have Htop := Lib.hid hd.top
    have Hn := Lib.hid hn
    clear hR hd h0 hf ha hok hnm hfin hdrop HD hn
    go_enter Try.func29, Try.ntmps29
    go_wp2_with fail
    refine HW.out.mono ?_
    rintro _ w1 ⟨rfl, rfl⟩
    go_wp2_with fail
    refine HT.out.mono ?_
    rintro _ w1 ⟨rfl, rfl⟩
    go_wp2_with fail
    refine Hdrop.out.mono ?_
    rintro _ w2 ⟨rfl, v', hr2, hf2, hg2⟩
    have Hr2 := Lib.hid hr2
    have Hf2 := Lib.hid hf2
    have Hg2 := Lib.hid hg2
    clear hr2 hf2 hg2
    go_wp2_with fail
    refine (rone_at Hr2.out Htop.out).mono ?_
    rintro _ w3 ⟨rfl, hr3, hg3⟩
    have Hto := Lib.hid (Hfin.out w2 w3 v' Hg2.out Hf2.out hr3 hg3)
    clear hr3 hg3
    go_wp2_with fail
    go_ret
    exact ⟨by rw [HR.out]; rfl, by rw [HR.out]; exact Hto.out⟩
set_option maxRecDepth 20000 in
set_option maxHeartbeats 1600000 in
theorem rrename9 {w : World} {B g : Nat} {v : Value} {l : List Fl} {r : Int} (nm to : Fl.Nm) (ht : to.length ≤ 140737488351232) (hd : RefIn w B g v l r) :
    Calls Try.prog 28 #[.pointer (some ⟨g, 0, none⟩), Sb nm, Sb to] w fun e w' => e = .returned (.int .i64 (renameR l r nm to).2.2) ∧ RefTo w w' B g v (renameR l r nm to).1 (renameR l r nm to).2.1 := by
  have HD := Lib.hid hd
  have HW := Lib.hid (rdown9 hd)
  have HT := Lib.hid (rat9 nm hd)
  obtain ⟨R, hR⟩ : ∃ R, R = renameR l r nm to := ⟨_, rfl⟩
  rw [← hR]
  unfold renameR at hR
  have HI : Hid (∀ w, Calls Try.prog 38 #[Sb to] w fun e w' => e = .returned (.bool (Disk.word to)) ∧ w = w') := Lib.hid fun w => word9_any ⟨to.toArray⟩ w (show to.toArray.size ≤ _ by simpa using ht)
  clear ht
  rcases hd.found nm with h0 | ⟨h0, hf, ha⟩ | ⟨h0, i, b, c, n, f, hf, ha, hnm, hok, rfl, hn, hin, hb, c0, c1, c2, c3⟩
  · rw [if_pos h0] at hR
    have HR := Lib.hid hR
    subst h0
    clear hR hd
    go_enter Try.func28, Try.ntmps28
    go_wp2_with fail
    refine HW.out.mono ?_
    rintro _ w1 ⟨rfl, rfl⟩
    go_wp2_with fail
    go_ret
    exact ⟨by rw [HR.out]; rfl, by rw [HR.out]; exact .same HD.out (Below.refl _ _)⟩
  · rw [if_neg h0, hf] at hR
    rw [ha] at HT
    have HR := Lib.hid hR
    have h0b : (r == 0) = false := by simpa using h0
    clear hR hd h0 hf ha
    go_enter Try.func28, Try.ntmps28
    go_wp2_with fail
    refine HW.out.mono ?_
    rintro _ w1 ⟨rfl, rfl⟩
    go_wp2_with fail
    refine HT.out.mono ?_
    rintro _ w1 ⟨rfl, rfl⟩
    go_wp2_with fail
    go_ret
    exact ⟨by rw [HR.out]; rfl, by rw [HR.out]; exact .same HD.out (Below.refl _ _)⟩
  · rw [if_neg h0, hf] at hR
    simp only at hR
    rw [ha] at HT
    have h0b : (r == 0) = false := by simpa using h0
    have hil : (i : Int) < (n : Int) := by omega
    by_cases hw : Disk.word to = true
    · rw [if_pos hw] at hR
      rw [hw] at HI
      have hgl : g < w.heap.size := Row.lt hd.row
      have hrowq := Row.new w 60 [Sb nm, Sb f.b, .int .i64 f.safe]
      have hb1 := Below.alloc (Below.refl w.heap.size w) (Nat.le_refl _) (.cells #[Sb nm, Sb f.b, .int .i64 f.safe] 60)
      have hdrop := drop9_any (w := w.alloc (.cells #[Sb nm, Sb f.b, .int .i64 f.safe] 60)) (lo := B) nm (Row.below hd.row hb1) (hd.files.alloc _) (by have := hd.len; omega)
      have hlp := Fl.length_put (Fl.drop l nm) (hd.sorted.drop nm) ⟨to, f.b, f.safe⟩
      have hld := Fl.length_drop_of_mem hd.sorted (nm := nm) (by rw [hf]; rfl)
      have hl8 : (Fl.put (Fl.drop l nm) ⟨to, f.b, f.safe⟩).length ≤ 8 := by have := hd.len; rw [hlp]; split <;> omega
      have hpok : ∀ x ∈ Fl.put (Fl.drop l nm) ⟨to, f.b, f.safe⟩, FileOk x := fun x hx => by
        rcases Fl.mem_put hx with rfl | hx
        · exact ⟨hok.1, hok.2.1, hok.2.2.1, word_len hw⟩
        · exact hd.ok x (Fl.mem_drop.1 hx).1
      have hfin := fun (w4 w5 w6 : World) (v' : Value) (h1 : w.grownBy w4 (some g)) (h12 : w4.grownBy w5 (some g)) (hfx : FlsAt w5 w4.heap.size v' (Fl.put (Fl.drop l nm) ⟨to, f.b, f.safe⟩)) (h3 : RkAt w6 g v' (oneR r)) (h23 : w5.grownBy w6 (some g)) =>
        @RefTo.fin w w4 w5 w6 B g _ v' l (Fl.put (Fl.drop l nm) ⟨to, f.b, f.safe⟩) r (oneR r) hd h1 h12 hfx h3 h23 ((hd.sorted.drop nm).put _) hl8 hpok (oneR_le hd.top)
      have hgq : g ≠ w.heap.size := by omega
      have hbq : b ≠ w.heap.size := by omega
      have HR := Lib.hid hR
      have Hfin := Lib.hid hfin
      have Hdrop := Lib.hid hdrop
      have Hrowq := Lib.hid hrowq
      have Hb1 := Lib.hid hb1
      have Htop := Lib.hid hd.top
      have Hn := Lib.hid hn
      have HDs := Lib.hid (hd.sorted.drop nm)
      have HD8 : Hid ((Fl.drop l nm).length ≤ 1000) := Lib.hid (by have := hd.len; have := Fl.length_drop l nm; omega)
      clear hR hd h0 hf ha hok hnm hfin hdrop HD hn hw hlp hld hl8 hpok hrowq hb1
      go_enter Try.func28, Try.ntmps28
      go_wp2_with fail
      refine HW.out.mono ?_
      rintro _ w1 ⟨rfl, rfl⟩
      go_wp2_with fail
      refine HT.out.mono ?_
      rintro _ w1 ⟨rfl, rfl⟩
      go_wp2_with fail
      refine (HI.out _).mono ?_
      rintro _ w2 ⟨rfl, rfl⟩
      go_wp2_with fail
      refine Hdrop.out.mono ?_
      rintro _ w3 ⟨rfl, v2, hr3, hf3, hg3⟩
      have hrow3 := Hrowq.out.kept hg3 (by simpa using fun e => hgq e.symm)
      have f0 := Row.free hrow3 0
      have d0 := Row.cell hrow3 0 (by simp)
      have hset := Row.set hrow3 0 (Sb to) (by simp)
      simp only [List.set_cons_zero] at hset
      have e0 := Row.cell hset 0 (by simp)
      have e1 := Row.cell hset 1 (by simp)
      have e2 := Row.cell hset 2 (by simp)
      simp only [List.getElem_cons_zero, List.getElem_cons_succ] at d0 e0 e1 e2
      have hgs := grownBy_set w3 w.heap.size 0 (Sb to)
      have hw4 : w.grownBy (w3.setCell ⟨w.heap.size, 0, none⟩ (Sb to)) (some g) := ((grownBy_of_below Hb1.out (some g)).trans hg3).andThen hgs (fun j hj => by cases hj; exact .inl (Nat.le_refl _))
      have hput := rput_any (w := w3.setCell ⟨w.heap.size, 0, none⟩ (Sb to)) (left := r) (l := Fl.drop l nm) ⟨to, f.b, f.safe⟩ (Row.kept hr3 hgs (by simpa using hgq)) (hf3.kept hgs (.inr (fun e => by have := (hf3.lt _ e).1; simp at this; omega))) HD8.out HDs.out
      have Hput := Lib.hid hput
      have Hw4 := Lib.hid hw4
      have HE0 := Lib.hid e0
      have HE1 := Lib.hid e1
      have HE2 := Lib.hid e2
      clear hr3 hf3 hg3 hrow3 hset hgs hw4 hput
      go_wp2_with fail
      refine Hput.out.mono ?_
      rintro _ w5 ⟨rfl, v', hr5, hf5, hg5⟩
      have Hr5 := Lib.hid hr5
      have Hf5 := Lib.hid hf5
      have Hg5 := Lib.hid hg5
      clear hr5 hf5 hg5
      go_wp2_with fail
      refine (rone_at Hr5.out Htop.out).mono ?_
      rintro _ w6 ⟨rfl, hr6, hg6⟩
      have Hto := Lib.hid (Hfin.out _ w5 w6 v' Hw4.out Hg5.out Hf5.out hr6 hg6)
      clear hr6 hg6
      go_wp2_with fail
      go_ret
      exact ⟨by rw [HR.out]; rfl, by rw [HR.out]; exact Hto.out⟩
    · rw [if_neg hw] at hR
      rw [Bool.not_eq_true] at hw
      rw [hw] at HI
      have HR := Lib.hid hR
      have hnn : ¬ ((i : Int) < 0) := by omega
      have Hn := Lib.hid hn
      clear hR hd h0 hf ha hok hnm hn hw
      go_enter Try.func28, Try.ntmps28
      go_wp2_with fail
      refine HW.out.mono ?_
      rintro _ w1 ⟨rfl, rfl⟩
      go_wp2_with fail
      refine HT.out.mono ?_
      rintro _ w1 ⟨rfl, rfl⟩
      go_wp2_with fail
      refine (HI.out _).mono ?_
      rintro _ w2 ⟨rfl, rfl⟩
      go_wp2_with fail
      go_ret
      exact ⟨by rw [HR.out]; rfl, by rw [HR.out]; exact .same HD.out (Below.refl _ _)⟩
end Go.Proofs.Ytfebknhggapljaa
