/- What later texts need of the earlier layers. -/
import Derived.Test.YtalfnadejpmjnaaGreatDoorNSlO
import Derived.Test.YtalfnadejpmjnaaGreatDoorNSlS
import Derived.Test.YtalfnadejpmjnaaGreatDoorNSlT
import Derived.Test.YtalfnadejpmjnaaGreatDoorNDkA
import Derived.Test.YtalfnadejpmjnaaGreatDoorNDkB
import Derived.Test.YtalfnadejpmjnaaGreatDoorNDkC
import Derived.Test.YtalfnadejpmjnaaGreatDoorNDkD
import Derived.Test.YtalfnadejpmjnaaGreatDoorNJrA
import Derived.Test.YtalfnadejpmjnaaGreatDoorNJrB
import Derived.Test.YtalfnadejpmjnaaGreatDoorNShelfB
import Derived.Test.YtalfnadejpmjnaaGreatDoorNJrBld
import Derived.Deep.AppendSrc
import Derived.Deep.DeepAppendWide
import Derived.OwnWalk
import Derived.Below
import Derived.WalkKit
import Derived.Shelf.Sort.Plain
import Derived.Shelf.Slices.In.SortNone
import Derived.Deep.QuietTactic
import Derived.BigQuiet
/- ---- JrRenew ---- -/
/- journal.Renew: what it returns. -/
namespace Go.Proofs.YtalfnadejpmjnaaGreatDoor.Jn
set_option maxRecDepth 100000
open Go.RowKit
set_option maxRecDepth 100000
set_option linter.unusedVariables false
set_option linter.unusedSimpArgs false

/-- a slice that reads as these texts -/
def InL (w : World) (v : Value) (L : List (List UInt8)) : Prop := ∃ A c, v = .slice A L.length c ∧ (L ≠ [] → ∃ b, A = some ⟨b, 0, none⟩ ∧ b < w.heap.size ∧ ∀ i (h : i < L.length), w.cell? ⟨b, i, none⟩ = some (S L[i]))
theorem Lst.inL {w : World} {base : Nat} {v : Value} {L : List (List UInt8)} (h : Lst w base v L) : InL w v L := by
  obtain ⟨A, c, hv, hr⟩ := h
  refine ⟨A, c, hv, fun hne => ?_⟩
  obtain ⟨b, h1, h2, h3, h4⟩ := hr hne
  exact ⟨b, h1, h3, h4⟩
theorem build_new (w : World) : Lib.IsBuilder 131 5 w.heap.size w.heap.size [] (w.alloc (.cells #[.pointer none, .slice none 0 0] 131)) :=
  .inl ⟨Nat.le_refl _, .slice none 0 0, heap_alloc_new _ _, World.ownsRow_nil _ _ _ _, by simp [Value.ownBlock]⟩
theorem isBuilder_below {T e : TypeId} {B b : Nat} {bs : List Value} {w w' : World} (h : Lib.IsBuilder T e B b bs w) (hb : Below w.heap.size w w') : Lib.IsBuilder T e B b bs w' := by
  have key : ∀ p, Lib.BuilderAt T e B b p bs w → Lib.BuilderAt T e B b p bs w' := by
    rintro p ⟨h1, v, h2, h3, h4⟩
    exact ⟨h1, v, (hb.block b (lt_of_block h2)).trans h2, own_below h3 hb, h4⟩
  rcases h with h | h
  · exact .inl (key _ h)
  · exact .inr (key _ h)
theorem byteCells_app (a b : List UInt8) (s : ByteArray) (h : s.data.toList = b) : Lib.byteCells a ++ Lib.strCells s = Lib.byteCells (a ++ b) := by
  subst h
  simp [Lib.byteCells, Lib.strCells]
set_option maxHeartbeats 1600000 in
theorem jrenew_at {w : World} {B : Nat} {S0 : Nat → Prop} {g q : Nat} {l : List Fl} {r : Int} {j : Jr.J} (h : JS w B S0 g q l r j) (v : Value) (L : List (List UInt8)) (hv : InL w v L) (hL : L.length ≤ 1000000000) : Calls Tryz.prog 57 #[.pointer (some ⟨q, 0, none⟩), v] w fun e w' => e = .returned (.int .i64 (Jr.renewR l r j L).2.2.2) ∧ JTo w w' B S0 g q (Jr.renewR l r j L).1 (Jr.renewR l r j L).2.1 (Jr.renewR l r j L).2.2.1 := by
  unfold Jr.renewR
  obtain ⟨A, c, rfl, hcs⟩ := hv
  have kw := jwrong_at h.row
  by_cases hbr : j.broken = true
  · rw [if_pos hbr]
    rw [if_pos hbr] at kw
    have Kw := Lib.hid kw
    have Hto := Lib.hid (JTo.refl h)
    clear kw h hcs
    go_enter Tryz.func57, Tryz.ntmps57
    go_wp2_with fail
    refine Kw.out.mono ?_
    rintro e w1 ⟨rfl, rfl⟩
    go_wp2_with fail
    go_ret
    exact ⟨rfl, Hto.out⟩
  rw [if_neg hbr]
  rw [if_neg hbr] at kw
  obtain ⟨R, hR0⟩ : ∃ x, (if ¬ (∀ s ∈ L, s.length ≤ 4096) then (l, r, j, 3) else
    if (Jr.replaceR l r (Jr.lays 0 L)).2.2 ≠ 0 then ((Jr.replaceR l r (Jr.lays 0 L)).1, (Jr.replaceR l r (Jr.lays 0 L)).2.1, ⟨j.len, j.synced, true⟩, (Jr.replaceR l r (Jr.lays 0 L)).2.2)
    else ((Jr.replaceR l r (Jr.lays 0 L)).1, (Jr.replaceR l r (Jr.lays 0 L)).2.1, ⟨L.length, L.length, false⟩, 0) : List Fl × Int × Jr.J × Int) = x := ⟨_, rfl⟩
  rw [hR0]
  have HR0 := Lib.hid hR0
  clear hR0
  have Kw := Lib.hid kw
  have Hh := Lib.hid h
  have Hcs := Lib.hid hcs
  have hjb : j.broken = false := by simpa using hbr
  clear kw h hcs hbr
  go_enter Tryz.func57, Tryz.ntmps57
  go_wp2_with fail
  refine Kw.out.mono ?_
  rintro e w1 ⟨rfl, rfl⟩
  go_wp2_with fail
  have hb1 : Below w.heap.size w (w.alloc (.cells #[.pointer none, .slice none 0 0] 131)) := (Below.refl _ _).alloc (Nat.le_refl _) _
  have hbu := build_new w
  generalize w.alloc (.cells #[.pointer none, .slice none 0 0] 131) = W1 at *
  have Hb1 := Lib.hid hb1
  have Hbu := Lib.hid hbu
  clear hb1 hbu
  go_loopw [17] (fun i wr => ∃ k : Nat, k ≤ L.length ∧ i = .int .i64 (k : Int) ∧ Lib.IsBuilder 131 5 w.heap.size w.heap.size (Lib.byteCells (Jr.lays 0 (L.take k))) wr ∧ Below w.heap.size w wr ∧ ∀ s ∈ L.take k, s.length ≤ 4096) (fun i _ => L.length - (intOf i).toNat)
  case atStart => exact ⟨0, by omega, rfl, by simpa [Jr.lays, Lib.byteCells] using Hbu.out, Hb1.out, by simp⟩
  case round =>
    obtain ⟨k, hk, rfl, hbu, hbr, hsm⟩ := hrel
    by_cases hlt : k < L.length
    · have d1 : decide ((k : Int) < (L.length : Int)) = true := by simp only [decide_eq_true_eq]; omega
      have d1' : decide (k < L.length) = true := by simp only [decide_eq_true_eq]; omega
      obtain ⟨b, rfl, hbl, hc⟩ := Hcs.out (by rintro rfl; simp at hlt)
      have hck := hc k hlt
      have hcell : wr.cell? ⟨b, k, none⟩ = some (S L[k]) := by rw [← hck]; exact World.cell?_of_block (a := ⟨b, k, none⟩) (hbr.block b hbl)
      obtain ⟨s, hs⟩ : ∃ s : ByteArray, (⟨L[k].toArray⟩ : ByteArray) = s := ⟨_, rfl⟩
      have hsl : s.data.toList = L[k] := by rw [← hs]
      have hsz : s.size = L[k].length := by rw [← hs]; rfl
      have hSv : S L[k] = .string s := by rw [← hs]
      rw [hSv] at hcell
      have hsucc : L.take (k + 1) = L.take k ++ [L[k]] := List.take_succ_eq_append_getElem hlt
      have Hsm := Lib.hid hsm
      have Hbu := Lib.hid hbu
      have Hbr := Lib.hid hbr
      have Hsucc := Lib.hid hsucc
      have Hsl := Lib.hid hsl
      by_cases hbig : 4096 < s.size
      · have d2 : decide ((4096 : Int) < (s.size : Int)) = true := by simp only [decide_eq_true_eq]; omega
        have d2' : decide (4096 < s.size) = true := by simp only [decide_eq_true_eq]; omega
        have hno : ¬ ∀ s ∈ L, s.length ≤ 4096 := fun hall => by
          have := hall L[k] (List.getElem_mem hlt)
          omega
        have Hno := Lib.hid hno
        have Hto := Lib.hid (Hh.out.belowTo Hbr.out)
        clear hno hbu hbr hsm hc hck hs hsl hSv hsucc hsz hbl
        go_wp2_with fail
        go_ret
        have e := HR0.out
        rw [if_pos Hno.out] at e
        subst e
        exact ⟨rfl, Hto.out⟩
      · have d2 : decide ((4096 : Int) < (s.size : Int)) = false := by simp only [decide_eq_false_iff_not]; omega
        have d2' : decide (4096 < s.size) = false := by simp only [decide_eq_false_iff_not]; omega
        have hsz4 : s.size ≤ 4096 := by omega
        have klay := fun W : World => jrLay_any k s W (by omega) (by omega)
        have hll := Jr.lay_le k s.data.toList
        have hlens := Jr.lays_len_le 0 (L.take k) Hsm.out
        have htk : (L.take k).length = k := by rw [List.length_take]; omega
        rw [htk] at hlens
        have hsm2 : ∀ x ∈ L.take (k + 1), x.length ≤ 4096 := by
          rw [hsucc]
          intro x hx
          rcases List.mem_append.1 hx with hx | hx
          · exact Hsm.out x hx
          · have : x = L[k] := by simpa using hx
            rw [this]; omega
        have hlays2 : Jr.lays 0 (L.take (k + 1)) = Jr.lays 0 (L.take k) ++ Jr.lay k s.data.toList := by
          rw [hsucc, Jr.lays_app, htk, hsl]; simp [Jr.lays]
        have hsd : s.data.toList.length = s.size := rfl
        obtain ⟨lb, hlb⟩ : ∃ lb : ByteArray, (⟨(Jr.lay k s.data.toList).toArray⟩ : ByteArray) = lb := ⟨_, rfl⟩
        have hlbl : lb.data.toList = Jr.lay k s.data.toList := by rw [← hlb]
        have hlbz : lb.size = (Jr.lay k s.data.toList).length := by rw [← hlb]; rfl
        have klay2 : ∀ W : World, Calls Tryz.prog 62 #[.int .i64 (k : Int), .string s] W fun e w' => e = .returned (.string lb) ∧ Below W.heap.size W w' := by
          intro W; rw [← hlb]; exact klay W
        have hbc : (Lib.byteCells (Jr.lays 0 (L.take k))).length = (Jr.lays 0 (L.take k)).length := by simp [Lib.byteCells]
        have hfit : (Lib.byteCells (Jr.lays 0 (L.take k))).length + lb.size ≤ 140737488355328 := by rw [hbc, hlbz]; omega
        have happ : Lib.byteCells (Jr.lays 0 (L.take k)) ++ Lib.strCells lb = Lib.byteCells (Jr.lays 0 (L.take (k + 1))) := by rw [byteCells_app _ _ _ hlbl, hlays2]
        have Klay := Lib.hid klay2
        have Hsm2 := Lib.hid hsm2
        have Hfit := Lib.hid hfit
        have Happ := Lib.hid happ
        clear klay klay2 hsm2 hfit happ hlays2 hlens hll hlb hlbl hlbz hbc htk hsd hbu hbr hsm hc hck hs hsl hSv hsucc hsz hbl
        go_wp2_with fail
        refine (Klay.out _).mono ?_
        rintro e w2 ⟨rfl, hb2⟩
        have hbu2 : Lib.IsBuilder 131 5 w.heap.size w.heap.size (Lib.byteCells (Jr.lays 0 (L.take k))) w2 := isBuilder_below Hbu.out hb2
        have hbr2 := Hbr.out.trans (hb2.mono Hbr.out.size)
        have Hbu2 := Lib.hid hbu2
        have Hbr2 := Lib.hid hbr2
        clear hb2 hbu2 hbr2
        go_wp2_with fail
        refine (bldWrite_any w.heap.size w.heap.size _ lb _ Hbu2.out Hfit.out Hbr2.out.size).mono ?_
        rintro e w3 ⟨rfl, hbu3, hb3⟩
        rw [Happ.out] at hbu3
        have Hbu3 := Lib.hid hbu3
        have Hbr3 := Lib.hid (Hbr2.out.trans hb3)
        clear hbu3 hb3
        go_wp2_with fail
        refine ⟨⟨k + 1, by omega, by go_num, .inr Hbu3.out, Hbr3.out, Hsm2.out⟩, by simp [intOf]; omega⟩
    · have d1 : decide ((k : Int) < (L.length : Int)) = false := by simp only [decide_eq_false_iff_not]; omega
      have d1' : decide (k < L.length) = false := by simp only [decide_eq_false_iff_not]; omega
      have htk : L.take k = L := List.take_of_length_le (by omega)
      rw [htk] at hbu hsm
      have hlens := Jr.lays_len_le 0 L hsm
      have hno : ¬ ¬ ∀ s ∈ L, s.length ≤ 4096 := fun hno => hno hsm
      have hbw := hbr.size
      have kS := Tryz.Builder_String_any w.heap.size w.heap.size (Jr.lays 0 L) wr hbu hbw
      obtain ⟨sv, hsv⟩ : ∃ v, Sb (Jr.lays 0 L) = v := ⟨_, rfl⟩
      have kS' : Calls Tryz.prog 88 #[.pointer (some ⟨w.heap.size, 0, none⟩)] wr fun e w' => e = .returned sv ∧ Below w.heap.size wr w' := by
        rw [← hsv]; exact kS
      have kR := fun {w : World} {S : Nat → Prop} (h : JS w B S g q l r j) => jreplace_at h (Jr.lays 0 L) (by omega)
      rcases hR : Jr.replaceR l r (Jr.lays 0 L) with ⟨l1, r1, c1⟩
      rw [hR] at kR
      simp only [hsv] at kR
      have KR := fun {w : World} {S : Nat → Prop} (h : JS w B S g q l r j) => Lib.hid (kR h)
      have KS := Lib.hid kS'
      have Hno := Lib.hid hno
      have Hbr := Lib.hid hbr
      have HR := Lib.hid hR
      clear kS kS' kR hR hsv hno hbu hbr hsm htk hlens hbw
      by_cases e1 : c1 = 0
      · subst e1
        have d3 : decide ((0 : Int) ≠ 0) = false := rfl
        go_wp2_with fail
        refine KS.out.mono ?_
        rintro e w5 ⟨rfl, hb5⟩
        have hJ5 := Hh.out.below (Hbr.out.trans hb5)
        have HJ5 := Lib.hid hJ5
        have Hb5 := Lib.hid (Hbr.out.trans hb5)
        clear hb5 hJ5
        go_wp2_with fail
        refine (KR HJ5.out).out.mono ?_
        rintro e w6 ⟨rfl, t6⟩
        have t6' : JTo w w6 B S0 g q l1 r1 j := JTo.trans (fun _ h => Or.inl h) ⟨Hb5.out.os, Hb5.out.tape, Hb5.out.output, Hb5.out.size, fun i hi _ => Hb5.out.block i hi⟩ t6
        obtain ⟨S6, hJ6, hP6, hC6⟩ := t6'
        have HJ6 := Lib.hid hJ6
        have HP6 := Lib.hid hP6
        have HC6 := Lib.hid hC6
        clear t6 hJ6 hP6 hC6
        go_wp2_with fail
        refine (jdid_at HJ6.out 0).mono ?_
        rintro e w8 ⟨rfl, t8⟩
        have t9' := JTo.trans HP6.out HC6.out t8
        have H7 := Lib.hid t9'
        clear t8 t9'
        obtain ⟨S8, hJ8, hP8, hC8⟩ := H7.out
        have z2 := hJ8.row.box.2.2.1
        have z3 := hJ8.row.box.2.2.2.1
        have zf2 := Row.free hJ8.row 2
        have zf3 := Row.free hJ8.row 3
        have zr := Row.set hJ8.row 2 (.int .i64 (L.length : Int)) (by simp [jcells])
        have zr2 := Row.set zr 3 (.int .i64 (L.length : Int)) (by simp [jcells])
        have y3 := Row.cell zr 3 (by simp [jcells])
        have yf3 := Row.free zr 3
        simp only [jcells, List.set, List.getElem_cons_succ, List.getElem_cons_zero] at y3
        have t9 := JTo.trans hP8 hC8 (hJ8.rowTo (j' := ⟨L.length, L.length, false⟩) (World.grownBy.trans (grownBy_set w8 q 2 (.int .i64 (L.length : Int))) (grownBy_set _ q 3 (.int .i64 (L.length : Int)))) (by unfold JAt; unfold jcells at zr2 ⊢; simpa using zr2))
        have H9 := Lib.hid t9
        clear hJ8 hP8 hC8 zr zr2 t9 H7
        go_wp2_with fail
        go_ret
        have e := HR0.out
        rw [if_neg Hno.out, HR.out] at e
        simp only [ne_eq, not_true_eq_false, if_false] at e
        subst e
        exact ⟨rfl, H9.out⟩
      · have d2 : (c1 != 0) = true := by simpa using e1
        have d3 : decide (c1 ≠ 0) = true := by simpa using e1
        have E1 := Lib.hid e1
        clear e1
        go_wp2_with fail
        refine KS.out.mono ?_
        rintro e w5 ⟨rfl, hb5⟩
        have hJ5 := Hh.out.below (Hbr.out.trans hb5)
        have HJ5 := Lib.hid hJ5
        have Hb5 := Lib.hid (Hbr.out.trans hb5)
        clear hb5 hJ5
        go_wp2_with fail
        refine (KR HJ5.out).out.mono ?_
        rintro e w6 ⟨rfl, t6⟩
        have t6' : JTo w w6 B S0 g q l1 r1 j := JTo.trans (fun _ h => Or.inl h) ⟨Hb5.out.os, Hb5.out.tape, Hb5.out.output, Hb5.out.size, fun i hi _ => Hb5.out.block i hi⟩ t6
        obtain ⟨S6, hJ6, hP6, hC6⟩ := t6'
        have HJ6 := Lib.hid hJ6
        have HP6 := Lib.hid hP6
        have HC6 := Lib.hid hC6
        clear t6 hJ6 hP6 hC6
        go_wp2_with fail
        refine (jdid_at HJ6.out c1).mono ?_
        rintro e w8 ⟨rfl, t8⟩
        have t9' := JTo.trans HP6.out HC6.out t8
        have H7 := Lib.hid t9'
        clear t8 t9'
        go_wp2_with fail
        go_ret
        rw [d3] at H7
        have e := HR0.out
        rw [if_neg Hno.out, HR.out] at e
        simp only at e
        rw [if_pos E1.out] at e
        subst e
        exact ⟨rfl, H7.out⟩
end Go.Proofs.YtalfnadejpmjnaaGreatDoor.Jn

/- ---- JrKeep ---- -/
/- Layer 10: what was synced is there behind any crash: plain mathematics. -/
namespace Go.Proofs.YtalfnadejpmjnaaGreatDoor.Jn
set_option maxRecDepth 100000
set_option linter.unusedVariables false
set_option linter.unusedSimpArgs false
namespace Jr
theorem lays_nil {i : Nat} {L : List (List UInt8)} (h : (lays i L).length = 0) : L = [] := by
  cases L with
  | nil => rfl
  | cons r L =>
    have := lay_pos i r
    simp only [lays, List.length_append] at h
    omega
/-- the journal is whole: all were added, of which so many are safe -/
structure Inv (o : Option (List UInt8 × Int)) (j : J) (all : List (List UInt8)) (safe : Nat) : Prop where
  bytes : by_ o = lays 0 all
  safe_in : ((lays 0 (all.take safe)).length : Int) ≤ sf o
  safe0 : 0 ≤ sf o
  safe1 : sf o ≤ (by_ o).length
  big : (by_ o).length ≤ 1048576
  small : ∀ s ∈ all, s.length ≤ 4096
  len : j.len = all.length
  ok : j.broken = false
  safe_le : safe ≤ all.length
/-- the disk is down, or something was too great: the file holds a beginning of them -/
def Done (l : List Fl) (all : List (List UInt8)) (safe : Nat) : Prop :=
  ∃ (o x : Option (List UInt8 × Int)) (n : Nat), l = St o x ∧ n ≤ all.length ∧ by_ o = lays 0 (all.take n) ∧ safe ≤ n ∧ ((lays 0 (all.take safe)).length : Int) ≤ sf o ∧ 0 ≤ sf o ∧ sf o ≤ (by_ o).length ∧ (by_ o).length ≤ 1048576 ∧ ∀ s ∈ all.take n, s.length ≤ 4096
variable {l : List Fl} {o : Option (List UInt8 × Int)} {r : Int} {j : J} {all : List (List UInt8)} {safe : Nat}
theorem Inv.more (h : Inv o j all safe) (x : Option (List UInt8 × Int)) (more : List (List UInt8)) : Done (St o x) (all ++ more) safe := by
  have hs := h.safe_le
  refine ⟨o, x, all.length, rfl, by simp, ?_, hs, ?_, h.safe0, h.safe1, h.big, ?_⟩
  · rw [h.bytes, List.take_left]
  · rw [List.take_append_of_le_length hs]; exact h.safe_in
  · rw [List.take_left]; exact h.small
theorem Inv.done (h : Inv o j all safe) (x : Option (List UInt8 × Int)) : Done (St o x) all safe := by
  have := h.more x []
  rwa [List.append_nil] at this
theorem Inv.add (h : Inv o j all safe) (s : List UInt8) (hs : s.length ≤ 4096) : ((addR (St o none) r j s).2.2.2 = 0 ∧ ∃ o', (addR (St o none) r j s).1 = St o' none ∧ Inv o' (addR (St o none) r j s).2.2.1 (all ++ [s]) safe) ∨ ((addR (St o none) r j s).2.2.2 ≠ 0 ∧ Done (addR (St o none) r j s).1 (all ++ [s]) safe) := by
  have hd := h.more none [s]
  have h2 := h.bytes
  have h1 := h.safe1
  unfold addR
  rw [if_neg (by rw [h.ok]; simp), if_neg (by omega)]
  by_cases hr : r = 0
  · have ha : appendR (St o none) r nj (lay j.len s) = (St o none, r, 8) := by unfold appendR; rw [if_pos hr]
    rw [ha]
    exact .inr ⟨by simp, by simpa using hd⟩
  · by_cases hbig : 1048576 < (by_ o).length + (lay j.len s).length
    · have ha : appendR (St o none) r nj (lay j.len s) = (St o none, r, 3) := by rw [append_j hr, if_pos hbig]
      rw [ha]
      exact .inr ⟨by simp, by simpa using hd⟩
    · have ha : appendR (St o none) r nj (lay j.len s) = (St (some (by_ o ++ lay j.len s, sf o)) none, oneR r, 0) := by rw [append_j hr, if_neg hbig]
      rw [ha]
      refine .inl ⟨by simp, some (by_ o ++ lay j.len s, sf o), by simp, ⟨?_, ?_, h.safe0, ?_, ?_, ?_, ?_, by simp, ?_⟩⟩
      · show by_ o ++ _ = _
        rw [h2, lays_app, h.len]; simp [lays]
      · rw [List.take_append_of_le_length h.safe_le]; exact h.safe_in
      · show sf o ≤ ((by_ o ++ _).length : Nat)
        rw [List.length_append]; omega
      · show (by_ o ++ _).length ≤ _
        rw [List.length_append]; omega
      · intro q hq
        rcases List.mem_append.1 hq with hq | hq
        · exact h.small q hq
        · simp at hq; subst hq; exact hs
      · simp [h.len]
      · have := h.safe_le; rw [List.length_append]; omega
theorem Inv.sync (h : Inv o j all safe) : ((syncJ (St o none) r j).2.2.2 = 0 ∧ ∃ o', (syncJ (St o none) r j).1 = St o' none ∧ Inv o' (syncJ (St o none) r j).2.2.1 all all.length) ∨ ((syncJ (St o none) r j).2.2.2 ≠ 0 ∧ Done (syncJ (St o none) r j).1 all safe) := by
  have hd := h.done none
  have h2 := h.bytes
  unfold syncJ
  rw [if_neg (by rw [h.ok]; simp)]
  by_cases hl : j.len = 0
  · rw [if_pos hl]
    have ha : all = [] := List.eq_nil_of_length_eq_zero (by rw [← h.len]; exact hl)
    subst ha
    exact .inl ⟨rfl, o, rfl, ⟨h.bytes, by simpa [lays] using h.safe0, h.safe0, h.safe1, h.big, h.small, h.len, h.ok, Nat.le_refl _⟩⟩
  · rw [if_neg hl]
    by_cases hr : r = 0
    · have ha : syncR (St o none) r nj = (St o none, r, 8) := by unfold syncR; rw [if_pos hr]
      rw [ha]
      exact .inr ⟨by simp, by simpa using hd⟩
    · cases o with
      | none =>
        exfalso
        have h7 : (lays 0 all).length = 0 := by rw [← h2]; rfl
        have := lays_nil h7
        rw [h.len, this] at hl
        exact hl rfl
      | some p =>
        have ha : syncR (St (some p) none) r nj = (St (some (p.1, (p.1.length : Int))) none, oneR r, 0) := by rw [sync_j hr]
        rw [ha]
        refine .inl ⟨by simp, some (p.1, (p.1.length : Int)), by simp, ⟨h2, ?_, ?_, ?_, h.big, h.small, by simpa using h.len, by simp, Nat.le_refl _⟩⟩
        · rw [List.take_length, ← h2]; exact Int.le_refl _
        · show (0 : Int) ≤ (p.1.length : Int); omega
        · exact Int.le_refl _
end Jr
end Go.Proofs.YtalfnadejpmjnaaGreatDoor.Jn

/- ---- JrOpen ---- -/
/- journal.Open on a disk that is up: what it returns. -/
namespace Go.Proofs.YtalfnadejpmjnaaGreatDoor.Jn
set_option maxRecDepth 100000
open Go.RowKit
set_option maxRecDepth 100000
set_option linter.unusedVariables false
set_option linter.unusedSimpArgs false

/-- these texts, in memory that is neither the disk's nor the journal's -/
def LstA (w : World) (base : Nat) (S0 : Nat → Prop) (q : Nat) (v : Value) (L : List (List UInt8)) : Prop :=
  ∃ A c, v = .slice A L.length c ∧ (L ≠ [] → ∃ b, A = some ⟨b, 0, none⟩ ∧ base ≤ b ∧ b < w.heap.size ∧ ¬ S0 b ∧ b ≠ q ∧ ∀ i (h : i < L.length), w.cell? ⟨b, i, none⟩ = some (S L[i]))
theorem LstA.inL {w : World} {base : Nat} {S0 : Nat → Prop} {q : Nat} {v : Value} {L : List (List UInt8)} (h : LstA w base S0 q v L) : InL w v L := by
  obtain ⟨A, c, hv, hr⟩ := h
  refine ⟨A, c, hv, fun hne => ?_⟩
  obtain ⟨b, h1, h2, h3, _, _, h4⟩ := hr hne
  exact ⟨b, h1, h3, h4⟩
theorem LstA.kept {w w' : World} {base : Nat} {S0 S1 : Nat → Prop} {q : Nat} {v : Value} {L : List (List UInt8)} (h : LstA w base S0 q v L) (h1 : ∀ k, S1 k → S0 k ∨ w.heap.size ≤ k) (hc : Chg (fun k => S0 k ∨ k = q) w w') : LstA w' base S1 q v L := by
  obtain ⟨A, c, hv, hr⟩ := h
  refine ⟨A, c, hv, fun hne => ?_⟩
  obtain ⟨b, e1, e2, e3, e4, e5, e6⟩ := hr hne
  refine ⟨b, e1, e2, Nat.lt_of_lt_of_le e3 hc.size, fun hs => ?_, e5, fun i hi => ?_⟩
  · rcases h1 b hs with h | h
    · exact e4 h
    · omega
  · rw [← e6 i hi]
    exact World.cell?_of_block (a := ⟨b, i, none⟩) (hc.block b e3 (fun h => by rcases h with h | h; exact e4 h; exact e5 h))
/-- what Open makes of a disk -/
def OpenTo (w w' : World) (B : Nat) (S0 : Nat → Prop) (g : Nat) (l : List Fl) (r : Int) (j : Jr.J) (L : List (List UInt8)) (e : Ending) : Prop :=
  ∃ (q : Nat) (v : Value) (S1 : Nat → Prop), e = .returned (.tuple #[.pointer (some ⟨q, 0, none⟩), v, .int .i64 0]) ∧ JS w' B S1 g q l r j ∧ w.heap.size ≤ q ∧ q < w'.heap.size ∧ (∀ k, S1 k → S0 k ∨ w.heap.size ≤ k) ∧ Chg S0 w w' ∧ LstA w' w.heap.size S1 q v L
theorem jopen_nil (nm : List UInt8) (w : World) : Calls Tryz.prog 27 #[.pointer none, Sb nm] w fun e w' => e = .returned (.tuple #[.pointer none, .slice none 0 0, .int .i64 1]) ∧ w = w' := by
  go_enter Tryz.func27, Tryz.ntmps27
  go_wp2_with fail
  go_ret3
  exact ⟨rfl, rfl⟩
theorem lays_many (i : Nat) (L : List (List UInt8)) : L.length ≤ (Jr.lays i L).length := by
  induction L generalizing i with
  | nil => simp
  | cons r L ih =>
    have h1 := Jr.lay_pos i r
    have h2 := ih (i + 1)
    simp only [Jr.lays, List.length_append, List.length_cons]
    omega
theorem chg_q {S0 S1 : Nat → Prop} {q : Nat} {a b c : World} (h : Chg S0 a b) (h2 : Chg (fun k => S1 k ∨ k = q) b c) (hS : ∀ k, S1 k → S0 k ∨ a.heap.size ≤ k) (hq : a.heap.size ≤ q) : Chg S0 a c :=
  h.trans h2 (fun i hi => by rcases hi with hi | hi; exact hS i hi; exact .inr (by omega))
set_option maxHeartbeats 1600000 in
theorem jopen_up {w : World} {B g : Nat} {S0 : Nat → Prop} {o x : Option (List UInt8 × Int)} (h : DiskS w B S0 g (Jr.St o x) (-1)) (ho : (Jr.by_ o).length ≤ 1048576) :
    Calls Tryz.prog 27 #[.pointer (some ⟨g, 0, none⟩), Sb Jr.nj] w fun e w' => OpenTo w w' B S0 g (Jr.St (o.map fun _ => (Jr.lays 0 (Jr.parse (Jr.by_ o)).1, ((Jr.lays 0 (Jr.parse (Jr.by_ o)).1).length : Int))) none) (-1) ⟨(Jr.parse (Jr.by_ o)).1.length, (Jr.parse (Jr.by_ o)).1.length, false⟩ (Jr.parse (Jr.by_ o)).1 e := by
  obtain ⟨NX, hNX⟩ : ∃ b : ByteArray, (⟨#[108, 111, 103, 120]⟩ : ByteArray) = b := ⟨_, rfl⟩
  obtain ⟨NJ, hNJ⟩ : ∃ b : ByteArray, (⟨#[108, 111, 103]⟩ : ByteArray) = b := ⟨_, rfl⟩
  have hadd : NJ ++ (⟨#[120]⟩ : ByteArray) = NX := by rw [← hNX, ← hNJ]; rfl
  have hz1 : NJ.size = 3 := by rw [← hNJ]; rfl
  have hz2 : (⟨#[120]⟩ : ByteArray).size = 1 := rfl
  have hbx : Sb Jr.nx = .string NX := by rw [← hNX]
  have hbj : Sb Jr.nj = .string NJ := by rw [← hNJ]
  have hxm : Jr.nx.length ≤ maxLen := by decide
  have hjm : Jr.nj.length ≤ maxLen := by decide
  have kN := isName_j
  have kR := fun {w : World} (h : DiskS w B S0 g (Jr.St o x) (-1)) => remove_S Jr.nx h hxm
  obtain ⟨c1, hc1, hrem⟩ : ∃ c1 : Int, (c1 = 0 ∨ c1 = 34) ∧ removeR (Jr.St o x) (-1) Jr.nx = (Jr.St o none, -1, c1) := by
    rw [Jr.remove_x (by omega)]
    cases x with
    | none => exact ⟨34, .inr rfl, rfl⟩
    | some p => exact ⟨0, .inl rfl, rfl⟩
  simp only [hrem] at kR
  have kD := fun {w : World} {S : Nat → Prop} (h : DiskS w B S g (Jr.St o none) (-1)) => read_S Jr.nj h hjm
  rw [Jr.bytes_j o none (by omega), Jr.code_j o none (by omega)] at kD
  have kY := fun {w : World} {S : Nat → Prop} (h : DiskS w B S g (Jr.St o none) (-1)) => sync_S Jr.nj h hjm
  simp only [hbx] at kR
  simp only [hbj] at kN kD kY ⊢
  have KR2 := fun {w : World} (h : DiskS w B S0 g (Jr.St o x) (-1)) => Lib.hid (kR h)
  have KD := fun {w : World} {S : Nat → Prop} (h : DiskS w B S g (Jr.St o none) (-1)) => Lib.hid (kD h)
  have KY := fun {w : World} {S : Nat → Prop} (h : DiskS w B S g (Jr.St o none) (-1)) => Lib.hid (kY h)
  have KN := fun w : World => Lib.hid (kN w)
  have Hbj := Lib.hid hbj
  have Hh := Lib.hid h
  have Ho := Lib.hid ho
  clear kR kD kY kN hNX hNJ hbx hbj hrem h ho hxm hjm
  have start : ∀ (w2 w1 : World), Below w.heap.size w w2 → (DiskS w1 B (Plus S0 w2 w1) g (Jr.St o none) (-1)) → Chg S0 w2 w1 → JS (w1.alloc (.cells #[.pointer (some ⟨g, 0, none⟩), .string NJ, .int .i64 0, .int .i64 0, .bool false] 94)) B (Plus S0 w2 w1) g w1.heap.size (Jr.St o none) (-1) ⟨0, 0, false⟩ ∧ Chg S0 w (w1.alloc (.cells #[.pointer (some ⟨g, 0, none⟩), .string NJ, .int .i64 0, .int .i64 0, .bool false] 94)) ∧ w.heap.size ≤ w1.heap.size ∧ (∀ k, Plus S0 w2 w1 k → S0 k ∨ w.heap.size ≤ k) := by
    intro w2 w1 hb hd hc
    have hbb : Below w1.heap.size w1 (w1.alloc (.cells #[.pointer (some ⟨g, 0, none⟩), .string NJ, .int .i64 0, .int .i64 0, .bool false] 94)) := (Below.refl _ _).alloc (Nat.le_refl _) _
    have hs := hb.size
    have hs2 := hc.size
    refine ⟨⟨hd.below hbb, ?_, fun hk => ?_⟩, ?_, by omega, fun k hk => ?_⟩
    · have hr := Row.new w1 94 [.pointer (some ⟨g, 0, none⟩), .string NJ, .int .i64 0, .int .i64 0, .bool false]
      unfold JAt jcells
      rw [Hbj.out]
      exact hr
    · have := (hd.1 _ hk).2
      omega
    · have e1 : Chg S0 w w2 := ⟨hb.os, hb.tape, hb.output, hb.size, fun i hi _ => hb.block i hi⟩
      have e2 : Chg S0 w1 (w1.alloc (.cells #[.pointer (some ⟨g, 0, none⟩), .string NJ, .int .i64 0, .int .i64 0, .bool false] 94)) := ⟨hbb.os, hbb.tape, hbb.output, hbb.size, fun i hi _ => hbb.block i hi⟩
      exact (e1.trans hc (fun _ h => .inl h)).trans e2 (fun _ h => .inl h)
    · rcases hk with hk | hk
      · exact .inl hk
      · exact .inr (by omega)
  have Start := Lib.hid start
  clear start
  have d1 : (c1 != 0 && c1 != 34) = false := by rcases hc1 with rfl | rfl <;> rfl
  cases o with
  | none =>
    rcases hc1 with rfl | rfl
    · clear d1
      go_enter Tryz.func27, Tryz.ntmps27
      go_wp2_with fail
      refine (KN _).out.mono ?_
      rintro e w2 ⟨rfl, hb2⟩
      have hd2 := Hh.out.below hb2
      have kR2 := (KR2 hd2).out
      have KR3 := Lib.hid kR2
      have Hb2 := Lib.hid hb2
      clear hb2 hd2 kR2
      go_wp2_with fail
      refine KR3.out.mono ?_
      rintro e w1 ⟨rfl, hd, hc⟩
      obtain ⟨hJ, hC, hsz1, hP⟩ := Start.out w2 w1 Hb2.out hd hc
      have HJ := Lib.hid hJ
      have HC := Lib.hid hC
      have HP := Lib.hid hP
      clear hd hc hJ hC hP
      go_wp2_with fail
      have hw1 : w1.heap.size < (w1.alloc (.cells #[.pointer (some ⟨g, 0, none⟩), .string NJ, .int .i64 0, .int .i64 0, .bool false] 94)).heap.size := by simp
      generalize w1.alloc (.cells #[.pointer (some ⟨g, 0, none⟩), .string NJ, .int .i64 0, .int .i64 0, .bool false] 94) = w3 at *
      refine (KD HJ.out.disk).out.mono ?_
      rintro e w4 ⟨rfl, hb4⟩
      have Hb4 := Lib.hid hb4
      clear hb4
      have hcode : (if (none : Option (List UInt8 × Int)).isSome = true then (0 : Int) else 34) = 34 := rfl
      rw [hcode]
      go_wp2_with fail
      go_ret3
      have hb4 := Hb4.out
      have hs4 := hb4.size
      refine ⟨w1.heap.size, .slice none 0 0, _, rfl, HJ.out.below hb4, hsz1, by omega, HP.out, HC.out.trans ⟨hb4.os, hb4.tape, hb4.output, hb4.size, fun i hi _ => hb4.block i hi⟩ (fun _ h => .inl h), ⟨none, 0, rfl, fun hne => absurd rfl hne⟩⟩
    · clear d1
      go_enter Tryz.func27, Tryz.ntmps27
      go_wp2_with fail
      refine (KN _).out.mono ?_
      rintro e w2 ⟨rfl, hb2⟩
      have hd2 := Hh.out.below hb2
      have kR2 := (KR2 hd2).out
      have KR3 := Lib.hid kR2
      have Hb2 := Lib.hid hb2
      clear hb2 hd2 kR2
      go_wp2_with fail
      refine KR3.out.mono ?_
      rintro e w1 ⟨rfl, hd, hc⟩
      obtain ⟨hJ, hC, hsz1, hP⟩ := Start.out w2 w1 Hb2.out hd hc
      have HJ := Lib.hid hJ
      have HC := Lib.hid hC
      have HP := Lib.hid hP
      clear hd hc hJ hC hP
      go_wp2_with fail
      have hw1 : w1.heap.size < (w1.alloc (.cells #[.pointer (some ⟨g, 0, none⟩), .string NJ, .int .i64 0, .int .i64 0, .bool false] 94)).heap.size := by simp
      generalize w1.alloc (.cells #[.pointer (some ⟨g, 0, none⟩), .string NJ, .int .i64 0, .int .i64 0, .bool false] 94) = w3 at *
      refine (KD HJ.out.disk).out.mono ?_
      rintro e w4 ⟨rfl, hb4⟩
      have Hb4 := Lib.hid hb4
      clear hb4
      have hcode : (if (none : Option (List UInt8 × Int)).isSome = true then (0 : Int) else 34) = 34 := rfl
      rw [hcode]
      go_wp2_with fail
      go_ret3
      have hb4 := Hb4.out
      have hs4 := hb4.size
      refine ⟨w1.heap.size, .slice none 0 0, _, rfl, HJ.out.below hb4, hsz1, by omega, HP.out, HC.out.trans ⟨hb4.os, hb4.tape, hb4.output, hb4.size, fun i hi _ => hb4.block i hi⟩ (fun _ h => .inl h), ⟨none, 0, rfl, fun hne => absurd rfl hne⟩⟩
  | some p =>
    obtain ⟨s, sf⟩ := p
    obtain ⟨sb, hsb⟩ : ∃ sb : ByteArray, (⟨s.toArray⟩ : ByteArray) = sb := ⟨_, rfl⟩
    have hsl : sb.data.toList = s := by rw [← hsb]
    have hss : S s = .string sb := by rw [← hsb]
    have hsz : sb.size = s.length := by rw [← hsb]; rfl
    have hs1 : s.length ≤ 1048576 := Ho.out
    have kP := fun w : World => jrParse_any sb w (by omega)
    rw [hsl] at kP
    have hby : Jr.by_ (some (s, sf)) = s := rfl
    rw [hby]
    rw [hby] at KD
    have hps := Jr.parse_is s
    rcases hpp : Jr.parse s with ⟨L, n⟩
    rw [hpp] at hps
    simp only [hpp] at kP
    simp only [Option.isSome_some, if_true] at KD
    have KD2 := fun {w : World} {S : Nat → Prop} (h : DiskS w B S g (Jr.St (some (s, sf)) none) (-1)) => (KD h).out
    have hSb : Sb s = .string sb := hss
    simp only [hSb] at KD2
    obtain ⟨ht, hn, hr4⟩ := hps
    have hLl : (Jr.lays 0 L).length = n := by rw [← ht, List.length_take]; omega
    have hLn : L.length ≤ (Jr.lays 0 L).length := lays_many 0 L
    have KDD := fun {w : World} {S : Nat → Prop} (h : DiskS w B S g (Jr.St (some (s, sf)) none) (-1)) => Lib.hid (KD2 h)
    have KP := fun w : World => Lib.hid (kP w)
    have Hr4 := Lib.hid hr4
    have Ht := Lib.hid ht
    have HLl := Lib.hid hLl
    clear KD KD2 kP hby hpp hsb hss hSb hsl ht hr4
    by_cases hlt : n < s.length
    · have d2 : decide ((n : Int) < (sb.size : Int)) = true := by simp only [decide_eq_true_eq]; omega
      have d2' : decide (n < sb.size) = true := by simp only [decide_eq_true_eq]; omega
      have hrn : Jr.renewR (Jr.St (some (s, sf)) none) (-1) ⟨0, 0, false⟩ L = (Jr.St (some (Jr.lays 0 L, ((Jr.lays 0 L).length : Int))) none, -1, ⟨L.length, L.length, false⟩, 0) := by
        unfold Jr.renewR
        rw [if_neg (by simp), if_neg (fun hno => hno Hr4.out), Jr.replace_up _ _ (by omega), if_neg (by simp)]
      have kW := fun {w : World} {S : Nat → Prop} {q : Nat} {v : Value} (h : JS w B S g q (Jr.St (some (s, sf)) none) (-1) ⟨0, 0, false⟩) (hv : InL w v L) => jrenew_at h v L hv (by omega)
      rw [hrn] at kW
      have KW := fun {w : World} {S : Nat → Prop} {q : Nat} {v : Value} (h : JS w B S g q (Jr.St (some (s, sf)) none) (-1) ⟨0, 0, false⟩) (hv : InL w v L) => Lib.hid (kW h hv)
      clear kW hrn
      rcases hc1 with rfl | rfl
      · clear d1
        go_enter Tryz.func27, Tryz.ntmps27
        go_wp2_with fail
        refine (KN _).out.mono ?_
        rintro e w2 ⟨rfl, hb2⟩
        have hd2 := Hh.out.below hb2
        have kR2 := (KR2 hd2).out
        have KR3 := Lib.hid kR2
        have Hb2 := Lib.hid hb2
        clear hb2 hd2 kR2
        go_wp2_with fail
        refine KR3.out.mono ?_
        rintro e w1 ⟨rfl, hd, hc⟩
        obtain ⟨hJ, hC, hsz1, hP⟩ := Start.out w2 w1 Hb2.out hd hc
        have HJ := Lib.hid hJ
        have HC := Lib.hid hC
        have HP := Lib.hid hP
        clear hd hc hJ hC hP
        go_wp2_with fail
        have hw1 : w1.heap.size < (w1.alloc (.cells #[.pointer (some ⟨g, 0, none⟩), .string NJ, .int .i64 0, .int .i64 0, .bool false] 94)).heap.size := by simp
        generalize w1.alloc (.cells #[.pointer (some ⟨g, 0, none⟩), .string NJ, .int .i64 0, .int .i64 0, .bool false] 94) = w3 at *
        refine (KDD HJ.out.disk).out.mono ?_
        rintro e w4 ⟨rfl, hb4⟩
        have Hb4 := Lib.hid hb4
        clear hb4
        go_wp2_with fail
        refine (KP _).out.mono ?_
        rintro e w5 ⟨⟨v, rfl, hl⟩, hb5⟩
        have hb35 := Hb4.out.trans (hb5.mono Hb4.out.size)
        have hJ5 := HJ.out.below hb35
        have hs4 := Hb4.out.size
        have hs5 := hb5.size
        have hla : LstA w5 w.heap.size (Plus S0 w2 w1) w1.heap.size v L := by
          obtain ⟨A, c, hv, hr⟩ := hl
          refine ⟨A, c, hv, fun hne => ?_⟩
          obtain ⟨b, e1, e2, e3, e4⟩ := hr hne
          refine ⟨b, e1, by omega, e3, fun hk => ?_, by omega, e4⟩
          have := (HJ.out.disk.1 b hk).2
          omega
        have hC5 : Chg S0 w w5 := HC.out.trans ⟨hb35.os, hb35.tape, hb35.output, hb35.size, fun i hi _ => hb35.block i hi⟩ (fun _ h => .inl h)
        have hin := hla.inL
        obtain ⟨A, c, rfl, _⟩ := id hl
        have HLa := Lib.hid hla
        have HJ5 := Lib.hid hJ5
        have HC5 := Lib.hid hC5
        have Hin := Lib.hid hin
        clear hl hb5 hb35 hJ5 hla hC5 hin
        go_wp2_with fail
        refine (KW HJ5.out Hin.out).out.mono ?_
        rintro e w6 ⟨rfl, t6⟩
        obtain ⟨S6, hJ6, hP6, hC6⟩ := t6
        have hla6 := HLa.out.kept hP6 hC6
        have hC7 : Chg S0 w w6 := chg_q HC5.out hC6 HP.out hsz1
        have hP7 : ∀ k, S6 k → S0 k ∨ w.heap.size ≤ k := fun k hk => by
          rcases hP6 k hk with h | h
          · exact HP.out k h
          · have := HC5.out.size; exact .inr (by omega)
        have z2 := hJ6.row.box.2.2.1
        have z3 := hJ6.row.box.2.2.2.1
        have zf2 := Row.free hJ6.row 2
        have zf3 := Row.free hJ6.row 3
        have zr := Row.set hJ6.row 2 (.int .i64 (L.length : Int)) (by simp [jcells])
        have zr2 := Row.set zr 3 (.int .i64 (L.length : Int)) (by simp [jcells])
        have y3 := Row.cell zr 3 (by simp [jcells])
        have yf3 := Row.free zr 3
        simp only [jcells, List.set, List.getElem_cons_succ, List.getElem_cons_zero] at y3
        have t9 := hJ6.rowTo (j' := ⟨L.length, L.length, false⟩) (World.grownBy.trans (grownBy_set w6 w1.heap.size 2 (.int .i64 (L.length : Int))) (grownBy_set _ w1.heap.size 3 (.int .i64 (L.length : Int)))) (by unfold JAt; unfold jcells at zr2 ⊢; simpa using zr2)
        have H9 := Lib.hid t9
        have HLa6 := Lib.hid hla6
        have HC7 := Lib.hid hC7
        have HP7 := Lib.hid hP7
        clear hJ6 hP6 hC6 zr zr2 t9 hla6 hC7 hP7
        go_wp2_with fail
        go_ret3
        obtain ⟨S9, hJ9, hP9, hC9⟩ := H9.out
        have hs7 := HC7.out.size
        refine ⟨w1.heap.size, _, S9, rfl, hJ9, hsz1, Row.lt hJ9.row, fun k hk => ?_, chg_q HC7.out hC9 HP7.out hsz1, HLa6.out.kept hP9 hC9⟩
        rcases hP9 k hk with h | h
        · exact HP7.out k h
        · exact .inr (by omega)
      · clear d1
        go_enter Tryz.func27, Tryz.ntmps27
        go_wp2_with fail
        refine (KN _).out.mono ?_
        rintro e w2 ⟨rfl, hb2⟩
        have hd2 := Hh.out.below hb2
        have kR2 := (KR2 hd2).out
        have KR3 := Lib.hid kR2
        have Hb2 := Lib.hid hb2
        clear hb2 hd2 kR2
        go_wp2_with fail
        refine KR3.out.mono ?_
        rintro e w1 ⟨rfl, hd, hc⟩
        obtain ⟨hJ, hC, hsz1, hP⟩ := Start.out w2 w1 Hb2.out hd hc
        have HJ := Lib.hid hJ
        have HC := Lib.hid hC
        have HP := Lib.hid hP
        clear hd hc hJ hC hP
        go_wp2_with fail
        have hw1 : w1.heap.size < (w1.alloc (.cells #[.pointer (some ⟨g, 0, none⟩), .string NJ, .int .i64 0, .int .i64 0, .bool false] 94)).heap.size := by simp
        generalize w1.alloc (.cells #[.pointer (some ⟨g, 0, none⟩), .string NJ, .int .i64 0, .int .i64 0, .bool false] 94) = w3 at *
        refine (KDD HJ.out.disk).out.mono ?_
        rintro e w4 ⟨rfl, hb4⟩
        have Hb4 := Lib.hid hb4
        clear hb4
        go_wp2_with fail
        refine (KP _).out.mono ?_
        rintro e w5 ⟨⟨v, rfl, hl⟩, hb5⟩
        have hb35 := Hb4.out.trans (hb5.mono Hb4.out.size)
        have hJ5 := HJ.out.below hb35
        have hs4 := Hb4.out.size
        have hs5 := hb5.size
        have hla : LstA w5 w.heap.size (Plus S0 w2 w1) w1.heap.size v L := by
          obtain ⟨A, c, hv, hr⟩ := hl
          refine ⟨A, c, hv, fun hne => ?_⟩
          obtain ⟨b, e1, e2, e3, e4⟩ := hr hne
          refine ⟨b, e1, by omega, e3, fun hk => ?_, by omega, e4⟩
          have := (HJ.out.disk.1 b hk).2
          omega
        have hC5 : Chg S0 w w5 := HC.out.trans ⟨hb35.os, hb35.tape, hb35.output, hb35.size, fun i hi _ => hb35.block i hi⟩ (fun _ h => .inl h)
        have hin := hla.inL
        obtain ⟨A, c, rfl, _⟩ := id hl
        have HLa := Lib.hid hla
        have HJ5 := Lib.hid hJ5
        have HC5 := Lib.hid hC5
        have Hin := Lib.hid hin
        clear hl hb5 hb35 hJ5 hla hC5 hin
        go_wp2_with fail
        refine (KW HJ5.out Hin.out).out.mono ?_
        rintro e w6 ⟨rfl, t6⟩
        obtain ⟨S6, hJ6, hP6, hC6⟩ := t6
        have hla6 := HLa.out.kept hP6 hC6
        have hC7 : Chg S0 w w6 := chg_q HC5.out hC6 HP.out hsz1
        have hP7 : ∀ k, S6 k → S0 k ∨ w.heap.size ≤ k := fun k hk => by
          rcases hP6 k hk with h | h
          · exact HP.out k h
          · have := HC5.out.size; exact .inr (by omega)
        have z2 := hJ6.row.box.2.2.1
        have z3 := hJ6.row.box.2.2.2.1
        have zf2 := Row.free hJ6.row 2
        have zf3 := Row.free hJ6.row 3
        have zr := Row.set hJ6.row 2 (.int .i64 (L.length : Int)) (by simp [jcells])
        have zr2 := Row.set zr 3 (.int .i64 (L.length : Int)) (by simp [jcells])
        have y3 := Row.cell zr 3 (by simp [jcells])
        have yf3 := Row.free zr 3
        simp only [jcells, List.set, List.getElem_cons_succ, List.getElem_cons_zero] at y3
        have t9 := hJ6.rowTo (j' := ⟨L.length, L.length, false⟩) (World.grownBy.trans (grownBy_set w6 w1.heap.size 2 (.int .i64 (L.length : Int))) (grownBy_set _ w1.heap.size 3 (.int .i64 (L.length : Int)))) (by unfold JAt; unfold jcells at zr2 ⊢; simpa using zr2)
        have H9 := Lib.hid t9
        have HLa6 := Lib.hid hla6
        have HC7 := Lib.hid hC7
        have HP7 := Lib.hid hP7
        clear hJ6 hP6 hC6 zr zr2 t9 hla6 hC7 hP7
        go_wp2_with fail
        go_ret3
        obtain ⟨S9, hJ9, hP9, hC9⟩ := H9.out
        have hs7 := HC7.out.size
        refine ⟨w1.heap.size, _, S9, rfl, hJ9, hsz1, Row.lt hJ9.row, fun k hk => ?_, chg_q HC7.out hC9 HP7.out hsz1, HLa6.out.kept hP9 hC9⟩
        rcases hP9 k hk with h | h
        · exact HP7.out k h
        · exact .inr (by omega)
    · have d2 : decide ((n : Int) < (sb.size : Int)) = false := by simp only [decide_eq_false_iff_not]; omega
      have d2' : decide (n < sb.size) = false := by simp only [decide_eq_false_iff_not]; omega
      have hsL : s = Jr.lays 0 L := by rw [← Ht.out, List.take_of_length_le (by omega)]
      have hsy : syncR (Jr.St (some (s, sf)) none) (-1) Jr.nj = (Jr.St (some (Jr.lays 0 L, ((Jr.lays 0 L).length : Int))) none, -1, 0) := by
        rw [Jr.sync_j (by omega)]
        simp only
        rw [← hsL]; rfl
      have KW := fun {w : World} {S : Nat → Prop} (h : DiskS w B S g (Jr.St (some (s, sf)) none) (-1)) => (KY h).out
      rw [hsy] at KW
      have KWW := fun {w : World} {S : Nat → Prop} (h : DiskS w B S g (Jr.St (some (s, sf)) none) (-1)) => Lib.hid (KW h)
      clear KW hsy hsL
      rcases hc1 with rfl | rfl
      · clear d1
        go_enter Tryz.func27, Tryz.ntmps27
        go_wp2_with fail
        refine (KN _).out.mono ?_
        rintro e w2 ⟨rfl, hb2⟩
        have hd2 := Hh.out.below hb2
        have kR2 := (KR2 hd2).out
        have KR3 := Lib.hid kR2
        have Hb2 := Lib.hid hb2
        clear hb2 hd2 kR2
        go_wp2_with fail
        refine KR3.out.mono ?_
        rintro e w1 ⟨rfl, hd, hc⟩
        obtain ⟨hJ, hC, hsz1, hP⟩ := Start.out w2 w1 Hb2.out hd hc
        have HJ := Lib.hid hJ
        have HC := Lib.hid hC
        have HP := Lib.hid hP
        clear hd hc hJ hC hP
        go_wp2_with fail
        have hw1 : w1.heap.size < (w1.alloc (.cells #[.pointer (some ⟨g, 0, none⟩), .string NJ, .int .i64 0, .int .i64 0, .bool false] 94)).heap.size := by simp
        generalize w1.alloc (.cells #[.pointer (some ⟨g, 0, none⟩), .string NJ, .int .i64 0, .int .i64 0, .bool false] 94) = w3 at *
        refine (KDD HJ.out.disk).out.mono ?_
        rintro e w4 ⟨rfl, hb4⟩
        have Hb4 := Lib.hid hb4
        clear hb4
        go_wp2_with fail
        refine (KP _).out.mono ?_
        rintro e w5 ⟨⟨v, rfl, hl⟩, hb5⟩
        have hb35 := Hb4.out.trans (hb5.mono Hb4.out.size)
        have hJ5 := HJ.out.below hb35
        have hs4 := Hb4.out.size
        have hs5 := hb5.size
        have hla : LstA w5 w.heap.size (Plus S0 w2 w1) w1.heap.size v L := by
          obtain ⟨A, c, hv, hr⟩ := hl
          refine ⟨A, c, hv, fun hne => ?_⟩
          obtain ⟨b, e1, e2, e3, e4⟩ := hr hne
          refine ⟨b, e1, by omega, e3, fun hk => ?_, by omega, e4⟩
          have := (HJ.out.disk.1 b hk).2
          omega
        have hC5 : Chg S0 w w5 := HC.out.trans ⟨hb35.os, hb35.tape, hb35.output, hb35.size, fun i hi _ => hb35.block i hi⟩ (fun _ h => .inl h)
        have hin := hla.inL
        obtain ⟨A, c, rfl, _⟩ := id hl
        have HLa := Lib.hid hla
        have HJ5 := Lib.hid hJ5
        have HC5 := Lib.hid hC5
        have Hin := Lib.hid hin
        clear hl hb5 hb35 hJ5 hla hC5 hin
        go_wp2_with fail
        refine (KWW HJ5.out.disk).out.mono ?_
        rintro e w6 ⟨rfl, hd6, hc6⟩
        have t6 := HJ5.out.diskTo hd6 hc6
        clear hd6 hc6
        obtain ⟨S6, hJ6, hP6, hC6⟩ := t6
        have hla6 := HLa.out.kept hP6 hC6
        have hC7 : Chg S0 w w6 := chg_q HC5.out hC6 HP.out hsz1
        have hP7 : ∀ k, S6 k → S0 k ∨ w.heap.size ≤ k := fun k hk => by
          rcases hP6 k hk with h | h
          · exact HP.out k h
          · have := HC5.out.size; exact .inr (by omega)
        have z2 := hJ6.row.box.2.2.1
        have z3 := hJ6.row.box.2.2.2.1
        have zf2 := Row.free hJ6.row 2
        have zf3 := Row.free hJ6.row 3
        have zr := Row.set hJ6.row 2 (.int .i64 (L.length : Int)) (by simp [jcells])
        have zr2 := Row.set zr 3 (.int .i64 (L.length : Int)) (by simp [jcells])
        have y3 := Row.cell zr 3 (by simp [jcells])
        have yf3 := Row.free zr 3
        simp only [jcells, List.set, List.getElem_cons_succ, List.getElem_cons_zero] at y3
        have t9 := hJ6.rowTo (j' := ⟨L.length, L.length, false⟩) (World.grownBy.trans (grownBy_set w6 w1.heap.size 2 (.int .i64 (L.length : Int))) (grownBy_set _ w1.heap.size 3 (.int .i64 (L.length : Int)))) (by unfold JAt; unfold jcells at zr2 ⊢; simpa using zr2)
        have H9 := Lib.hid t9
        have HLa6 := Lib.hid hla6
        have HC7 := Lib.hid hC7
        have HP7 := Lib.hid hP7
        clear hJ6 hP6 hC6 zr zr2 t9 hla6 hC7 hP7
        go_wp2_with fail
        go_ret3
        obtain ⟨S9, hJ9, hP9, hC9⟩ := H9.out
        have hs7 := HC7.out.size
        refine ⟨w1.heap.size, _, S9, rfl, hJ9, hsz1, Row.lt hJ9.row, fun k hk => ?_, chg_q HC7.out hC9 HP7.out hsz1, HLa6.out.kept hP9 hC9⟩
        rcases hP9 k hk with h | h
        · exact HP7.out k h
        · exact .inr (by omega)
      · clear d1
        go_enter Tryz.func27, Tryz.ntmps27
        go_wp2_with fail
        refine (KN _).out.mono ?_
        rintro e w2 ⟨rfl, hb2⟩
        have hd2 := Hh.out.below hb2
        have kR2 := (KR2 hd2).out
        have KR3 := Lib.hid kR2
        have Hb2 := Lib.hid hb2
        clear hb2 hd2 kR2
        go_wp2_with fail
        refine KR3.out.mono ?_
        rintro e w1 ⟨rfl, hd, hc⟩
        obtain ⟨hJ, hC, hsz1, hP⟩ := Start.out w2 w1 Hb2.out hd hc
        have HJ := Lib.hid hJ
        have HC := Lib.hid hC
        have HP := Lib.hid hP
        clear hd hc hJ hC hP
        go_wp2_with fail
        have hw1 : w1.heap.size < (w1.alloc (.cells #[.pointer (some ⟨g, 0, none⟩), .string NJ, .int .i64 0, .int .i64 0, .bool false] 94)).heap.size := by simp
        generalize w1.alloc (.cells #[.pointer (some ⟨g, 0, none⟩), .string NJ, .int .i64 0, .int .i64 0, .bool false] 94) = w3 at *
        refine (KDD HJ.out.disk).out.mono ?_
        rintro e w4 ⟨rfl, hb4⟩
        have Hb4 := Lib.hid hb4
        clear hb4
        go_wp2_with fail
        refine (KP _).out.mono ?_
        rintro e w5 ⟨⟨v, rfl, hl⟩, hb5⟩
        have hb35 := Hb4.out.trans (hb5.mono Hb4.out.size)
        have hJ5 := HJ.out.below hb35
        have hs4 := Hb4.out.size
        have hs5 := hb5.size
        have hla : LstA w5 w.heap.size (Plus S0 w2 w1) w1.heap.size v L := by
          obtain ⟨A, c, hv, hr⟩ := hl
          refine ⟨A, c, hv, fun hne => ?_⟩
          obtain ⟨b, e1, e2, e3, e4⟩ := hr hne
          refine ⟨b, e1, by omega, e3, fun hk => ?_, by omega, e4⟩
          have := (HJ.out.disk.1 b hk).2
          omega
        have hC5 : Chg S0 w w5 := HC.out.trans ⟨hb35.os, hb35.tape, hb35.output, hb35.size, fun i hi _ => hb35.block i hi⟩ (fun _ h => .inl h)
        have hin := hla.inL
        obtain ⟨A, c, rfl, _⟩ := id hl
        have HLa := Lib.hid hla
        have HJ5 := Lib.hid hJ5
        have HC5 := Lib.hid hC5
        have Hin := Lib.hid hin
        clear hl hb5 hb35 hJ5 hla hC5 hin
        go_wp2_with fail
        refine (KWW HJ5.out.disk).out.mono ?_
        rintro e w6 ⟨rfl, hd6, hc6⟩
        have t6 := HJ5.out.diskTo hd6 hc6
        clear hd6 hc6
        obtain ⟨S6, hJ6, hP6, hC6⟩ := t6
        have hla6 := HLa.out.kept hP6 hC6
        have hC7 : Chg S0 w w6 := chg_q HC5.out hC6 HP.out hsz1
        have hP7 : ∀ k, S6 k → S0 k ∨ w.heap.size ≤ k := fun k hk => by
          rcases hP6 k hk with h | h
          · exact HP.out k h
          · have := HC5.out.size; exact .inr (by omega)
        have z2 := hJ6.row.box.2.2.1
        have z3 := hJ6.row.box.2.2.2.1
        have zf2 := Row.free hJ6.row 2
        have zf3 := Row.free hJ6.row 3
        have zr := Row.set hJ6.row 2 (.int .i64 (L.length : Int)) (by simp [jcells])
        have zr2 := Row.set zr 3 (.int .i64 (L.length : Int)) (by simp [jcells])
        have y3 := Row.cell zr 3 (by simp [jcells])
        have yf3 := Row.free zr 3
        simp only [jcells, List.set, List.getElem_cons_succ, List.getElem_cons_zero] at y3
        have t9 := hJ6.rowTo (j' := ⟨L.length, L.length, false⟩) (World.grownBy.trans (grownBy_set w6 w1.heap.size 2 (.int .i64 (L.length : Int))) (grownBy_set _ w1.heap.size 3 (.int .i64 (L.length : Int)))) (by unfold JAt; unfold jcells at zr2 ⊢; simpa using zr2)
        have H9 := Lib.hid t9
        have HLa6 := Lib.hid hla6
        have HC7 := Lib.hid hC7
        have HP7 := Lib.hid hP7
        clear hJ6 hP6 hC6 zr zr2 t9 hla6 hC7 hP7
        go_wp2_with fail
        go_ret3
        obtain ⟨S9, hJ9, hP9, hC9⟩ := H9.out
        have hs7 := HC7.out.size
        refine ⟨w1.heap.size, _, S9, rfl, hJ9, hsz1, Row.lt hJ9.row, fun k hk => ?_, chg_q HC7.out hC9 HP7.out hsz1, HLa6.out.kept hP9 hC9⟩
        rcases hP9 k hk with h | h
        · exact HP7.out k h
        · exact .inr (by omega)
end Go.Proofs.YtalfnadejpmjnaaGreatDoor.Jn
