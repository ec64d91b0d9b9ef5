/- journal.Renew: what it returns. -/
import Derived.Test.YtpphljdnnlfjhaaDoorJrReplace
import Derived.Test.YtpphljdnnlfjhaaDoorJrBld
namespace Go.Proofs.YtpphljdnnlfjhaaDoor
open Go.RowKit
set_option maxRecDepth 100000
set_option linter.unusedVariables false
set_option linter.unusedSimpArgs false

/-- a slice that reads as these texts -/
def InL (w : World) (v : Value) (L : List (List UInt8)) : Prop := ∃ A c, v = .slice A L.length c ∧ (L ≠ [] → ∃ b, A = some ⟨b, 0, none⟩ ∧ b < w.heap.size ∧ ∀ i (h : i < L.length), w.cell? ⟨b, i, none⟩ = some (S L[i]))
theorem Lst.inL {w : World} {base : Nat} {v : Value} {L : List (List UInt8)} (h : Lst w base v L) : InL w v L := by
  obtain ⟨A, c, hv, hr⟩ := h
  refine ⟨A, c, hv, fun hne => ?_⟩
  obtain ⟨b, h1, h2, h3, h4⟩ := hr hne
  exact ⟨b, h1, h3, h4⟩
theorem jrenew_nil (v : Value) (w : World) : Calls Tryd.prog 18 #[.pointer none, v] w fun e w' => e = .returned (.int .i64 1) ∧ w = w' := by
  go_enter Tryd.func18, Tryd.ntmps18
  go_wp2_with fail
  refine (jwrong_nil _).mono ?_
  rintro e w1 ⟨rfl, rfl⟩
  go_wp2_with fail
  go_ret
  exact ⟨rfl, rfl⟩
theorem build_new (w : World) : Lib.IsBuilder 67 5 w.heap.size w.heap.size [] (w.alloc (.cells #[.pointer none, .slice none 0 0] 67)) :=
  .inl ⟨Nat.le_refl _, .slice none 0 0, heap_alloc_new _ _, World.ownsRow_nil _ _ _ _, by simp [Value.ownBlock]⟩
theorem isBuilder_below {T e : TypeId} {B b : Nat} {bs : List Value} {w w' : World} (h : Lib.IsBuilder T e B b bs w) (hb : Below w.heap.size w w') : Lib.IsBuilder T e B b bs w' := by
  have key : ∀ p, Lib.BuilderAt T e B b p bs w → Lib.BuilderAt T e B b p bs w' := by
    rintro p ⟨h1, v, h2, h3, h4⟩
    exact ⟨h1, v, (hb.block b (lt_of_block h2)).trans h2, own_below h3 hb, h4⟩
  rcases h with h | h
  · exact .inl (key _ h)
  · exact .inr (key _ h)
theorem byteCells_app (a b : List UInt8) (s : ByteArray) (h : s.data.toList = b) : Lib.byteCells a ++ Lib.strCells s = Lib.byteCells (a ++ b) := by
  subst h
  simp [Lib.byteCells, Lib.strCells]
set_option maxHeartbeats 1600000 in
theorem jrenew_at {w : World} {B : Nat} {S0 : Nat → Prop} {g q : Nat} {l : List Fl} {r : Int} {j : Jr.J} (h : JS w B S0 g q l r j) (v : Value) (L : List (List UInt8)) (hv : InL w v L) (hL : L.length ≤ 1000000000) : Calls Tryd.prog 18 #[.pointer (some ⟨q, 0, none⟩), v] w fun e w' => e = .returned (.int .i64 (Jr.renewR l r j L).2.2.2) ∧ JTo w w' B S0 g q (Jr.renewR l r j L).1 (Jr.renewR l r j L).2.1 (Jr.renewR l r j L).2.2.1 := by
  unfold Jr.renewR
  obtain ⟨A, c, rfl, hcs⟩ := hv
  have kw := jwrong_at h.row
  by_cases hbr : j.broken = true
  · rw [if_pos hbr]
    rw [if_pos hbr] at kw
    have Kw := Lib.hid kw
    have Hto := Lib.hid (JTo.refl h)
    clear kw h hcs
    go_enter Tryd.func18, Tryd.ntmps18
    go_wp2_with fail
    refine Kw.out.mono ?_
    rintro e w1 ⟨rfl, rfl⟩
    go_wp2_with fail
    go_ret
    exact ⟨rfl, Hto.out⟩
  rw [if_neg hbr]
  rw [if_neg hbr] at kw
  obtain ⟨R, hR0⟩ : ∃ x, (if ¬ (∀ s ∈ L, s.length ≤ 4096) then (l, r, j, 3) else
    if (Jr.replaceR l r (Jr.lays 0 L)).2.2 ≠ 0 then ((Jr.replaceR l r (Jr.lays 0 L)).1, (Jr.replaceR l r (Jr.lays 0 L)).2.1, ⟨j.len, j.synced, true⟩, (Jr.replaceR l r (Jr.lays 0 L)).2.2)
    else ((Jr.replaceR l r (Jr.lays 0 L)).1, (Jr.replaceR l r (Jr.lays 0 L)).2.1, ⟨L.length, L.length, false⟩, 0) : List Fl × Int × Jr.J × Int) = x := ⟨_, rfl⟩
  rw [hR0]
  have HR0 := Lib.hid hR0
  clear hR0
  have Kw := Lib.hid kw
  have Hh := Lib.hid h
  have Hcs := Lib.hid hcs
  have hjb : j.broken = false := by simpa using hbr
  clear kw h hcs hbr
  go_enter Tryd.func18, Tryd.ntmps18
  go_wp2_with fail
  refine Kw.out.mono ?_
  rintro e w1 ⟨rfl, rfl⟩
  go_wp2_with fail
  have hb1 : Below w.heap.size w (w.alloc (.cells #[.pointer none, .slice none 0 0] 67)) := (Below.refl _ _).alloc (Nat.le_refl _) _
  have hbu := build_new w
  generalize w.alloc (.cells #[.pointer none, .slice none 0 0] 67) = W1 at *
  have Hb1 := Lib.hid hb1
  have Hbu := Lib.hid hbu
  clear hb1 hbu
  go_loopw [17] (fun i wr => ∃ k : Nat, k ≤ L.length ∧ i = .int .i64 (k : Int) ∧ Lib.IsBuilder 67 5 w.heap.size w.heap.size (Lib.byteCells (Jr.lays 0 (L.take k))) wr ∧ Below w.heap.size w wr ∧ ∀ s ∈ L.take k, s.length ≤ 4096) (fun i _ => L.length - (intOf i).toNat)
  case atStart => exact ⟨0, by omega, rfl, by simpa [Jr.lays, Lib.byteCells] using Hbu.out, Hb1.out, by simp⟩
  case round =>
    obtain ⟨k, hk, rfl, hbu, hbr, hsm⟩ := hrel
    by_cases hlt : k < L.length
    · have d1 : decide ((k : Int) < (L.length : Int)) = true := by simp only [decide_eq_true_eq]; omega
      have d1' : decide (k < L.length) = true := by simp only [decide_eq_true_eq]; omega
      obtain ⟨b, rfl, hbl, hc⟩ := Hcs.out (by rintro rfl; simp at hlt)
      have hck := hc k hlt
      have hcell : wr.cell? ⟨b, k, none⟩ = some (S L[k]) := by rw [← hck]; exact World.cell?_of_block (a := ⟨b, k, none⟩) (hbr.block b hbl)
      obtain ⟨s, hs⟩ : ∃ s : ByteArray, (⟨L[k].toArray⟩ : ByteArray) = s := ⟨_, rfl⟩
      have hsl : s.data.toList = L[k] := by rw [← hs]
      have hsz : s.size = L[k].length := by rw [← hs]; rfl
      have hSv : S L[k] = .string s := by rw [← hs]
      rw [hSv] at hcell
      have hsucc : L.take (k + 1) = L.take k ++ [L[k]] := List.take_succ_eq_append_getElem hlt
      have Hsm := Lib.hid hsm
      have Hbu := Lib.hid hbu
      have Hbr := Lib.hid hbr
      have Hsucc := Lib.hid hsucc
      have Hsl := Lib.hid hsl
      by_cases hbig : 4096 < s.size
      · have d2 : decide ((4096 : Int) < (s.size : Int)) = true := by simp only [decide_eq_true_eq]; omega
        have d2' : decide (4096 < s.size) = true := by simp only [decide_eq_true_eq]; omega
        have hno : ¬ ∀ s ∈ L, s.length ≤ 4096 := fun hall => by
          have := hall L[k] (List.getElem_mem hlt)
          omega
        have Hno := Lib.hid hno
        have Hto := Lib.hid (Hh.out.belowTo Hbr.out)
        clear hno hbu hbr hsm hc hck hs hsl hSv hsucc hsz hbl
        go_wp2_with fail
        go_ret
        have e := HR0.out
        rw [if_pos Hno.out] at e
        subst e
        exact ⟨rfl, Hto.out⟩
      · have d2 : decide ((4096 : Int) < (s.size : Int)) = false := by simp only [decide_eq_false_iff_not]; omega
        have d2' : decide (4096 < s.size) = false := by simp only [decide_eq_false_iff_not]; omega
        have hsz4 : s.size ≤ 4096 := by omega
        have klay := fun W : World => jrLay_any k s W (by omega) (by omega)
        have hll := Jr.lay_le k s.data.toList
        have hlens := Jr.lays_len_le 0 (L.take k) Hsm.out
        have htk : (L.take k).length = k := by rw [List.length_take]; omega
        rw [htk] at hlens
        have hsm2 : ∀ x ∈ L.take (k + 1), x.length ≤ 4096 := by
          rw [hsucc]
          intro x hx
          rcases List.mem_append.1 hx with hx | hx
          · exact Hsm.out x hx
          · have : x = L[k] := by simpa using hx
            rw [this]; omega
        have hlays2 : Jr.lays 0 (L.take (k + 1)) = Jr.lays 0 (L.take k) ++ Jr.lay k s.data.toList := by
          rw [hsucc, Jr.lays_app, htk, hsl]; simp [Jr.lays]
        have hsd : s.data.toList.length = s.size := rfl
        obtain ⟨lb, hlb⟩ : ∃ lb : ByteArray, (⟨(Jr.lay k s.data.toList).toArray⟩ : ByteArray) = lb := ⟨_, rfl⟩
        have hlbl : lb.data.toList = Jr.lay k s.data.toList := by rw [← hlb]
        have hlbz : lb.size = (Jr.lay k s.data.toList).length := by rw [← hlb]; rfl
        have klay2 : ∀ W : World, Calls Tryd.prog 34 #[.int .i64 (k : Int), .string s] W fun e w' => e = .returned (.string lb) ∧ Below W.heap.size W w' := by
          intro W; rw [← hlb]; exact klay W
        have hbc : (Lib.byteCells (Jr.lays 0 (L.take k))).length = (Jr.lays 0 (L.take k)).length := by simp [Lib.byteCells]
        have hfit : (Lib.byteCells (Jr.lays 0 (L.take k))).length + lb.size ≤ 140737488355328 := by rw [hbc, hlbz]; omega
        have happ : Lib.byteCells (Jr.lays 0 (L.take k)) ++ Lib.strCells lb = Lib.byteCells (Jr.lays 0 (L.take (k + 1))) := by rw [byteCells_app _ _ _ hlbl, hlays2]
        have Klay := Lib.hid klay2
        have Hsm2 := Lib.hid hsm2
        have Hfit := Lib.hid hfit
        have Happ := Lib.hid happ
        clear klay klay2 hsm2 hfit happ hlays2 hlens hll hlb hlbl hlbz hbc htk hsd hbu hbr hsm hc hck hs hsl hSv hsucc hsz hbl
        go_wp2_with fail
        refine (Klay.out _).mono ?_
        rintro e w2 ⟨rfl, hb2⟩
        have hbu2 : Lib.IsBuilder 67 5 w.heap.size w.heap.size (Lib.byteCells (Jr.lays 0 (L.take k))) w2 := isBuilder_below Hbu.out hb2
        have hbr2 := Hbr.out.trans (hb2.mono Hbr.out.size)
        have Hbu2 := Lib.hid hbu2
        have Hbr2 := Lib.hid hbr2
        clear hb2 hbu2 hbr2
        go_wp2_with fail
        refine (bldWrite_any w.heap.size w.heap.size _ lb _ Hbu2.out Hfit.out Hbr2.out.size).mono ?_
        rintro e w3 ⟨rfl, hbu3, hb3⟩
        rw [Happ.out] at hbu3
        have Hbu3 := Lib.hid hbu3
        have Hbr3 := Lib.hid (Hbr2.out.trans hb3)
        clear hbu3 hb3
        go_wp2_with fail
        refine ⟨⟨k + 1, by omega, by go_num, .inr Hbu3.out, Hbr3.out, Hsm2.out⟩, by simp [intOf]; omega⟩
    · have d1 : decide ((k : Int) < (L.length : Int)) = false := by simp only [decide_eq_false_iff_not]; omega
      have d1' : decide (k < L.length) = false := by simp only [decide_eq_false_iff_not]; omega
      have htk : L.take k = L := List.take_of_length_le (by omega)
      rw [htk] at hbu hsm
      have hlens := Jr.lays_len_le 0 L hsm
      have hno : ¬ ¬ ∀ s ∈ L, s.length ≤ 4096 := fun hno => hno hsm
      have hbw := hbr.size
      have kS := Tryd.Builder_String_any w.heap.size w.heap.size (Jr.lays 0 L) wr hbu hbw
      obtain ⟨sv, hsv⟩ : ∃ v, Sb (Jr.lays 0 L) = v := ⟨_, rfl⟩
      have kS' : Calls Tryd.prog 37 #[.pointer (some ⟨w.heap.size, 0, none⟩)] wr fun e w' => e = .returned sv ∧ Below w.heap.size wr w' := by
        rw [← hsv]; exact kS
      have kR := fun {w : World} {S : Nat → Prop} (h : JS w B S g q l r j) => jreplace_at h (Jr.lays 0 L) (by omega)
      rcases hR : Jr.replaceR l r (Jr.lays 0 L) with ⟨l1, r1, c1⟩
      rw [hR] at kR
      simp only [hsv] at kR
      have KR := fun {w : World} {S : Nat → Prop} (h : JS w B S g q l r j) => Lib.hid (kR h)
      have KS := Lib.hid kS'
      have Hno := Lib.hid hno
      have Hbr := Lib.hid hbr
      have HR := Lib.hid hR
      clear kS kS' kR hR hsv hno hbu hbr hsm htk hlens hbw
      by_cases e1 : c1 = 0
      · subst e1
        have d3 : decide ((0 : Int) ≠ 0) = false := rfl
        go_wp2_with fail
        refine KS.out.mono ?_
        rintro e w5 ⟨rfl, hb5⟩
        have hJ5 := Hh.out.below (Hbr.out.trans hb5)
        have HJ5 := Lib.hid hJ5
        have Hb5 := Lib.hid (Hbr.out.trans hb5)
        clear hb5 hJ5
        go_wp2_with fail
        refine (KR HJ5.out).out.mono ?_
        rintro e w6 ⟨rfl, t6⟩
        have t6' : JTo w w6 B S0 g q l1 r1 j := JTo.trans (fun _ h => Or.inl h) ⟨Hb5.out.os, Hb5.out.tape, Hb5.out.output, Hb5.out.size, fun i hi _ => Hb5.out.block i hi⟩ t6
        obtain ⟨S6, hJ6, hP6, hC6⟩ := t6'
        have HJ6 := Lib.hid hJ6
        have HP6 := Lib.hid hP6
        have HC6 := Lib.hid hC6
        clear t6 hJ6 hP6 hC6
        go_wp2_with fail
        refine (jdid_at HJ6.out 0).mono ?_
        rintro e w8 ⟨rfl, t8⟩
        have t9' := JTo.trans HP6.out HC6.out t8
        have H7 := Lib.hid t9'
        clear t8 t9'
        obtain ⟨S8, hJ8, hP8, hC8⟩ := H7.out
        have z2 := hJ8.row.box.2.2.1
        have z3 := hJ8.row.box.2.2.2.1
        have zf2 := Row.free hJ8.row 2
        have zf3 := Row.free hJ8.row 3
        have zr := Row.set hJ8.row 2 (.int .i64 (L.length : Int)) (by simp [jcells])
        have zr2 := Row.set zr 3 (.int .i64 (L.length : Int)) (by simp [jcells])
        have y3 := Row.cell zr 3 (by simp [jcells])
        have yf3 := Row.free zr 3
        simp only [jcells, List.set, List.getElem_cons_succ, List.getElem_cons_zero] at y3
        have t9 := JTo.trans hP8 hC8 (hJ8.rowTo (j' := ⟨L.length, L.length, false⟩) (World.grownBy.trans (grownBy_set w8 q 2 (.int .i64 (L.length : Int))) (grownBy_set _ q 3 (.int .i64 (L.length : Int)))) (by unfold JAt; unfold jcells at zr2 ⊢; simpa using zr2))
        have H9 := Lib.hid t9
        clear hJ8 hP8 hC8 zr zr2 t9 H7
        go_wp2_with fail
        go_ret
        have e := HR0.out
        rw [if_neg Hno.out, HR.out] at e
        simp only [ne_eq, not_true_eq_false, if_false] at e
        subst e
        exact ⟨rfl, H9.out⟩
      · have d2 : (c1 != 0) = true := by simpa using e1
        have d3 : decide (c1 ≠ 0) = true := by simpa using e1
        have E1 := Lib.hid e1
        clear e1
        go_wp2_with fail
        refine KS.out.mono ?_
        rintro e w5 ⟨rfl, hb5⟩
        have hJ5 := Hh.out.below (Hbr.out.trans hb5)
        have HJ5 := Lib.hid hJ5
        have Hb5 := Lib.hid (Hbr.out.trans hb5)
        clear hb5 hJ5
        go_wp2_with fail
        refine (KR HJ5.out).out.mono ?_
        rintro e w6 ⟨rfl, t6⟩
        have t6' : JTo w w6 B S0 g q l1 r1 j := JTo.trans (fun _ h => Or.inl h) ⟨Hb5.out.os, Hb5.out.tape, Hb5.out.output, Hb5.out.size, fun i hi _ => Hb5.out.block i hi⟩ t6
        obtain ⟨S6, hJ6, hP6, hC6⟩ := t6'
        have HJ6 := Lib.hid hJ6
        have HP6 := Lib.hid hP6
        have HC6 := Lib.hid hC6
        clear t6 hJ6 hP6 hC6
        go_wp2_with fail
        refine (jdid_at HJ6.out c1).mono ?_
        rintro e w8 ⟨rfl, t8⟩
        have t9' := JTo.trans HP6.out HC6.out t8
        have H7 := Lib.hid t9'
        clear t8 t9'
        go_wp2_with fail
        go_ret
        rw [d3] at H7
        have e := HR0.out
        rw [if_neg Hno.out, HR.out] at e
        simp only at e
        rw [if_pos E1.out] at e
        subst e
        exact ⟨rfl, H7.out⟩
end Go.Proofs.YtpphljdnnlfjhaaDoor
