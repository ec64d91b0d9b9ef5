/- The auction's book: what is nil, slices.Clone, who bid already, Bids. -/
import Derived.Test.YtlapmdgkcidhnaaDoorBkMem
import Derived.Lib.SliceRun
namespace Go.Proofs.YtlapmdgkcidhnaaDoor
open Go.RowKit Go.Maps
set_option linter.unusedVariables false
set_option linter.unusedSimpArgs false
set_option maxRecDepth 100000

/-- the bids of a slice that is nil, or lies somewhere with room -/
def SlB (w : World) (B : Nat) (A : Option Addr) (c : Nat) (l : List Bd) : Prop := LsAt Bd.cells 36 w B A l ∧ (A = none → l = [] ∧ c = 0) ∧ l.length ≤ c ∧ l.length ≤ 1000000 ∧ ∀ b ∈ l, b.Fits
theorem SlB.below {w w' : World} {B : Nat} {A : Option Addr} {c : Nat} {l : List Bd} (h : SlB w B A c l) (hb : Below B w w') : SlB w' B A c l := ⟨h.1.below hb, h.2⟩
theorem SlB.mono {w : World} {B B' : Nat} {A : Option Addr} {c : Nat} {l : List Bd} (h : SlB w B A c l) (hB : B ≤ B') : SlB w B' A c l := ⟨h.1.mono hB, h.2⟩
theorem OwnL.slB {w : World} {base : Nat} {A : Option Addr} {n c : Nat} {l : List Bd} (h : OwnL w base 30 36 Bd.cells (.slice A n c) l) (hf : ∀ b ∈ l, b.Fits) (hl : l.length ≤ 1000000) : SlB w w.heap.size A c l := by
  refine ⟨h.lsAt (fun x hx => Bd.cells_len (hf x hx).tag), fun e => ?_, ?_, hl, hf⟩
  · subst e
    rcases h.own.2 with ⟨e, hn⟩ | ⟨g, cap, cur, e, _⟩
    · injection e with e1 e2 e3
      exact ⟨List.length_eq_zero_iff.1 hn, e3⟩
    · injection e with e1 e2 e3
      cases e1
  · obtain ⟨A', c', e, h1, _⟩ := h.form
    injection e with e1 e2 e3
    omega
theorem flat_one15 {l : List Bd} (hf : ∀ b ∈ l, b.Fits) : ∀ u ∈ Rw.flat Bd.cells l, u.oneCell' = true := fun u hu => by
  obtain ⟨y, hy, hyu⟩ := List.mem_flatMap.1 hu
  exact Bd.cells_one (hf y hy).tag u hyu
theorem bds_flat15 {w : World} {g : Nat} : ∀ (l : List Bd) (off : Nat), (∀ i (h : i < l.length), w.rangeAt g (off + i * 36) l[i].cells) → (∀ y ∈ l, y.cells.length = 36) → w.rangeAt g off (Rw.flat Bd.cells l)
  | [], off, _, _ => fun j v hv => by simp [Rw.flat] at hv
  | x :: r, off, h, hl => fun j v hv => by
    have hc := hl x (by simp)
    have hv : (x.cells ++ Rw.flat Bd.cells r)[j]? = some v := hv
    by_cases hj : j < 36
    · rw [List.getElem?_append_left (by omega)] at hv
      have := h 0 (by simp) j v hv
      rwa [Nat.zero_mul, Nat.add_zero] at this
    · rw [List.getElem?_append_right (by omega), hc] at hv
      have := bds_flat15 r (off + 36) (fun i hi => by
        have := h (i + 1) (by simpa using hi)
        rw [show off + 36 + i * 36 = off + (i + 1) * 36 by omega]
        simpa using this) (fun y hy => hl y (by simp [hy])) (j - 36) v hv
      rwa [show off + 36 + (j - 36) = off + j by omega] at this
set_option maxHeartbeats 1600000 in
theorem clone15_any (A : Option Addr) (c : Nat) (l : List Bd) (w : World) (hin : SlB w w.heap.size A c l) :
    Calls Tryd.prog 61 #[.slice A l.length c] w fun e w' => (∃ v, e = .returned v ∧ OwnL w' w.heap.size 30 36 Bd.cells v l) ∧ Below w.heap.size w w' := by
  obtain ⟨i0, hi, h2⟩ := Option.map_eq_some_iff.1 bd_info15
  simp only [Prod.mk.injEq] at h2
  have Hi := Lib.hid hi
  have Hz := Lib.hid h2.1
  have Hsz := Lib.hid h2.2.1
  have Hby := Lib.hid h2.2.2
  clear hi h2
  cases A with
  | none =>
    obtain ⟨rfl, rfl⟩ := hin.2.1 rfl
    clear hin
    have heq := fun W : World => Lib.run_eql_slice_nil (P := Tryd.prog) W 22 30 none 0 0 0 0 Tryd.underlying22
    go_enter Tryd.func61, Tryd.ntmps61
    go_wp2_with fail
    go_ret
    exact ⟨⟨_, rfl, OwnL.nil _ _ _ _ _⟩, Below.refl _ _⟩
  | some a =>
    have hown0 : (w.alloc (.cells #[] 30)).ownsRow w.heap.size 30 36 (.slice (some ⟨w.heap.size, 0, none⟩) 0 0) 0 [] := ⟨rfl, .inr ⟨w.heap.size, 0, #[], rfl, Nat.le_refl _, heap_alloc_new _ _, Nat.le_refl _, Nat.zero_le _, rfl, rfl⟩⟩
    have hb0 := (Below.refl w.heap.size w).alloc (Nat.le_refl _) (.cells #[] 30)
    have Hown0 := Lib.hid hown0
    have Hb0 := Lib.hid hb0
    have hz0 : w.heap.size ≤ (w.alloc (.cells #[] 30)).heap.size := hb0.size
    have hl36 : ∀ y ∈ l, y.cells.length = 36 := fun y hy => Bd.cells_len (hin.2.2.2.2 y hy).tag
    have HN : Hid (∀ j u, (Rw.flat Bd.cells l)[j]? = some u → (w.alloc (.cells #[] 30)).cell? (a.add j) = some u) := Lib.hid (fun j u hj => by
      have hne : l ≠ [] := fun e => by rw [e] at hj; simp [Rw.flat] at hj
      obtain ⟨g, e, hlt, hat⟩ := hin.1 hne
      injection e with e
      subst e
      have e : (⟨g, 0, none⟩ : Addr).add j = ⟨g, 0 + j, none⟩ := by unfold Addr.add; split <;> simp_all
      rw [e]
      refine (hb0.cell (p := ⟨g, 0 + j, none⟩) hlt).trans ?_
      exact bds_flat15 l 0 (fun i hi => by rw [Nat.zero_add]; exact hat i hi) hl36 j u hj)
    have hlen := hin.2.2.2.1
    have HL := Lib.hid (Rw.flat_len hl36)
    have HO := Lib.hid (flat_one15 hin.2.2.2.2)
    have hk63 : 0 + l.length ≤ maxLen := by unfold maxLen; omega
    have hk48 : ((0 + l.length) + (0 + l.length) / 4 + 192) * 64 ≤ 281474976710656 := by omega
    have HZ36 := Lib.hid (Bd.cells_len (b := Bd.zero) rfl)
    generalize Bd.zero.cells = ZB at *
    obtain ⟨F, hF⟩ : ∃ F, F = Rw.flat Bd.cells l := ⟨_, rfl⟩
    rw [← hF] at HN HL HO
    have HF := Lib.hid hF
    clear hF
    obtain ⟨n, hn⟩ : ∃ n, n = l.length := ⟨_, rfl⟩
    rw [← hn] at HL hk63 hk48 ⊢
    have HM := Lib.hid hn
    have heq := fun W : World => Lib.run_eql_slice_nil (P := Tryd.prog) W 22 30 (some a) n c 0 0 Tryd.underlying22
    clear hin hown0 hb0 hl36 hlen hn
    go_enter Tryd.func61, Tryd.ntmps61
    go_wp2_with (at_builtin; refine wpList_append_own_wide _ rfl (.tmp 5) (.tmp 6) 22 rfl w.heap.size 30 i0 (.agg ZB.toArray) 36 64 Tryd.underlying22 Hi.out Hz.out Hsz.out Hby.out (by rw [← HZ36.out]; rfl) (by decide) (.slice (some ⟨w.heap.size, 0, none⟩) 0 0) 0 [] rfl Hown0.out a n c F rfl HL.out HN.out HO.out hk63 hk48 hz0 ?_
                 intro v' w1 hown1 hgrow1 _
                 have Hown1 := Lib.hid hown1
                 have Hb1 := Lib.hid (below_row Hb0.out hz0 Hown0.out hgrow1)
                 clear hown1 hgrow1)
    go_ret
    have ho := Hown1.out
    rw [Nat.zero_add, List.nil_append] at ho
    refine ⟨⟨v', rfl, ⟨?_⟩⟩, Hb1.out⟩
    rw [← HM.out, ← HF.out]
    exact ho
/-- the closure: is it by them? -/
theorem byThem_any (y : Bd) (hy : y.tag.length = 32) (x : Bd) (gb : Nat) (w : World) (hx : Row w gb 30 x.cells) :
    Calls Tryd.prog 54 #[.agg y.cells.toArray, .pointer (some ⟨gb, 0, none⟩)] w fun e w' => e = .returned (.bool (y.who == x.who)) ∧ Below w.heap.size w w' := by
  obtain ⟨c0, c1, c2, c3⟩ := bid_box (Row.new w 30 y.cells)
  have d1 := (bid_box (hx.below ((Below.refl w.heap.size w).alloc (Nat.le_refl _) (.cells y.cells.toArray 30)))).2.1
  have hne : gb ≠ w.heap.size := by have := hx.lt; omega
  generalize y.cells = C at *
  clear hx
  go_enter Tryd.func54, Tryd.ntmps54
  go_wp2_with fail
  go_ret
  exact ⟨rfl, (Below.refl w.heap.size w).alloc (Nat.le_refl _) _⟩
set_option maxHeartbeats 1600000 in
theorem indexF_any (A : Option Addr) (c : Nat) (l : List Bd) (x : Bd) (gb : Nat) (w : World) (hin : SlB w w.heap.size A c l) (hx : Row w gb 30 x.cells) :
    Calls Tryd.prog 83 #[.slice A l.length c, .func (.func 54) #[] #[.pointer (some ⟨gb, 0, none⟩)]] w fun e w' => (∃ i : Int, e = .returned (.int .i64 i) ∧ (0 ≤ i ↔ (l.any fun y => y.who == x.who) = true)) ∧ Below w.heap.size w w' := by
  obtain ⟨m, hm⟩ : ∃ m, m = l.length := ⟨_, rfl⟩
  obtain ⟨X, hX⟩ : ∃ X : Nat → Bd, X = fun k => l.getD k Bd.zero := ⟨_, rfl⟩
  have hX2 : ∀ k, l.getD k Bd.zero = X k := fun k => by rw [hX]
  have HXt : Hid (∀ i, i < m → (X i).tag.length = 32) := Lib.hid (fun i hi => by rw [← hX2]; exact (hin.2.2.2.2 _ (Au.getD_mem (by omega))).tag)
  have HAt : Hid (∀ i, i < m → ∃ g, A = some ⟨g, 0, none⟩ ∧ g < w.heap.size ∧ w.rangeAt g (i * 36) (X i).cells) := Lib.hid (fun i hi => by
    obtain ⟨g, e, hg, ha⟩ := hin.1 (by intro e; rw [e] at hm; simp at hm; omega)
    refine ⟨g, e, hg, ?_⟩
    rw [← hX2, List.getD_eq_getElem?_getD, List.getElem?_eq_getElem (by omega)]
    exact ha i (by omega))
  have HYes : Hid (∀ i, i < m → (X i).who = x.who → (l.any fun y => y.who == x.who) = true) := Lib.hid (fun i hi e => by
    rw [List.any_eq_true]
    exact ⟨X i, by rw [← hX2]; exact Au.getD_mem (by omega), by simp [e]⟩)
  have HNo : Hid ((∀ i, i < m → (X i).who ≠ x.who) → (l.any fun y => y.who == x.who) = false) := Lib.hid (fun h => by
    rw [List.any_eq_false]
    intro y hy
    obtain ⟨i, hi, rfl⟩ := List.getElem_of_mem hy
    have := h i (by omega)
    rw [← hX2, List.getD_eq_getElem?_getD, List.getElem?_eq_getElem hi] at this
    simpa using this)
  have hl := hin.2.2.2.1
  have Hx := Lib.hid hx
  rw [← hm] at hl ⊢
  generalize (l.any fun y => y.who == x.who) = an at *
  clear hin hm hX hX2 hx
  go_enter Tryd.func83, Tryd.ntmps83
  go_wp2_with fail
  go_loopw [8] (fun s8 wr => ∃ k : Nat, k ≤ m ∧ s8 = .int .i64 k ∧ Hid (∀ i, i < k → (X i).who ≠ x.who) ∧ Hid (Below w.heap.size w wr)) (fun i _ => m - (intOf i).toNat)
  case atStart => exact ⟨0, Nat.zero_le _, rfl, Lib.hid (fun i hi => by omega), Lib.hid (Below.refl _ _)⟩
  case round =>
    obtain ⟨k, hk, rfl, HD, Hbr⟩ := hrel
    by_cases hkn : k < m
    · have hki : (k : Int) < (m : Int) := by omega
      have hk0 : (0 : Int) ≤ (k : Int) := by omega
      obtain ⟨g, rfl, hg, hat⟩ := HAt.out k hkn
      have HRr : Hid (wr.rangeAt g (k * 36) (X k).cells) := Lib.hid (fun j u hu => (Hbr.out.cell (p := ⟨g, k * 36 + j, none⟩) hg).trans (hat j u hu))
      have HK36 := Lib.hid (Bd.cells_len (HXt.out k hkn))
      have CB := Lib.hid (byThem_any (X k) (HXt.out k hkn) x gb wr (Hx.out.kept (grownBy_of_below Hbr.out none) (by simp)))
      have HY := Lib.hid (HYes.out k hkn)
      generalize (X k).cells = CK at *
      clear hat
      by_cases hee : (X k).who = x.who
      · have e0 : ((X k).who == x.who) = true := by simpa using hee
        rw [e0] at CB
        have HY2 := Lib.hid (HY.out hee)
        clear hee e0
        go_wp2_with ((with_reducible show wpList _ _ _ (⟨_, .load 30 (.tmp 14), _, _, _, _⟩ :: _) _ _); refine wpList_load_tx rfl 30 (.tmp 14) rfl g (k * 36) (by first | rfl | simp) CK _ HRr.out Tryd.underlying30 rfl (by rw [bid_info, HK36.out]) ?_)
        refine CB.out.mono ?_
        rintro _ w2 ⟨rfl, hb2⟩
        have Hb2 := Lib.hid (two_below' Hbr.out hb2)
        clear hb2
        go_wp2_with fail
        go_ret
        exact ⟨⟨k, rfl, by rw [HY2.out]; simp⟩, Hb2.out⟩
      · have e0 : ((X k).who == x.who) = false := by simpa using hee
        rw [e0] at CB
        have HDn : Hid (∀ i, i < k + 1 → (X i).who ≠ x.who) := Lib.hid (fun i hi => by
          by_cases e : i = k
          · subst e; exact hee
          · exact HD.out i (by omega))
        clear hee e0
        go_wp2_with ((with_reducible show wpList _ _ _ (⟨_, .load 30 (.tmp 14), _, _, _, _⟩ :: _) _ _); refine wpList_load_tx rfl 30 (.tmp 14) rfl g (k * 36) (by first | rfl | simp) CK _ HRr.out Tryd.underlying30 rfl (by rw [bid_info, HK36.out]) ?_)
        refine CB.out.mono ?_
        rintro _ w2 ⟨rfl, hb2⟩
        have Hb2 := Lib.hid (two_below' Hbr.out hb2)
        clear hb2
        go_wp2_with fail
        exact ⟨⟨k + 1, by omega, by go_num, HDn, Hb2⟩, by simp [intOf]; omega⟩
    · have hki : ¬ (k : Int) < (m : Int) := by omega
      have e : k = m := by omega
      subst e
      have HN2 := Lib.hid (HNo.out HD.out)
      go_wp2_with fail
      go_ret
      exact ⟨⟨-1, rfl, by rw [HN2.out]; simp⟩, Hbr.out⟩
theorem containsF_any (A : Option Addr) (c : Nat) (l : List Bd) (x : Bd) (gb : Nat) (w : World) (hin : SlB w w.heap.size A c l) (hx : Row w gb 30 x.cells) :
    Calls Tryd.prog 55 #[.slice A l.length c, .func (.func 54) #[] #[.pointer (some ⟨gb, 0, none⟩)]] w fun e w' => e = .returned (.bool (l.any fun y => y.who == x.who)) ∧ Below w.heap.size w w' := by
  have IF := Lib.hid (indexF_any A c l x gb w hin hx)
  generalize (l.any fun y => y.who == x.who) = an at *
  generalize l.length = m at *
  clear hin hx
  go_enter Tryd.func55, Tryd.ntmps55
  go_wp2_with fail
  refine IF.out.mono ?_
  rintro _ w2 ⟨⟨i, rfl, hi⟩, hb2⟩
  have Hi := Lib.hid hi
  have Hb2 := Lib.hid hb2
  clear hi hb2
  go_wp2_with fail
  go_ret
  refine ⟨?_, Hb2.out⟩
  have : decide (0 ≤ i) = an := by rw [Bool.eq_iff_iff, decide_eq_true_eq]; exact Hi.out
  rw [← this]
  rfl
theorem bids_nil (r : Int) (w : World) : Calls Tryd.prog 28 #[.pointer none, .int .i64 r] w fun e w' => e = .returned (.slice none 0 0) ∧ w = w' := by
  go_enter Tryd.func28, Tryd.ntmps28
  go_wp2_with fail
  go_ret
  exact ⟨rfl, rfl⟩
theorem bids_any {w : World} {base B M n : Nat} {fl : Int} {V : Int → Option Value} {L : List Bd} (r : Int) (hr : Tx.fits r) (h : BookAt w base B M fl V L n) :
    Calls Tryd.prog 28 #[.pointer (some ⟨B, 0, none⟩), .int .i64 r] w fun e w' => (∃ v, e = .returned v ∧ OwnL w' w.heap.size 30 36 Bd.cells v (Au.ofR r L)) ∧ Below w.heap.size w w' := by
  have c1 := h.c1
  have hlook := h.look r hr
  have ho := h.own r
  obtain ⟨A, c, hv, _, _⟩ := ho.form
  rw [hv] at hlook ho
  have hfew := h.ok.few r
  have CL := Lib.hid (clone15_any A c (Au.ofR r L) w (ho.slB (h.fitsR r) (by omega)))
  generalize (Au.ofR r L).length = m at *
  clear hv ho h hfew
  go_enter Tryd.func28, Tryd.ntmps28
  go_wp2_with fail
  refine CL.out.mono ?_
  rintro _ w2 ⟨⟨v, rfl, ho⟩, hb2⟩
  have Ho := Lib.hid ho
  have Hb2 := Lib.hid hb2
  clear ho hb2
  go_wp2_with fail
  go_ret
  exact ⟨⟨v, rfl, Ho.out⟩, Hb2.out⟩
end Go.Proofs.YtlapmdgkcidhnaaDoor
