/- Layer 21: CutSays. -/
import Derived.Test.YtncahgjmdeepeaaCutEnds
import Derived.Test.YtncahgjmdeepeaaBuildL
namespace Go.Proofs.Ytncahgjmdeepeaa
open Go.RowKit
set_option linter.unusedVariables false
set_option linter.unusedSimpArgs false

/-- receipts by their places -/
def Cut.lab (L : List Rc) : List Rc := L.mapIdx fun i x => ⟨i, x.kind, x.time, x.body, x.rest⟩
theorem Cut.lab_length (L : List Rc) : (Cut.lab L).length = L.length := by simp [Cut.lab]
theorem Cut.lab_at (L : List Rc) (i : Nat) (h : i < L.length) : (Cut.lab L)[i]'(by rw [Cut.lab_length]; exact h) = ⟨i, L[i].kind, L[i].time, L[i].body, L[i].rest⟩ := by simp [Cut.lab]
def Cut.seg (L : List Rc) (a p : Nat) : List Rc := ((Cut.lab L).take p).drop a
theorem Cut.seg_start (L : List Rc) (a : Nat) : Cut.seg L a a = [] := by
  unfold Cut.seg
  exact List.drop_of_length_le (by rw [List.length_take]; omega)
theorem Cut.seg_length (L : List Rc) (a p : Nat) (h : p ≤ L.length) : (Cut.seg L a p).length = p - a := by
  unfold Cut.seg
  rw [List.length_drop, List.length_take, Cut.lab_length]; omega
theorem Cut.seg_next (L : List Rc) (a p : Nat) (h : p < L.length) (ha : a ≤ p) : Cut.seg L a (p + 1) = Cut.seg L a p ++ [⟨p, L[p].kind, L[p].time, L[p].body, L[p].rest⟩] := by
  unfold Cut.seg
  rw [List.take_succ_eq_append_getElem (by rw [Cut.lab_length]; exact h), List.drop_append_of_le_length (by rw [List.length_take, Cut.lab_length]; omega), Cut.lab_at L p h]
theorem Cut.seg_at (L : List Rc) (a p i : Nat) (h : p ≤ L.length) (hi : a + i < p) : (Cut.seg L a p)[i]'(by rw [Cut.seg_length L a p h]; omega) = ⟨((a + i : Nat) : Int), (L[a + i]'(by omega)).kind, (L[a + i]'(by omega)).time, (L[a + i]'(by omega)).body, (L[a + i]'(by omega)).rest⟩ := by
  unfold Cut.seg
  rw [List.getElem_drop, List.getElem_take, Cut.lab_at L (a + i) (by omega)]
theorem Cut.seg_ok (L : List Rc) (a p : Nat) (h : ∀ x ∈ L, RcOk x) : ∀ x ∈ Cut.seg L a p, RcOk x := by
  intro x hx
  have hx1 : x ∈ Cut.lab L := List.mem_of_mem_take (List.mem_of_mem_drop hx)
  unfold Cut.lab at hx1
  obtain ⟨i, hi, rfl⟩ := List.mem_mapIdx.1 hx1
  exact h L[i] (List.getElem_mem hi)
theorem Cut.seg_okM (L : List Rc) (a n : Nat) (h : a + n ≤ L.length) (hn : 0 < n) : Cut.okM a n (Cut.seg L a (a + n)) = true := by
  have hl := Cut.seg_length L a (a + n) h
  have h0 := List.getElem?_eq_some_iff.2 ⟨_, Cut.seg_at L a (a + n) 0 h (by omega)⟩
  cases e : Cut.seg L a (a + n) with
  | nil => rw [e] at hl; simp at hl; omega
  | cons x M =>
    rw [e] at hl h0
    simp only [List.getElem?_cons_zero, Option.some.injEq] at h0
    subst h0
    show (decide ((_ : Int) = (n : Int)) && decide (_ = (a : Int))) = true
    rw [hl]
    simp
theorem Cut.fits_pos {r : Cut.Rules} {l : List Rc} (hr : Cut.okR r = true) (hl : l ≠ []) : 1 ≤ Cut.fits r (lens l) := by
  have hr' := Cut.okR_iff.1 hr
  cases l with
  | nil => exact absurd rfl hl
  | cons x l' =>
    unfold Cut.fits
    rw [if_pos hr]
    show 1 ≤ Cut.go r.parts (x.body.size :: lens l') 0 r.bytes
    unfold Cut.go
    rw [if_neg (by intro h; rcases h with h | h <;> omega)]
    omega
theorem RcsAt.ok {w : World} {A : Option Addr} {l : List Rc} (h : RcsAt w A l) : ∀ x ∈ l, RcOk x := by
  intro x hx
  obtain ⟨b, off, _, _, hc⟩ := h (by rintro rfl; simp at hx)
  obtain ⟨i, hi, rfl⟩ := List.getElem_of_mem hx
  exact (hc i hi).2
/-- receipts that the call has made -/
theorem rcs_own {w : World} {base g n cap : Nat} {t : TypeId} {l : List Rc} (h : w.ownsRow base t 68 (.slice (some ⟨g, 0, none⟩) n cap) n (l.flatMap rcL)) (hl : ∀ x ∈ l, RcOk x) : RcsAt w (some ⟨g, 0, none⟩) l :=
  rcs_cells hl (h.lt g rfl).2 fun j u hj => by
    have hlt := (List.getElem?_eq_some_iff.1 hj).1
    rw [h.1] at hlt
    exact (h.cellAt j hlt).trans hj
theorem rc_info2 : (Try.prog.info? 44).map (fun i => (i.zero, i.size, i.bytes)) = some (some (.agg rcZero), 68, 104) := by kernel_rfl
theorem rc_range {w : World} {g : Nat} {t : TypeId} {x : Rc} (h : Row w g t (rcL x)) : w.rangeAt g 0 (rcL x) := by
  intro j v hv
  obtain ⟨hlt, he⟩ := List.getElem?_eq_some_iff.1 hv
  rw [Nat.zero_add, h.cell j hlt, he]
theorem rc_set (x : Rc) (p : Int) : (rcL x).set 0 (.int .i64 p) = rcL ⟨p, x.kind, x.time, x.body, x.rest⟩ := rfl
theorem rc_cells_at (w : World) (x : Rc) (t : TypeId) : ∀ j u, (rcL x)[j]? = some u → (w.alloc (.cells (rcL x).toArray t)).cell? ((⟨w.heap.size, 0, none⟩ : Addr).add j) = some u := by
  intro j u hj
  obtain ⟨hlt, he⟩ := List.getElem?_eq_some_iff.1 hj
  have := (Row.new w t (rcL x)).cell j hlt
  rw [show ((⟨w.heap.size, 0, none⟩ : Addr).add j) = ⟨w.heap.size, j, none⟩ by unfold Addr.add; split <;> simp_all]
  rw [this, he]

theorem rcs_other {w w4 : World} {A : Option Addr} {l : List Rc} {o : Obj} (h : RcsAt w A l) (hg : (w.alloc o).grownBy w4 (some w.heap.size)) : RcsAt w4 A l := by
  intro hne
  obtain ⟨b, off, rfl, hlt, hc⟩ := h hne
  have hs := hg.size
  refine ⟨b, off, rfl, by simp at hs; omega, fun i hi => ⟨fun j v hv => ?_, (hc i hi).2⟩⟩
  exact hg.cell ((grownBy_alloc w o none).cell ((hc i hi).1 j v hv) (by simp)) (by simp; omega)
theorem rcs_set {w : World} {A : Option Addr} {l : List Rc} {g i : Nat} {v : Value} (h : RcsAt w A l) (hb : ∀ b off, A = some ⟨b, off, none⟩ → b ≠ g) : RcsAt (w.setCell ⟨g, i, none⟩ v) A l := by
  intro hne
  obtain ⟨b, off, rfl, hlt, hc⟩ := h hne
  have hg := grownBy_set w g i v
  refine ⟨b, off, rfl, Nat.lt_of_lt_of_le hlt hg.size, fun k hi => ⟨fun j u hv => ?_, (hc k hi).2⟩⟩
  exact hg.cell ((hc k hi).1 j u hv) (by simpa using hb b off rfl)
theorem rcs_grown {w w' : World} {A : Option Addr} {l : List Rc} {r : Option Nat} (h : RcsAt w A l) (hg : w.grownBy w' r) (hb : ∀ b off, A = some ⟨b, off, none⟩ → some b ≠ r) : RcsAt w' A l := by
  intro hne
  obtain ⟨b, off, rfl, hlt, hc⟩ := h hne
  refine ⟨b, off, rfl, Nat.lt_of_lt_of_le hlt hg.size, fun k hi => ⟨fun j u hv => ?_, (hc k hi).2⟩⟩
  exact hg.cell ((hc k hi).1 j u hv) (hb b off rfl)
theorem own_set {w : World} {base g i size n : Nat} {e : TypeId} {u v : Value} {xs : List Value} (h : w.ownsRow base e size v n xs) (hne : ¬ v.ownBlock = some g) : (w.setCell ⟨g, i, none⟩ u).ownsRow base e size v n xs := ownsRow_setCell_other h hne u
theorem rc_one {x : Rc} (h : RcOk x) : ∀ v ∈ rcL x, v.oneCell' = true := by
  have := flat_one [x] (fun y hy => by rw [List.mem_singleton.1 hy]; exact h)
  simpa using this

theorem rcs_new {w w' : World} {A : Option Addr} {l : List Rc} {g : Nat} (h : RcsAt w A l) (hg : w.grownBy w' (some g)) (hge : w.heap.size ≤ g) : RcsAt w' A l := by
  intro hne
  obtain ⟨b, off, rfl, hlt, hc⟩ := h hne
  refine ⟨b, off, rfl, Nat.lt_of_lt_of_le hlt hg.size, fun k hi => ⟨fun j u hv => ?_, (hc k hi).2⟩⟩
  exact hg.cell ((hc k hi).1 j u hv) (by simp; omega)
theorem says_store {w wr w4 : World} {v : Value} {k : Nat} {xs RR : List Value} {A : Option Addr} {L : List Rc} {x : Rc} {p : Int} {T TR : TypeId} {O : Obj}
    (hown : wr.ownsRow (w.heap.size + 1) T 68 v k xs) (hrow : Row wr w.heap.size TR RR) (hbw : Below w.heap.size w wr) (hrc : RcsAt wr A L) (hx4 : Row w4 wr.heap.size T (rcL x)) (hg4 : (wr.alloc O).grownBy w4 (some wr.heap.size)) :
    wr.heap.size < w4.heap.size ∧ w4.frozen? ⟨wr.heap.size, 0, none⟩ = false ∧ w4.cell? ⟨wr.heap.size, 0, none⟩ = some (.int .i64 x.idx) ∧
      Hid (Row (w4.setCell ⟨wr.heap.size, 0, none⟩ (.int .i64 p)) wr.heap.size T (rcL ⟨p, x.kind, x.time, x.body, x.rest⟩)) ∧
      Hid ((w4.setCell ⟨wr.heap.size, 0, none⟩ (.int .i64 p)).ownsRow (w.heap.size + 1) T 68 v k xs) ∧
      Hid (Row (w4.setCell ⟨wr.heap.size, 0, none⟩ (.int .i64 p)) w.heap.size TR RR) ∧
      Hid (Below w.heap.size w (w4.setCell ⟨wr.heap.size, 0, none⟩ (.int .i64 p))) ∧
      Hid (RcsAt (w4.setCell ⟨wr.heap.size, 0, none⟩ (.int .i64 p)) A L) ∧
      Hid (∀ j u, (rcL ⟨p, x.kind, x.time, x.body, x.rest⟩)[j]? = some u → ((w4.setCell ⟨wr.heap.size, 0, none⟩ (.int .i64 p)).alloc (.cells (rcL ⟨p, x.kind, x.time, x.body, x.rest⟩).toArray T)).cell? ((⟨(w4.setCell ⟨wr.heap.size, 0, none⟩ (.int .i64 p)).heap.size, 0, none⟩ : Addr).add j) = some u) ∧
      Hid (w.heap.size + 1 ≤ ((w4.setCell ⟨wr.heap.size, 0, none⟩ (.int .i64 p)).alloc (.cells (rcL ⟨p, x.kind, x.time, x.body, x.rest⟩).toArray T)).heap.size) := by
  have hlt := hrow.lt
  have hg6 : wr.grownBy (w4.setCell ⟨wr.heap.size, 0, none⟩ (.int .i64 p)) (some wr.heap.size) := ((grownBy_alloc wr O _).trans hg4).trans (grownBy_set w4 _ _ _)
  have hc := hx4.cell 0 (by simp [rcL])
  have hz : (w4.setCell ⟨wr.heap.size, 0, none⟩ (.int .i64 p)).heap.size = w4.heap.size := by simp [World.setCell]
  have h4 := hx4.lt
  refine ⟨h4, hx4.free 0, hc, Lib.hid ?_, Lib.hid (hown.kept hg6 (.inr (fun e => by have := (hown.lt _ e).2; omega))), Lib.hid (hrow.kept hg6 (by simp; omega)), Lib.hid (hbw.grown hg6 hbw.size (fun k hk => by cases hk; omega)), Lib.hid (rcs_new hrc hg6 (Nat.le_refl _)), Lib.hid ?_, Lib.hid ?_⟩
  · have := hx4.set 0 (.int .i64 p) (by simp [rcL])
    rw [rc_set] at this
    exact this
  · exact rc_cells_at (w4.setCell ⟨wr.heap.size, 0, none⟩ (.int .i64 p)) ⟨p, x.kind, x.time, x.body, x.rest⟩ T
  · rw [show ∀ (W : World) (o : Obj), (W.alloc o).heap.size = W.heap.size + 1 from fun W o => by simp, hz]; omega

set_option maxRecDepth 20000 in
set_option maxHeartbeats 3200000 in
theorem cutSays_any (A : Option Addr) (c : Nat) (l : List Rc) (r : Cut.Rules) (w : World) (hl : RcsAt w A l) (hlen : l.length ≤ 8796093022208) (hlc : l.length ≤ c) (hcc : c ≤ 9223372036854775807) :
    Calls Try.prog 7 #[.slice A l.length c, r.v] w fun e w' => e = .returned (.bool true) ∧ Below w.heap.size w w' := by
  have hpos := fun (L : List Rc) (hr : Cut.okR r = true) (h : L ≠ []) => Cut.fits_pos hr h
  obtain ⟨rp, rb, ra, rl⟩ := r
  have FI : Hid (∀ W A c (L : List Rc) (m : Nat), RcsAt W A L → m = L.length → m ≤ 60 → Calls Try.prog 11 #[.slice A m c, .agg #[.int .i64 rp, .int .i64 rb, .int .i64 ra, .int .i64 rl]] W fun e w' => e = .returned (.int .i64 (Cut.fits ⟨rp, rb, ra, rl⟩ (lens L))) ∧ Below W.heap.size W w') := fun W A c L m hW hm h2 => by
    rw [hm]; exact cutFits_any A c L ⟨rp, rb, ra, rl⟩ W hW (by omega)
  have CH : Hid (∀ W ce, checkE ⟨rp, rb, ra, rl⟩ = ce → Calls Try.prog 10 #[.agg #[.int .i64 rp, .int .i64 rb, .int .i64 ra, .int .i64 rl]] W fun e w' => e = .returned (.int .i64 ce) ∧ Below W.heap.size W w') := fun W ce hce => by
    rw [← hce]; exact (refCheck_any ⟨rp, rb, ra, rl⟩ W).mono fun _ _ h => ⟨h.1, below_of_grown h.2⟩
  have hEy : Cut.okR ⟨rp, rb, ra, rl⟩ = true → checkE ⟨rp, rb, ra, rl⟩ = 0 := fun h => if_pos h
  have hEn : ¬ Cut.okR ⟨rp, rb, ra, rl⟩ = true → checkE ⟨rp, rb, ra, rl⟩ = 2 := fun h => if_neg h
  have HEy := Lib.hid hEy
  have HEn := Lib.hid hEn
  have Hpos := Lib.hid hpos
  have HL := Lib.hid hl
  clear hpos hEy hEn hl
  unfold Cut.Rules.v
  simp only
  obtain ⟨i0, hi, h2⟩ := Option.map_eq_some_iff.1 rc_info2
  simp only [Prod.mk.injEq] at h2
  obtain ⟨hz, hs, hby⟩ := h2
  have Hi := Lib.hid hi
  have Hz := Lib.hid hz
  have Hs := Lib.hid hs
  have Hby := Lib.hid hby
  clear hi hz hs hby
  by_cases h60 : 60 < l.length
  · have h60' : (60 : Int) < (l.length : Int) := by omega
    have hm60 : 60 = (l.take 60).length := by rw [List.length_take]; omega
    have HM := Lib.hid hm60
    have HLt := Lib.hid (HL.out.take 60)
    have hcI : (60 : Int) ≤ (c : Int) := by omega
    have hcI2 : (l.length : Int) ≤ (c : Int) := by omega
    clear hm60
    by_cases hok : Cut.okR ⟨rp, rb, ra, rl⟩ = true
    · have hce := HEy.out hok
      have HCE := Lib.hid hce
      clear hce
      go_enter Try.func7, Try.ntmps7
      go_wp2_with fail
      refine (awake_any _).mono ?_
      rintro _ w1 ⟨rfl, hb1⟩
      have hr1 : Row w1 w.heap.size 24 [.int .i64 rp, .int .i64 rb, .int .i64 ra, .int .i64 rl] := (Row.new w _ _).kept (grownBy_of_below hb1 none) (by simp)
      have hl1 : RcsAt w1 A (l.take 60) := (HLt.out.kept (grownBy_alloc _ _ none)).kept (grownBy_of_below hb1 none)
      have hb1' : Below w.heap.size w w1 := ((Below.refl w.heap.size w).alloc (Nat.le_refl _) _).grown (grownBy_of_below hb1 none) (by simp) (fun k hk => by cases hk)
      have q0 := hr1.cell 0 (by simp)
      have q1 := hr1.cell 1 (by simp)
      have q2 := hr1.cell 2 (by simp)
      have q3 := hr1.cell 3 (by simp)
      simp only [List.getElem_cons_zero, List.getElem_cons_succ] at q0 q1 q2 q3
      have Hr1 := Lib.hid hr1
      have HL1 := Lib.hid hl1
      have Hb1 := Lib.hid hb1'
      clear hr1 hl1 hb1 hb1'
      go_wp2_with fail
      refine (CH.out _ _ HCE.out).mono ?_
      rintro _ w2 ⟨rfl, hb2⟩
      have hb2' := two_below Hb1.out hb2
      have hr2 := Hr1.out.kept (grownBy_of_below hb2 none) (by simp)
      have hl2 := HL1.out.kept (grownBy_of_below hb2 none)
      have Hr2 := Lib.hid hr2
      have HL2 := Lib.hid hl2
      have Hb2 := Lib.hid hb2'
      clear hr2 hl2 hb2 hb2' q0 q1 q2 q3
      obtain ⟨L, hEqL⟩ : ∃ L, L = (l.take 60) := ⟨_, rfl⟩
      have HL2' : Hid (RcsAt w2 A L) := by rw [hEqL]; exact HL2
      have HmL : Hid (60 = L.length) := by rw [hEqL]; exact Lib.hid HM.out
      have Hokx : Hid (∀ x ∈ L, RcOk x) := HL2'.out.ok
      clear HL1 HL2 Hr1 Hb1
      clear hEqL
      go_wp2_with fail
      go_loopw [5, 6, 7] (fun s5 s6 s7 wr => ∃ (a bf sq : Nat), s5 = .int .i64 a ∧ s6 = .int .i64 bf ∧ s7 = .int .i64 sq ∧ a ≤ 60 ∧ bf ≤ a ∧ sq ≤ a ∧ RcsAt wr A L ∧ Row wr w.heap.size 24 [.int .i64 rp, .int .i64 rb, .int .i64 ra, .int .i64 rl] ∧ Below w.heap.size w wr) (fun s5 _ _ _ => 60 - (intOf s5).toNat)
      case atStart => exact ⟨0, 0, 0, rfl, rfl, rfl, Nat.zero_le _, Nat.le_refl _, Nat.le_refl _, HL2'.out, Hr2.out, Hb2.out⟩
      case round =>
        obtain ⟨a, bf, sq, rfl, rfl, rfl, ham, hbf, hsq, hrc, hrow, hbw⟩ := hrel
        clear HL2' Hr2 Hb2
        have q0 := hrow.cell 0 (by simp)
        have q1 := hrow.cell 1 (by simp)
        have q2 := hrow.cell 2 (by simp)
        have q3 := hrow.cell 3 (by simp)
        simp only [List.getElem_cons_zero, List.getElem_cons_succ] at q0 q1 q2 q3
        have Hrc := Lib.hid hrc
        have Hrow := Lib.hid hrow
        have Hbw := Lib.hid hbw
        clear hrc hrow hbw
        by_cases hlt : a < 60
        · have hai : (a : Int) < (60 : Int) := by omega
          have hac : (a : Int) < (c : Int) := by omega
          have hac1 : ¬ c = a := by omega
          have hac2 : ¬ (c : Int) = (a : Int) := by omega
          have hac3 : (a : Int) ≤ (60 : Int) := by omega
          have hac4 : (60 : Int) ≤ (c : Int) := by omega
          have haL : a < L.length := by have := HmL.out; omega
          obtain ⟨b, off, rfl, hblt, hcel⟩ := Hrc.out (by intro e; rw [e] at haL; simp at haL)
          have hb00 : b < w.heap.size := by
            obtain ⟨b', off', e, h, _⟩ := HLt.out (by intro e; have h0 := HM.out; rw [e] at h0; simp at h0 <;> omega)
            simp at e; omega
          clear hcel hblt
          obtain ⟨n, hn⟩ : ∃ n, n = Cut.fits ⟨rp, rb, ra, rl⟩ (lens (L.drop a)) := ⟨_, rfl⟩
          have hne : L.drop a ≠ [] := by intro e; have := congrArg List.length e; simp at this; omega
          have hn1 : 1 ≤ n := by rw [hn]; exact Hpos.out _ hok hne
          have hnm : a + n ≤ 60 := by
            have h1 := Cut.fits_le ⟨rp, rb, ra, rl⟩ (lens (L.drop a))
            rw [← hn] at h1
            simp only [lens, List.length_map, List.length_drop] at h1
            have h2 := HmL.out
            omega
          have D : Hid (∀ W, RcsAt W (some ⟨b, off, none⟩) L → Calls Try.prog 11 #[.slice (some ⟨b, off + a * 68, none⟩) (60 - a) (c - a), .agg #[.int .i64 rp, .int .i64 rb, .int .i64 ra, .int .i64 rl]] W fun e w' => e = .returned (.int .i64 (n : Int)) ∧ Below W.heap.size W w') := fun W hW => by
            have := FI.out W (some ⟨b, off + a * 68, none⟩) (c - a) (L.drop a) (60 - a) (hW.drop a) (by have := HmL.out; rw [List.length_drop]; omega) (by omega)
            rw [← hn] at this
            exact this
          have hS0 : RcsAt wr.drew (some ⟨b, off, none⟩) L ∧ Below w.heap.size w wr.drew ∧ wr.drew.cell? ⟨w.heap.size, 0, none⟩ = some (.int .i64 rp) ∧ wr.drew.cell? ⟨w.heap.size, 1, none⟩ = some (.int .i64 rb) ∧ wr.drew.cell? ⟨w.heap.size, 2, none⟩ = some (.int .i64 ra) ∧ wr.drew.cell? ⟨w.heap.size, 3, none⟩ = some (.int .i64 rl) :=
            ⟨Hrc.out.kept (grownBy_drew _ none), Hbw.out.drew, q0, q1, q2, q3⟩
          have hrowd := Hrow.out.kept (grownBy_drew wr none) (by simp)
          have Hrowd := Lib.hid hrowd
          have HS0 := Lib.hid hS0
          clear hn hne q0 q1 q2 q3 hS0 hrowd
          go_wp2_with fail
          have hS0 := HS0.out
          go_region_held3 (fun W => RcsAt W (some ⟨b, off, none⟩) L ∧ Below w.heap.size w W ∧ W.cell? ⟨w.heap.size, 0, none⟩ = some (.int .i64 rp) ∧ W.cell? ⟨w.heap.size, 1, none⟩ = some (.int .i64 rb) ∧ W.cell? ⟨w.heap.size, 2, none⟩ = some (.int .i64 ra) ∧ W.cell? ⟨w.heap.size, 3, none⟩ = some (.int .i64 rl))
            (first | assumption | exact hS0 | (exact rules_step (by assumption) (by assumption)))
            (first
              | (go_at_call 11; with_reducible refine Calls.mono (D.out _ (And.left (by assumption))) ?_; rintro e w' ⟨rfl, hb⟩))
          rename_i hHeld
          clear hHeld
          have hrc3 := Hrc.out.kept (grownBy_drew wr none) |>.kept (grownBy_of_below hb none)
          have hrow3 := Hrowd.out.kept (grownBy_of_below hb none) (by simp)
          have hbw3 := Hbw.out.drew.grown (grownBy_of_below hb none) Hbw.out.drew.size (fun k hk => by cases hk)
          have Hrc3 := Lib.hid hrc3
          have Hrow3 := Lib.hid hrow3
          have Hbw3 := Lib.hid hbw3
          clear hrc3 hrow3 hbw3 hb Hrc Hrow Hbw Hrowd HS0 hS0 D
          have hn1' : (1 : Int) ≤ (n : Int) := by omega
          have hnm' : (n : Int) ≤ (60 : Int) - (a : Int) := by omega
          have hnm2 : (a : Int) + (n : Int) ≤ 60 := by omega
          generalize w' = wo at *
          go_wp2_with fail
          go_loopw [9, 10] (fun s9 s10 wr => ∃ (p : Nat), a ≤ p ∧ p ≤ a + n ∧ s10 = .int .i64 p ∧ wr.ownsRow (w.heap.size + 1) 44 68 s9 (p - a) ((Cut.seg L a p).flatMap rcL) ∧ RcsAt wr (some ⟨b, off, none⟩) L ∧ Row wr w.heap.size 24 [.int .i64 rp, .int .i64 rb, .int .i64 ra, .int .i64 rl] ∧ Below w.heap.size w wr) (fun _ s10 _ => a + n - (intOf s10).toNat)
          case atStart => exact ⟨a, Nat.le_refl _, by omega, rfl, by rw [Cut.seg_start, Nat.sub_self]; exact World.ownsRow_nil _ _ _ _, Hrc3.out, Hrow3.out, Hbw3.out⟩
          case round =>
            obtain ⟨p, hap, hpn, rfl, hown, hrc, hrow, hbw⟩ := hrel
            clear Hrc3 Hrow3 Hbw3
            have Hown := Lib.hid hown
            have Hrc := Lib.hid hrc
            have Hrow := Lib.hid hrow
            have Hbw := Lib.hid hbw
            clear hown hrc hrow hbw
            by_cases hpl : p < a + n
            · have hpi : (p : Int) < (a : Int) + (n : Int) := by omega
              have hpm : (p : Int) < (60 : Int) := by omega
              have hpL : p < L.length := by have := HmL.out; omega
              obtain ⟨b', off', hA, hblt, hcel⟩ := Hrc.out (by intro e; rw [e] at hpL; simp at hpL)
              obtain ⟨rfl, rfl⟩ : b = b' ∧ off = off' := by simpa using hA
              obtain ⟨hra, hxo⟩ := hcel p hpL
              have hseg := Cut.seg_next L a p hpL hap
              obtain ⟨x, hx⟩ : ∃ x, x = L[p] := ⟨_, rfl⟩
              rw [← hx] at hra hxo hseg
              have hxok : RcOk ⟨p, x.kind, x.time, x.body, x.rest⟩ := hxo
              have Hra := Lib.hid hra
              have Hxo := Lib.hid hxo
              have Hxok := Lib.hid hxok
              have Hseg := Lib.hid hseg
              have hzv := rc_zero
              have hL63 : p - a + 1 ≤ maxLen := by unfold maxLen; omega
              have hL48 : ((p - a + 1) + (p - a + 1) / 4 + 192) * 104 ≤ 281474976710656 := by omega
              have hsz0 : 0 < 68 := by decide
              have hsR : w.heap.size < wr.heap.size := Hrow.out.lt
              clear hra hxo hxok hseg hx hcel hA
              go_wp2_with (first
                | (show wpList _ _ _ (⟨_, .load 44 _, _, _, _, _⟩ :: _) _ _; refine wpList_load_rc rfl 44 (.tmp 58) rfl b (off + p * 68) rfl x _ Hra.out Try.underlying44 rfl (by rw [rc_size, rcL_length Hxo.out]) ?_)
                | (show wpList _ _ _ (⟨_, .store 44 _ _, _, _, _, _⟩ :: _) _ _
                   refine wpList_store_rc rfl (.tmp 11) (.tmp 59) rfl wr.heap.size x rfl rfl Hxo.out.1 Hxo.out.2.2 44 _ (heap_alloc_new _ _) rcZero_size ?_
                   intro w4 hx4 hg4
                   obtain ⟨hs4, hfr, hc0, Hx6, Hown6, Hrow6, Hb6, Hrc6, Hc6, Hz6⟩ := says_store (p := (p : Int)) Hown.out Hrow.out Hbw.out Hrc.out hx4 hg4
                   clear hx4 hg4 hzv)
                | (show wpList _ _ _ (⟨_, .load 44 _, _, _, _, _⟩ :: _) _ _; refine wpList_load_rc rfl 44 (.tmp 11) rfl wr.heap.size 0 rfl ⟨p, x.kind, x.time, x.body, x.rest⟩ _ (rc_range Hx6.out) Try.underlying44 rfl (by rw [rc_size, rcL_length Hxok.out]) ?_)
                | (show wpList _ _ _ (⟨_, .buildSlice _ _ _, _, _, _, _⟩ :: _) _ _; refine wpList_buildSliceL rfl 22 44 1 [(0, .tmp 63)] rfl (some 64) rfl _ rfl (rcL ⟨p, x.kind, x.time, x.body, x.rest⟩).toArray i0 (.agg rcZero) 68 Try.underlying22 Hi.out Hz.out Hs.out (by decide) (by decide) (fill_rc _ Hxok.out) ?_)
                | (at_builtin; (refine wpList_append_own_wide _ rfl (.tmp 62) (.tmp 64) 22 rfl (w.heap.size + 1) 44 i0 (.agg rcZero) 68 104 Try.underlying22 Hi.out Hz.out Hs.out Hby.out rcZero_size hsz0 _ _ _ rfl (Hown6.out.alloc _) ⟨(w4.setCell ⟨wr.heap.size, 0, none⟩ (.int .i64 p)).heap.size, 0, none⟩ 1 1 (rcL ⟨p, x.kind, x.time, x.body, x.rest⟩) rfl (rcL_length Hxok.out) Hc6.out (rc_one Hxok.out) hL63 hL48 Hz6.out ?_)
                   intro v' w5 hown5 hgrow5 _
                   have Hown5 := Lib.hid hown5
                   have Hgrow5 := Lib.hid hgrow5
                   clear hown5 hgrow5))
              refine ⟨⟨p + 1, by omega, hpl, by go_num, ?_, rcs_grown (Hrc6.out.kept (grownBy_alloc _ _ none)) Hgrow5.out (by rintro b1 off1 ⟨⟩ e; have := (Hown.out.lt _ e.symm).1; omega), (Hrow6.out.kept (grownBy_alloc _ _ none) (by simp)).kept Hgrow5.out (fun e => by have := (Hown.out.lt _ e.symm).1; omega), below_own (Hb6.out.alloc Hb6.out.size _) Hgrow5.out (fun k hk => by have := (Hown.out.lt k hk).1; omega)⟩, by simp [intOf]; omega⟩
              have h5 := Hown5.out
              rw [show p - a + 1 = p + 1 - a by omega] at h5
              rw [Hseg.out, List.flatMap_append]
              simpa using h5
            · have hpi : (a : Int) + (n : Int) ≤ (p : Int) := by omega
              have epn : p = a + n := by omega
              have hnL : a + n ≤ L.length := by have := HmL.out; omega
              have hMl := Cut.seg_length L a (a + n) hnL
              have hMok := Cut.seg_okM L a n hnL (by omega)
              have hMx := Cut.seg_ok L a (a + n) Hokx.out
              have hown := Hown.out
              rw [epn, show a + n - a = n by omega] at hown
              rw [show a + n - a = n by omega] at hMl
              generalize Cut.seg L a (a + n) = M at *
              obtain ⟨g, cap, hg⟩ : ∃ g cap, u9 = .slice (some ⟨g, 0, none⟩) n cap := by
                obtain ⟨q, rfl⟩ : ∃ q, n = q + 1 := ⟨n - 1, by omega⟩
                exact ownsRow_succ hown
              rw [hg] at hown
              have hrcM := rcs_own hown hMx
              have MK : Hid (Calls Try.prog 15 #[.agg #[.int .i64 sq, .int .i64 a, .int .i64 bf, .int .i64 n], .slice (some ⟨g, 0, none⟩) n cap] wr fun e w' =>
                  ∃ B, e = .returned (.tuple #[.agg #[.int .i64 sq, .int .i64 a, .int .i64 bf, .slice (some ⟨B, 0, none⟩) n n], .int .i64 0]) ∧ wr.heap.size ≤ B ∧ Row w' B 46 (Cut.parts M) ∧ Below wr.heap.size wr w') := by
                have := cutMake_ok (some ⟨g, 0, none⟩) cap M sq a bf n wr hrcM (by omega) hMok
                rw [hMl] at this
                exact this
              have HM0 := Lib.hid hMl
              have HrcM := Lib.hid hrcM
              subst hg
              clear hMl hMok hMx hown hrcM Hown epn
              go_wp2_with fail
              refine MK.out.mono ?_
              rintro _ w6 ⟨B, rfl, hB, hrB, hb6⟩
              have hg6 := grownBy_of_below hb6 none
              have hrc6 := Hrc.out.kept hg6
              have hrcM6 := HrcM.out.kept hg6
              have hrow6 := Hrow.out.kept hg6 (by simp)
              have hbw6 := two_below Hbw.out hb6
              have Hrc6 := Lib.hid hrc6
              have HrcM6 := Lib.hid hrcM6
              have Hrow6 := Lib.hid hrow6
              have HrB6 := Lib.hid hrB
              have Hbw6 := Lib.hid hbw6
              clear hB hrB hb6 hg6 hrc6 hrcM6 hrow6 hbw6 MK HrcM Hrc Hrow Hbw
              go_wp2_with fail
              generalize wr = wq at *
              go_loopw [6, 14] (fun s6 s14 wr => ∃ (i b2 : Nat), i ≤ n ∧ b2 ≤ a + i ∧ s6 = .int .i64 b2 ∧ s14 = .int .i64 i ∧ RcsAt wr (some ⟨b, off, none⟩) L ∧ RcsAt wr (some ⟨g, 0, none⟩) M ∧ Row wr w.heap.size 24 [.int .i64 rp, .int .i64 rb, .int .i64 ra, .int .i64 rl] ∧ Row wr w6.heap.size 36 [.int .i64 sq, .int .i64 a, .int .i64 bf, .slice (some ⟨B, 0, none⟩) n n] ∧ Row wr B 46 (Cut.parts M) ∧ Below w.heap.size w wr) (fun _ s14 _ => n - (intOf s14).toNat)
              case atStart =>
                exact ⟨0, bf, Nat.zero_le _, by omega, rfl, rfl, Hrc6.out.kept (grownBy_alloc _ _ none), HrcM6.out.kept (grownBy_alloc _ _ none), Hrow6.out.kept (grownBy_alloc _ _ none) (by simp), Row.new w6 _ _, HrB6.out.kept (grownBy_alloc _ _ none) (by simp), Hbw6.out.alloc Hbw6.out.size _⟩
              case round =>
                obtain ⟨i, b2, hin, hb2, rfl, rfl, hrc, hrcM, hrow, hrb, hrp, hbw⟩ := hrel
                clear Hrc6 HrcM6 Hrow6 HrB6 Hbw6
                have z3 := hrb.cell 3 (by simp)
                simp only [List.getElem_cons_zero, List.getElem_cons_succ] at z3
                have Hrc := Lib.hid hrc
                have HrcM := Lib.hid hrcM
                have Hrow := Lib.hid hrow
                have Hrb := Lib.hid hrb
                have Hrp := Lib.hid hrp
                have Hbw := Lib.hid hbw
                clear hrc hrcM hrow hrb hrp hbw
                by_cases hil : i < n
                · have hii : (i : Int) < (n : Int) := by omega
                  have hiM : i < M.length := by have := HM0.out; omega
                  obtain ⟨g', off', hA, hglt, hcel⟩ := HrcM.out (by intro e; rw [e] at hiM; simp at hiM)
                  obtain ⟨rfl, rfl⟩ : g = g' ∧ 0 = off' := by simpa using hA
                  obtain ⟨hra, hxo⟩ := hcel i hiM
                  obtain ⟨p1, p2⟩ := parts_row Hrp.out i hiM
                  obtain ⟨x, hx⟩ : ∃ x, x = M[i] := ⟨_, rfl⟩
                  rw [← hx] at hra p1 p2
                  have ck : wr.cell? ⟨g, i * 68 + 1, none⟩ = some (.int .i64 x.kind) := by have := hra 1 _ rfl; rw [show 0 + i * 68 + 1 = i * 68 + 1 by omega] at this; exact this
                  have cb : wr.cell? ⟨g, i * 68 + 3, none⟩ = some (.string x.body) := by have := hra 3 _ rfl; rw [show 0 + i * 68 + 3 = i * 68 + 3 by omega] at this; exact this
                  clear hra hxo hx hcel hA hiM
                  by_cases hk : x.kind = 1
                  · have e1 : (Cut.pair x).1 = false := by simp [Cut.pair, hk]
                    have e2 : (Cut.pair x).2 = x.body := by simp [Cut.pair, hk]
                    rw [e1] at p1
                    rw [e2] at p2
                    have d1 : (x.kind == 1) = true := by rw [hk]; rfl
                    have d3 : (x.body.data.toList != x.body.data.toList) = false := bne_self_eq_false _
                    clear e1 e2 hk
                    go_wp2_with fail
                    go_quiet (fail)
                    go_wp2_with fail
                    refine ⟨⟨i + 1, b2, hil, by omega, rfl, by go_num, Hrc.out.kept (grownBy_drewN _ nq none), HrcM.out.kept (grownBy_drewN _ nq none), Hrow.out.kept (grownBy_drewN _ nq none) (by simp), Hrb.out.kept (grownBy_drewN _ nq none) (by simp), Hrp.out.kept (grownBy_drewN _ nq none) (by simp), below_drewN' Hbw.out _⟩, by simp [intOf]; omega⟩
                  · have e1 : (Cut.pair x).1 = true := by simp [Cut.pair, hk]
                    rw [e1] at p1
                    have d1 : (x.kind == 1) = false := by simpa using hk
                    clear e1 hk p2
                    go_wp2_with fail
                    go_quiet (fail)
                    go_wp2_with fail
                    refine ⟨⟨i + 1, b2 + 1, hil, by omega, by go_num, by go_num, Hrc.out.kept (grownBy_drewN _ nq none), HrcM.out.kept (grownBy_drewN _ nq none), Hrow.out.kept (grownBy_drewN _ nq none) (by simp), Hrb.out.kept (grownBy_drewN _ nq none) (by simp), Hrp.out.kept (grownBy_drewN _ nq none) (by simp), below_drewN' Hbw.out _⟩, by simp [intOf]; omega⟩
                · have hii : (n : Int) ≤ (i : Int) := by omega
                  go_wp2_with fail
                  refine ⟨⟨a + n, b2, sq + 1, (by first | rfl | simp | go_num), rfl, by go_num, by omega, by omega, by omega, Hrc.out, Hrow.out, Hbw.out⟩, by simp [intOf]; omega⟩
        · have hai : (60 : Int) ≤ (a : Int) := by omega
          go_wp2_with fail
          go_ret
          exact ⟨rfl, Hbw.out⟩
    · have hce := HEn.out hok
      have HCE := Lib.hid hce
      clear hce
      go_enter Try.func7, Try.ntmps7
      go_wp2_with fail
      refine (awake_any _).mono ?_
      rintro _ w1 ⟨rfl, hb1⟩
      have hr1 : Row w1 w.heap.size 24 [.int .i64 rp, .int .i64 rb, .int .i64 ra, .int .i64 rl] := (Row.new w _ _).kept (grownBy_of_below hb1 none) (by simp)
      have hl1 : RcsAt w1 A (l.take 60) := (HLt.out.kept (grownBy_alloc _ _ none)).kept (grownBy_of_below hb1 none)
      have hb1' : Below w.heap.size w w1 := ((Below.refl w.heap.size w).alloc (Nat.le_refl _) _).grown (grownBy_of_below hb1 none) (by simp) (fun k hk => by cases hk)
      have q0 := hr1.cell 0 (by simp)
      have q1 := hr1.cell 1 (by simp)
      have q2 := hr1.cell 2 (by simp)
      have q3 := hr1.cell 3 (by simp)
      simp only [List.getElem_cons_zero, List.getElem_cons_succ] at q0 q1 q2 q3
      have Hr1 := Lib.hid hr1
      have HL1 := Lib.hid hl1
      have Hb1 := Lib.hid hb1'
      clear hr1 hl1 hb1 hb1'
      go_wp2_with fail
      refine (CH.out _ _ HCE.out).mono ?_
      rintro _ w2 ⟨rfl, hb2⟩
      have hb2' := two_below Hb1.out hb2
      have hr2 := Hr1.out.kept (grownBy_of_below hb2 none) (by simp)
      have hl2 := HL1.out.kept (grownBy_of_below hb2 none)
      have Hr2 := Lib.hid hr2
      have HL2 := Lib.hid hl2
      have Hb2 := Lib.hid hb2'
      clear hr2 hl2 hb2 hb2' q0 q1 q2 q3
      go_wp2_with fail
      refine (awake_any _).mono ?_
      rintro _ w3 ⟨rfl, hb3⟩
      have Hb3 := Lib.hid (two_below Hb2.out hb3)
      clear hb3
      go_wp2_with fail
      go_ret
      exact ⟨rfl, Hb3.out⟩
  · obtain ⟨m0, hm0⟩ : ∃ m0, m0 = l.length := ⟨_, rfl⟩
    rw [← hm0] at h60 hlc hlen ⊢
    have h60' : (m0 : Int) ≤ 60 := by omega
    have HM := Lib.hid hm0
    clear hm0
    by_cases hok : Cut.okR ⟨rp, rb, ra, rl⟩ = true
    · have hce := HEy.out hok
      have HCE := Lib.hid hce
      clear hce
      go_enter Try.func7, Try.ntmps7
      go_wp2_with fail
      refine (awake_any _).mono ?_
      rintro _ w1 ⟨rfl, hb1⟩
      have hr1 : Row w1 w.heap.size 24 [.int .i64 rp, .int .i64 rb, .int .i64 ra, .int .i64 rl] := (Row.new w _ _).kept (grownBy_of_below hb1 none) (by simp)
      have hl1 : RcsAt w1 A l := (HL.out.kept (grownBy_alloc _ _ none)).kept (grownBy_of_below hb1 none)
      have hb1' : Below w.heap.size w w1 := ((Below.refl w.heap.size w).alloc (Nat.le_refl _) _).grown (grownBy_of_below hb1 none) (by simp) (fun k hk => by cases hk)
      have q0 := hr1.cell 0 (by simp)
      have q1 := hr1.cell 1 (by simp)
      have q2 := hr1.cell 2 (by simp)
      have q3 := hr1.cell 3 (by simp)
      simp only [List.getElem_cons_zero, List.getElem_cons_succ] at q0 q1 q2 q3
      have Hr1 := Lib.hid hr1
      have HL1 := Lib.hid hl1
      have Hb1 := Lib.hid hb1'
      clear hr1 hl1 hb1 hb1'
      go_wp2_with fail
      refine (CH.out _ _ HCE.out).mono ?_
      rintro _ w2 ⟨rfl, hb2⟩
      have hb2' := two_below Hb1.out hb2
      have hr2 := Hr1.out.kept (grownBy_of_below hb2 none) (by simp)
      have hl2 := HL1.out.kept (grownBy_of_below hb2 none)
      have Hr2 := Lib.hid hr2
      have HL2 := Lib.hid hl2
      have Hb2 := Lib.hid hb2'
      clear hr2 hl2 hb2 hb2' q0 q1 q2 q3
      obtain ⟨L, hEqL⟩ : ∃ L, L = l := ⟨_, rfl⟩
      have HL2' : Hid (RcsAt w2 A L) := by rw [hEqL]; exact HL2
      have HmL : Hid (m0 = L.length) := by rw [hEqL]; exact Lib.hid HM.out
      have Hokx : Hid (∀ x ∈ L, RcOk x) := HL2'.out.ok
      clear HL1 HL2 Hr1 Hb1
      clear hEqL
      go_wp2_with fail
      go_loopw [5, 6, 7] (fun s5 s6 s7 wr => ∃ (a bf sq : Nat), s5 = .int .i64 a ∧ s6 = .int .i64 bf ∧ s7 = .int .i64 sq ∧ a ≤ m0 ∧ bf ≤ a ∧ sq ≤ a ∧ RcsAt wr A L ∧ Row wr w.heap.size 24 [.int .i64 rp, .int .i64 rb, .int .i64 ra, .int .i64 rl] ∧ Below w.heap.size w wr) (fun s5 _ _ _ => m0 - (intOf s5).toNat)
      case atStart => exact ⟨0, 0, 0, rfl, rfl, rfl, Nat.zero_le _, Nat.le_refl _, Nat.le_refl _, HL2'.out, Hr2.out, Hb2.out⟩
      case round =>
        obtain ⟨a, bf, sq, rfl, rfl, rfl, ham, hbf, hsq, hrc, hrow, hbw⟩ := hrel
        clear HL2' Hr2 Hb2
        have q0 := hrow.cell 0 (by simp)
        have q1 := hrow.cell 1 (by simp)
        have q2 := hrow.cell 2 (by simp)
        have q3 := hrow.cell 3 (by simp)
        simp only [List.getElem_cons_zero, List.getElem_cons_succ] at q0 q1 q2 q3
        have Hrc := Lib.hid hrc
        have Hrow := Lib.hid hrow
        have Hbw := Lib.hid hbw
        clear hrc hrow hbw
        by_cases hlt : a < m0
        · have hai : (a : Int) < (m0 : Int) := by omega
          have hac : (a : Int) < (c : Int) := by omega
          have hac1 : ¬ c = a := by omega
          have hac2 : ¬ (c : Int) = (a : Int) := by omega
          have hac3 : (a : Int) ≤ (m0 : Int) := by omega
          have hac4 : (m0 : Int) ≤ (c : Int) := by omega
          have haL : a < L.length := by have := HmL.out; omega
          obtain ⟨b, off, rfl, hblt, hcel⟩ := Hrc.out (by intro e; rw [e] at haL; simp at haL)
          have hb00 : b < w.heap.size := by
            obtain ⟨b', off', e, h, _⟩ := HL.out (by intro e; have h0 := HM.out; rw [e] at h0; simp at h0 <;> omega)
            simp at e; omega
          clear hcel hblt
          obtain ⟨n, hn⟩ : ∃ n, n = Cut.fits ⟨rp, rb, ra, rl⟩ (lens (L.drop a)) := ⟨_, rfl⟩
          have hne : L.drop a ≠ [] := by intro e; have := congrArg List.length e; simp at this; omega
          have hn1 : 1 ≤ n := by rw [hn]; exact Hpos.out _ hok hne
          have hnm : a + n ≤ m0 := by
            have h1 := Cut.fits_le ⟨rp, rb, ra, rl⟩ (lens (L.drop a))
            rw [← hn] at h1
            simp only [lens, List.length_map, List.length_drop] at h1
            have h2 := HmL.out
            omega
          have D : Hid (∀ W, RcsAt W (some ⟨b, off, none⟩) L → Calls Try.prog 11 #[.slice (some ⟨b, off + a * 68, none⟩) (m0 - a) (c - a), .agg #[.int .i64 rp, .int .i64 rb, .int .i64 ra, .int .i64 rl]] W fun e w' => e = .returned (.int .i64 (n : Int)) ∧ Below W.heap.size W w') := fun W hW => by
            have := FI.out W (some ⟨b, off + a * 68, none⟩) (c - a) (L.drop a) (m0 - a) (hW.drop a) (by have := HmL.out; rw [List.length_drop]; omega) (by omega)
            rw [← hn] at this
            exact this
          have hS0 : RcsAt wr.drew (some ⟨b, off, none⟩) L ∧ Below w.heap.size w wr.drew ∧ wr.drew.cell? ⟨w.heap.size, 0, none⟩ = some (.int .i64 rp) ∧ wr.drew.cell? ⟨w.heap.size, 1, none⟩ = some (.int .i64 rb) ∧ wr.drew.cell? ⟨w.heap.size, 2, none⟩ = some (.int .i64 ra) ∧ wr.drew.cell? ⟨w.heap.size, 3, none⟩ = some (.int .i64 rl) :=
            ⟨Hrc.out.kept (grownBy_drew _ none), Hbw.out.drew, q0, q1, q2, q3⟩
          have hrowd := Hrow.out.kept (grownBy_drew wr none) (by simp)
          have Hrowd := Lib.hid hrowd
          have HS0 := Lib.hid hS0
          clear hn hne q0 q1 q2 q3 hS0 hrowd
          go_wp2_with fail
          have hS0 := HS0.out
          go_region_held3 (fun W => RcsAt W (some ⟨b, off, none⟩) L ∧ Below w.heap.size w W ∧ W.cell? ⟨w.heap.size, 0, none⟩ = some (.int .i64 rp) ∧ W.cell? ⟨w.heap.size, 1, none⟩ = some (.int .i64 rb) ∧ W.cell? ⟨w.heap.size, 2, none⟩ = some (.int .i64 ra) ∧ W.cell? ⟨w.heap.size, 3, none⟩ = some (.int .i64 rl))
            (first | assumption | exact hS0 | (exact rules_step (by assumption) (by assumption)))
            (first
              | (go_at_call 11; with_reducible refine Calls.mono (D.out _ (And.left (by assumption))) ?_; rintro e w' ⟨rfl, hb⟩))
          rename_i hHeld
          clear hHeld
          have hrc3 := Hrc.out.kept (grownBy_drew wr none) |>.kept (grownBy_of_below hb none)
          have hrow3 := Hrowd.out.kept (grownBy_of_below hb none) (by simp)
          have hbw3 := Hbw.out.drew.grown (grownBy_of_below hb none) Hbw.out.drew.size (fun k hk => by cases hk)
          have Hrc3 := Lib.hid hrc3
          have Hrow3 := Lib.hid hrow3
          have Hbw3 := Lib.hid hbw3
          clear hrc3 hrow3 hbw3 hb Hrc Hrow Hbw Hrowd HS0 hS0 D
          have hn1' : (1 : Int) ≤ (n : Int) := by omega
          have hnm' : (n : Int) ≤ (m0 : Int) - (a : Int) := by omega
          have hnm2 : (a : Int) + (n : Int) ≤ 60 := by omega
          generalize w' = wo at *
          go_wp2_with fail
          go_loopw [9, 10] (fun s9 s10 wr => ∃ (p : Nat), a ≤ p ∧ p ≤ a + n ∧ s10 = .int .i64 p ∧ wr.ownsRow (w.heap.size + 1) 44 68 s9 (p - a) ((Cut.seg L a p).flatMap rcL) ∧ RcsAt wr (some ⟨b, off, none⟩) L ∧ Row wr w.heap.size 24 [.int .i64 rp, .int .i64 rb, .int .i64 ra, .int .i64 rl] ∧ Below w.heap.size w wr) (fun _ s10 _ => a + n - (intOf s10).toNat)
          case atStart => exact ⟨a, Nat.le_refl _, by omega, rfl, by rw [Cut.seg_start, Nat.sub_self]; exact World.ownsRow_nil _ _ _ _, Hrc3.out, Hrow3.out, Hbw3.out⟩
          case round =>
            obtain ⟨p, hap, hpn, rfl, hown, hrc, hrow, hbw⟩ := hrel
            clear Hrc3 Hrow3 Hbw3
            have Hown := Lib.hid hown
            have Hrc := Lib.hid hrc
            have Hrow := Lib.hid hrow
            have Hbw := Lib.hid hbw
            clear hown hrc hrow hbw
            by_cases hpl : p < a + n
            · have hpi : (p : Int) < (a : Int) + (n : Int) := by omega
              have hpm : (p : Int) < (m0 : Int) := by omega
              have hpL : p < L.length := by have := HmL.out; omega
              obtain ⟨b', off', hA, hblt, hcel⟩ := Hrc.out (by intro e; rw [e] at hpL; simp at hpL)
              obtain ⟨rfl, rfl⟩ : b = b' ∧ off = off' := by simpa using hA
              obtain ⟨hra, hxo⟩ := hcel p hpL
              have hseg := Cut.seg_next L a p hpL hap
              obtain ⟨x, hx⟩ : ∃ x, x = L[p] := ⟨_, rfl⟩
              rw [← hx] at hra hxo hseg
              have hxok : RcOk ⟨p, x.kind, x.time, x.body, x.rest⟩ := hxo
              have Hra := Lib.hid hra
              have Hxo := Lib.hid hxo
              have Hxok := Lib.hid hxok
              have Hseg := Lib.hid hseg
              have hzv := rc_zero
              have hL63 : p - a + 1 ≤ maxLen := by unfold maxLen; omega
              have hL48 : ((p - a + 1) + (p - a + 1) / 4 + 192) * 104 ≤ 281474976710656 := by omega
              have hsz0 : 0 < 68 := by decide
              have hsR : w.heap.size < wr.heap.size := Hrow.out.lt
              clear hra hxo hxok hseg hx hcel hA
              go_wp2_with (first
                | (show wpList _ _ _ (⟨_, .load 44 _, _, _, _, _⟩ :: _) _ _; refine wpList_load_rc rfl 44 (.tmp 58) rfl b (off + p * 68) rfl x _ Hra.out Try.underlying44 rfl (by rw [rc_size, rcL_length Hxo.out]) ?_)
                | (show wpList _ _ _ (⟨_, .store 44 _ _, _, _, _, _⟩ :: _) _ _
                   refine wpList_store_rc rfl (.tmp 11) (.tmp 59) rfl wr.heap.size x rfl rfl Hxo.out.1 Hxo.out.2.2 44 _ (heap_alloc_new _ _) rcZero_size ?_
                   intro w4 hx4 hg4
                   obtain ⟨hs4, hfr, hc0, Hx6, Hown6, Hrow6, Hb6, Hrc6, Hc6, Hz6⟩ := says_store (p := (p : Int)) Hown.out Hrow.out Hbw.out Hrc.out hx4 hg4
                   clear hx4 hg4 hzv)
                | (show wpList _ _ _ (⟨_, .load 44 _, _, _, _, _⟩ :: _) _ _; refine wpList_load_rc rfl 44 (.tmp 11) rfl wr.heap.size 0 rfl ⟨p, x.kind, x.time, x.body, x.rest⟩ _ (rc_range Hx6.out) Try.underlying44 rfl (by rw [rc_size, rcL_length Hxok.out]) ?_)
                | (show wpList _ _ _ (⟨_, .buildSlice _ _ _, _, _, _, _⟩ :: _) _ _; refine wpList_buildSliceL rfl 22 44 1 [(0, .tmp 63)] rfl (some 64) rfl _ rfl (rcL ⟨p, x.kind, x.time, x.body, x.rest⟩).toArray i0 (.agg rcZero) 68 Try.underlying22 Hi.out Hz.out Hs.out (by decide) (by decide) (fill_rc _ Hxok.out) ?_)
                | (at_builtin; (refine wpList_append_own_wide _ rfl (.tmp 62) (.tmp 64) 22 rfl (w.heap.size + 1) 44 i0 (.agg rcZero) 68 104 Try.underlying22 Hi.out Hz.out Hs.out Hby.out rcZero_size hsz0 _ _ _ rfl (Hown6.out.alloc _) ⟨(w4.setCell ⟨wr.heap.size, 0, none⟩ (.int .i64 p)).heap.size, 0, none⟩ 1 1 (rcL ⟨p, x.kind, x.time, x.body, x.rest⟩) rfl (rcL_length Hxok.out) Hc6.out (rc_one Hxok.out) hL63 hL48 Hz6.out ?_)
                   intro v' w5 hown5 hgrow5 _
                   have Hown5 := Lib.hid hown5
                   have Hgrow5 := Lib.hid hgrow5
                   clear hown5 hgrow5))
              refine ⟨⟨p + 1, by omega, hpl, by go_num, ?_, rcs_grown (Hrc6.out.kept (grownBy_alloc _ _ none)) Hgrow5.out (by rintro b1 off1 ⟨⟩ e; have := (Hown.out.lt _ e.symm).1; omega), (Hrow6.out.kept (grownBy_alloc _ _ none) (by simp)).kept Hgrow5.out (fun e => by have := (Hown.out.lt _ e.symm).1; omega), below_own (Hb6.out.alloc Hb6.out.size _) Hgrow5.out (fun k hk => by have := (Hown.out.lt k hk).1; omega)⟩, by simp [intOf]; omega⟩
              have h5 := Hown5.out
              rw [show p - a + 1 = p + 1 - a by omega] at h5
              rw [Hseg.out, List.flatMap_append]
              simpa using h5
            · have hpi : (a : Int) + (n : Int) ≤ (p : Int) := by omega
              have epn : p = a + n := by omega
              have hnL : a + n ≤ L.length := by have := HmL.out; omega
              have hMl := Cut.seg_length L a (a + n) hnL
              have hMok := Cut.seg_okM L a n hnL (by omega)
              have hMx := Cut.seg_ok L a (a + n) Hokx.out
              have hown := Hown.out
              rw [epn, show a + n - a = n by omega] at hown
              rw [show a + n - a = n by omega] at hMl
              generalize Cut.seg L a (a + n) = M at *
              obtain ⟨g, cap, hg⟩ : ∃ g cap, u9 = .slice (some ⟨g, 0, none⟩) n cap := by
                obtain ⟨q, rfl⟩ : ∃ q, n = q + 1 := ⟨n - 1, by omega⟩
                exact ownsRow_succ hown
              rw [hg] at hown
              have hrcM := rcs_own hown hMx
              have MK : Hid (Calls Try.prog 15 #[.agg #[.int .i64 sq, .int .i64 a, .int .i64 bf, .int .i64 n], .slice (some ⟨g, 0, none⟩) n cap] wr fun e w' =>
                  ∃ B, e = .returned (.tuple #[.agg #[.int .i64 sq, .int .i64 a, .int .i64 bf, .slice (some ⟨B, 0, none⟩) n n], .int .i64 0]) ∧ wr.heap.size ≤ B ∧ Row w' B 46 (Cut.parts M) ∧ Below wr.heap.size wr w') := by
                have := cutMake_ok (some ⟨g, 0, none⟩) cap M sq a bf n wr hrcM (by omega) hMok
                rw [hMl] at this
                exact this
              have HM0 := Lib.hid hMl
              have HrcM := Lib.hid hrcM
              subst hg
              clear hMl hMok hMx hown hrcM Hown epn
              go_wp2_with fail
              refine MK.out.mono ?_
              rintro _ w6 ⟨B, rfl, hB, hrB, hb6⟩
              have hg6 := grownBy_of_below hb6 none
              have hrc6 := Hrc.out.kept hg6
              have hrcM6 := HrcM.out.kept hg6
              have hrow6 := Hrow.out.kept hg6 (by simp)
              have hbw6 := two_below Hbw.out hb6
              have Hrc6 := Lib.hid hrc6
              have HrcM6 := Lib.hid hrcM6
              have Hrow6 := Lib.hid hrow6
              have HrB6 := Lib.hid hrB
              have Hbw6 := Lib.hid hbw6
              clear hB hrB hb6 hg6 hrc6 hrcM6 hrow6 hbw6 MK HrcM Hrc Hrow Hbw
              go_wp2_with fail
              generalize wr = wq at *
              go_loopw [6, 14] (fun s6 s14 wr => ∃ (i b2 : Nat), i ≤ n ∧ b2 ≤ a + i ∧ s6 = .int .i64 b2 ∧ s14 = .int .i64 i ∧ RcsAt wr (some ⟨b, off, none⟩) L ∧ RcsAt wr (some ⟨g, 0, none⟩) M ∧ Row wr w.heap.size 24 [.int .i64 rp, .int .i64 rb, .int .i64 ra, .int .i64 rl] ∧ Row wr w6.heap.size 36 [.int .i64 sq, .int .i64 a, .int .i64 bf, .slice (some ⟨B, 0, none⟩) n n] ∧ Row wr B 46 (Cut.parts M) ∧ Below w.heap.size w wr) (fun _ s14 _ => n - (intOf s14).toNat)
              case atStart =>
                exact ⟨0, bf, Nat.zero_le _, by omega, rfl, rfl, Hrc6.out.kept (grownBy_alloc _ _ none), HrcM6.out.kept (grownBy_alloc _ _ none), Hrow6.out.kept (grownBy_alloc _ _ none) (by simp), Row.new w6 _ _, HrB6.out.kept (grownBy_alloc _ _ none) (by simp), Hbw6.out.alloc Hbw6.out.size _⟩
              case round =>
                obtain ⟨i, b2, hin, hb2, rfl, rfl, hrc, hrcM, hrow, hrb, hrp, hbw⟩ := hrel
                clear Hrc6 HrcM6 Hrow6 HrB6 Hbw6
                have z3 := hrb.cell 3 (by simp)
                simp only [List.getElem_cons_zero, List.getElem_cons_succ] at z3
                have Hrc := Lib.hid hrc
                have HrcM := Lib.hid hrcM
                have Hrow := Lib.hid hrow
                have Hrb := Lib.hid hrb
                have Hrp := Lib.hid hrp
                have Hbw := Lib.hid hbw
                clear hrc hrcM hrow hrb hrp hbw
                by_cases hil : i < n
                · have hii : (i : Int) < (n : Int) := by omega
                  have hiM : i < M.length := by have := HM0.out; omega
                  obtain ⟨g', off', hA, hglt, hcel⟩ := HrcM.out (by intro e; rw [e] at hiM; simp at hiM)
                  obtain ⟨rfl, rfl⟩ : g = g' ∧ 0 = off' := by simpa using hA
                  obtain ⟨hra, hxo⟩ := hcel i hiM
                  obtain ⟨p1, p2⟩ := parts_row Hrp.out i hiM
                  obtain ⟨x, hx⟩ : ∃ x, x = M[i] := ⟨_, rfl⟩
                  rw [← hx] at hra p1 p2
                  have ck : wr.cell? ⟨g, i * 68 + 1, none⟩ = some (.int .i64 x.kind) := by have := hra 1 _ rfl; rw [show 0 + i * 68 + 1 = i * 68 + 1 by omega] at this; exact this
                  have cb : wr.cell? ⟨g, i * 68 + 3, none⟩ = some (.string x.body) := by have := hra 3 _ rfl; rw [show 0 + i * 68 + 3 = i * 68 + 3 by omega] at this; exact this
                  clear hra hxo hx hcel hA hiM
                  by_cases hk : x.kind = 1
                  · have e1 : (Cut.pair x).1 = false := by simp [Cut.pair, hk]
                    have e2 : (Cut.pair x).2 = x.body := by simp [Cut.pair, hk]
                    rw [e1] at p1
                    rw [e2] at p2
                    have d1 : (x.kind == 1) = true := by rw [hk]; rfl
                    have d3 : (x.body.data.toList != x.body.data.toList) = false := bne_self_eq_false _
                    clear e1 e2 hk
                    go_wp2_with fail
                    go_quiet (fail)
                    go_wp2_with fail
                    refine ⟨⟨i + 1, b2, hil, by omega, rfl, by go_num, Hrc.out.kept (grownBy_drewN _ nq none), HrcM.out.kept (grownBy_drewN _ nq none), Hrow.out.kept (grownBy_drewN _ nq none) (by simp), Hrb.out.kept (grownBy_drewN _ nq none) (by simp), Hrp.out.kept (grownBy_drewN _ nq none) (by simp), below_drewN' Hbw.out _⟩, by simp [intOf]; omega⟩
                  · have e1 : (Cut.pair x).1 = true := by simp [Cut.pair, hk]
                    rw [e1] at p1
                    have d1 : (x.kind == 1) = false := by simpa using hk
                    clear e1 hk p2
                    go_wp2_with fail
                    go_quiet (fail)
                    go_wp2_with fail
                    refine ⟨⟨i + 1, b2 + 1, hil, by omega, by go_num, by go_num, Hrc.out.kept (grownBy_drewN _ nq none), HrcM.out.kept (grownBy_drewN _ nq none), Hrow.out.kept (grownBy_drewN _ nq none) (by simp), Hrb.out.kept (grownBy_drewN _ nq none) (by simp), Hrp.out.kept (grownBy_drewN _ nq none) (by simp), below_drewN' Hbw.out _⟩, by simp [intOf]; omega⟩
                · have hii : (n : Int) ≤ (i : Int) := by omega
                  go_wp2_with fail
                  refine ⟨⟨a + n, b2, sq + 1, (by first | rfl | simp | go_num), rfl, by go_num, by omega, by omega, by omega, Hrc.out, Hrow.out, Hbw.out⟩, by simp [intOf]; omega⟩
        · have hai : (m0 : Int) ≤ (a : Int) := by omega
          go_wp2_with fail
          go_ret
          exact ⟨rfl, Hbw.out⟩
    · have hce := HEn.out hok
      have HCE := Lib.hid hce
      clear hce
      go_enter Try.func7, Try.ntmps7
      go_wp2_with fail
      refine (awake_any _).mono ?_
      rintro _ w1 ⟨rfl, hb1⟩
      have hr1 : Row w1 w.heap.size 24 [.int .i64 rp, .int .i64 rb, .int .i64 ra, .int .i64 rl] := (Row.new w _ _).kept (grownBy_of_below hb1 none) (by simp)
      have hl1 : RcsAt w1 A l := (HL.out.kept (grownBy_alloc _ _ none)).kept (grownBy_of_below hb1 none)
      have hb1' : Below w.heap.size w w1 := ((Below.refl w.heap.size w).alloc (Nat.le_refl _) _).grown (grownBy_of_below hb1 none) (by simp) (fun k hk => by cases hk)
      have q0 := hr1.cell 0 (by simp)
      have q1 := hr1.cell 1 (by simp)
      have q2 := hr1.cell 2 (by simp)
      have q3 := hr1.cell 3 (by simp)
      simp only [List.getElem_cons_zero, List.getElem_cons_succ] at q0 q1 q2 q3
      have Hr1 := Lib.hid hr1
      have HL1 := Lib.hid hl1
      have Hb1 := Lib.hid hb1'
      clear hr1 hl1 hb1 hb1'
      go_wp2_with fail
      refine (CH.out _ _ HCE.out).mono ?_
      rintro _ w2 ⟨rfl, hb2⟩
      have hb2' := two_below Hb1.out hb2
      have hr2 := Hr1.out.kept (grownBy_of_below hb2 none) (by simp)
      have hl2 := HL1.out.kept (grownBy_of_below hb2 none)
      have Hr2 := Lib.hid hr2
      have HL2 := Lib.hid hl2
      have Hb2 := Lib.hid hb2'
      clear hr2 hl2 hb2 hb2' q0 q1 q2 q3
      go_wp2_with fail
      refine (awake_any _).mono ?_
      rintro _ w3 ⟨rfl, hb3⟩
      have Hb3 := Lib.hid (two_below Hb2.out hb3)
      clear hb3
      go_wp2_with fail
      go_ret
      exact ⟨rfl, Hb3.out⟩
end Go.Proofs.Ytncahgjmdeepeaa
