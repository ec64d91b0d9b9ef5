/- cut: Fits. -/
import Derived.Test.YtncahgjmdeepeaaCutFit
namespace Go.Proofs.Ytncahgjmdeepeaa
open Go.RowKit
set_option linter.unusedVariables false
set_option linter.unusedSimpArgs false

/-- receipts at A -/
def RcsAt (w : World) (A : Option Addr) (l : List Rc) : Prop :=
  l ≠ [] → ∃ b off, A = some ⟨b, off, none⟩ ∧ b < w.heap.size ∧ ∀ i (h : i < l.length), w.rangeAt b (off + i * 68) (rcL l[i]) ∧ l[i].rest.length = 64 ∧ l[i].body.size ≤ 140737488351232 ∧ ∀ v ∈ l[i].rest, v.oneCell' = true
theorem RcsAt.below {w w' : World} {A : Option Addr} {l : List Rc} (h : RcsAt w A l) (hb : Below w.heap.size w w') : RcsAt w' A l := by
  intro hne
  obtain ⟨b, off, rfl, hlt, hc⟩ := h hne
  refine ⟨b, off, rfl, Nat.lt_of_lt_of_le hlt hb.size, fun i hi => ⟨fun j v hv => ?_, (hc i hi).2⟩⟩
  exact (hb.cell (p := ⟨b, _, none⟩) hlt).trans ((hc i hi).1 j v hv)
def lens (l : List Rc) : List Nat := l.map fun x => x.body.size
theorem wpList_load_mid_wanted {P : Program} {ops : Array Oper} {rest : List Oper} {op : Oper} {a : Act} {w : World} {Q : Exit → Act → World → Prop} (hw : Region.wanted op (yielded ops a.tmps) = true) (ty : TypeId) (x : Operand) (ho : op.op = .load ty x)
    (b o : Nat) (hx : a.eval x = .pointer (some ⟨b, o, none⟩)) (cs : List Value) (d : TypeDesc) (hc : w.rangeAt b o cs)
    (hu : P.underlying ty = some d) (hd : d.isRow = true) (hi : (P.info? ty).map (·.size) = some cs.length)
    (h : wpList P ops Q rest (a.put op.dst (.agg cs.toArray)) w) : wpList P ops Q (op :: rest) a w :=
  wpList_step fun K hK => by rw [if_pos hw]; exact wp_load_mid ty x ho b o hx cs d hc hu hd hi (hK _ _ h)
theorem wpList_load_rc {P : Program} {ops : Array Oper} {rest : List Oper} {op : Oper} {a : Act} {w : World} {Q : Exit → Act → World → Prop} (hw : Region.wanted op (yielded ops a.tmps) = true) (ty : TypeId) (x : Operand) (ho : op.op = .load ty x)
    (b o : Nat) (hx : a.eval x = .pointer (some ⟨b, o, none⟩)) (y : Rc) (d : TypeDesc) (hc : w.rangeAt b o (rcL y))
    (hu : P.underlying ty = some d) (hd : d.isRow = true) (hi : (P.info? ty).map (·.size) = some (rcL y).length)
    (h : wpList P ops Q rest (a.put op.dst (.agg (rcA y))) w) : wpList P ops Q (op :: rest) a w :=
  wpList_load_mid_wanted hw ty x ho b o hx (rcL y) d hc hu hd hi h
theorem rc_size : (Try.prog.info? 44).map (·.size) = some 68 := by kernel_rfl

set_option maxRecDepth 20000 in
set_option maxHeartbeats 800000 in
theorem cutFits_any (A : Option Addr) (c : Nat) (l : List Rc) (r : Cut.Rules) (w : World) (hl : RcsAt w A l) (hlen : l.length ≤ 9223372036854775807) :
    Calls Try.prog 11 #[.slice A l.length c, r.v] w fun e w' => e = .returned (.int .i64 (Cut.fits r (lens l))) ∧ Below w.heap.size w w' := by
  have HL := Lib.hid hl
  clear hl
  obtain ⟨rp, rb, ra, rl⟩ := r
  by_cases hok : Cut.okR ⟨rp, rb, ra, rl⟩ = true
  · have hE : checkE ⟨rp, rb, ra, rl⟩ = 0 := if_pos hok
    have hst := Cut.Upto.start (l := lens l) hok
    have hok' := Cut.okR_iff.1 hok
    simp only at hok'
    have HE := Lib.hid hE
    have Hst := Lib.hid hst
    have hck := check_any ⟨rp, rb, ra, rl⟩
    have hfi := fitting_any ⟨rp, rb, ra, rl⟩
    unfold Cut.Rules.v at *
    simp only at hck hfi
    have Hck := Lib.hid hck
    have Hfi := Lib.hid hfi
    clear hE hst hok hck hfi
    go_enter Try.func11, Try.ntmps11
    go_wp2_with fail
    refine (Hck.out _).mono ?_
    rintro _ w1 ⟨rfl, hg1⟩
    rw [HE.out]
    have hrow1 : Row w1 w.heap.size 24 [.int .i64 rp, .int .i64 rb, .int .i64 ra, .int .i64 rl] := (Row.new w _ _).kept hg1 (by simp)
    have hb1 : Below w.heap.size w w1 := ((Below.refl w.heap.size w).alloc (Nat.le_refl _) _).grown hg1 (by simp) (fun k hk => by cases hk)
    have q0 : w1.cell? ⟨w.heap.size, 0, none⟩ = some (.int .i64 rp) := hrow1.cell 0 (by simp)
    have q1 : w1.cell? ⟨w.heap.size, 1, none⟩ = some (.int .i64 rb) := hrow1.cell 1 (by simp)
    have q2 : w1.cell? ⟨w.heap.size, 2, none⟩ = some (.int .i64 ra) := hrow1.cell 2 (by simp)
    have q3 : w1.cell? ⟨w.heap.size, 3, none⟩ = some (.int .i64 rl) := hrow1.cell 3 (by simp)
    have Hb1 := Lib.hid hb1
    clear hg1 hrow1 hb1
    go_wp2_with fail
    refine (Hfi.out _).mono ?_
    rintro _ w2 ⟨bp, br, bl, rfl, hF, hbp, hbl, hg2⟩
    have hb2 : Below w.heap.size w w2 := Hb1.out.grown hg2 Hb1.out.size (fun k hk => by cases hk)
    have hs1 := Hb1.out.size
    have HF := Lib.hid hF
    have Hb2 := Lib.hid hb2
    clear hF hg2 hb2 q0 q1 q2 q3
    go_wp2_with fail
    go_loopw [6] (fun i wr => ∃ (k : Nat) (left : Int), i = .int .i64 k ∧ Cut.Upto ⟨rp, rb, ra, rl⟩ (lens l) k left ∧ Fitting wr bp br bl ⟨rp, rb, ra, rl⟩ k left ∧ Below w.heap.size w wr) (fun i _ => l.length - (intOf i).toNat)
    case atStart => exact ⟨0, rb, rfl, Hst.out, HF.out, Hb2.out⟩
    case round =>
      obtain ⟨k, left, rfl, hup, hFr, hbr⟩ := hrel
      have hk : k ≤ l.length := by have := hup.1; simpa [lens] using this
      have hup0 := hup.2.1
      have hup1 := hup.2.2.1
      have hup2 := hup.2.2.2.1
      simp only at hup1 hup2
      have Hup := Lib.hid hup
      have HFr := Lib.hid hFr
      have Hbr := Lib.hid hbr
      clear hup hFr hbr
      by_cases hlt : k < l.length
      · have hki : (k : Int) < (l.length : Int) := by omega
        have hne : l ≠ [] := by intro e; rw [e] at hlt; simp at hlt
        obtain ⟨b, off, rfl, hblt, hc⟩ := (HL.out) hne
        obtain ⟨hra, hrest, hbody, hone⟩ := hc k hlt
        have hx : (lens l)[k]? = some l[k].body.size := by simp [lens, hlt]
        obtain ⟨x, hxe⟩ : ∃ x, x = l[k] := ⟨_, rfl⟩
        rw [← hxe] at hra hrest hbody hx
        have hrr : wr.rangeAt b (off + k * 68) (rcL x) := fun j v hv => (Hbr.out.cell (p := ⟨b, _, none⟩) hblt).trans (hra j v hv)
        have hlen68 : (Try.prog.info? 44).map (·.size) = some (rcL x).length := by rw [rc_size]; simp [rcL, hrest]
        have Hrr := Lib.hid hrr
        have Hx := Lib.hid hx
        have H68 := Lib.hid hlen68
        clear hc hra hrest hx hxe hrr hlen68 hne
        by_cases hfu : full ⟨rp, rb, ra, rl⟩ k left x.body.size = true
        · have hres := Hup.out.full Hx.out (full_iff.1 hfu)
          have Hres := Lib.hid hres
          have Hfu := Lib.hid hfu
          clear hres hfu
          go_wp2_with (refine wpList_load_rc rfl 44 (.tmp 20) rfl b (off + k * 68) rfl x _ Hrr.out Try.underlying44 rfl H68.out ?_)
          refine (closure_full x _ bp br bl w.heap.size k _ left HFr.out (by omega) Hfu.out (by omega)).mono ?_
          rintro _ w4 ⟨rfl, hg4⟩
          have hb4 : Below w.heap.size w w4 := Hbr.out.grown hg4 Hbr.out.size (fun k hk => by cases hk)
          have Hb4 := Lib.hid hb4
          clear hg4 hb4
          go_wp2_with fail
          go_ret
          rw [Hres.out]
          exact ⟨rfl, Hb4.out⟩
        · rw [Bool.not_eq_true] at hfu
          have hnx := Hup.out.next Hx.out (by rw [← full_iff (r := ⟨rp, rb, ra, rl⟩), hfu]; simp)
          have Hnx := Lib.hid hnx
          have Hfu := Lib.hid hfu
          clear hnx hfu
          go_wp2_with (refine wpList_load_rc rfl 44 (.tmp 20) rfl b (off + k * 68) rfl x _ Hrr.out Try.underlying44 rfl H68.out ?_)
          refine (closure_next x _ bp br bl w.heap.size k _ left HFr.out (by omega) Hfu.out (by omega) hup0 (by omega) (by omega) (by omega)).mono ?_
          rintro _ w4 ⟨rfl, hF4, hb4⟩
          have hb4 := hb4 w Hbr.out.size Hbr.out
          have HF4 := Lib.hid hF4
          have Hb4 := Lib.hid hb4
          clear hF4 hb4
          go_wp2_with fail
          refine ⟨⟨k + 1, _, by go_num, Hnx.out, HF4.out, Hb4.out⟩, by simp [intOf]; omega⟩
      · have hki : (l.length : Int) ≤ (k : Int) := by omega
        have hres := Hup.out.stop (by simp [lens]; omega)
        have Hres := Lib.hid hres
        clear hres
        go_wp2_with fail
        go_ret
        rw [Hres.out]
        exact ⟨rfl, Hbr.out⟩
  · have hE : checkE ⟨rp, rb, ra, rl⟩ = 2 := if_neg hok
    have hres : Cut.fits ⟨rp, rb, ra, rl⟩ (lens l) = 0 := by unfold Cut.fits; rw [if_neg hok]
    have HE := Lib.hid hE
    have Hres := Lib.hid hres
    have hck := check_any ⟨rp, rb, ra, rl⟩
    unfold Cut.Rules.v at *
    simp only at hck
    have Hck := Lib.hid hck
    clear hE hres hok hck
    go_enter Try.func11, Try.ntmps11
    go_wp2_with fail
    refine (Hck.out _).mono ?_
    rintro _ w1 ⟨rfl, hg1⟩
    rw [HE.out]
    have hb1 : Below w.heap.size w w1 := ((Below.refl w.heap.size w).alloc (Nat.le_refl _) _).grown hg1 (by simp) (fun k hk => by cases hk)
    have Hb1 := Lib.hid hb1
    clear hg1 hb1
    go_wp2_with fail
    go_ret
    rw [Hres.out]
    exact ⟨rfl, Hb1.out⟩
end Go.Proofs.Ytncahgjmdeepeaa
