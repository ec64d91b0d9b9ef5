/- The reference of layer 9: Crash. -/
import Derived.Test.YtfebknhggapljaaDiskRlook
import Derived.Laws.Slices
namespace Go.Proofs.Ytfebknhggapljaa
open Go.RowKit
set_option linter.unusedVariables false
set_option linter.unusedSimpArgs false

theorem extract9 (s : ByteArray) (k m : Nat) : s.extract k (k + m) = ⟨((s.data.toList.drop k).take m).toArray⟩ := by
  have h := ByteArray.extract_mk s.data.toList k (k + m)
  rw [Nat.add_sub_cancel_left] at h
  exact h
theorem run_cutS9 (fb : List UInt8) (m : Nat) (h : m ≤ fb.length) (W : World) : (Instr.slice 9 (Sb fb) none (some (.int .i64 (m : Int))) none).run Try.prog W = .ok (Sb (fb.take m)) W := by
  have e := run_slice_string_h (P := Try.prog) W 9 (⟨fb.toArray⟩ : ByteArray) Try.underlying9 .i64 (m : Int) (by omega) (by show (m : Int) ≤ (fb.toArray.size : Int); simp; omega)
  rw [show (Sb fb) = .string ⟨fb.toArray⟩ from rfl, e]
  have e2 := extract9 ⟨fb.toArray⟩ 0 m
  simp only [Int.toNat_natCast, Nat.zero_add] at e2 ⊢
  rw [e2]
  simp
/-- a cell of a row of the call's own -/
theorem own_set9 {W : World} {lo n sz b c j : Nat} {e : TypeId} {xs : List Value} (h : W.ownsRow lo e sz (.slice (some ⟨b, 0, none⟩) n c) n xs) (hj : j < xs.length) (u : Value) : (W.setCell ⟨b, j, none⟩ u).ownsRow lo e sz (.slice (some ⟨b, 0, none⟩) n c) n (xs.set j u) := by
  obtain ⟨h1, h2⟩ := h
  refine ⟨by simpa using h1, ?_⟩
  rcases h2 with ⟨hv, h0⟩ | ⟨g, cap, cur, hv, hb, hh, hn, hc, hs, ht⟩
  · cases hv
  · injection hv with e1 e2 e3
    injection e1 with e1
    injection e1 with e1 e4 e5
    subst e1; subst e3
    have hlt : b < W.heap.size := lt_of_block hh
    refine .inr ⟨b, c, cur.setIfInBounds j u, rfl, hb, ?_, hn, hc, by simpa using hs, ?_⟩
    · have h' : W.heap[b] = .cells cur e (0, 0) := by simpa [Array.getElem?_eq_getElem hlt] using hh
      show (W.heap.modify b _)[b]? = _
      rw [Array.getElem?_eq_getElem (by simpa using hlt), Array.getElem_modify_self, h']
      simp [Obj.cells]
    · rw [← ht]
      simp [List.take_set]
theorem own_free9 {W : World} {lo n sz b c : Nat} {e : TypeId} {xs : List Value} (h : W.ownsRow lo e sz (.slice (some ⟨b, 0, none⟩) n c) n xs) (j : Nat) : W.frozen? ⟨b, j, none⟩ = false := by
  rcases h.2 with ⟨hv, h0⟩ | ⟨g, cap, cur, hv, hb, hh, _⟩
  · cases hv
  · injection hv with e1 e2 e3
    injection e1 with e1
    injection e1 with e1 e4 e5
    subst e1
    simp [World.frozen?, hh]
theorem flat_length9 (l : List Fl) : (Fl.flat l).length = l.length * 3 := by
  induction l with
  | nil => rfl
  | cons f l ih =>
    have e : Fl.flat (f :: l) = [Sb f.name, Sb f.b, .int .i64 f.safe] ++ Fl.flat l := rfl
    rw [e, List.length_append, ih]; simp; omega
theorem flat_set9 (l : List Fl) (k : Nat) (f : Fl) (h : k < l.length) : (((Fl.flat l).set (k * 3) (Sb f.name)).set (k * 3 + 1) (Sb f.b)).set (k * 3 + 2) (.int .i64 f.safe) = Fl.flat (l.set k f) := by
  induction l generalizing k with
  | nil => simp at h
  | cons x l ih =>
    have e : Fl.flat (x :: l) = Sb x.name :: Sb x.b :: .int .i64 x.safe :: Fl.flat l := rfl
    cases k with
    | zero => rw [e]; rfl
    | succ k =>
      have h2 := ih k (by simpa using h)
      have e2 : Fl.flat (x :: l.set k f) = Sb x.name :: Sb x.b :: .int .i64 x.safe :: Fl.flat (l.set k f) := rfl
      rw [show (x :: l).set (k + 1) f = x :: l.set k f from rfl, e, e2, ← h2]
      have e3 : (k + 1) * 3 = k * 3 + 3 := by omega
      rw [e3]
      rfl
/-- where a crash of the reference stands behind k files -/
def RCrash (w wr : World) (B g : Nat) (v : Value) (l : List Fl) (ks : List Int) (r : Int) (k : Nat) : Prop := RkAt wr g v r ∧ FlsAt wr B v (Fl.mid l ks k) ∧ Chg (RefOwn g v) w wr
theorem crash_ok9 {l : List Fl} (ks : List Int) (h : ∀ f ∈ l, FileOk f) : ∀ f ∈ Fl.crashL l ks, FileOk f := by
  intro f hf
  unfold Fl.crashL at hf
  obtain ⟨i, hi, rfl⟩ := List.mem_mapIdx.1 hf
  exact Fl.crashF_ok _ (h _ (List.getElem_mem hi))
theorem RCrash.step {w wr w4 : World} {B g b c : Nat} {l : List Fl} {ks : List Int} {r : Int} {k n : Nat} (h : RCrash w wr B g (.slice (some ⟨b, 0, none⟩) n c) l ks r k) (hs : Fl.Sorted l) (hk : k < l.length) (hn : n = l.length) (h4 : Below wr.heap.size wr w4) {nm bb : List UInt8} {s : Int}
    (h1 : nm = (l[k]).name) (h2 : bb = (Fl.crashF l[k] (ks.getD k 0)).b) (h3 : s = Fl.crashS l[k] (ks.getD k 0)) (hgb : g ≠ b) :
    RCrash w (((w4.setCell ⟨b, k * 3, none⟩ (Sb nm)).setCell ⟨b, k * 3 + 1, none⟩ (Sb bb)).setCell ⟨b, k * 3 + 2, none⟩ (.int .i64 s)) B g (.slice (some ⟨b, 0, none⟩) n c) l ks r (k + 1) := by
  obtain ⟨hr, hf, hc⟩ := h
  have hl : (Fl.mid l ks k).length = n := by rw [Fl.length_mid, hn]
  unfold FlsAt at hf
  rw [hl] at hf
  have hf4 := hf.kept (grownBy_of_below h4 none) (by simp [Value.ownBlock])
  have hfl := flat_length9 (Fl.mid l ks k)
  rw [hl] at hfl
  have q1 := own_set9 hf4 (j := k * 3) (by rw [hfl]; omega) (Sb nm)
  have q2 := own_set9 q1 (j := k * 3 + 1) (by rw [List.length_set, hfl]; omega) (Sb bb)
  have q3 := own_set9 q2 (j := k * 3 + 2) (by rw [List.length_set, List.length_set, hfl]; omega) (.int .i64 s)
  have hfs := flat_set9 (Fl.mid l ks k) k (Fl.crashF l[k] (ks.getD k 0)) (by rw [hl, hn]; exact hk)
  rw [← Fl.put_set (hs.mid ks k) (by rw [hl, hn]; exact hk) (by rw [Fl.mid_at l ks k hk]; rfl), Fl.mid_step hs ks k hk] at hfs
  subst h1; subst h2; subst h3
  rw [show Sb (l[k]).name = Sb (Fl.crashF l[k] (ks.getD k 0)).name from rfl, show Value.int .i64 (Fl.crashS l[k] (ks.getD k 0)) = .int .i64 (Fl.crashF l[k] (ks.getD k 0)).safe from rfl] at q3 ⊢
  rw [hfs] at q3
  have hg := ((grownBy_set w4 b (k * 3) (Sb (Fl.crashF l[k] (ks.getD k 0)).name)).trans (grownBy_set _ b (k * 3 + 1) (Sb (Fl.crashF l[k] (ks.getD k 0)).b))).trans (grownBy_set _ b (k * 3 + 2) (.int .i64 (Fl.crashF l[k] (ks.getD k 0)).safe))
  refine ⟨Row.kept (Row.below hr h4) hg (by simpa using hgb), ?_, ?_⟩
  · unfold FlsAt
    rw [Fl.length_mid, ← hn]
    exact q3
  · exact (hc.trans (Chg.of_below (S := RefOwn g (.slice (some ⟨b, 0, none⟩) n c)) h4) (fun i h => .inl h)).trans (Chg.of_grown (S := RefOwn g (.slice (some ⟨b, 0, none⟩) n c)) hg (fun i e => by cases e; exact .inl (.inr rfl))) (fun i h => .inl h)
set_option maxRecDepth 20000 in
set_option maxHeartbeats 3200000 in
theorem rcrash9 {w : World} {B g : Nat} {v0 : Value} {l : List Fl} {r : Int} (v : Value) (ks : List Int) (hd : RefIn w B g v0 l r) (hk : KeepV w v ks) (ha : KeepA v (RefOwn g v0)) :
    Calls Try.prog 31 #[.pointer (some ⟨g, 0, none⟩), v] w fun e w' => e = .returned (.tuple #[]) ∧ RefTo w w' B g v0 (Fl.crashL l ks) (-1) := by
  obtain ⟨A0, c0v, rfl, hk0⟩ := hk
  obtain ⟨A, c, rfl⟩ := hd.files.form
  have hx0 : RCrash w w B g (.slice A l.length c) l ks r 0 := ⟨hd.row, by rw [Fl.mid_zero]; exact hd.files, Chg.refl _ _⟩
  have hgap := hd.apart
  have HS := Lib.hid hd.sorted
  have HD := Lib.hid hd
  have hlen8 := hd.len
  obtain ⟨n, hn⟩ : ∃ n, n = l.length := ⟨_, rfl⟩
  obtain ⟨m, hm⟩ : ∃ m, m = ks.length := ⟨_, rfl⟩
  rw [← hn] at hx0 hlen8 hgap ha HD ⊢
  rw [← hm] at ha ⊢
  have HX0 := Lib.hid hx0
  have Hn := Lib.hid hn
  have Hm := Lib.hid hm
  have HK := Lib.hid hk0
  have HA := Lib.hid ha
  have HG := Lib.hid hgap
  clear hd hk0 ha hn hm hx0 hgap
  go_enter Try.func31, Try.ntmps31
  go_wp2_with fail
  go_loopw [4] (fun i wr => ∃ k : Nat, k ≤ n ∧ i = .int .i64 k ∧ RCrash w wr B g (.slice A n c) l ks r k) (fun i _ => n - (intOf i).toNat)
  case atStart => exact ⟨0, Nat.zero_le _, rfl, HX0.out⟩
  case round =>
    obtain ⟨k, hkn, rfl, hcr⟩ := hrel
    have c0 : wr.cell? ⟨g, 0, none⟩ = some (.slice A n c) := Row.cell hcr.1 0 (by simp)
    have HC := Lib.hid hcr
    clear hcr
    by_cases hlt : k < n
    · have hki : (k : Int) < (n : Int) := by omega
      have hkl : k < l.length := by rw [← Hn.out]; exact hlt
      have hf := HC.out.2.1
      have hmid : k < (Fl.mid l ks k).length := by rw [Fl.length_mid]; exact hkl
      have hf' := hf
      unfold FlsAt at hf'
      obtain ⟨b, hbA, hb1, hb2, c1, c2, c3⟩ := FlsAt.at (A := A) (c := c) (l := Fl.mid l ks k) (W := wr) (lo := B) (by rw [show (Fl.mid l ks k).length = n by rw [Fl.length_mid, Hn.out]]; exact hf) k hmid
      subst hbA
      rw [Fl.mid_at l ks k hkl] at c1 c2 c3
      have hgb : g ≠ b := fun e => HG.out (by rw [e]; rfl)
      have hfn : wr.ownsRow B 60 3 (.slice (some ⟨b, 0, none⟩) n c) n (Fl.flat (Fl.mid l ks k)) := by
        have e : (Fl.mid l ks k).length = n := by rw [Fl.length_mid, Hn.out]
        rw [e] at hf'
        exact hf'
      have hfr := own_free9 hfn
      have hok := HD.out.ok _ (List.getElem_mem hkl)
      have hle := Fl.crashS_le l[k] (ks.getD k 0) hok
      obtain ⟨s1, hs1⟩ : ∃ s1 : Nat, (l[k]).safe = (s1 : Int) := ⟨(l[k]).safe.toNat, by have := hok.1; omega⟩
      obtain ⟨s2, hs2⟩ : ∃ s2 : Nat, Fl.crashS l[k] (ks.getD k 0) = (s2 : Int) := ⟨(Fl.crashS l[k] (ks.getD k 0)).toNat, by have := hok.1; omega⟩
      have hb20 := hok.2.2.1
      have hcs : Fl.crashS l[k] (ks.getD k 0) = (l[k]).safe + min (max (ks.getD k 0) 0) (((l[k]).b.length : Int) - (l[k]).safe) := rfl
      have hbb : (l[k]).b.take s2 = (Fl.crashF l[k] (ks.getD k 0)).b := by show _ = (l[k]).b.take (Fl.crashS l[k] (ks.getD k 0)).toNat; rw [hs2]; rfl
      have hstep := fun (w4 : World) (h4 : Below wr.heap.size wr w4) => HC.out.step HS.out hkl Hn.out h4 rfl hbb hs2.symm hgb
      rw [hs1, hs2] at hcs hle
      rw [hs1] at c3
      have hgl : g < wr.heap.size := Row.lt HC.out.1
      have hkm9 : k < m → ∃ b off, A0 = some ⟨b, off, none⟩ ∧ b < wr.heap.size ∧ wr.cell? ⟨b, off + k, none⟩ = some (.int .i64 (ks.getD k 0)) := fun hkm => by
        have hkk : k < ks.length := by rw [← Hm.out]; exact hkm
        obtain ⟨b9, off, rfl, hb, hc⟩ := HK.out (by intro e; rw [e] at hkk; simp at hkk)
        refine ⟨b9, off, rfl, Nat.lt_of_lt_of_le hb HC.out.2.2.size, ?_⟩
        have h1 : wr.cell? ⟨b9, off + k, none⟩ = w.cell? ⟨b9, off + k, none⟩ := World.cell?_of_block (w := w) (HC.out.2.2.block b9 hb (HA.out b9 off _ _ rfl (by omega)))
        rw [h1, hc k hkk]
        simp [List.getD, hkk]
      have hk0 : ¬ k < m → ks.getD k 0 = 0 := fun h => by
        have : ks.length ≤ k := by rw [← Hm.out]; omega
        simp [List.getD, List.getElem?_eq_none this]
      obtain ⟨kk, hkk9⟩ : ∃ kk, ks.getD k 0 = kk := ⟨_, rfl⟩
      rw [hkk9] at hcs hkm9 hk0
      generalize (l[k]).name = x at *
      generalize (l[k]).b = fb at *
      have hcut := run_cutS9 fb s2 (by omega)
      have Hstep := Lib.hid hstep
      have Hcs := Lib.hid hcs
      have Hle := Lib.hid hle
      have Hb20 := Lib.hid hb20
      have Hkl := Lib.hid hkl
      have Hfr := Lib.hid hfr
      have Hhb := Lib.hid hb2
      have hbq : b ≠ wr.heap.size := by omega
      have hgq : g ≠ wr.heap.size := by omega
      have e0 := fun o : Obj => ((Below.alloc (Below.refl wr.heap.size wr) (Nat.le_refl _) o).cell (p := ⟨g, 0, none⟩) hgl).trans c0
      have Hc0 := Lib.hid c0
      have Hc1 := Lib.hid c1
      have Hc2 := Lib.hid c2
      have Hc3 := Lib.hid c3
      have Hgl := Lib.hid hgl
      clear hf hf' hmid hfn hfr hok hle hs1 hs2 hb20 hcs hbb hstep hkl hkk9 hb1 HX0 e0
      by_cases hkm : k < m
      · have hki2 : (k : Int) < (m : Int) := by omega
        obtain ⟨b9, off, rfl, hb9, hck⟩ := hkm9 hkm
        have hb9q : b9 ≠ wr.heap.size := by omega
        have hck2 := fun o : Obj => ((Below.alloc (Below.refl wr.heap.size wr) (Nat.le_refl _) o).cell (p := ⟨b9, off + k, none⟩) hb9).trans hck
        have g1 := hck2 (.cells #[Sb x, Sb fb, .int .i64 (s1 : Int)] 60)
        clear hkm9 hk0 hck2
        by_cases hpos : 0 < kk
        · have hw1 : IntKind.i64.wrap ((fb.length : Int) - (s1 : Int)) = (fb.length : Int) - (s1 : Int) := IntWalk.i64_in _ (by have := Hle.out; have := Hb20.out; omega)
          have hw2 : wrap64 ((s1 : Int) + min kk ((fb.length : Int) - (s1 : Int))) = (s2 : Int) := by
            have h1 := Hcs.out
            have h2 := Hle.out
            have h3 := Hb20.out
            rw [show max kk 0 = kk by omega] at h1
            rw [← h1]
            exact wrap64_nat9 s2 (by omega)
          have hw3 : IntKind.i64.wrap ((s1 : Int) + min kk ((fb.length : Int) - (s1 : Int))) = (s2 : Int) := by
            have h1 := Hcs.out
            have h2 := Hle.out
            have h3 := Hb20.out
            rw [show max kk 0 = kk by omega] at h1
            rw [← h1]
            exact IntWalk.i64_in _ (by omega)
          have dpos : decide (0 < kk) = true := by simpa using hpos
          clear Hcs
          go_wp2_with fail
          go_quiet (fail)
          go_wp2_with fail
          refine region_named 7 (by kernel_rfl) (by kernel_rfl) ?_
          intro w5 hw5
          have hrow5 : Row w5 wr.heap.size 60 [Sb x, Sb (fb.take s2), .int .i64 (s2 : Int)] := by rw [hw5]; exact ((((Row.new wr 60 [Sb x, Sb fb, .int .i64 (s1 : Int)]).kept (grownBy_drewN _ nq none) (by simp)).set 2 (.int .i64 (s2 : Int)) (by simp)).set 1 (Sb (fb.take s2)) (by simp)).kept (grownBy_drew _ none) (by simp)
          have hb5 : Below wr.heap.size wr w5 := by rw [hw5]; exact (((below_drewN' (Below.alloc (Below.refl wr.heap.size wr) (Nat.le_refl _) _) nq).setCell (p := ⟨wr.heap.size, 2, none⟩) (Nat.le_refl _) _).setCell (p := ⟨wr.heap.size, 1, none⟩) (Nat.le_refl _) _).drew
          have c0 := (hb5.cell (p := ⟨g, 0, none⟩) Hgl.out).trans Hc0.out
          have d0 := Row.cell hrow5 0 (by simp)
          have d1 := Row.cell hrow5 1 (by simp)
          have d2 := Row.cell hrow5 2 (by simp)
          simp only [List.getElem_cons_zero, List.getElem_cons_succ] at d0 d1 d2
          have c1 := (hb5.cell (p := ⟨b, k * 3, none⟩) Hhb.out).trans Hc1.out
          have c2 := (hb5.cell (p := ⟨b, k * 3 + 1, none⟩) Hhb.out).trans Hc2.out
          have c3 := (hb5.cell (p := ⟨b, k * 3 + 2, none⟩) Hhb.out).trans Hc3.out
          have f0 := (hb5.frozen (p := ⟨b, k * 3, none⟩) Hhb.out).trans (Hfr.out _)
          have f1 := (hb5.frozen (p := ⟨b, k * 3 + 1, none⟩) Hhb.out).trans (Hfr.out _)
          have f2 := (hb5.frozen (p := ⟨b, k * 3 + 2, none⟩) Hhb.out).trans (Hfr.out _)
          have Hst := Lib.hid (Hstep.out w5 hb5)
          clear hw5 hrow5 hb5
          simp only [List.take_succ_cons, List.take_zero, List.drop_succ_cons, List.drop_zero]
          repeat still_step
          refine wpStill_nil ?_
          go_wp2_with fail
          exact ⟨⟨k + 1, hlt, by go_num, Hst.out⟩, by simp [intOf]; omega⟩
        · have hs12 : s2 = s1 := by have := Hcs.out; have := Hle.out; omega
          subst hs12
          have dpos : decide (0 < kk) = false := by simpa using hpos
          have hw3 : IntKind.i64.wrap ((s2 : Int) + 0) = (s2 : Int) := by rw [Int.add_zero]; exact IntWalk.i64_in _ (by have := Hle.out; have := Hb20.out; omega)
          have hw4 : wrap64 (s2 : Int) = (s2 : Int) := wrap64_nat9 s2 (by have := Hle.out; have := Hb20.out; omega)
          clear Hcs
          go_wp2_with fail
          refine region_named 7 (by kernel_rfl) (by kernel_rfl) ?_
          intro w5 hw5
          have hrow5 : Row w5 wr.heap.size 60 [Sb x, Sb (fb.take s2), .int .i64 (s2 : Int)] := by rw [hw5]; exact (Row.new wr 60 [Sb x, Sb (fb.take s2), .int .i64 (s2 : Int)]).kept (grownBy_drew _ none) (by simp)
          have hb5 : Below wr.heap.size wr w5 := by rw [hw5]; exact (Below.alloc (Below.refl wr.heap.size wr) (Nat.le_refl _) _).drew
          have c0 := (hb5.cell (p := ⟨g, 0, none⟩) Hgl.out).trans Hc0.out
          have d0 := Row.cell hrow5 0 (by simp)
          have d1 := Row.cell hrow5 1 (by simp)
          have d2 := Row.cell hrow5 2 (by simp)
          simp only [List.getElem_cons_zero, List.getElem_cons_succ] at d0 d1 d2
          have c1 := (hb5.cell (p := ⟨b, k * 3, none⟩) Hhb.out).trans Hc1.out
          have c2 := (hb5.cell (p := ⟨b, k * 3 + 1, none⟩) Hhb.out).trans Hc2.out
          have c3 := (hb5.cell (p := ⟨b, k * 3 + 2, none⟩) Hhb.out).trans Hc3.out
          have f0 := (hb5.frozen (p := ⟨b, k * 3, none⟩) Hhb.out).trans (Hfr.out _)
          have f1 := (hb5.frozen (p := ⟨b, k * 3 + 1, none⟩) Hhb.out).trans (Hfr.out _)
          have f2 := (hb5.frozen (p := ⟨b, k * 3 + 2, none⟩) Hhb.out).trans (Hfr.out _)
          have Hst := Lib.hid (Hstep.out w5 hb5)
          clear hw5 hrow5 hb5
          simp only [List.take_succ_cons, List.take_zero, List.drop_succ_cons, List.drop_zero]
          repeat still_step
          refine wpStill_nil ?_
          go_wp2_with fail
          exact ⟨⟨k + 1, hlt, by go_num, Hst.out⟩, by simp [intOf]; omega⟩
      · have hki2 : (m : Int) ≤ (k : Int) := by omega
        have hkk0 := hk0 hkm
        have hs12 : s2 = s1 := by have := Hcs.out; have := Hle.out; rw [hkk0] at *; omega
        subst hs12
        have hw3 : IntKind.i64.wrap ((s2 : Int) + 0) = (s2 : Int) := by rw [Int.add_zero]; exact IntWalk.i64_in _ (by have := Hle.out; have := Hb20.out; omega)
        have hw4 : wrap64 (s2 : Int) = (s2 : Int) := wrap64_nat9 s2 (by have := Hle.out; have := Hb20.out; omega)
        clear Hcs hkm9 hk0 hkk0
        go_wp2_with fail
        refine region_named 7 (by kernel_rfl) (by kernel_rfl) ?_
        intro w5 hw5
        have hrow5 : Row w5 wr.heap.size 60 [Sb x, Sb (fb.take s2), .int .i64 (s2 : Int)] := by rw [hw5]; exact (Row.new wr 60 [Sb x, Sb (fb.take s2), .int .i64 (s2 : Int)]).kept (grownBy_drew _ none) (by simp)
        have hb5 : Below wr.heap.size wr w5 := by rw [hw5]; exact (Below.alloc (Below.refl wr.heap.size wr) (Nat.le_refl _) _).drew
        have c0 := (hb5.cell (p := ⟨g, 0, none⟩) Hgl.out).trans Hc0.out
        have d0 := Row.cell hrow5 0 (by simp)
        have d1 := Row.cell hrow5 1 (by simp)
        have d2 := Row.cell hrow5 2 (by simp)
        simp only [List.getElem_cons_zero, List.getElem_cons_succ] at d0 d1 d2
        have c1 := (hb5.cell (p := ⟨b, k * 3, none⟩) Hhb.out).trans Hc1.out
        have c2 := (hb5.cell (p := ⟨b, k * 3 + 1, none⟩) Hhb.out).trans Hc2.out
        have c3 := (hb5.cell (p := ⟨b, k * 3 + 2, none⟩) Hhb.out).trans Hc3.out
        have f0 := (hb5.frozen (p := ⟨b, k * 3, none⟩) Hhb.out).trans (Hfr.out _)
        have f1 := (hb5.frozen (p := ⟨b, k * 3 + 1, none⟩) Hhb.out).trans (Hfr.out _)
        have f2 := (hb5.frozen (p := ⟨b, k * 3 + 2, none⟩) Hhb.out).trans (Hfr.out _)
        have Hst := Lib.hid (Hstep.out w5 hb5)
        clear hw5 hrow5 hb5
        simp only [List.take_succ_cons, List.take_zero, List.drop_succ_cons, List.drop_zero]
        repeat still_step
        refine wpStill_nil ?_
        go_wp2_with fail
        exact ⟨⟨k + 1, hlt, by go_num, Hst.out⟩, by simp [intOf]; omega⟩
    · obtain rfl : k = n := by omega
      have hki : (k : Int) ≤ (k : Int) := by omega
      obtain ⟨hr, hf, hch⟩ := HC.out
      have f1 := Row.free hr 1
      have hset := Row.set hr 1 (.int .i64 (-1)) (by simp)
      simp only [List.set_cons_succ, List.set_cons_zero] at hset
      have d1 := Row.cell hr 1 (by simp)
      simp only [List.getElem_cons_succ, List.getElem_cons_zero] at d1
      have hgs := grownBy_set wr g 1 (.int .i64 (-1))
      have hf2 := hf.kept hgs (.inr (fun e => HG.out e.symm))
      rw [Hn.out, Fl.mid_all] at hf2
      have hto : RefTo w _ B g (.slice A k c) (Fl.crashL l ks) (-1) := ⟨_, ⟨hset, by rw [Hn.out]; exact hf2, Fl.sorted_names (by rw [← Fl.mid_all, Fl.names_mid]) HS.out, by rw [show (Fl.crashL l ks).length = l.length by simp [Fl.crashL], ← Hn.out]; exact hlen8, crash_ok9 ks HD.out.ok, HD.out.lo, by omega⟩,
        hch.trans (Chg.of_grown (S := RefOwn g (.slice A k c)) hgs (fun i e => by cases e; exact .inl (.inl rfl))) (fun i h => .inl h), fun i hi => .inl (.inr hi)⟩
      have Hto := Lib.hid hto
      clear hr hf hch hset hgs hf2 hto HC
      go_wp2_with fail
      (try simp only [Exit.inBlock, Exit.then])
      (first | refine bodyPost_end (results_none rfl _ _ _) rfl ?_ | go_ret)
      exact ⟨rfl, Hto.out⟩
end Go.Proofs.Ytfebknhggapljaa
