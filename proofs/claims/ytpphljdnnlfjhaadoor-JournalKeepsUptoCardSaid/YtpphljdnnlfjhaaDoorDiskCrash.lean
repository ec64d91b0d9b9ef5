/- disk: Crash. -/
import Derived.Test.YtpphljdnnlfjhaaDoorDiskMid
namespace Go.Proofs.YtpphljdnnlfjhaaDoor
open Go.RowKit Go.Maps
set_option maxRecDepth 100000
set_option linter.unusedVariables false
set_option linter.unusedSimpArgs false

theorem wrap64_nat9 (n : Nat) (h : n ≤ 1048576) : wrap64 (n : Int) = (n : Int) := by
  unfold wrap64
  omega
/-- a slice of numbers -/
def KeepV (w : World) (v : Value) (ks : List Int) : Prop := ∃ A c, v = .slice A ks.length c ∧ (ks ≠ [] → ∃ b off, A = some ⟨b, off, none⟩ ∧ b < w.heap.size ∧ ∀ i (h : i < ks.length), w.cell? ⟨b, off + i, none⟩ = some (.int .i64 ks[i]))
/-- .. which no operation on the disk touches -/
def KeepA (v : Value) (S : Nat → Prop) : Prop := ∀ b off n c, v = .slice (some ⟨b, off, none⟩) n c → 0 < n → ¬ S b
theorem crash_nil9 (v : Value) (w : World) : Calls Tryd.prog 19 #[.pointer none, v] w fun e w' => e = .returned (.int .i64 1) ∧ w = w' := by
  go_enter Tryd.func19, Tryd.ntmps19
  go_wp2_with fail
  go_ret
  exact ⟨rfl, rfl⟩
/-- where a crash stands behind k files -/
def CrashAt (w wr : World) (B g M : Nat) (V : Fl.Nm → Value) (l : List Fl) (ks : List Int) (r : Int) (v : Value) (k : Nat) : Prop :=
  (∃ V', DiskIn wr B g M V' (Fl.mid l ks k) r ∧ ∀ i, DiskOwn g M (Fl.mid l ks k) V' i → DiskOwn g M l V i) ∧ Chg (DiskOwn g M l V) w wr ∧ wr.ownsRow w.heap.size 9 1 v l.length ((Fl.names l).map encStr)
theorem DiskIn.below_own {w : World} {B g M : Nat} {V : Fl.Nm → Value} {l : List Fl} {r : Int} (hd : DiskIn w B g M V l r) : ∀ k, DiskOwn g M l V k → k < w.heap.size := by
  intro k hk
  rcases hk with rfl | rfl | ⟨f, hf, hk⟩
  · obtain ⟨s, hs, _⟩ := hd.row; exact Row.lt hs
  · exact hd.map.lt
  · exact hd.lt_f hf hk
theorem CrashAt.keep {w wr : World} {B g M : Nat} {V : Fl.Nm → Value} {l : List Fl} {ks : List Int} {r : Int} {v u : Value} {k : Nat} (h : CrashAt w wr B g M V l ks r v k) (hk : KeepV w u ks) (ha : KeepA u (DiskOwn g M l V)) : KeepV wr u ks := by
  obtain ⟨A, c, rfl, hc⟩ := hk
  refine ⟨A, c, rfl, fun hne => ?_⟩
  obtain ⟨b, off, rfl, hb, hcs⟩ := hc hne
  refine ⟨b, off, rfl, Nat.lt_of_lt_of_le hb h.2.1.size, fun i hi => ?_⟩
  rw [← hcs i hi]
  exact World.cell?_of_block (w := w) (h.2.1.block b hb (ha b off _ _ rfl (List.length_pos_iff.2 hne)))
theorem CrashAt.step {w wr w4 w6 : World} {B g M : Nat} {V V' : Fl.Nm → Value} {l : List Fl} {ks : List Int} {r : Int} {v : Value} {k : Nat} (hlw : ∀ i, DiskOwn g M l V i → i < w.heap.size) (hs : Fl.Sorted l) (hk : k < l.length) (hd : DiskIn wr B g M V' (Fl.mid l ks k) r) (hsub : ∀ i, DiskOwn g M (Fl.mid l ks k) V' i → DiskOwn g M l V i)
    (hch : Chg (DiskOwn g M l V) w wr) (hrow : wr.ownsRow w.heap.size 9 1 v l.length ((Fl.names l).map encStr)) (h4 : Below wr.heap.size wr w4) {A : Option Addr} {n c s2 : Nat} {D : DataW Value} (hv : V' (l[k]).name = .slice A n c) (hn : n = (l[k]).b.length) (hs2 : (s2 : Int) = Fl.crashS l[k] (ks.getD k 0))
    (hV : View D (Fl.mid l ks k) V') (hm : w6.ownsMap Tryd.prog 9 heldV M ((Fl.mid l ks k).length + 1) (D.put (KS (l[k]).name) (.held (Fv (.slice A s2 c) (s2 : Int))))) (h46 : w4.grownBy w6 (some M)) : CrashAt w w6 B g M V l ks r v (k + 1) := by
  have hf := Fl.find_mid hs ks k hk
  have hmem := Fl.find_mem hf
  have hok := hd.ok _ hmem
  have hA := hd.own_apart hf
  rw [hv] at hA
  have hle := Fl.crashS_le l[k] (ks.getD k 0) hok
  have ho := hd.files _ hmem
  rw [hv] at ho
  have ho2 := (own_cut (k := s2) (by rw [← hn] at ho; exact ho) (by omega))
  have hbl : (Fl.crashF l[k] (ks.getD k 0)).b.length = s2 := by
    show ((l[k]).b.take (Fl.crashS l[k] (ks.getD k 0)).toNat).length = s2
    rw [List.length_take, ← hs2]; omega
  have hcel : (cel8 (l[k]).b).take s2 = cel8 (Fl.crashF l[k] (ks.getD k 0)).b := by
    show _ = cel8 ((l[k]).b.take (Fl.crashS l[k] (ks.getD k 0)).toNat)
    rw [← hs2]; simp [cel8, List.map_take]
  have ho4 : w4.ownsRow B 5 1 (.slice A s2 c) (Fl.crashF l[k] (ks.getD k 0)).b.length (cel8 (Fl.crashF l[k] (ks.getD k 0)).b) := by
    rw [hbl, ← hcel]
    exact ho2.kept (grownBy_of_below h4 none) (by cases A <;> simp [Value.ownBlock])
  have hob : ∀ i, (Value.slice A s2 c).ownBlock = some i → (Value.slice A n c).ownBlock = some i := fun i h => (by cases A with | none => cases h | some a => exact h)
  have hlen := Fl.length_put (Fl.mid l ks k) (hs.mid ks k) (Fl.crashF l[k] (ks.getD k 0))
  rw [show (Fl.find (Fl.mid l ks k) (Fl.crashF l[k] (ks.getD k 0)).name).isSome = true by rw [show (Fl.crashF l[k] (ks.getD k 0)).name = (l[k]).name from rfl, hf]; rfl] at hlen
  rw [hs2] at hm
  have hst := hd.stored (f := Fl.crashF l[k] (ks.getD k 0)) (v := .slice A s2 c) (Chg.of_below (S := fun _ => False) h4) (fun _ h => h.elim) ho4 (fun i h => (hA i (hob i h)).1.2.2) hV hm h46 (by rw [hlen]; simpa [Fl.length_mid] using (by have := hd.len; simpa [Fl.length_mid] using this)) (Fl.crashF_ok _ hok)
  rw [Fl.mid_step hs ks k hk] at hst
  refine ⟨⟨_, hst, fun i hi => ?_⟩, ?_, ?_⟩
  · rw [← Fl.mid_step hs ks k hk] at hi
    rcases DiskOwn.put (hs.mid ks k) hi with h | h
    · exact hsub i h
    · exact hsub i (hA i (hob i h)).2
  · exact (hch.trans (Chg.of_below (S := DiskOwn g M l V) h4) (fun i h => .inl h)).trans (Chg.of_grown (S := DiskOwn g M l V) h46 (fun i e => by cases e; exact .inl (.inr (.inl rfl)))) (fun i h => .inl h)
  · exact (hrow.kept (grownBy_of_below h4 none) (by cases v.ownBlock <;> simp)).kept h46 (.inr (fun e => by have := (hrow.lt M e).1; have := hlw M (.inr (.inl rfl)); omega))
set_option maxRecDepth 20000 in
set_option maxHeartbeats 3200000 in
theorem crash_in9 {w : World} {B g M : Nat} {V : Fl.Nm → Value} {l : List Fl} {r : Int} (v : Value) (ks : List Int) (hd : DiskIn w B g M V l r) (hk : KeepV w v ks) (ha : KeepA v (DiskOwn g M l V)) :
    Calls Tryd.prog 19 #[.pointer (some ⟨g, 0, none⟩), v] w fun e w' => e = .returned (.int .i64 0) ∧ DiskTo w w' B g M V l (Fl.crashL l ks) (-1) := by
  obtain ⟨A0, c0v, rfl, hk0⟩ := hk
  have HK : Hid (KeepV w (.slice A0 ks.length c0v) ks) := ⟨A0, c0v, rfl, hk0⟩
  have HA0 := Lib.hid ha
  have HN := Lib.hid (names_in9 hd)
  have HS := Lib.hid hd.sorted
  have HD := Lib.hid hd
  have hlw := hd.below_own
  have HLW := Lib.hid hlw
  have hlen8 := hd.len
  obtain ⟨n, hn⟩ : ∃ n, n = l.length := ⟨_, rfl⟩
  obtain ⟨m, hm⟩ : ∃ m, m = ks.length := ⟨_, rfl⟩
  rw [← hm] at HK HA0 ⊢
  rw [← hn] at HN hlen8
  have Hn := Lib.hid hn
  have Hm := Lib.hid hm
  clear hd ha hk0 hlw hn hm
  go_enter Tryd.func19, Tryd.ntmps19
  go_wp2_with fail
  refine HN.out.mono ?_
  rintro _ w1 ⟨v, rfl, hrow, hb1⟩
  have hc0 : CrashAt w w1 B g M V l ks r v 0 := ⟨⟨V, by rw [Fl.mid_zero]; exact HD.out.below hb1, fun i hi => by rw [Fl.mid_zero] at hi; exact hi⟩, Chg.of_below hb1, by rw [← Hn.out]; exact hrow⟩
  obtain ⟨AN, cN, rfl⟩ := own_form9 hrow
  have HC0 := Lib.hid hc0
  clear hrow hb1 hc0
  go_wp2_with fail
  go_loopw [13] (fun i wr => ∃ k : Nat, k ≤ n ∧ i = .int .i64 k ∧ CrashAt w wr B g M V l ks r (.slice AN n cN) k) (fun i _ => n - (intOf i).toNat)
  case atStart => exact ⟨0, Nat.zero_le _, rfl, HC0.out⟩
  case round =>
    obtain ⟨k, hkn, rfl, hcr⟩ := hrel
    have HC := Lib.hid hcr
    clear hcr
    by_cases hlt : k < n
    · have hki : (k : Int) < (n : Int) := by omega
      have hkl : k < l.length := by rw [← Hn.out]; exact hlt
      have hkeep := HC.out.keep HK.out HA0.out
      obtain ⟨⟨V', hdr, hsub⟩, hch, hrow⟩ := HC.out
      obtain ⟨D, hD, hV⟩ := hdr.map
      have hf := Fl.find_mid HS.out ks k hkl
      have hmem := Fl.find_mem hf
      have hok := hdr.ok _ hmem
      have hown := hdr.files _ hmem
      obtain ⟨A, c, hv⟩ := own_form9 hown
      rw [hv] at hown
      have hcap := own_cap hown
      have hle := Fl.crashS_le l[k] (ks.getD k 0) hok
      obtain ⟨s1, hs1⟩ : ∃ s1 : Nat, (l[k]).safe = (s1 : Int) := ⟨(l[k]).safe.toNat, by have := hok.1; omega⟩
      obtain ⟨s2, hs2⟩ : ∃ s2 : Nat, Fl.crashS l[k] (ks.getD k 0) = (s2 : Int) := ⟨(Fl.crashS l[k] (ks.getD k 0)).toNat, by have := hok.1; omega⟩
      have hb20 := hok.2.2.1
      have hnl := hok.2.2.2
      have hcs : Fl.crashS l[k] (ks.getD k 0) = (l[k]).safe + min (max (ks.getD k 0) 0) (((l[k]).b.length : Int) - (l[k]).safe) := rfl
      rw [hs1, hs2] at hcs hle
      have hstep := fun (w4 w6 : World) (h4 : Below wr.heap.size wr w4) => @CrashAt.step w wr w4 w6 B g M V V' l ks r (.slice AN n cN) k HLW.out HS.out hkl hdr hsub hch hrow h4 A (l[k]).b.length c s2 D hv rfl hs2.symm hV
      have hcx : ∃ bn, AN = some ⟨bn, 0, none⟩ ∧ wr.cell? ⟨bn, k, none⟩ = some (Sb (l[k]).name) := by
        rw [Hn.out] at hrow hlt
        rcases hrow.2 with ⟨hv9, h0⟩ | ⟨q, cap, cur, hv9, _⟩
        · omega
        · injection hv9 with e1 e2 e3
          have hc9 := hrow.cells (g := q) (by rw [e1]; rfl) k (Sb (l[k]).name) (by simp [Fl.names, hkl, encStr])
          have e9 : (⟨q, 0, none⟩ : Addr).add k = ⟨q, k, none⟩ := by unfold Addr.add; split <;> simp_all
          rw [e9] at hc9
          exact ⟨q, e1, hc9⟩
      obtain ⟨bn, rfl, hcn⟩ := hcx
      have hqn : bn ≠ wr.heap.size := by have := World.block_lt_of_cell? wr _ hcn; simp at this; omega
      obtain ⟨sk, hsk, hkk⟩ := hdr.row
      have c0 : wr.cell? ⟨g, 0, none⟩ = some (.map (some M)) := (DkAt.box hsk).1
      have hgl : g < wr.heap.size := Row.lt hsk
      have hMl : M < wr.heap.size := hD.lt
      have hlen2 : (Fl.mid l ks k).length = n := by rw [Fl.length_mid, Hn.out]
      rw [hlen2] at hD hstep
      obtain ⟨kk, hkk9⟩ : ∃ kk, ks.getD k 0 = kk := ⟨_, rfl⟩
      rw [hkk9] at hs2 hcs
      have Hkk := Lib.hid hkk9
      clear hkk9
      generalize hx : (l[k]).name = x at *
      generalize hN : (l[k]).b.length = N at *
      have HDm := Lib.hid hD
      have HV := Lib.hid hV
      have Hf := Lib.hid hf
      have Hv := Lib.hid hv
      have Hs1 := Lib.hid hs1
      have Hstep := Lib.hid hstep
      have Hnl : Hid (x.length ≤ maxLen) := by have : x.length ≤ 16 := hnl; show _ ≤ _; unfold maxLen; omega
      have Hkeep := Lib.hid hkeep
      have Hcs := Lib.hid hcs
      have Hle := Lib.hid hle
      have Hb20 := Lib.hid hb20
      have Hcap := Lib.hid hcap
      have hcut := run_cut9 A N c s2 (by omega)
      have Hkl := Lib.hid hkl
      clear hdr hsub hch hrow hD hV hf hmem hok hown hv hcap hs1 hs2 hb20 hnl hcs hstep hsk hkk hlen2 hx hN hkeep hle HLW
      by_cases hkm : k < m
      · have hki2 : (k : Int) < (m : Int) := by omega
        have hkx : ∃ b off, A0 = some ⟨b, off, none⟩ ∧ b < wr.heap.size ∧ wr.cell? ⟨b, off + k, none⟩ = some (.int .i64 kk) := by
          obtain ⟨A9, c9, e9, hk9⟩ := Hkeep.out
          injection e9 with e1 e2 e3
          have hkk : k < ks.length := by rw [← Hm.out]; exact hkm
          obtain ⟨b, off, rfl, hb, hc⟩ := hk9 (by intro e; rw [e] at hkk; simp at hkk)
          refine ⟨b, off, e1, hb, ?_⟩
          rw [hc k hkk, ← Hkk.out]
          simp [List.getD, hkk]
        obtain ⟨b, off, rfl, hbl, hck⟩ := hkx
        have hqb : b ≠ wr.heap.size := by omega
        have hgq : g ≠ wr.heap.size := by omega
        have hw2 : wrap64 ((s1 : Int) + min (max kk 0) ((N : Int) - (s1 : Int))) = (s2 : Int) := by
          have h1 := Hcs.out
          have h2 := Hle.out
          have h3 := Hb20.out
          rw [← h1]
          exact wrap64_nat9 s2 (by omega)
        have hw1 : IntKind.i64.wrap ((N : Int) - (s1 : Int)) = (N : Int) - (s1 : Int) := IntWalk.i64_in _ (by have := Hle.out; have := Hb20.out; omega)
        clear HK HA0 Hkeep Hcs
        go_wp2_with (first
          | (at_lookup; refine wpList_look9_plain _ rfl _ _ rfl x rfl HDm.out HV.out rfl Hnl.out _ Hf.out _ _ Hv.out Hs1.out ?_)
          | fail)
        have hrow2 := Row.new wr 75 [.slice A N c, .int .i64 (s1 : Int)]
        have hb2 := Below.alloc (Below.refl wr.heap.size wr) (Nat.le_refl _) (.cells #[.slice A N c, .int .i64 (s1 : Int)] 75)
        refine region_named 16 (by kernel_rfl) (by kernel_rfl) ?_
        intro w3 hw3
        have hrow3 : Row w3 wr.heap.size 75 [.slice A N c, .int .i64 (s1 : Int)] := by rw [hw3]; exact hrow2.kept (grownBy_drew _ none) (by simp)
        have hb3 : Below wr.heap.size wr w3 := by rw [hw3]; exact hb2.drew
        have d0 := hrow3.cell 0 (by simp)
        have d1 := hrow3.cell 1 (by simp)
        simp only [List.getElem_cons_zero, List.getElem_cons_succ] at d0 d1
        have dk : w3.cell? ⟨b, off + k, none⟩ = some (.int .i64 kk) := (hb3.cell (p := ⟨b, off + k, none⟩) hbl).trans hck
        have f1 := Row.free hrow3 1
        have f0 := Row.free hrow3 0
        have hset1 := hrow3.set 1 (.int .i64 (s2 : Int)) (by simp)
        have hset0 := hset1.set 0 (.slice A s2 c) (by simp)
        simp only [List.set_cons_succ, List.set_cons_zero] at hset1 hset0
        have hbs1 : Below wr.heap.size wr (w3.setCell ⟨wr.heap.size, 1, none⟩ (.int .i64 (s2 : Int))) := hb3.setCell (Nat.le_refl _) _
        have hbs0 : Below wr.heap.size wr ((w3.setCell ⟨wr.heap.size, 1, none⟩ (.int .i64 (s2 : Int))).setCell ⟨wr.heap.size, 0, none⟩ (.slice A s2 c)) := hbs1.setCell (Nat.le_refl _) _
        have hc04 := (hbs0.cell (p := ⟨g, 0, none⟩) hgl).trans c0
        have Hb4 := Lib.hid hbs0
        have Hrow4 := Lib.hid hset0
        have Hc04 := Lib.hid hc04
        clear hw3 hrow3 hb3 hrow2 hb2 hset1 hset0 hbs1 hbs0 hc04
        simp only [List.take_succ_cons, List.take_zero, List.drop_succ_cons, List.drop_zero]
        repeat still_step
        refine wpStill_nil ?_
        go_wp2_with fail
        refine region_named 6 (by kernel_rfl) (by kernel_rfl) ?_
        intro w5 hw5
        have hb5 : Below wr.heap.size wr w5 := by rw [hw5]; exact Hb4.out.drew
        have hm5 : w5.ownsMap Tryd.prog 9 heldV M n D := HDm.out.kept (grownBy_of_below hb5 none) (by simp)
        have c0 : w5.cell? ⟨g, 0, none⟩ = some (.map (some M)) := (cell_drew hw5 g 0).trans Hc04.out
        have d0 := (cell_drew hw5 wr.heap.size 0).trans (Row.cell Hrow4.out 0 (by simp))
        have d1 := (cell_drew hw5 wr.heap.size 1).trans (Row.cell Hrow4.out 1 (by simp))
        simp only [List.getElem_cons_zero, List.getElem_cons_succ] at d0 d1
        have Hb5 := Lib.hid hb5
        have Hm5 := Lib.hid hm5
        have hll : n < maxLen := by unfold maxLen; omega
        clear hw5 hb5 hm5
        simp only [List.take_succ_cons, List.take_zero, List.drop_succ_cons, List.drop_zero]
        repeat still_step
        refine wpStill_nil ?_
        go_wp2_with (first
          | (at_mapUpdate; refine wpList_mapUpdate_own _ rfl _ _ _ 58 rfl 9 75 lawS Tryd.underlying58 _ M n _ rfl Hm5.out hll _ _ _ rfl rfl (keyS x Hnl.out) _ [] (heldV_eq _) ?_; intro w6 hown6 hg6
             have hd6 := Hstep.out w5 w6 Hb5.out hown6 hg6
             have Hd6 := Lib.hid hd6
             clear hown6 hg6 hd6)
          | fail)
        exact ⟨⟨k + 1, hlt, by go_num, Hd6.out⟩, by simp [intOf]; omega⟩
      · have hki2 : (m : Int) ≤ (k : Int) := by omega
        have hkk0 : kk = 0 := by
          rw [← Hkk.out]
          have : ks.length ≤ k := by rw [← Hm.out]; omega
          simp [List.getD, List.getElem?_eq_none this]
        have hs12 : s2 = s1 := by have := Hcs.out; have := Hle.out; rw [hkk0] at *; omega
        subst hs12
        have hrow2 := Row.new wr 75 [.slice A s2 c, .int .i64 (s2 : Int)]
        have hb2 := Below.alloc (Below.refl wr.heap.size wr) (Nat.le_refl _) (.cells #[.slice A s2 c, .int .i64 (s2 : Int)] 75)
        have hc04 := (hb2.cell (p := ⟨g, 0, none⟩) hgl).trans c0
        have Hb4 := Lib.hid hb2
        have Hrow4 := Lib.hid hrow2
        have Hc04 := Lib.hid hc04
        have hgq : g ≠ wr.heap.size := by omega
        clear HK HA0 Hkeep Hcs hrow2 hb2 hc04 hkk0
        go_wp2_with (first
          | (at_lookup; refine wpList_look9_plain _ rfl _ _ rfl x rfl HDm.out HV.out rfl Hnl.out _ Hf.out _ _ Hv.out Hs1.out ?_)
          | fail)
        refine region_named 6 (by kernel_rfl) (by kernel_rfl) ?_
        intro w5 hw5
        have hb5 : Below wr.heap.size wr w5 := by rw [hw5]; exact Hb4.out.drew
        have hm5 : w5.ownsMap Tryd.prog 9 heldV M n D := HDm.out.kept (grownBy_of_below hb5 none) (by simp)
        have c0 : w5.cell? ⟨g, 0, none⟩ = some (.map (some M)) := (cell_drew hw5 g 0).trans Hc04.out
        have d0 := (cell_drew hw5 wr.heap.size 0).trans (Row.cell Hrow4.out 0 (by simp))
        have d1 := (cell_drew hw5 wr.heap.size 1).trans (Row.cell Hrow4.out 1 (by simp))
        simp only [List.getElem_cons_zero, List.getElem_cons_succ] at d0 d1
        have Hb5 := Lib.hid hb5
        have Hm5 := Lib.hid hm5
        have hll : n < maxLen := by unfold maxLen; omega
        clear hw5 hb5 hm5
        simp only [List.take_succ_cons, List.take_zero, List.drop_succ_cons, List.drop_zero]
        repeat still_step
        refine wpStill_nil ?_
        go_wp2_with (first
          | (at_mapUpdate; refine wpList_mapUpdate_own _ rfl _ _ _ 58 rfl 9 75 lawS Tryd.underlying58 _ M n _ rfl Hm5.out hll _ _ _ rfl rfl (keyS x Hnl.out) _ [] (heldV_eq _) ?_; intro w6 hown6 hg6
             have hd6 := Hstep.out w5 w6 Hb5.out hown6 hg6
             have Hd6 := Lib.hid hd6
             clear hown6 hg6 hd6)
          | fail)
        exact ⟨⟨k + 1, hlt, by go_num, Hd6.out⟩, by simp [intOf]; omega⟩
    · obtain rfl : k = n := by omega
      have hki : (k : Int) ≤ (k : Int) := by omega
      obtain ⟨⟨V', hdr, hsub⟩, hch, hrow⟩ := HC.out
      obtain ⟨sk, hsk, hkk⟩ := hdr.row
      have f1 := Row.free hsk 1
      have s1 := Row.set hsk 1 (.bool false) (by simp [Dk.cells])
      have s2 := Row.set s1 2 (.int .i64 0) (by simp [Dk.cells])
      have s3 := Row.set s2 3 (.bool false) (by simp [Dk.cells])
      have q2 := Row.free s1 2
      have q3 := Row.free s2 3
      have d1 := Row.cell hsk 1 (by simp [Dk.cells])
      have d2 := Row.cell s1 2 (by simp [Dk.cells])
      have d3 := Row.cell s2 3 (by simp [Dk.cells])
      simp only [Dk.cells, List.set_cons_succ, List.set_cons_zero, List.getElem_cons_succ, List.getElem_cons_zero] at d1 d2 d3
      have hg3 := World.grownBy.trans (World.grownBy.trans (grownBy_set wr g 1 (.bool false)) (grownBy_set _ g 2 (.int .i64 0))) (grownBy_set _ g 3 (.bool false))
      have hfin := hdr.turn (s := ⟨false, 0, false⟩) (r2 := -1) s3 (.inl ⟨rfl, rfl, rfl⟩) hg3
      rw [Hn.out, Fl.mid_all] at hfin
      have hto : DiskTo w _ B g M V l (Fl.crashL l ks) (-1) := ⟨V', hfin, hch.trans (Chg.of_grown (S := DiskOwn g M l V) hg3 (fun i e => by cases e; exact .inl (.inl rfl))) (fun i h => .inl h), fun i hi => .inl (hsub i (by rw [Hn.out, Fl.mid_all]; exact hi))⟩
      have Hto := Lib.hid hto
      clear hdr hsub hch hrow hsk hkk s1 s2 s3 hg3 hfin hto HK HA0 HC
      go_wp2_with fail
      go_ret
      exact ⟨rfl, Hto.out⟩
end Go.Proofs.YtpphljdnnlfjhaaDoor
