/- The law's do: a call of both lanes. -/
import Derived.Test.YtlapmdgkcidhnaaDoorLnTx
import Derived.Test.YtlapmdgkcidhnaaDoorLnAct
namespace Go.Proofs.YtlapmdgkcidhnaaDoor
open Go.RowKit Go.Maps
set_option linter.unusedVariables false
set_option linter.unusedSimpArgs false
set_option maxRecDepth 100000

/-- both lanes, above the law's own beginning -/
structure TwoL (w0 w : World) (B M RB : Nat) (len : Int) (L : List Ln.H) (n : Nat) (L2 : List Ln.H) (n2 : Nat) : Prop where
  low : Below w0.heap.size w0 w
  own : LaneAt w B M len L n
  ref : ∃ v, RLaneAt w w0.heap.size RB v len L2 n2
  hi : w0.heap.size ≤ B ∧ w0.heap.size ≤ M
/-- rows of other types stay -/
def KeepsR (w w' : World) : Prop := ∀ g T xs, T ≠ 85 → T ≠ 82 → Row w g T xs → Row w' g T xs
theorem KeepsR.below {w w' : World} (h : Below w.heap.size w w') : KeepsR w w' := fun g T xs _ _ hr => hr.below h
theorem KeepsR.trans {a b c : World} (h : KeepsR a b) (k : KeepsR b c) : KeepsR a c := fun g T xs h1 h2 hr => k g T xs h1 h2 (h g T xs h1 h2 hr)
theorem LaneAt.chg {S : Nat → Prop} {w w' : World} {B M n : Nat} {len : Int} {L : List Ln.H} (h : LaneAt w B M len L n) (hc : Chg S w w') (h1 : ¬ S B) (h2 : ¬ S M) : LaneAt w' B M len L n := by
  obtain ⟨D, N, hN, hD, hR⟩ := h.map
  exact ⟨hc.row h.row h1, ⟨D, N, hN, hc.ownsMap hD h2, hR⟩, h.ok, h.len⟩
section
variable {w0 w w' : World} {B M RB n n2 m : Nat} {len : Int} {L L2 L' : List Ln.H}
theorem TwoL.below (h : TwoL w0 w B M RB len L n L2 n2) (hb : Below w.heap.size w w') : TwoL w0 w' B M RB len L n L2 n2 := by
  obtain ⟨v, hv⟩ := h.ref
  exact ⟨two_below' h.low hb, h.own.below hb, ⟨v, hv.below hb⟩, h.hi⟩
theorem TwoL.ownStep (h : TwoL w0 w B M RB len L n L2 n2) (k : LnTo w w' B M len L' m) : TwoL w0 w' B M RB len L' m L2 n2 ∧ KeepsR w w' := by
  obtain ⟨v, hv⟩ := h.ref
  have ha := lanes_apart h.own hv
  have hc : Chg (fun k => k = M) w w' := Chg.of_grown k.2 (fun k hk => .inl (by cases hk; rfl))
  refine ⟨⟨below_own h.low k.2 (fun k hk => by cases hk; exact h.hi.2), k.1, ⟨v, hv.chg hc (fun x hx => (ha x hx).2)⟩, h.hi⟩, fun g T xs _ _ hr => ?_⟩
  obtain ⟨D, N, _, hD, _⟩ := h.own.map
  exact hc.row hr (row_ne_map hD hr)
theorem TwoL.refStep (h : TwoL w0 w B M RB len L n L2 n2) {v : Value} (hv : RLaneAt w w0.heap.size RB v len L2 n2) (k : RLnTo w w' w0.heap.size RB v len L' m) : TwoL w0 w' B M RB len L n L' m ∧ KeepsR w w' := by
  obtain ⟨v', h1, hc⟩ := k
  have ha := lanes_apart h.own hv
  have hlt := hv.lt
  refine ⟨⟨below_chg h.low hc h.low.size (fun k hk => (hlt k hk).1), h.own.chg hc (fun q => (ha _ q).1 rfl) (fun q => (ha _ q).2 rfl), ⟨v', h1⟩, h.hi⟩, fun g T xs t1 t2 hr => ?_⟩
  refine hc.row hr (fun q => ?_)
  rcases q with q | q
  · exact row_ne_row hr hv.row t1 q
  · exact hv.own.ne_block hr t2 q
theorem act_info : (Tryd.prog.info? 76).map (·.size) = some 79 := by kernel_rfl
theorem own_set16 (r a : Int) (hr : Ln.fits r) (hn : n ≤ 900) (h : TwoL w0 w B M RB len L n L2 n2) : Calls Tryd.prog 44 #[.pointer (some ⟨B, 0, none⟩), .int .i64 r, .int .i64 a] w fun e w' => e = .returned (.int .i64 (Ln.setE L r a)) ∧ TwoL w0 w' B M RB len (Ln.set L r a) (n + 1) L2 n2 ∧ KeepsR w w' :=
  (set16_any r a h.own hr (by omega)).mono fun e w' ⟨h1, h2⟩ => ⟨h1, h.ownStep h2⟩
theorem ref_set16 (r a : Int) (hr : Ln.fits r) (hn : n2 ≤ 900) (h : TwoL w0 w B M RB len L n L2 n2) : Calls Tryd.prog 63 #[.pointer (some ⟨RB, 0, none⟩), .int .i64 r, .int .i64 a] w fun e w' => e = .returned (.int .i64 (Ln.setE L2 r a)) ∧ TwoL w0 w' B M RB len L n (Ln.set L2 r a) (n2 + 1) ∧ KeepsR w w' := by
  obtain ⟨v, hv⟩ := h.ref
  exact (rset16_any r a hv hr hn h.low.size).mono fun e w' ⟨h1, h2⟩ => ⟨h1, h.refStep hv h2⟩
theorem own_give16 (r a b now : Int) (hr : Ln.fits r) (hn : n ≤ 900) (hnow : now ≤ 9223372036854775807) (h : TwoL w0 w B M RB len L n L2 n2) : Calls Tryd.prog 45 #[.pointer (some ⟨B, 0, none⟩), .int .i64 r, .int .i64 a, .int .i64 b, .int .i64 now] w fun e w' => e = .returned (.int .i64 (Ln.giveE len L r a b now)) ∧ TwoL w0 w' B M RB len (Ln.give len L r a b now) (n + 1) L2 n2 ∧ KeepsR w w' :=
  (give16_any r a b now h.own hr (by omega) hnow).mono fun e w' ⟨h1, h2⟩ => ⟨h1, h.ownStep h2⟩
theorem ref_give16 (r a b now : Int) (hr : Ln.fits r) (hn : n2 ≤ 900) (hnow : now ≤ 9223372036854775807) (h : TwoL w0 w B M RB len L n L2 n2) : Calls Tryd.prog 64 #[.pointer (some ⟨RB, 0, none⟩), .int .i64 r, .int .i64 a, .int .i64 b, .int .i64 now] w fun e w' => e = .returned (.int .i64 (Ln.giveE len L2 r a b now)) ∧ TwoL w0 w' B M RB len L n (Ln.give len L2 r a b now) (n2 + 1) ∧ KeepsR w w' := by
  obtain ⟨v, hv⟩ := h.ref
  exact (rgive16_any r a b now hv hr hn hnow).mono fun e w' ⟨h1, h2⟩ => ⟨h1, h.refStep hv h2⟩
theorem own_chk16 (t : Tx) (ht : t.Ok) (now : Int) (hnow : now ≤ 9223372036854775807) (hTb : Tab w0) (h : TwoL w0 w B M RB len L n L2 n2) : Calls Tryd.prog 42 #[.pointer (some ⟨B, 0, none⟩), .agg t.cells.toArray, .int .i64 now] w fun e w' => e = .returned (.int .i64 (Ln.checkE len L t now)) ∧ TwoL w0 w' B M RB len L n L2 n2 ∧ KeepsR w w' :=
  (chk16_any t ht now hnow h.own (hTb.below h.low hTb.pos)).mono fun e w' ⟨h1, h2⟩ => ⟨h1, h.below h2, KeepsR.below h2⟩
theorem ref_chk16 (hRS : RefSum) (t : Tx) (ht : t.Ok) (now : Int) (hnow : now ≤ 9223372036854775807) (hn : n2 ≤ 900) (h : TwoL w0 w B M RB len L n L2 n2) : Calls Tryd.prog 65 #[.pointer (some ⟨RB, 0, none⟩), .agg t.cells.toArray, .int .i64 now] w fun e w' => e = .returned (.int .i64 (Ln.checkE len L2 t now)) ∧ TwoL w0 w' B M RB len L n L2 n2 ∧ KeepsR w w' := by
  obtain ⟨v, hv⟩ := h.ref
  exact (rchk16_any hRS t ht now hnow hv hn).mono fun e w' ⟨h1, h2⟩ => ⟨h1, h.below h2, KeepsR.below h2⟩
theorem own_take16 (t : Tx) (ht : t.Ok) (now : Int) (hnow : now ≤ 9223372036854775807) (hn : n ≤ 900) (hTb : Tab w0) (h : TwoL w0 w B M RB len L n L2 n2) : Calls Tryd.prog 43 #[.pointer (some ⟨B, 0, none⟩), .agg t.cells.toArray, .int .i64 now] w fun e w' => e = .returned (.int .i64 (Ln.checkE len L t now)) ∧ TwoL w0 w' B M RB len (Ln.take len L t now) (n + 1) L2 n2 ∧ KeepsR w w' :=
  (take16_any t ht now hnow h.own (by omega) (hTb.below h.low hTb.pos)).mono fun e w' ⟨h1, h2⟩ => ⟨h1, h.ownStep h2⟩
theorem ref_take16 (hRS : RefSum) (t : Tx) (ht : t.Ok) (now : Int) (hnow : now ≤ 9223372036854775807) (hn : n2 ≤ 900) (h : TwoL w0 w B M RB len L n L2 n2) : Calls Tryd.prog 66 #[.pointer (some ⟨RB, 0, none⟩), .agg t.cells.toArray, .int .i64 now] w fun e w' => e = .returned (.int .i64 (Ln.checkE len L2 t now)) ∧ TwoL w0 w' B M RB len L n (Ln.take len L2 t now) (n2 + 1) ∧ KeepsR w w' := by
  obtain ⟨v, hv⟩ := h.ref
  exact (rtake16_any hRS t ht now hnow hv hn).mono fun e w' ⟨h1, h2⟩ => ⟨h1, h.refStep hv h2⟩
theorem TwoL.mono {n' n2' : Nat} (h : TwoL w0 w B M RB len L n L2 n2) (h1 : n ≤ n') (h2 : n2 ≤ n2') : TwoL w0 w B M RB len L n' L2 n2' := by
  obtain ⟨v, hv⟩ := h.ref
  exact ⟨h.low, h.own.mono h1, ⟨v, hv.mono h2⟩, h.hi⟩
end
/-- what a call leaves -/
def Ln.stepE (len : Int) (L : List Ln.H) (a : Act16) : List Ln.H :=
  if a.kind = 0 then Ln.set L a.round a.a else if a.kind = 1 then Ln.give len L a.round a.a a.b a.now else if a.kind = 2 then L else Ln.take len L (Ln.txE len L a) a.now
set_option maxHeartbeats 3200000 in
theorem do16_any (hRS : RefSum) {w0 w : World} {B M RB n : Nat} {len : Int} {L : List Ln.H} (a : Act16) (ha : a.Fits) (h : TwoL w0 w B M RB len L n L n) (hn9 : n ≤ 890) (hTb : Tab w0) :
    Calls Tryd.prog 35 #[.pointer (some ⟨B, 0, none⟩), .pointer (some ⟨RB, 0, none⟩), .agg a.cells.toArray] w fun e w' => e = .returned (.bool true) ∧ TwoL w0 w' B M RB len (Ln.stepE len L a) (n + 1) (Ln.stepE len L a) (n + 1) ∧ KeepsR w w' := by
  have hb : Below w.heap.size w (w.alloc (.cells a.cells.toArray 76)) := (Below.refl _ _).alloc (Nat.le_refl _) _
  have hT := (h.below hb)
  have HKb := Lib.hid (KeepsR.below hb)
  have HR0 := Lib.hid (Row.new w 76 a.cells)
  have HCa : Hid (∀ (W : World) (g : Nat), Row W g 76 a.cells → W.cell? ⟨g, 1, none⟩ = some (.int .i64 a.round) ∧ W.cell? ⟨g, 2, none⟩ = some (.int .i64 a.a) ∧ W.cell? ⟨g, 3, none⟩ = some (.int .i64 a.b) ∧ W.cell? ⟨g, 4, none⟩ = some (.int .i64 a.now) ∧ W.cell? ⟨g, 0, none⟩ = some (.int .i64 a.kind)) := Lib.hid (fun W g h => ⟨by have := row_range h 1 (.int .i64 a.round) rfl; simpa using this, by have := row_range h 2 (.int .i64 a.a) rfl; simpa using this, by have := row_range h 3 (.int .i64 a.b) rfl; simpa using this, by have := row_range h 4 (.int .i64 a.now) rfl; simpa using this, by have := row_range h 0 (.int .i64 a.kind) rfl; simpa using this⟩)
  have hfr := ha.round
  have hfn := ha.now.2
  have htok : (Ln.txE len L a).Ok := Ln.txE_ok h.own.ok (by omega) h.own.len ha
  have HTx : Hid (∀ W, Below w.heap.size w W → Calls Tryd.prog 41 #[.pointer (some ⟨RB, 0, none⟩), .agg a.cells.toArray] W fun e w' => e = .returned (.agg (Ln.txE len L a).cells.toArray) ∧ Below W.heap.size W w') := Lib.hid (fun W hW => by
    obtain ⟨v, hv⟩ := (h.below hW).ref
    exact tx16_any hRS a ha hv (by omega))
  have OS : Hid (∀ W, TwoL w0 W B M RB len L n L n → Calls Tryd.prog 44 #[.pointer (some ⟨B, 0, none⟩), .int .i64 a.round, .int .i64 a.a] W fun e w' => e = .returned (.int .i64 (Ln.setE L a.round a.a)) ∧ TwoL w0 w' B M RB len (Ln.set L a.round a.a) (n + 1) L n ∧ KeepsR W w') := Lib.hid (fun W hW => own_set16 _ _ hfr (by omega) hW)
  have RS : Hid (∀ W L1 n1, TwoL w0 W B M RB len L1 n1 L n → Calls Tryd.prog 63 #[.pointer (some ⟨RB, 0, none⟩), .int .i64 a.round, .int .i64 a.a] W fun e w' => e = .returned (.int .i64 (Ln.setE L a.round a.a)) ∧ TwoL w0 w' B M RB len L1 n1 (Ln.set L a.round a.a) (n + 1) ∧ KeepsR W w') := Lib.hid (fun W L1 n1 hW => ref_set16 _ _ hfr (by omega) hW)
  have OG : Hid (∀ W, TwoL w0 W B M RB len L n L n → Calls Tryd.prog 45 #[.pointer (some ⟨B, 0, none⟩), .int .i64 a.round, .int .i64 a.a, .int .i64 a.b, .int .i64 a.now] W fun e w' => e = .returned (.int .i64 (Ln.giveE len L a.round a.a a.b a.now)) ∧ TwoL w0 w' B M RB len (Ln.give len L a.round a.a a.b a.now) (n + 1) L n ∧ KeepsR W w') := Lib.hid (fun W hW => own_give16 _ _ _ _ hfr (by omega) hfn hW)
  have RG : Hid (∀ W L1 n1, TwoL w0 W B M RB len L1 n1 L n → Calls Tryd.prog 64 #[.pointer (some ⟨RB, 0, none⟩), .int .i64 a.round, .int .i64 a.a, .int .i64 a.b, .int .i64 a.now] W fun e w' => e = .returned (.int .i64 (Ln.giveE len L a.round a.a a.b a.now)) ∧ TwoL w0 w' B M RB len L1 n1 (Ln.give len L a.round a.a a.b a.now) (n + 1) ∧ KeepsR W w') := Lib.hid (fun W L1 n1 hW => ref_give16 _ _ _ _ hfr (by omega) hfn hW)
  have OC : Hid (∀ W, TwoL w0 W B M RB len L n L n → Calls Tryd.prog 42 #[.pointer (some ⟨B, 0, none⟩), .agg (Ln.txE len L a).cells.toArray, .int .i64 a.now] W fun e w' => e = .returned (.int .i64 (Ln.checkE len L (Ln.txE len L a) a.now)) ∧ TwoL w0 w' B M RB len L n L n ∧ KeepsR W w') := Lib.hid (fun W hW => own_chk16 _ htok _ hfn hTb hW)
  have RC : Hid (∀ W, TwoL w0 W B M RB len L n L n → Calls Tryd.prog 65 #[.pointer (some ⟨RB, 0, none⟩), .agg (Ln.txE len L a).cells.toArray, .int .i64 a.now] W fun e w' => e = .returned (.int .i64 (Ln.checkE len L (Ln.txE len L a) a.now)) ∧ TwoL w0 w' B M RB len L n L n ∧ KeepsR W w') := Lib.hid (fun W hW => ref_chk16 hRS _ htok _ hfn (by omega) hW)
  have OT : Hid (∀ W, TwoL w0 W B M RB len L n L n → Calls Tryd.prog 43 #[.pointer (some ⟨B, 0, none⟩), .agg (Ln.txE len L a).cells.toArray, .int .i64 a.now] W fun e w' => e = .returned (.int .i64 (Ln.checkE len L (Ln.txE len L a) a.now)) ∧ TwoL w0 w' B M RB len (Ln.take len L (Ln.txE len L a) a.now) (n + 1) L n ∧ KeepsR W w') := Lib.hid (fun W hW => own_take16 _ htok _ hfn (by omega) hTb hW)
  have RT : Hid (∀ W L1 n1, TwoL w0 W B M RB len L1 n1 L n → Calls Tryd.prog 66 #[.pointer (some ⟨RB, 0, none⟩), .agg (Ln.txE len L a).cells.toArray, .int .i64 a.now] W fun e w' => e = .returned (.int .i64 (Ln.checkE len L (Ln.txE len L a) a.now)) ∧ TwoL w0 w' B M RB len L1 n1 (Ln.take len L (Ln.txE len L a) a.now) (n + 1) ∧ KeepsR W w') := Lib.hid (fun W L1 n1 hW => ref_take16 hRS _ htok _ hfn (by omega) hW)
  have HT72 := Lib.hid (Tx.cells_length htok)
  have HT1 := Lib.hid (Tx.cells_one htok)
  have HZ72 := Lib.hid (Tx.cells_length Tx.none_ok)
  have hzv : ∀ W : World, (zeroValue 74).run Tryd.prog W = .ok (.agg Tx.none.cells.toArray) W := tx_zv
  have HA79 := Lib.hid (Act16.cells_len ha)
  obtain ⟨E, hE⟩ : ∃ E, Ln.stepE len L a = E := ⟨_, rfl⟩
  rw [hE]
  have HE : Hid ((if a.kind = 0 then Ln.set L a.round a.a else if a.kind = 1 then Ln.give len L a.round a.a a.b a.now else if a.kind = 2 then L else Ln.take len L (Ln.txE len L a) a.now) = E) := Lib.hid hE
  have HB0 := Lib.hid hb
  clear hE h hb htok hfr hfn ha
  generalize Ln.setE L a.round a.a = R1 at *
  generalize Ln.set L a.round a.a = L1 at *
  generalize Ln.giveE len L a.round a.a a.b a.now = R2 at *
  generalize Ln.give len L a.round a.a a.b a.now = L2 at *
  generalize Ln.checkE len L (Ln.txE len L a) a.now = R3 at *
  generalize Ln.take len L (Ln.txE len L a) a.now = L3 at *
  generalize (Ln.txE len L a).cells = CT at *
  generalize Tx.none.cells = ZT at *
  generalize a.cells = C at *
  generalize a.round = ro at *
  generalize a.a = aa at *
  generalize a.b = ab at *
  generalize a.now = now at *
  generalize a.kind = kd at *
  have k0 := (HCa.out _ _ HR0.out).2.2.2.2
  have HT := Lib.hid hT
  clear hT
  by_cases h0 : kd = 0
  · subst h0
    have he : L1 = E := by have := HE.out; rw [if_pos rfl] at this; exact this
    subst he
    clear HE
    go_enter Tryd.func35, Tryd.ntmps35
    go_wp2_with fail
    clear k0
    have hT := HT.out.below (Below.refl _ _).drew
    refine wp_region_held_drew (S := fun w' => Row w' w.heap.size 76 C ∧ KeepsR (w.alloc (.cells C.toArray 76)) w') (by kernel_rfl) (⟨HR0.out, KeepsR.below (Below.refl _ _).drew⟩) (fun hHeld => ?_)
    generalize (w.alloc (.cells C.toArray 76)).drew = wq at *
    refine wpAnyH_take (i := 0) (v := .pointer (some ⟨B, 0, none⟩)) rfl (by kernel_rfl) (by kernel_rfl) (by kernel_rfl) (fun _ _ _ h => h) (Or.inl ⟨by rfl, fun w' hSw => by go_simp⟩) hHeld ?_
    try simp only [Act.put, List.getElem_toArray, List.getElem_cons_succ, List.getElem_cons_zero, List.setIfInBounds_toArray, List.set_cons_zero, List.set_cons_succ]
    refine wpAnyH_take (i := 1) (v := .pointer (some ⟨w.heap.size, 1, none⟩)) rfl (by kernel_rfl) (by kernel_rfl) (by kernel_rfl) (fun _ _ _ h => h) (Or.inl ⟨by rfl, fun w' hSw => by go_simp⟩) hHeld ?_
    try simp only [Act.put, List.getElem_toArray, List.getElem_cons_succ, List.getElem_cons_zero, List.setIfInBounds_toArray, List.set_cons_zero, List.set_cons_succ]
    refine wpAnyH_take (i := 2) (v := .int .i64 ro) rfl (by kernel_rfl) (by kernel_rfl) (by kernel_rfl) (fun _ _ _ h => h) (Or.inl ⟨by rfl, fun w' hSw => by have hq := hSw; have hd := (HCa.out _ _ hq.1).1; go_simp⟩) hHeld ?_
    try simp only [Act.put, List.getElem_toArray, List.getElem_cons_succ, List.getElem_cons_zero, List.setIfInBounds_toArray, List.set_cons_zero, List.set_cons_succ]
    refine wpAnyH_take (i := 3) (v := .pointer (some ⟨w.heap.size, 2, none⟩)) rfl (by kernel_rfl) (by kernel_rfl) (by kernel_rfl) (fun _ _ _ h => h) (Or.inl ⟨by rfl, fun w' hSw => by go_simp⟩) hHeld ?_
    try simp only [Act.put, List.getElem_toArray, List.getElem_cons_succ, List.getElem_cons_zero, List.setIfInBounds_toArray, List.set_cons_zero, List.set_cons_succ]
    refine wpAnyH_take (i := 4) (v := .int .i64 aa) rfl (by kernel_rfl) (by kernel_rfl) (by kernel_rfl) (fun _ _ _ h => h) (Or.inl ⟨by rfl, fun w' hSw => by have hq := hSw; have hd := (HCa.out _ _ hq.1).2.1; go_simp⟩) hHeld ?_
    try simp only [Act.put, List.getElem_toArray, List.getElem_cons_succ, List.getElem_cons_zero, List.setIfInBounds_toArray, List.set_cons_zero, List.set_cons_succ]
    refine wpAnyH_take (i := 6) (v := .pointer (some ⟨RB, 0, none⟩)) rfl (by kernel_rfl) (by kernel_rfl) (by kernel_rfl) (fun _ _ _ h => h) (Or.inl ⟨by rfl, fun w' hSw => by go_simp⟩) hHeld ?_
    try simp only [Act.put, List.getElem_toArray, List.getElem_cons_succ, List.getElem_cons_zero, List.setIfInBounds_toArray, List.set_cons_zero, List.set_cons_succ]
    refine wpAnyH_take (i := 7) (v := .pointer (some ⟨w.heap.size, 1, none⟩)) rfl (by kernel_rfl) (by kernel_rfl) (by kernel_rfl) (fun _ _ _ h => h) (Or.inl ⟨by rfl, fun w' hSw => by go_simp⟩) hHeld ?_
    try simp only [Act.put, List.getElem_toArray, List.getElem_cons_succ, List.getElem_cons_zero, List.setIfInBounds_toArray, List.set_cons_zero, List.set_cons_succ]
    refine wpAnyH_take (i := 8) (v := .int .i64 ro) rfl (by kernel_rfl) (by kernel_rfl) (by kernel_rfl) (fun _ _ _ h => h) (Or.inl ⟨by rfl, fun w' hSw => by have hq := hSw; have hd := (HCa.out _ _ hq.1).1; go_simp⟩) hHeld ?_
    try simp only [Act.put, List.getElem_toArray, List.getElem_cons_succ, List.getElem_cons_zero, List.setIfInBounds_toArray, List.set_cons_zero, List.set_cons_succ]
    refine wpAnyH_take (i := 9) (v := .pointer (some ⟨w.heap.size, 2, none⟩)) rfl (by kernel_rfl) (by kernel_rfl) (by kernel_rfl) (fun _ _ _ h => h) (Or.inl ⟨by rfl, fun w' hSw => by go_simp⟩) hHeld ?_
    try simp only [Act.put, List.getElem_toArray, List.getElem_cons_succ, List.getElem_cons_zero, List.setIfInBounds_toArray, List.set_cons_zero, List.set_cons_succ]
    refine wpAnyH_take (i := 10) (v := .int .i64 aa) rfl (by kernel_rfl) (by kernel_rfl) (by kernel_rfl) (fun _ _ _ h => h) (Or.inl ⟨by rfl, fun w' hSw => by have hq := hSw; have hd := (HCa.out _ _ hq.1).2.1; go_simp⟩) hHeld ?_
    try simp only [Act.put, List.getElem_toArray, List.getElem_cons_succ, List.getElem_cons_zero, List.setIfInBounds_toArray, List.set_cons_zero, List.set_cons_succ]
    refine wpAnyH_ready (rs := [5]) (by kernel_rfl) (by simp) (AllReadyH.cons rfl (fun K1 hK1 => ?_) AllReadyH.nil)
    try simp only [Act.put, List.getElem_toArray, List.getElem_cons_succ, List.getElem_cons_zero, List.setIfInBounds_toArray, List.set_cons_zero, List.set_cons_succ]
    go_simp
    refine Calls.mono (OS.out _ hT) ?_
    clear hT
    rintro e wc1 ⟨rfl, hT, hk2⟩
    refine hK1.out _ _ ⟨hk2 _ _ _ (by decide) (by decide) hHeld.1, hHeld.2.trans hk2⟩ (fun hHeld => ?_)
    clear hK1 K1
    try simp only [Act.put, List.getElem_toArray, List.getElem_cons_succ, List.getElem_cons_zero, List.setIfInBounds_toArray, List.set_cons_zero, List.set_cons_succ]
    refine wpAnyH_ready (rs := [11]) (by kernel_rfl) (by simp) (AllReadyH.cons rfl (fun K1 hK1 => ?_) AllReadyH.nil)
    try simp only [Act.put, List.getElem_toArray, List.getElem_cons_succ, List.getElem_cons_zero, List.setIfInBounds_toArray, List.set_cons_zero, List.set_cons_succ]
    go_simp
    refine Calls.mono (RS.out _ _ _ hT) ?_
    clear hT
    rintro e wc3 ⟨rfl, hT, hk4⟩
    refine hK1.out _ _ ⟨hk4 _ _ _ (by decide) (by decide) hHeld.1, hHeld.2.trans hk4⟩ (fun hHeld => ?_)
    clear hK1 K1
    try simp only [Act.put, List.getElem_toArray, List.getElem_cons_succ, List.getElem_cons_zero, List.setIfInBounds_toArray, List.set_cons_zero, List.set_cons_succ]
    refine wpAnyH_take (i := 12) (v := .bool true) rfl (by kernel_rfl) (by kernel_rfl) (by kernel_rfl) (fun _ _ _ h => h) (Or.inl ⟨by rfl, fun w' hSw => by go_simp⟩) hHeld ?_
    try simp only [Act.put, List.getElem_toArray, List.getElem_cons_succ, List.getElem_cons_zero, List.setIfInBounds_toArray, List.set_cons_zero, List.set_cons_succ]
    refine wpAnyH_take (i := 13) (v := .bool true) rfl (by kernel_rfl) (by kernel_rfl) (by kernel_rfl) (fun _ _ _ h => h) (Or.inl ⟨by rfl, fun w' hSw => by go_simp⟩) hHeld ?_
    try simp only [Act.put, List.getElem_toArray, List.getElem_cons_succ, List.getElem_cons_zero, List.setIfInBounds_toArray, List.set_cons_zero, List.set_cons_succ]
    refine wpAnyH_done (by kernel_rfl) ?_ _
    have hKq := hHeld.2
    clear hHeld
    have HTe := Lib.hid hT
    have HKe := Lib.hid (HKb.out.trans hKq)
    clear hT
    go_wp2_with fail
    go_ret
    exact ⟨rfl, HTe.out, HKe.out⟩
  have b0 : (kd == 0) = false := by simpa using h0
  by_cases h1 : kd = 1
  · subst h1
    have he : L2 = E := by have := HE.out; rw [if_neg (by decide), if_pos rfl] at this; exact this
    subst he
    clear HE h0
    go_enter Tryd.func35, Tryd.ntmps35
    go_wp2_with fail
    clear k0
    have hT := HT.out.below (Below.refl _ _).drew
    refine wp_region_held_drew (S := fun w' => Row w' w.heap.size 76 C ∧ KeepsR (w.alloc (.cells C.toArray 76)) w') (by kernel_rfl) (⟨HR0.out, KeepsR.below (Below.refl _ _).drew⟩) (fun hHeld => ?_)
    generalize (w.alloc (.cells C.toArray 76)).drew = wq at *
    refine wpAnyH_take (i := 0) (v := .pointer (some ⟨B, 0, none⟩)) rfl (by kernel_rfl) (by kernel_rfl) (by kernel_rfl) (fun _ _ _ h => h) (Or.inl ⟨by rfl, fun w' hSw => by go_simp⟩) hHeld ?_
    try simp only [Act.put, List.getElem_toArray, List.getElem_cons_succ, List.getElem_cons_zero, List.setIfInBounds_toArray, List.set_cons_zero, List.set_cons_succ]
    refine wpAnyH_take (i := 1) (v := .pointer (some ⟨w.heap.size, 1, none⟩)) rfl (by kernel_rfl) (by kernel_rfl) (by kernel_rfl) (fun _ _ _ h => h) (Or.inl ⟨by rfl, fun w' hSw => by go_simp⟩) hHeld ?_
    try simp only [Act.put, List.getElem_toArray, List.getElem_cons_succ, List.getElem_cons_zero, List.setIfInBounds_toArray, List.set_cons_zero, List.set_cons_succ]
    refine wpAnyH_take (i := 2) (v := .int .i64 ro) rfl (by kernel_rfl) (by kernel_rfl) (by kernel_rfl) (fun _ _ _ h => h) (Or.inl ⟨by rfl, fun w' hSw => by have hq := hSw; have hd := (HCa.out _ _ hq.1).1; go_simp⟩) hHeld ?_
    try simp only [Act.put, List.getElem_toArray, List.getElem_cons_succ, List.getElem_cons_zero, List.setIfInBounds_toArray, List.set_cons_zero, List.set_cons_succ]
    refine wpAnyH_take (i := 3) (v := .pointer (some ⟨w.heap.size, 2, none⟩)) rfl (by kernel_rfl) (by kernel_rfl) (by kernel_rfl) (fun _ _ _ h => h) (Or.inl ⟨by rfl, fun w' hSw => by go_simp⟩) hHeld ?_
    try simp only [Act.put, List.getElem_toArray, List.getElem_cons_succ, List.getElem_cons_zero, List.setIfInBounds_toArray, List.set_cons_zero, List.set_cons_succ]
    refine wpAnyH_take (i := 4) (v := .int .i64 aa) rfl (by kernel_rfl) (by kernel_rfl) (by kernel_rfl) (fun _ _ _ h => h) (Or.inl ⟨by rfl, fun w' hSw => by have hq := hSw; have hd := (HCa.out _ _ hq.1).2.1; go_simp⟩) hHeld ?_
    try simp only [Act.put, List.getElem_toArray, List.getElem_cons_succ, List.getElem_cons_zero, List.setIfInBounds_toArray, List.set_cons_zero, List.set_cons_succ]
    refine wpAnyH_take (i := 5) (v := .pointer (some ⟨w.heap.size, 3, none⟩)) rfl (by kernel_rfl) (by kernel_rfl) (by kernel_rfl) (fun _ _ _ h => h) (Or.inl ⟨by rfl, fun w' hSw => by go_simp⟩) hHeld ?_
    try simp only [Act.put, List.getElem_toArray, List.getElem_cons_succ, List.getElem_cons_zero, List.setIfInBounds_toArray, List.set_cons_zero, List.set_cons_succ]
    refine wpAnyH_take (i := 6) (v := .int .i64 ab) rfl (by kernel_rfl) (by kernel_rfl) (by kernel_rfl) (fun _ _ _ h => h) (Or.inl ⟨by rfl, fun w' hSw => by have hq := hSw; have hd := (HCa.out _ _ hq.1).2.2.1; go_simp⟩) hHeld ?_
    try simp only [Act.put, List.getElem_toArray, List.getElem_cons_succ, List.getElem_cons_zero, List.setIfInBounds_toArray, List.set_cons_zero, List.set_cons_succ]
    refine wpAnyH_take (i := 7) (v := .pointer (some ⟨w.heap.size, 4, none⟩)) rfl (by kernel_rfl) (by kernel_rfl) (by kernel_rfl) (fun _ _ _ h => h) (Or.inl ⟨by rfl, fun w' hSw => by go_simp⟩) hHeld ?_
    try simp only [Act.put, List.getElem_toArray, List.getElem_cons_succ, List.getElem_cons_zero, List.setIfInBounds_toArray, List.set_cons_zero, List.set_cons_succ]
    refine wpAnyH_take (i := 8) (v := .int .i64 now) rfl (by kernel_rfl) (by kernel_rfl) (by kernel_rfl) (fun _ _ _ h => h) (Or.inl ⟨by rfl, fun w' hSw => by have hq := hSw; have hd := (HCa.out _ _ hq.1).2.2.2.1; go_simp⟩) hHeld ?_
    try simp only [Act.put, List.getElem_toArray, List.getElem_cons_succ, List.getElem_cons_zero, List.setIfInBounds_toArray, List.set_cons_zero, List.set_cons_succ]
    refine wpAnyH_take (i := 10) (v := .pointer (some ⟨RB, 0, none⟩)) rfl (by kernel_rfl) (by kernel_rfl) (by kernel_rfl) (fun _ _ _ h => h) (Or.inl ⟨by rfl, fun w' hSw => by go_simp⟩) hHeld ?_
    try simp only [Act.put, List.getElem_toArray, List.getElem_cons_succ, List.getElem_cons_zero, List.setIfInBounds_toArray, List.set_cons_zero, List.set_cons_succ]
    refine wpAnyH_take (i := 11) (v := .pointer (some ⟨w.heap.size, 1, none⟩)) rfl (by kernel_rfl) (by kernel_rfl) (by kernel_rfl) (fun _ _ _ h => h) (Or.inl ⟨by rfl, fun w' hSw => by go_simp⟩) hHeld ?_
    try simp only [Act.put, List.getElem_toArray, List.getElem_cons_succ, List.getElem_cons_zero, List.setIfInBounds_toArray, List.set_cons_zero, List.set_cons_succ]
    refine wpAnyH_take (i := 12) (v := .int .i64 ro) rfl (by kernel_rfl) (by kernel_rfl) (by kernel_rfl) (fun _ _ _ h => h) (Or.inl ⟨by rfl, fun w' hSw => by have hq := hSw; have hd := (HCa.out _ _ hq.1).1; go_simp⟩) hHeld ?_
    try simp only [Act.put, List.getElem_toArray, List.getElem_cons_succ, List.getElem_cons_zero, List.setIfInBounds_toArray, List.set_cons_zero, List.set_cons_succ]
    refine wpAnyH_take (i := 13) (v := .pointer (some ⟨w.heap.size, 2, none⟩)) rfl (by kernel_rfl) (by kernel_rfl) (by kernel_rfl) (fun _ _ _ h => h) (Or.inl ⟨by rfl, fun w' hSw => by go_simp⟩) hHeld ?_
    try simp only [Act.put, List.getElem_toArray, List.getElem_cons_succ, List.getElem_cons_zero, List.setIfInBounds_toArray, List.set_cons_zero, List.set_cons_succ]
    refine wpAnyH_take (i := 14) (v := .int .i64 aa) rfl (by kernel_rfl) (by kernel_rfl) (by kernel_rfl) (fun _ _ _ h => h) (Or.inl ⟨by rfl, fun w' hSw => by have hq := hSw; have hd := (HCa.out _ _ hq.1).2.1; go_simp⟩) hHeld ?_
    try simp only [Act.put, List.getElem_toArray, List.getElem_cons_succ, List.getElem_cons_zero, List.setIfInBounds_toArray, List.set_cons_zero, List.set_cons_succ]
    refine wpAnyH_take (i := 15) (v := .pointer (some ⟨w.heap.size, 3, none⟩)) rfl (by kernel_rfl) (by kernel_rfl) (by kernel_rfl) (fun _ _ _ h => h) (Or.inl ⟨by rfl, fun w' hSw => by go_simp⟩) hHeld ?_
    try simp only [Act.put, List.getElem_toArray, List.getElem_cons_succ, List.getElem_cons_zero, List.setIfInBounds_toArray, List.set_cons_zero, List.set_cons_succ]
    refine wpAnyH_take (i := 16) (v := .int .i64 ab) rfl (by kernel_rfl) (by kernel_rfl) (by kernel_rfl) (fun _ _ _ h => h) (Or.inl ⟨by rfl, fun w' hSw => by have hq := hSw; have hd := (HCa.out _ _ hq.1).2.2.1; go_simp⟩) hHeld ?_
    try simp only [Act.put, List.getElem_toArray, List.getElem_cons_succ, List.getElem_cons_zero, List.setIfInBounds_toArray, List.set_cons_zero, List.set_cons_succ]
    refine wpAnyH_take (i := 17) (v := .pointer (some ⟨w.heap.size, 4, none⟩)) rfl (by kernel_rfl) (by kernel_rfl) (by kernel_rfl) (fun _ _ _ h => h) (Or.inl ⟨by rfl, fun w' hSw => by go_simp⟩) hHeld ?_
    try simp only [Act.put, List.getElem_toArray, List.getElem_cons_succ, List.getElem_cons_zero, List.setIfInBounds_toArray, List.set_cons_zero, List.set_cons_succ]
    refine wpAnyH_take (i := 18) (v := .int .i64 now) rfl (by kernel_rfl) (by kernel_rfl) (by kernel_rfl) (fun _ _ _ h => h) (Or.inl ⟨by rfl, fun w' hSw => by have hq := hSw; have hd := (HCa.out _ _ hq.1).2.2.2.1; go_simp⟩) hHeld ?_
    try simp only [Act.put, List.getElem_toArray, List.getElem_cons_succ, List.getElem_cons_zero, List.setIfInBounds_toArray, List.set_cons_zero, List.set_cons_succ]
    refine wpAnyH_ready (rs := [9]) (by kernel_rfl) (by simp) (AllReadyH.cons rfl (fun K1 hK1 => ?_) AllReadyH.nil)
    try simp only [Act.put, List.getElem_toArray, List.getElem_cons_succ, List.getElem_cons_zero, List.setIfInBounds_toArray, List.set_cons_zero, List.set_cons_succ]
    go_simp
    refine Calls.mono (OG.out _ hT) ?_
    clear hT
    rintro e wc1 ⟨rfl, hT, hk2⟩
    refine hK1.out _ _ ⟨hk2 _ _ _ (by decide) (by decide) hHeld.1, hHeld.2.trans hk2⟩ (fun hHeld => ?_)
    clear hK1 K1
    try simp only [Act.put, List.getElem_toArray, List.getElem_cons_succ, List.getElem_cons_zero, List.setIfInBounds_toArray, List.set_cons_zero, List.set_cons_succ]
    refine wpAnyH_ready (rs := [19]) (by kernel_rfl) (by simp) (AllReadyH.cons rfl (fun K1 hK1 => ?_) AllReadyH.nil)
    try simp only [Act.put, List.getElem_toArray, List.getElem_cons_succ, List.getElem_cons_zero, List.setIfInBounds_toArray, List.set_cons_zero, List.set_cons_succ]
    go_simp
    refine Calls.mono (RG.out _ _ _ hT) ?_
    clear hT
    rintro e wc3 ⟨rfl, hT, hk4⟩
    refine hK1.out _ _ ⟨hk4 _ _ _ (by decide) (by decide) hHeld.1, hHeld.2.trans hk4⟩ (fun hHeld => ?_)
    clear hK1 K1
    try simp only [Act.put, List.getElem_toArray, List.getElem_cons_succ, List.getElem_cons_zero, List.setIfInBounds_toArray, List.set_cons_zero, List.set_cons_succ]
    refine wpAnyH_take (i := 20) (v := .bool true) rfl (by kernel_rfl) (by kernel_rfl) (by kernel_rfl) (fun _ _ _ h => h) (Or.inl ⟨by rfl, fun w' hSw => by go_simp⟩) hHeld ?_
    try simp only [Act.put, List.getElem_toArray, List.getElem_cons_succ, List.getElem_cons_zero, List.setIfInBounds_toArray, List.set_cons_zero, List.set_cons_succ]
    refine wpAnyH_take (i := 21) (v := .bool true) rfl (by kernel_rfl) (by kernel_rfl) (by kernel_rfl) (fun _ _ _ h => h) (Or.inl ⟨by rfl, fun w' hSw => by go_simp⟩) hHeld ?_
    try simp only [Act.put, List.getElem_toArray, List.getElem_cons_succ, List.getElem_cons_zero, List.setIfInBounds_toArray, List.set_cons_zero, List.set_cons_succ]
    refine wpAnyH_done (by kernel_rfl) ?_ _
    have hKq := hHeld.2
    clear hHeld
    have HTe := Lib.hid hT
    have HKe := Lib.hid (HKb.out.trans hKq)
    clear hT
    go_wp2_with fail
    go_ret
    exact ⟨rfl, HTe.out, HKe.out⟩
  have b1 : (kd == 1) = false := by simpa using h1
  by_cases h2 : kd = 2
  · subst h2
    have he : L = E := by have := HE.out; rw [if_neg (by decide), if_neg (by decide), if_pos rfl] at this; exact this
    have HEq := Lib.hid he
    clear HE h0 h1 he
    go_enter Tryd.func35, Tryd.ntmps35
    go_wp2_with ((with_reducible show wpList _ _ _ (⟨_, .load 76 _, _, _, _, _⟩ :: _) _ _); refine wpList_load_tx rfl 76 (.tmp 5) rfl w.heap.size 0 rfl C _ (row_range HR0.out) Tryd.underlying76 rfl (by rw [act_info, HA79.out]) ?_)
    refine (HTx.out _ HB0.out).mono ?_
    rintro _ w3 ⟨rfl, hb3⟩
    have HT3 := Lib.hid (HT.out.below hb3)
    have HR3 := Lib.hid (HR0.out.below hb3)
    have HK3 := Lib.hid (HKb.out.trans (KeepsR.below hb3))
    have HN := Lib.hid (Row.new w3 74 ZT)
    have hne : w.heap.size ≠ w3.heap.size := by have := HR3.out.lt; omega
    have Hne := Lib.hid hne
    clear hb3 k0 hne
    go_wp2_with (with_reducible show wpList _ _ _ (⟨_, .store 74 _ _, _, _, _, _⟩ :: _) _ _
                 refine wpList_store_at rfl 74 (.tmp 7) (.tmp 53) rfl w3.heap.size 0 CT ZT _ rfl rfl HN.out (by have := HZ72.out; have := HT72.out; omega) (by rw [tx_info, HT72.out]) HT1.out ?_
                 intro w4 hr hg
                 rw [splice_all (HT72.out.trans HZ72.out.symm)] at hr
                 have hb4 := below_own ((Below.refl w3.heap.size w3).alloc (Nat.le_refl _) (.cells ZT.toArray 74)) hg (fun k hk => by cases hk; exact Nat.le_refl _)
                 have HT4 := Lib.hid (HT3.out.below hb4)
                 have HRa := Lib.hid (HR3.out.below hb4)
                 have HRt := Lib.hid hr
                 have HK4 := Lib.hid (HK3.out.trans (KeepsR.below hb4))
                 clear hr hg hb4)
    generalize w3.heap.size = g7 at *
    have hT := HT4.out.below (Below.refl _ _).drew
    refine wp_region_held_drew (S := fun w' => (Row w' w.heap.size 76 C ∧ Row w' g7 74 CT) ∧ KeepsR w4 w') (by kernel_rfl) (⟨⟨HRa.out, HRt.out⟩, KeepsR.below (Below.refl _ _).drew⟩) (fun hHeld => ?_)
    generalize w4.drew = wq at *
    refine wpAnyH_take (i := 0) (v := .pointer (some ⟨B, 0, none⟩)) rfl (by kernel_rfl) (by kernel_rfl) (by kernel_rfl) (fun _ _ _ h => h) (Or.inl ⟨by rfl, fun w' hSw => by go_simp⟩) hHeld ?_
    try simp only [Act.put, List.getElem_toArray, List.getElem_cons_succ, List.getElem_cons_zero, List.setIfInBounds_toArray, List.set_cons_zero, List.set_cons_succ]
    refine' wpAnyH_take (i := 1) (v := _) rfl (by kernel_rfl) (by kernel_rfl) (by kernel_rfl) (fun _ _ _ h => h) (yieldsIf_load_mid (by rfl) _ _ rfl g7 0 rfl CT _ (fun w' hSw => row_range hSw.1.2) Tryd.underlying74 rfl (by rw [tx_info, HT72.out])) hHeld ?_
    try simp only [Act.put, List.getElem_toArray, List.getElem_cons_succ, List.getElem_cons_zero, List.setIfInBounds_toArray, List.set_cons_zero, List.set_cons_succ]
    refine wpAnyH_take (i := 2) (v := .pointer (some ⟨w.heap.size, 4, none⟩)) rfl (by kernel_rfl) (by kernel_rfl) (by kernel_rfl) (fun _ _ _ h => h) (Or.inl ⟨by rfl, fun w' hSw => by go_simp⟩) hHeld ?_
    try simp only [Act.put, List.getElem_toArray, List.getElem_cons_succ, List.getElem_cons_zero, List.setIfInBounds_toArray, List.set_cons_zero, List.set_cons_succ]
    refine wpAnyH_take (i := 3) (v := .int .i64 now) rfl (by kernel_rfl) (by kernel_rfl) (by kernel_rfl) (fun _ _ _ h => h) (Or.inl ⟨by rfl, fun w' hSw => by have hq := hSw; have hd := (HCa.out _ _ hq.1.1).2.2.2.1; go_simp⟩) hHeld ?_
    try simp only [Act.put, List.getElem_toArray, List.getElem_cons_succ, List.getElem_cons_zero, List.setIfInBounds_toArray, List.set_cons_zero, List.set_cons_succ]
    refine wpAnyH_take (i := 5) (v := .pointer (some ⟨RB, 0, none⟩)) rfl (by kernel_rfl) (by kernel_rfl) (by kernel_rfl) (fun _ _ _ h => h) (Or.inl ⟨by rfl, fun w' hSw => by go_simp⟩) hHeld ?_
    try simp only [Act.put, List.getElem_toArray, List.getElem_cons_succ, List.getElem_cons_zero, List.setIfInBounds_toArray, List.set_cons_zero, List.set_cons_succ]
    refine' wpAnyH_take (i := 6) (v := _) rfl (by kernel_rfl) (by kernel_rfl) (by kernel_rfl) (fun _ _ _ h => h) (yieldsIf_load_mid (by rfl) _ _ rfl g7 0 rfl CT _ (fun w' hSw => row_range hSw.1.2) Tryd.underlying74 rfl (by rw [tx_info, HT72.out])) hHeld ?_
    try simp only [Act.put, List.getElem_toArray, List.getElem_cons_succ, List.getElem_cons_zero, List.setIfInBounds_toArray, List.set_cons_zero, List.set_cons_succ]
    refine wpAnyH_take (i := 7) (v := .pointer (some ⟨w.heap.size, 4, none⟩)) rfl (by kernel_rfl) (by kernel_rfl) (by kernel_rfl) (fun _ _ _ h => h) (Or.inl ⟨by rfl, fun w' hSw => by go_simp⟩) hHeld ?_
    try simp only [Act.put, List.getElem_toArray, List.getElem_cons_succ, List.getElem_cons_zero, List.setIfInBounds_toArray, List.set_cons_zero, List.set_cons_succ]
    refine wpAnyH_take (i := 8) (v := .int .i64 now) rfl (by kernel_rfl) (by kernel_rfl) (by kernel_rfl) (fun _ _ _ h => h) (Or.inl ⟨by rfl, fun w' hSw => by have hq := hSw; have hd := (HCa.out _ _ hq.1.1).2.2.2.1; go_simp⟩) hHeld ?_
    try simp only [Act.put, List.getElem_toArray, List.getElem_cons_succ, List.getElem_cons_zero, List.setIfInBounds_toArray, List.set_cons_zero, List.set_cons_succ]
    refine wpAnyH_ready (rs := [4]) (by kernel_rfl) (by simp) (AllReadyH.cons rfl (fun K1 hK1 => ?_) AllReadyH.nil)
    try simp only [Act.put, List.getElem_toArray, List.getElem_cons_succ, List.getElem_cons_zero, List.setIfInBounds_toArray, List.set_cons_zero, List.set_cons_succ]
    go_simp
    refine Calls.mono (OC.out _ hT) ?_
    clear hT
    rintro e wc1 ⟨rfl, hT, hk2⟩
    refine hK1.out _ _ ⟨⟨hk2 _ _ _ (by decide) (by decide) hHeld.1.1, hk2 _ _ _ (by decide) (by decide) hHeld.1.2⟩, hHeld.2.trans hk2⟩ (fun hHeld => ?_)
    clear hK1 K1
    try simp only [Act.put, List.getElem_toArray, List.getElem_cons_succ, List.getElem_cons_zero, List.setIfInBounds_toArray, List.set_cons_zero, List.set_cons_succ]
    refine wpAnyH_ready (rs := [9]) (by kernel_rfl) (by simp) (AllReadyH.cons rfl (fun K1 hK1 => ?_) AllReadyH.nil)
    try simp only [Act.put, List.getElem_toArray, List.getElem_cons_succ, List.getElem_cons_zero, List.setIfInBounds_toArray, List.set_cons_zero, List.set_cons_succ]
    go_simp
    refine Calls.mono (RC.out _ hT) ?_
    clear hT
    rintro e wc3 ⟨rfl, hT, hk4⟩
    refine hK1.out _ _ ⟨⟨hk4 _ _ _ (by decide) (by decide) hHeld.1.1, hk4 _ _ _ (by decide) (by decide) hHeld.1.2⟩, hHeld.2.trans hk4⟩ (fun hHeld => ?_)
    clear hK1 K1
    try simp only [Act.put, List.getElem_toArray, List.getElem_cons_succ, List.getElem_cons_zero, List.setIfInBounds_toArray, List.set_cons_zero, List.set_cons_succ]
    refine wpAnyH_take (i := 10) (v := .bool true) rfl (by kernel_rfl) (by kernel_rfl) (by kernel_rfl) (fun _ _ _ h => h) (Or.inl ⟨by rfl, fun w' hSw => by go_simp⟩) hHeld ?_
    try simp only [Act.put, List.getElem_toArray, List.getElem_cons_succ, List.getElem_cons_zero, List.setIfInBounds_toArray, List.set_cons_zero, List.set_cons_succ]
    refine wpAnyH_take (i := 11) (v := .bool true) rfl (by kernel_rfl) (by kernel_rfl) (by kernel_rfl) (fun _ _ _ h => h) (Or.inl ⟨by rfl, fun w' hSw => by go_simp⟩) hHeld ?_
    try simp only [Act.put, List.getElem_toArray, List.getElem_cons_succ, List.getElem_cons_zero, List.setIfInBounds_toArray, List.set_cons_zero, List.set_cons_succ]
    refine wpAnyH_done (by kernel_rfl) ?_ _
    have hKq := hHeld.2
    clear hHeld
    have HTe := Lib.hid (hT.mono (Nat.le_succ n) (Nat.le_succ n))
    have HKe := Lib.hid (HK4.out.trans hKq)
    clear hT
    go_wp2_with fail
    go_ret
    exact ⟨rfl, by rw [← HEq.out]; exact HTe.out, HKe.out⟩
  · have b2 : (kd == 2) = false := by simpa using h2
    have he : L3 = E := by have := HE.out; rw [if_neg h0, if_neg h1, if_neg h2] at this; exact this
    subst he
    clear HE h0 h1 h2
    go_enter Tryd.func35, Tryd.ntmps35
    go_wp2_with ((with_reducible show wpList _ _ _ (⟨_, .load 76 _, _, _, _, _⟩ :: _) _ _); refine wpList_load_tx rfl 76 (.tmp 5) rfl w.heap.size 0 rfl C _ (row_range HR0.out) Tryd.underlying76 rfl (by rw [act_info, HA79.out]) ?_)
    refine (HTx.out _ HB0.out).mono ?_
    rintro _ w3 ⟨rfl, hb3⟩
    have HT3 := Lib.hid (HT.out.below hb3)
    have HR3 := Lib.hid (HR0.out.below hb3)
    have HK3 := Lib.hid (HKb.out.trans (KeepsR.below hb3))
    have HN := Lib.hid (Row.new w3 74 ZT)
    have hne : w.heap.size ≠ w3.heap.size := by have := HR3.out.lt; omega
    have Hne := Lib.hid hne
    clear hb3 k0 hne
    go_wp2_with (with_reducible show wpList _ _ _ (⟨_, .store 74 _ _, _, _, _, _⟩ :: _) _ _
                 refine wpList_store_at rfl 74 (.tmp 8) (.tmp 67) rfl w3.heap.size 0 CT ZT _ rfl rfl HN.out (by have := HZ72.out; have := HT72.out; omega) (by rw [tx_info, HT72.out]) HT1.out ?_
                 intro w4 hr hg
                 rw [splice_all (HT72.out.trans HZ72.out.symm)] at hr
                 have hb4 := below_own ((Below.refl w3.heap.size w3).alloc (Nat.le_refl _) (.cells ZT.toArray 74)) hg (fun k hk => by cases hk; exact Nat.le_refl _)
                 have HT4 := Lib.hid (HT3.out.below hb4)
                 have HRa := Lib.hid (HR3.out.below hb4)
                 have HRt := Lib.hid hr
                 have HK4 := Lib.hid (HK3.out.trans (KeepsR.below hb4))
                 clear hr hg hb4)
    generalize w3.heap.size = g7 at *
    have hT := HT4.out.below (Below.refl _ _).drew
    refine wp_region_held_drew (S := fun w' => (Row w' w.heap.size 76 C ∧ Row w' g7 74 CT) ∧ KeepsR w4 w') (by kernel_rfl) (⟨⟨HRa.out, HRt.out⟩, KeepsR.below (Below.refl _ _).drew⟩) (fun hHeld => ?_)
    generalize w4.drew = wq at *
    refine wpAnyH_take (i := 0) (v := .pointer (some ⟨B, 0, none⟩)) rfl (by kernel_rfl) (by kernel_rfl) (by kernel_rfl) (fun _ _ _ h => h) (Or.inl ⟨by rfl, fun w' hSw => by go_simp⟩) hHeld ?_
    try simp only [Act.put, List.getElem_toArray, List.getElem_cons_succ, List.getElem_cons_zero, List.setIfInBounds_toArray, List.set_cons_zero, List.set_cons_succ]
    refine' wpAnyH_take (i := 1) (v := _) rfl (by kernel_rfl) (by kernel_rfl) (by kernel_rfl) (fun _ _ _ h => h) (yieldsIf_load_mid (by rfl) _ _ rfl g7 0 rfl CT _ (fun w' hSw => row_range hSw.1.2) Tryd.underlying74 rfl (by rw [tx_info, HT72.out])) hHeld ?_
    try simp only [Act.put, List.getElem_toArray, List.getElem_cons_succ, List.getElem_cons_zero, List.setIfInBounds_toArray, List.set_cons_zero, List.set_cons_succ]
    refine wpAnyH_take (i := 2) (v := .pointer (some ⟨w.heap.size, 4, none⟩)) rfl (by kernel_rfl) (by kernel_rfl) (by kernel_rfl) (fun _ _ _ h => h) (Or.inl ⟨by rfl, fun w' hSw => by go_simp⟩) hHeld ?_
    try simp only [Act.put, List.getElem_toArray, List.getElem_cons_succ, List.getElem_cons_zero, List.setIfInBounds_toArray, List.set_cons_zero, List.set_cons_succ]
    refine wpAnyH_take (i := 3) (v := .int .i64 now) rfl (by kernel_rfl) (by kernel_rfl) (by kernel_rfl) (fun _ _ _ h => h) (Or.inl ⟨by rfl, fun w' hSw => by have hq := hSw; have hd := (HCa.out _ _ hq.1.1).2.2.2.1; go_simp⟩) hHeld ?_
    try simp only [Act.put, List.getElem_toArray, List.getElem_cons_succ, List.getElem_cons_zero, List.setIfInBounds_toArray, List.set_cons_zero, List.set_cons_succ]
    refine wpAnyH_take (i := 5) (v := .pointer (some ⟨RB, 0, none⟩)) rfl (by kernel_rfl) (by kernel_rfl) (by kernel_rfl) (fun _ _ _ h => h) (Or.inl ⟨by rfl, fun w' hSw => by go_simp⟩) hHeld ?_
    try simp only [Act.put, List.getElem_toArray, List.getElem_cons_succ, List.getElem_cons_zero, List.setIfInBounds_toArray, List.set_cons_zero, List.set_cons_succ]
    refine' wpAnyH_take (i := 6) (v := _) rfl (by kernel_rfl) (by kernel_rfl) (by kernel_rfl) (fun _ _ _ h => h) (yieldsIf_load_mid (by rfl) _ _ rfl g7 0 rfl CT _ (fun w' hSw => row_range hSw.1.2) Tryd.underlying74 rfl (by rw [tx_info, HT72.out])) hHeld ?_
    try simp only [Act.put, List.getElem_toArray, List.getElem_cons_succ, List.getElem_cons_zero, List.setIfInBounds_toArray, List.set_cons_zero, List.set_cons_succ]
    refine wpAnyH_take (i := 7) (v := .pointer (some ⟨w.heap.size, 4, none⟩)) rfl (by kernel_rfl) (by kernel_rfl) (by kernel_rfl) (fun _ _ _ h => h) (Or.inl ⟨by rfl, fun w' hSw => by go_simp⟩) hHeld ?_
    try simp only [Act.put, List.getElem_toArray, List.getElem_cons_succ, List.getElem_cons_zero, List.setIfInBounds_toArray, List.set_cons_zero, List.set_cons_succ]
    refine wpAnyH_take (i := 8) (v := .int .i64 now) rfl (by kernel_rfl) (by kernel_rfl) (by kernel_rfl) (fun _ _ _ h => h) (Or.inl ⟨by rfl, fun w' hSw => by have hq := hSw; have hd := (HCa.out _ _ hq.1.1).2.2.2.1; go_simp⟩) hHeld ?_
    try simp only [Act.put, List.getElem_toArray, List.getElem_cons_succ, List.getElem_cons_zero, List.setIfInBounds_toArray, List.set_cons_zero, List.set_cons_succ]
    refine wpAnyH_ready (rs := [4]) (by kernel_rfl) (by simp) (AllReadyH.cons rfl (fun K1 hK1 => ?_) AllReadyH.nil)
    try simp only [Act.put, List.getElem_toArray, List.getElem_cons_succ, List.getElem_cons_zero, List.setIfInBounds_toArray, List.set_cons_zero, List.set_cons_succ]
    go_simp
    refine Calls.mono (OT.out _ hT) ?_
    clear hT
    rintro e wc1 ⟨rfl, hT, hk2⟩
    refine hK1.out _ _ ⟨⟨hk2 _ _ _ (by decide) (by decide) hHeld.1.1, hk2 _ _ _ (by decide) (by decide) hHeld.1.2⟩, hHeld.2.trans hk2⟩ (fun hHeld => ?_)
    clear hK1 K1
    try simp only [Act.put, List.getElem_toArray, List.getElem_cons_succ, List.getElem_cons_zero, List.setIfInBounds_toArray, List.set_cons_zero, List.set_cons_succ]
    refine wpAnyH_ready (rs := [9]) (by kernel_rfl) (by simp) (AllReadyH.cons rfl (fun K1 hK1 => ?_) AllReadyH.nil)
    try simp only [Act.put, List.getElem_toArray, List.getElem_cons_succ, List.getElem_cons_zero, List.setIfInBounds_toArray, List.set_cons_zero, List.set_cons_succ]
    go_simp
    refine Calls.mono (RT.out _ _ _ hT) ?_
    clear hT
    rintro e wc3 ⟨rfl, hT, hk4⟩
    refine hK1.out _ _ ⟨⟨hk4 _ _ _ (by decide) (by decide) hHeld.1.1, hk4 _ _ _ (by decide) (by decide) hHeld.1.2⟩, hHeld.2.trans hk4⟩ (fun hHeld => ?_)
    clear hK1 K1
    try simp only [Act.put, List.getElem_toArray, List.getElem_cons_succ, List.getElem_cons_zero, List.setIfInBounds_toArray, List.set_cons_zero, List.set_cons_succ]
    refine wpAnyH_take (i := 10) (v := .bool true) rfl (by kernel_rfl) (by kernel_rfl) (by kernel_rfl) (fun _ _ _ h => h) (Or.inl ⟨by rfl, fun w' hSw => by go_simp⟩) hHeld ?_
    try simp only [Act.put, List.getElem_toArray, List.getElem_cons_succ, List.getElem_cons_zero, List.setIfInBounds_toArray, List.set_cons_zero, List.set_cons_succ]
    refine wpAnyH_take (i := 11) (v := .bool true) rfl (by kernel_rfl) (by kernel_rfl) (by kernel_rfl) (fun _ _ _ h => h) (Or.inl ⟨by rfl, fun w' hSw => by go_simp⟩) hHeld ?_
    try simp only [Act.put, List.getElem_toArray, List.getElem_cons_succ, List.getElem_cons_zero, List.setIfInBounds_toArray, List.set_cons_zero, List.set_cons_succ]
    refine wpAnyH_done (by kernel_rfl) ?_ _
    have hKq := hHeld.2
    clear hHeld
    have HTe := Lib.hid hT
    have HKe := Lib.hid (HK4.out.trans hKq)
    clear hT
    go_wp2_with fail
    go_ret
    exact ⟨rfl, HTe.out, HKe.out⟩
end Go.Proofs.YtlapmdgkcidhnaaDoor
