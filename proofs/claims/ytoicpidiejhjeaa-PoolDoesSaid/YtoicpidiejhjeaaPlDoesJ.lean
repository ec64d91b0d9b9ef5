/- Numbers that come in. -/
/- the law PoolDoes. -/
import Derived.Test.YtoicpidiejhjeaaPlOpen
import Derived.Test.YtoicpidiejhjeaaPlDuoJ
import Derived.Deep.CutBlock
import Derived.Deep.CutRange
namespace Go.Proofs.Ytoicpidiejhjeaa
open Go.ChangeShapes Go.WideShapes Go.ChangeAt Go.RowKit Go.Joins Go.Deep
set_option linter.unusedVariables false
set_option linter.unusedSimpArgs false
set_option maxRecDepth 100000

/-- a []int that came in -/
def IntsV (w : World) (v : Value) (ks : List Int) : Prop := ∃ A c, v = .slice A ks.length c ∧ (ks ≠ [] → ∃ b off, A = some ⟨b, off, none⟩ ∧ b < w.heap.size ∧ ∀ i (h : i < ks.length), w.cell? ⟨b, off + i, none⟩ = some (.int .i64 ks[i]))
section
variable {H : Type} {enc : TypeId × Value → H} {fuel : Nat}
theorem cellsI18 : Try.prog.cellsOf 3 = 1 := by kernel_rfl
theorem keep_cells18 {W : World} {A : Option Addr} {n cap : Nat} {x : DataW H × List MemPlace} (h : DataW.trod enc Try.prog W 0 (fun _ => true) true fuel 23 [.slice A n cap] = some x) :
    ∃ ks : List Int, ks.length = n ∧ IntsV W (.slice A n cap) ks := by
  rcases open_slice Try.underlying23 h with ⟨hcs, hx⟩ | ⟨a, len, cap', m, n', D, Pl, hcs, _, hlc, hcm, hm, hx, hi⟩
  · have hcs' : Value.slice A n cap = .slice none 0 0 := by injection hcs
    injection hcs' with e1 e2 e3
    subst e1 e2 e3
    exact ⟨[], rfl, none, 0, rfl, fun hne => absurd rfl hne⟩
  · have hcs' : Value.slice A n cap = .slice (some a) len cap' := by injection hcs
    injection hcs' with e1 e2 e3
    subst e1 e2 e3
    rw [if_pos rfl] at hm
    subst hm
    have hel : ∀ i, i < m → ∃ k : Int, W.cell? (a.add (i * 1)) = some (.int .i64 k) := by
      intro i him
      obtain ⟨cs', hc, ht⟩ := hi i him
      rw [cellsI18] at hc
      obtain ⟨_, hcl, hat⟩ := World.cells?_some hc
      obtain ⟨n0, e0, _, _⟩ := DataW.trod_int Try.underlying3 ht
      subst e0
      have q0 := hat 0 (by omega)
      have ez : (a.add (i * 1)).add 0 = a.add (i * 1) := by simp [Addr.add]
      rw [ez] at q0
      exact ⟨n0, q0⟩
    have hch : ∃ f : Nat → Int, ∀ i, i < m → W.cell? (a.add (i * 1)) = some (.int .i64 (f i)) := by
      refine ⟨fun i => if h : i < m then (hel i h).choose else 0, fun i h => ?_⟩
      simp only [dif_pos h]
      exact (hel i h).choose_spec
    obtain ⟨f, hfi⟩ := hch
    refine ⟨(List.range n).map f, by simp, some a, m, by simp, fun hne => ?_⟩
    have hpos : 0 < n := by
      rcases Nat.eq_zero_or_pos n with h0 | h0
      · subst h0; simp at hne
      · exact h0
    have hc0 := hfi 0 (by omega)
    have ez : a.add (0 * 1) = a := by simp [Addr.add]
    rw [ez] at hc0
    have hsp := World.cell?_spot hc0
    have hblt := World.block_lt_of_cell? W a hc0
    obtain ⟨b, off, sp⟩ := a
    subst hsp
    have hadd : ∀ k i, (⟨b, k, none⟩ : Addr).add i = ⟨b, k + i, none⟩ := fun k i => by unfold Addr.add; split <;> simp_all
    refine ⟨b, off, rfl, hblt, fun i hil => ?_⟩
    have hil' : i < n := by simpa using hil
    have := hfi i (by omega)
    simp only [hadd, Nat.mul_one] at this
    simpa using this
end
section
variable {H : Type} {enc : TypeId × Value → H} {W : World} {r : Reach} {b0 : Nat} {v : Value} {d : DataW H} {ps : List MemPlace}
theorem open_ints18 (hv : Value.okWide Try.prog W r b0 23 v) (h : DataW.Trod enc Try.prog W 0 (fun _ => true) true 23 v d ps) : ∃ (A : Option Addr) (c : Nat) (ks : List Int), v = .slice A ks.length c ∧ (ks ≠ [] → ∃ b off, A = some ⟨b, off, none⟩ ∧ b < W.heap.size ∧ ∀ i (h : i < ks.length), W.cell? ⟨b, off + i, none⟩ = some (.int .i64 ks[i])) := by
  obtain ⟨A, n, cap, rfl⟩ := okWide_slice Try.underlying23 hv
  obtain ⟨fuel, hf⟩ := h
  obtain ⟨ks, _, A2, c2, e, hK⟩ := keep_cells18 (by simpa [Value.cells] using hf)
  exact ⟨A2, c2, ks, e, hK⟩
end
end Go.Proofs.Ytoicpidiejhjeaa
namespace Go.Proofs.Ytoicpidiejhjeaa
open Go.RowKit
set_option linter.unusedVariables false
set_option linter.unusedSimpArgs false
set_option maxRecDepth 100000

theorem act18_info : (Try.prog.info? 40).map (·.size) = some 78 := by kernel_rfl
def Act18.none : Act18 := ⟨0, 0, Wt.none⟩
theorem act18_zv (w : World) : (zeroValue 40).run Try.prog w = .ok (.agg Act18.none.cells.toArray) w := by kernel_rfl
theorem Act18.none_len : Act18.none.cells.length = 78 := by kernel_rfl
theorem Act18.cells_eq (x : Act18) : x.cells = .int .i64 x.kind :: .int .i64 x.n :: x.w.cells := by unfold Act18.cells; simp
theorem Act18.cells_one {x : Act18} (h : x.Fits) : ∀ v ∈ x.cells, v.oneCell' = true := by
  intro v hv
  rw [Act18.cells_eq] at hv
  rcases List.mem_cons.1 hv with rfl | hv
  · rfl
  rcases List.mem_cons.1 hv with rfl | hv
  · rfl
  exact Wt.cells_one h.w v hv
theorem act18_row (x : Act18) (W : World) (g : Nat) (h : Row W g 40 x.cells) : W.cell? ⟨g, 0, none⟩ = some (.int .i64 x.kind) ∧ W.cell? ⟨g, 1, none⟩ = some (.int .i64 x.n) ∧ W.rangeAt g 2 x.w.cells := by
  rw [Act18.cells_eq] at h
  refine ⟨by have := h.cell 0 (by simp); simpa using this, by have := h.cell 1 (by simp); simpa using this, fun j v hv => ?_⟩
  have := row_range h (j + 2) v (by simpa using hv)
  rwa [Nat.zero_add, Nat.add_comm] at this
theorem Pl.putG_ok (size : Nat) {l : List Wt} (hl : ∀ y ∈ l, y.Ok) (x : Wt) : (Pl.putG size l x).Ok := by
  unfold Pl.putG
  split
  · unfold Pl.g
    by_cases h : Pl.poor l l.length < l.length
    · rw [List.getD_eq_getElem?_getD, List.getElem?_eq_getElem h]
      exact hl _ (List.getElem_mem h)
    · rw [List.getD_eq_getElem?_getD, List.getElem?_eq_none (by omega)]
      exact Wt.none_ok
  · exact Wt.none_ok
theorem DuE.wok {w W : World} {base B rbase RB size : Nat} {L L2 : List Wt} {rows : Rows18} (h : DuE w W base B rbase RB size L L2 rows) : ∀ y ∈ L, y.Ok := by obtain ⟨v, rv, h⟩ := h; exact h.pat.wok
theorem DuE.may {w W : World} {base B rbase RB size : Nat} {L L2 : List Wt} {rows : Rows18} (h : DuE w W base B rbase RB size L L2 rows) : ∀ y ∈ L, y.Ok ∧ Pl.May y := by obtain ⟨v, rv, h⟩ := h; exact h.pat.ok.may
theorem DuE.new {w W W' : World} {base B rbase RB size : Nat} {L L2 : List Wt} {rows : Rows18} {T : TypeId} {C : List Value} (h : DuE w W base B rbase RB size L L2 rows) (hb : Below W.heap.size W W') (hr : Row W' W.heap.size T C) : DuE w W' base B rbase RB size L L2 ((W.heap.size, T, C) :: rows) := by
  obtain ⟨v, rv, h⟩ := h
  have h2 := h.below hb
  refine ⟨v, rv, h2.low, h2.hb, h2.hrb, h2.pat, h2.ref, fun x hx => ?_, fun x hx => ?_, h2.ap⟩
  · rcases List.mem_cons.1 hx with rfl | hx
    · exact hr
    · exact h2.row x hx
  · rcases List.mem_cons.1 hx with rfl | hx
    · exact ⟨fun hk => by have := (h.pat.lt _ hk).2; simp only at this; omega, fun hk => by have := (h.ref.lt _ hk).2; simp only at this; omega, h.low.size⟩
    · exact h2.sep x hx
theorem du_start {w w1 w2 : World} {size : Nat} (hs : 0 < size ∧ size ≤ 256) (h : PAt OT w1 w.heap.size w.heap.size (.slice none 0 0) size []) (hb : Below w.heap.size w w1) (hb2 : Below w1.heap.size w1 w2) :
    DuE w (w2.alloc (.cells [Value.int .i64 size, .slice none 0 0].toArray 32)) w.heap.size w.heap.size w2.heap.size w2.heap.size size [] [] [] := by
  have hb3 := (Below.refl w2.heap.size w2).alloc (Nat.le_refl _) (.cells [Value.int .i64 size, .slice none 0 0].toArray 32)
  refine ⟨_, .slice none 0 0, two_below' (two_below' hb hb2) hb3, Nat.le_refl _, (two_below' hb hb2).size, (h.below hb2).below hb3, ⟨Row.new _ _ _, OwnL.nil _ _ _ _ _, Pl.Ok.nil _, hs, Nat.le_refl _⟩, by simp, by simp, ?_⟩
  rintro k hk (rfl | hk2)
  · have := ((h.below hb2).lt _ hk).2; omega
  · cases hk2
theorem poolDoes_no (size : Int) (hd : size < 1 ∨ 256 < size) (v1 v2 : Value) (w : World) :
    Calls Try.prog 3 #[.int .i64 size, v1, v2] w fun e w' => e = .returned (.bool true) ∧ Below w.heap.size w w' := by
  have AW := Lib.hid awake18_any
  have N1 := Lib.hid (poolNew_no size hd w)
  have key : ∀ (Q : Prop), ((size < 1 → Q) ∧ (¬ size < 1 → 256 < size → Q)) → Q := fun Q h => by
    by_cases q : size < 1
    · exact h.1 q
    · exact h.2 q (by omega)
  clear hd
  refine key _ ⟨fun q => ?_, fun q q2 => ?_⟩
  · have d1 : decide (size < 1) = true := decide_eq_true q
    clear q key
    go_enter Try.func3, Try.ntmps3
    go_wp2_with fail
    refine N1.out.mono ?_
    rintro _ w1 ⟨rfl, rfl⟩
    go_wp2_with fail
    refine (AW.out _).mono ?_
    rintro _ w3 ⟨rfl, hb3⟩
    have HB3 := Lib.hid hb3
    clear hb3
    go_wp2_with fail
    go_ret
    exact ⟨rfl, HB3.out⟩
  · have d1 : decide (size < 1) = false := decide_eq_false q
    have d2 : decide (256 < size) = true := decide_eq_true q2
    have d2' : decide (size > 256) = true := decide_eq_true q2
    clear q q2 key
    go_enter Try.func3, Try.ntmps3
    go_wp2_with fail
    refine N1.out.mono ?_
    rintro _ w1 ⟨rfl, rfl⟩
    go_wp2_with fail
    refine (AW.out _).mono ?_
    rintro _ w3 ⟨rfl, hb3⟩
    have HB3 := Lib.hid hb3
    clear hb3
    go_wp2_with fail
    go_ret
    exact ⟨rfl, HB3.out⟩
set_option maxHeartbeats 25600000 in
theorem poolDoes_any (size0 : Int) (l : List Act18) (A : Option Addr) (c : Nat) (zs : List Int) (Az : Option Addr) (cz : Nat) (w : World) (hin : Act18sAt w w.heap.size A l)
    (hz : zs ≠ [] → ∃ b off, Az = some ⟨b, off, none⟩ ∧ b < w.heap.size ∧ ∀ i (h : i < zs.length), w.cell? ⟨b, off + i, none⟩ = some (.int .i64 zs[i])) :
    Calls Try.prog 3 #[.int .i64 size0, .slice A l.length c, .slice Az zs.length cz] w fun e w' => e = .returned (.bool true) ∧ Below w.heap.size w w' := by
  by_cases hd : size0 < 1 ∨ 256 < size0
  · exact poolDoes_no size0 hd _ _ w
  obtain ⟨size, rfl⟩ : ∃ size : Nat, size0 = size := ⟨size0.toNat, by omega⟩
  have hs : 0 < size ∧ size ≤ 256 := by omega
  have HS := Lib.hid hs
  have AW := Lib.hid awake18_any
  have N1 := Lib.hid (poolNew_ok size hs.1 hs.2 w)
  have d1 : decide ((size : Int) < 1) = false := decide_eq_false (by omega)
  have d2 : decide ((256 : Int) < (size : Int)) = false := decide_eq_false (by omega)
  have d3 : decide (size < 1) = false := decide_eq_false (by omega)
  have d4 : decide (256 < size) = false := decide_eq_false (by omega)
  have HIn := Lib.hid hin
  have HZs := Lib.hid hz
  have hmz := make_zeros18
  obtain ⟨Z64, hZ64⟩ : ∃ Z64, Is (List.replicate 64 0) = Z64 := ⟨_, rfl⟩
  rw [hZ64] at hmz
  have HZ64 := Lib.hid hZ64
  have HZ78 := Lib.hid Act18.none_len
  have hzva := act18_zv
  have HZ76 := Lib.hid (Wt.cells_len Wt.none_ok)
  have HZ1 := Lib.hid (Wt.cells_one Wt.none_ok)
  have HBt : Hid (Try.prog.built 38 [] = some Wt.none.cells.toArray) := Lib.hid wait_built0
  have hzv := wait_zv
  have HEqZ := Lib.hid (fun W => wait_same W Wt.none_ok)
  obtain ⟨ZT, hZT⟩ : ∃ ZT, Wt.none.cells = ZT := ⟨_, rfl⟩
  rw [hZT] at HZ76 HZ1 hzv HBt HEqZ
  have HZT := Lib.hid hZT
  obtain ⟨ZA, hZA⟩ : ∃ ZA, Act18.none.cells = ZA := ⟨_, rfl⟩
  rw [hZA] at HZ78 hzva
  obtain ⟨n, hn⟩ : ∃ n, n = l.length := ⟨_, rfl⟩
  obtain ⟨m, hm⟩ : ∃ m, m = zs.length := ⟨_, rfl⟩
  rw [← hn, ← hm]
  have HN := Lib.hid hn
  have HM := Lib.hid hm
  have hn1 : n ≤ 9223372036854775807 := by rw [hn]; exact hin.2.2.2
  clear hin hz hn hm hZ64 hZT hZA hd hs
  go_enter Try.func3, Try.ntmps3
  go_wp2_with fail
  refine N1.out.mono ?_
  rintro _ w1 ⟨rfl, hp1, hb1⟩
  have HP1 := Lib.hid hp1
  have HB1 := Lib.hid hb1
  clear hp1 hb1 N1
  go_wp2_with fail
  refine (AW.out _).mono ?_
  rintro _ w2 ⟨rfl, hb2⟩
  have HPs := Lib.hid (((du_start HS.out HP1.out HB1.out hb2).alloc Z64 3).alloc [.slice none 0 0] 23)
  clear hb2 AW HP1 HB1
  rw [show ((w2.alloc (.cells [Value.int .i64 size, .slice none 0 0].toArray 32)).alloc (.cells Z64.toArray 3)).heap.size = w2.heap.size + 1 + 1 by simp, show (w2.alloc (.cells [Value.int .i64 size, .slice none 0 0].toArray 32)).heap.size = w2.heap.size + 1 by simp] at HPs
  go_upto_block 0 with (first
    | ((with_reducible show wpList _ _ _ (⟨_, .store 23 (.tmp 10) _, _, _, _, _⟩ :: _) _ _)
       refine wpList_store_sl rfl 23 (.tmp 10) (.tmp 54) rfl (w2.heap.size + 1 + 1) 0 23 [.slice none 0 0] (some ⟨w2.heap.size + 1, 0, none⟩) 64 64 rfl rfl (HPs.out.row (x := (w2.heap.size + 1 + 1, 23, [.slice none 0 0])) (by simp)) (by simp) rfl ?_
       intro w4 hr hg
       have HPt := Lib.hid (HPs.out.write (rows' := [(w2.heap.size + 1, 3, Z64), (w2.heap.size + 1 + 1, 23, [.slice (some ⟨w2.heap.size + 1, 0, none⟩) 64 64])]) hg hr ⟨_, _, List.mem_cons_self⟩ (by
         intro x hx
         simp only [List.mem_cons, List.not_mem_nil, or_false] at hx
         rcases hx with rfl | rfl
         · exact .inr ⟨by simp, by simp⟩
         · exact .inl rfl))
       clear hr hg))
  obtain ⟨gN, hgN⟩ : ∃ gN, w2.heap.size + 1 = gN := ⟨_, rfl⟩
  obtain ⟨gX, hgX⟩ : ∃ gX, w2.heap.size + 1 + 1 = gX := ⟨_, rfl⟩
  obtain ⟨RB, hRB⟩ : ∃ RB, w2.heap.size = RB := ⟨_, rfl⟩
  rw [hgX, hgN, hRB] at HPt
  try rw [hgX]
  try rw [hgN]
  try rw [hRB]
  have HNNX : Hid (gN ≠ gX) := Lib.hid (by omega)
  clear hgN hgX hRB HPs hmz
  go_cut [11] from 55 to 73 (fun s11 wc => ∃ N : List Int, DuE w wc w.heap.size w.heap.size RB RB size [] [] [(gN, 3, Is N), (gX, 23, [.slice (some ⟨gN, 0, none⟩) 64 64])] ∧ N.length = 64)
  case first =>
    go_wp2_with fail
    go_loopw [11] (fun s11 wr => ∃ (k : Nat) (N : List Int), k ≤ m ∧ k ≤ 64 ∧ s11 = .int .i64 k ∧ DuE w wr w.heap.size w.heap.size RB RB size [] [] [(gN, 3, Is N), (gX, 23, [.slice (some ⟨gN, 0, none⟩) 64 64])] ∧ N.length = 64) (fun i _ => m - (intOf i).toNat)
    case atStart => exact ⟨0, List.replicate 64 0, Nat.zero_le _, Nat.zero_le _, rfl, by rw [HZ64.out]; exact HPt.out, by simp⟩
    case round =>
      obtain ⟨k, N, hk, hk64, rfl, hp, hnl⟩ := hrel
      have HP := Lib.hid hp
      have HNl := Lib.hid hnl
      have cx := rowX (hp.row (x := (gX, 23, [.slice (some ⟨gN, 0, none⟩) 64 64])) (by simp))
      clear hp hnl HPt
      have hk0 : (0 : Int) ≤ (k : Int) := by omega
      by_cases hkm : k < m ∧ k < 64
      · have hki : (k : Int) < (m : Int) := by omega
        have hk6 : (k : Int) < 64 := by omega
        have hkl : k < zs.length := by rw [← HM.out]; exact hkm.1
        obtain ⟨bz, oz, hAz, hbz, hcz⟩ := HZs.out (by intro e; rw [e] at hkl; simp at hkl)
        have hzk := hcz k hkl
        subst hAz
        obtain ⟨z, hze⟩ : ∃ z, zs[k] = z := ⟨_, rfl⟩
        rw [hze] at hzk
        have HSv : Hid (∀ (W : World) (N' : List Value), DuE w W w.heap.size w.heap.size RB RB size [] [] [(gN, 3, N'), (gX, 23, [.slice (some ⟨gN, 0, none⟩) 64 64])] → W.cell? ⟨gX, 0, none⟩ = some (.slice (some ⟨gN, 0, none⟩) 64 64) ∧ W.cell? ⟨bz, oz + k, none⟩ = some (.int .i64 z)) := Lib.hid (fun W N' h => ⟨rowX (h.row (x := (gX, 23, [.slice (some ⟨gN, 0, none⟩) 64 64])) (by simp)), (h.low.cell (p := ⟨bz, oz + k, none⟩) hbz).trans hzk⟩)
        have HIl : Hid ((Is N).length = 64) := Lib.hid (by unfold Is; rw [List.length_map]; exact HNl.out)
        have HSet : Hid ((Is N).set k (.int .i64 z) = Is (N.set k z)) := Lib.hid (by unfold Is; rw [List.map_set])
        have HSl : Hid ((N.set k z).length = 64) := Lib.hid (by rw [List.length_set]; exact HNl.out)
        have HK64 : Hid (k < 64) := Lib.hid hkm.2
        have hkm1 := hkm.1
        clear hcz hkl hzk hze hbz hkm
        go_wp2_with fail
        clear cx
        have hT0 := HP.out.below (Below.refl _ _).drew
        have hT := hT0
        refine wp_region_noPanic ?_
        refine wp_region_held_drew (S := fun w' => w'.cell? ⟨gX, 0, none⟩ = some (.slice (some ⟨gN, 0, none⟩) 64 64) ∧ w'.cell? ⟨bz, oz + k, none⟩ = some (.int .i64 z)) (by kernel_rfl) (HSv.out _ _ hT0) (fun hHeld => ?_)
        clear hT0
        generalize wr.drew = wp at *
        refine wpAnyH_take (i := 0) (v := .slice (some ⟨gN, 0, none⟩) 64 64) rfl (by kernel_rfl) (by kernel_rfl) (by kernel_rfl) (fun _ _ _ h => h) (Or.inl ⟨by rfl, fun w' hSw => by have hq := hSw; have hd := hq.1; go_simp⟩) hHeld ?_
        try simp only [Act.put, List.getElem_toArray, List.getElem_cons_succ, List.getElem_cons_zero, List.setIfInBounds_toArray, List.set_cons_zero, List.set_cons_succ]
        refine wpAnyH_take (i := 1) (v := .int .i64 k) rfl (by kernel_rfl) (by kernel_rfl) (by kernel_rfl) (fun _ _ _ h => h) (Or.inl ⟨by rfl, fun w' hSw => by go_simp⟩) hHeld ?_
        try simp only [Act.put, List.getElem_toArray, List.getElem_cons_succ, List.getElem_cons_zero, List.setIfInBounds_toArray, List.set_cons_zero, List.set_cons_succ]
        refine wpAnyH_take (i := 2) (v := .slice (some ⟨bz, oz, none⟩) m cz) rfl (by kernel_rfl) (by kernel_rfl) (by kernel_rfl) (fun _ _ _ h => h) (Or.inl ⟨by rfl, fun w' hSw => by go_simp⟩) hHeld ?_
        try simp only [Act.put, List.getElem_toArray, List.getElem_cons_succ, List.getElem_cons_zero, List.setIfInBounds_toArray, List.set_cons_zero, List.set_cons_succ]
        refine wpAnyH_take (i := 3) (v := .int .i64 k) rfl (by kernel_rfl) (by kernel_rfl) (by kernel_rfl) (fun _ _ _ h => h) (Or.inl ⟨by rfl, fun w' hSw => by go_simp⟩) hHeld ?_
        try simp only [Act.put, List.getElem_toArray, List.getElem_cons_succ, List.getElem_cons_zero, List.setIfInBounds_toArray, List.set_cons_zero, List.set_cons_succ]
        refine wpAnyH_take (i := 4) (v := .pointer (some ⟨bz, (oz + k), none⟩)) rfl (by kernel_rfl) (by kernel_rfl) (by kernel_rfl) (fun _ _ _ h => h) (Or.inl ⟨by rfl, fun w' hSw => by go_simp⟩) hHeld ?_
        try simp only [Act.put, List.getElem_toArray, List.getElem_cons_succ, List.getElem_cons_zero, List.setIfInBounds_toArray, List.set_cons_zero, List.set_cons_succ]
        refine wpAnyH_take (i := 5) (v := .int .i64 z) rfl (by kernel_rfl) (by kernel_rfl) (by kernel_rfl) (fun _ _ _ h => h) (Or.inl ⟨by rfl, fun w' hSw => by have hq := hSw; have hd := hq.2; go_simp⟩) hHeld ?_
        try simp only [Act.put, List.getElem_toArray, List.getElem_cons_succ, List.getElem_cons_zero, List.setIfInBounds_toArray, List.set_cons_zero, List.set_cons_succ]
        refine wpAnyH_take (i := 6) (v := .pointer (some ⟨gN, k, none⟩)) rfl (by kernel_rfl) (by kernel_rfl) (by kernel_rfl) (fun _ _ _ h => h) (Or.inl ⟨by rfl, fun w' hSw => by go_simp⟩) hHeld ?_
        try simp only [Act.put, List.getElem_toArray, List.getElem_cons_succ, List.getElem_cons_zero, List.setIfInBounds_toArray, List.set_cons_zero, List.set_cons_succ]
        refine wpAnyH_ready (rs := [7]) (by kernel_rfl) (by simp) (AllReadyH.cons rfl (fun K1 hK1 => ?_) AllReadyH.nil)
        try simp only [Act.put, List.getElem_toArray, List.getElem_cons_succ, List.getElem_cons_zero, List.setIfInBounds_toArray, List.set_cons_zero, List.set_cons_succ]
        rw [if_pos (by rfl)]
        refine wp_store_int 3 (.tmp 73) (.tmp 72) rfl gN k 3 (Is N) z rfl rfl (hT.row (x := (gN, 3, Is N)) (by simp)) (by rw [HIl.out]; exact HK64.out) rfl ?_
        intro ws1 hrS hgS
        rw [HSet.out] at hrS
        have hT2 := hT.write (rows' := [(gN, 3, Is (N.set k z)), (gX, 23, [.slice (some ⟨gN, 0, none⟩) 64 64])]) hgS hrS ⟨_, _, List.mem_cons_self⟩ (by
          intro x hx
          simp only [List.mem_cons, List.not_mem_nil, or_false] at hx
          rcases hx with rfl | rfl
          · exact .inl rfl
          · exact .inr ⟨by simp, HNNX.out.symm⟩)
        clear hT hrS hgS
        have hT := hT2
        clear hT2
        refine hK1.out _ _ (HSv.out _ _ hT) (fun hHeld => ?_)
        clear hK1 K1
        try simp only [Act.put, List.getElem_toArray, List.getElem_cons_succ, List.getElem_cons_zero, List.setIfInBounds_toArray, List.set_cons_zero, List.set_cons_succ]
        refine wpAnyH_done (by kernel_rfl) ?_ _
        refine NoPanic.normal ?_
        have HP9 := Lib.hid hT
        clear hT hHeld
        go_wp2_with fail
        exact ⟨⟨k + 1, N.set k z, by omega, by have := HK64.out; omega, by go_num, HP9.out, HSl.out⟩, by simp [intOf]; omega⟩
      · have key : ∀ (Q : Prop), ((¬ k < m → Q) ∧ (k < m → ¬ k < 64 → Q)) → Q := fun Q h => by
          by_cases q : k < m
          · exact h.2 q (fun q2 => hkm ⟨q, q2⟩)
          · exact h.1 q
        clear hkm
        refine key _ ⟨fun q => ?_, fun q q2 => ?_⟩
        · have hki : (m : Int) ≤ (k : Int) := by omega
          clear q key
          go_wp2_with fail
          go_meet
          case rel => exact ⟨N, HP.out, HNl.out⟩
        · have hki : (k : Int) < (m : Int) := by omega
          have hk6 : (64 : Int) ≤ (k : Int) := by omega
          clear q q2 key
          go_wp2_with fail
          go_meet
          case rel => exact ⟨N, HP.out, HNl.out⟩
  case rest =>
    obtain ⟨N, hp, hnl⟩ := hcut
    have HP := Lib.hid hp
    have HNl := Lib.hid hnl
    clear hp hnl HPt
    go_wp2_with fail
    go_loopw [12] (fun s12 wr => ∃ (k : Nat) (L : List Wt) (N : List Int), k ≤ n ∧ s12 = .int .i64 k ∧ DuE w wr w.heap.size w.heap.size RB RB size L L [(gN, 3, Is N), (gX, 23, [.slice (some ⟨gN, 0, none⟩) 64 64])] ∧ N.length = 64) (fun i _ => n - (intOf i).toNat)
    case atStart => exact ⟨0, [], N, Nat.zero_le _, rfl, HP.out, HNl.out⟩
    case round =>
      obtain ⟨k, L, N, hk, rfl, hp, hnl⟩ := hrel
      have HP := Lib.hid hp
      have HNl := Lib.hid hnl
      clear hp hnl
      have hk0 : (0 : Int) ≤ (k : Int) := by omega
      by_cases hkn : k < n ∧ k < 100
      · have hki : (k : Int) < (n : Int) := by omega
        have hk5 : (k : Int) < 100 := by omega
        have hka : k < l.length := by rw [← HN.out]; exact hkn.1
        have hkn1 := hkn.1
        obtain ⟨ga, off, hAa, hga, hcl⟩ := HIn.out.1 (by intro e; rw [e] at hka; simp at hka)
        subst hAa
        have hxr := hcl k hka
        have hxi := HIn.out.2.2.1 _ (List.getElem_mem hka)
        obtain ⟨x, hxe⟩ : ∃ x, l[k] = x := ⟨_, rfl⟩
        rw [hxe] at hxr hxi
        have HXr : Hid (∀ W, Below w.heap.size w W → W.rangeAt ga (off + k * 78) x.cells) := Lib.hid (fun W hW j v hv => (hW.cell (p := ⟨ga, off + k * 78 + j, none⟩) hga).trans (hxr j v hv))
        have HA78 := Lib.hid (Act18.cells_len hxi)
        have HA1 := Lib.hid (Act18.cells_one hxi)
        have HXw : Hid x.w.Ok := Lib.hid hxi.w
        have HW76 := Lib.hid (Wt.cells_len hxi.w)
        have HCa := Lib.hid (act18_row x)
        obtain ⟨C, hC⟩ : ∃ C, x.cells = C := ⟨_, rfl⟩
        obtain ⟨CW, hCW⟩ : ∃ CW, x.w.cells = CW := ⟨_, rfl⟩
        obtain ⟨kind, hkind⟩ : ∃ q, x.kind = q := ⟨_, rfl⟩
        obtain ⟨now, hnow⟩ : ∃ q, x.n = q := ⟨_, rfl⟩
        rw [hC] at HXr HA78 HA1 HCa
        rw [hkind, hnow] at HCa
        rw [hCW] at HW76 HCa
        have HCw := Lib.hid hCW
        clear hcl hga hxr hxi hka hxe hC hCW hkind hnow hkn
        have hcases : kind = 0 ∨ kind = 1 ∨ kind = 2 ∨ kind = 3 ∨ (¬ kind = 0 ∧ ¬ kind = 1 ∧ ¬ kind = 2 ∧ ¬ kind = 3) := by omega
        rcases hcases with rfl | rfl | rfl | rfl | hno
        · skip
          have HPut : Hid (∀ (W : World) (L2 : List Wt) (rows : Rows18), DuE w W w.heap.size w.heap.size RB RB size L L2 rows → Calls Try.prog 10 #[.pointer (some ⟨w.heap.size, 0, none⟩), .agg x.w.cells.toArray] W fun e w' => e = .returned (.tuple #[.agg (Pl.putG size L x.w).cells.toArray, .bool (Pl.putF size L x.w), .int .i64 (Pl.putE size L x.w)]) ∧ DuE w w' w.heap.size w.heap.size RB RB size (Pl.put size L x.w) L2 rows) := Lib.hid (fun W L2 rows h => h.put x.w HXw.out)
          have HRput : Hid (∀ (W : World) (L1 : List Wt) (rows : Rows18), DuE w W w.heap.size w.heap.size RB RB size L1 L rows → Calls Try.prog 11 #[.pointer (some ⟨RB, 0, none⟩), .agg x.w.cells.toArray] W fun e w' => e = .returned (.tuple #[.agg (Pl.putG size L x.w).cells.toArray, .bool (Pl.putF size L x.w), .int .i64 (Pl.putE size L x.w)]) ∧ DuE w w' w.heap.size w.heap.size RB RB size L1 (Pl.put size L x.w) rows) := Lib.hid (fun W L1 rows h => h.rput x.w HXw.out)
          have hgo := Pl.putG_ok size HP.out.wok x.w
          have HG76 := Lib.hid (Wt.cells_len hgo)
          have HG1 := Lib.hid (Wt.cells_one hgo)
          have HEqG := Lib.hid (fun W => wait_same W hgo)
          rw [HCw.out] at HPut HRput
          obtain ⟨CG, hCG⟩ : ∃ CG, (Pl.putG size L x.w).cells = CG := ⟨_, rfl⟩
          obtain ⟨pf, hpf⟩ : ∃ pf, Pl.putF size L x.w = pf := ⟨_, rfl⟩
          obtain ⟨pe, hpe⟩ : ∃ pe, Pl.putE size L x.w = pe := ⟨_, rfl⟩
          obtain ⟨LP, hLP⟩ : ∃ LP, Pl.put size L x.w = LP := ⟨_, rfl⟩
          rw [hCG, hpf, hpe, hLP] at HPut HRput
          rw [hCG] at HG76 HG1 HEqG
          clear hgo hCG hpf hpe hLP
          go_wp2_with (first
            | ((with_reducible show wpList _ _ _ (⟨_, .load 40 (.tmp 86), _, _, _, _⟩ :: _) _ _); refine wpList_load_tx rfl 40 (.tmp 86) rfl ga (off + k * 78) (rfl) C _ (HXr.out _ HP.out.low) Try.underlying40 rfl (by rw [act18_info, HA78.out]) ?_)
            | (
               with_reducible show wpList _ _ _ (⟨_, .store 40 (.tmp 13) _, _, _, _, _⟩ :: _) _ _
               refine wpList_store_at rfl 40 (.tmp 13) (.tmp 87) rfl wr.heap.size 0 C ZA _ rfl rfl (Row.new wr 40 ZA) (by have := HZ78.out; have := HA78.out; omega) (by rw [act18_info, HA78.out]) HA1.out ?_
               intro w4 hr hg
               rw [splice_all (HA78.out.trans HZ78.out.symm)] at hr
               have hbx := below_own ((Below.refl wr.heap.size wr).alloc (Nat.le_refl _) (.cells ZA.toArray 40)) hg (fun k hk => by cases hk; exact Nat.le_refl _)
               have HP4 := Lib.hid (HP.out.new hbx hr)
               obtain ⟨ck, cn, cw⟩ := HCa.out _ _ hr
               have HCW4 := Lib.hid cw
               clear cw
               clear hbx
               clear hr hg)
            | ((with_reducible show wpList _ _ _ (⟨_, .load 38 (.tmp 129), _, _, _, _⟩ :: _) _ _); refine wpList_load_tx rfl 38 (.tmp 129) rfl wr.heap.size 2 (rfl) CW _ (HCW4.out) Try.underlying38 rfl (by rw [wait_info, HW76.out]) ?_))
          clear ck cn
          generalize wr.heap.size = g13 at *
          refine (HPut.out _ _ _ HP4.out).mono ?_
          rintro _ w5 ⟨rfl, hp5⟩
          have HP5 := Lib.hid hp5
          clear hp5 HPut
          have heq := HEqG.out
          go_wp2_with (first
            | (
               with_reducible show wpList _ _ _ (⟨_, .store 38 (.tmp 14) _, _, _, _, _⟩ :: _) _ _
               refine wpList_store_at rfl 38 (.tmp 14) (.tmp 132) rfl w5.heap.size 0 CG ZT _ rfl rfl (Row.new w5 38 ZT) (by have := HZ76.out; have := HG76.out; omega) (by rw [wait_info, HG76.out]) HG1.out ?_
               intro w6 hr hg
               rw [splice_all (HG76.out.trans HZ76.out.symm)] at hr
               have hbx := below_own ((Below.refl w5.heap.size w5).alloc (Nat.le_refl _) (.cells ZT.toArray 38)) hg (fun k hk => by cases hk; exact Nat.le_refl _)
               have HP6 := Lib.hid (HP5.out.new hbx hr)
               have HCW6 := Lib.hid (HCa.out _ _ (HP6.out.row (x := (g13, 40, C)) (by simp))).2.2
               clear hbx
               clear hr hg)
            | ((with_reducible show wpList _ _ _ (⟨_, .load 38 (.tmp 137), _, _, _, _⟩ :: _) _ _); refine wpList_load_tx rfl 38 (.tmp 137) rfl g13 2 (rfl) CW _ (HCW6.out) Try.underlying38 rfl (by rw [wait_info, HW76.out]) ?_))
          generalize w5.heap.size = g14 at *
          refine (HRput.out _ _ _ HP6.out).mono ?_
          rintro _ w7 ⟨rfl, hp7⟩
          have HP7 := Lib.hid hp7
          clear hp7 HRput
          go_wp2_with (first
            | (
               with_reducible show wpList _ _ _ (⟨_, .store 38 (.tmp 17) _, _, _, _, _⟩ :: _) _ _
               refine wpList_store_at rfl 38 (.tmp 17) (.tmp 140) rfl w7.heap.size 0 CG ZT _ rfl rfl (Row.new w7 38 ZT) (by have := HZ76.out; have := HG76.out; omega) (by rw [wait_info, HG76.out]) HG1.out ?_
               intro w8 hr hg
               rw [splice_all (HG76.out.trans HZ76.out.symm)] at hr
               have hbx := below_own ((Below.refl w7.heap.size w7).alloc (Nat.le_refl _) (.cells ZT.toArray 38)) hg (fun k hk => by cases hk; exact Nat.le_refl _)
               have HP8 := Lib.hid (HP7.out.new hbx hr)
               clear hbx
               clear hr hg)
            | ((with_reducible show wpList _ _ _ (⟨_, .load 38 (.tmp 14), _, _, _, _⟩ :: _) _ _); refine wpList_load_tx rfl 38 (.tmp 14) rfl g14 0 (rfl) CG _ (row_range (HP8.out.row (x := (g14, 38, CG)) (by simp))) Try.underlying38 rfl (by rw [wait_info, HG76.out]) ?_)
            | ((with_reducible show wpList _ _ _ (⟨_, .load 38 (.tmp 17), _, _, _, _⟩ :: _) _ _); refine wpList_load_tx rfl 38 (.tmp 17) rfl w7.heap.size 0 (rfl) CG _ (row_range (HP8.out.row (x := (w7.heap.size, 38, CG)) (by simp))) Try.underlying38 rfl (by rw [wait_info, HG76.out]) ?_))
          generalize w7.heap.size = g17 at *
          clear heq
          obtain ⟨A3, c3, _, hrl⟩ := HP8.out.rl
          obtain ⟨n3, hn3⟩ : ∃ n3, (LP).length = n3 := ⟨_, rfl⟩
          rw [hn3] at hrl
          have HRl := Lib.hid hrl
          have HN3 := Lib.hid hn3
          clear hrl hn3
          refine wp_region_noPanic ?_
          refine wp_region_held_drew (S := fun w' => Below w8.heap.size w8 w') (by kernel_rfl) ((Below.refl _ _).drew) (fun hHeld => ?_)
          generalize w8.drew = wq at *
          refine wpAnyH_take (i := 0) (v := .pointer (some ⟨w.heap.size, 0, none⟩)) rfl (by kernel_rfl) (by kernel_rfl) (by kernel_rfl) (fun _ _ _ h => h) (Or.inl ⟨by rfl, fun w' hSw => by go_simp⟩) hHeld ?_
          try simp only [Act.put, List.getElem_toArray, List.getElem_cons_succ, List.getElem_cons_zero, List.setIfInBounds_toArray, List.set_cons_zero, List.set_cons_succ]
          refine wpAnyH_take (i := 2) (v := .pointer (some ⟨RB, 0, none⟩)) rfl (by kernel_rfl) (by kernel_rfl) (by kernel_rfl) (fun _ _ _ h => h) (Or.inl ⟨by rfl, fun w' hSw => by go_simp⟩) hHeld ?_
          try simp only [Act.put, List.getElem_toArray, List.getElem_cons_succ, List.getElem_cons_zero, List.setIfInBounds_toArray, List.set_cons_zero, List.set_cons_succ]
          refine wpAnyH_take (i := 3) (v := .pointer (some ⟨RB, 0, none⟩)) rfl (by kernel_rfl) (by kernel_rfl) (by kernel_rfl) (fun _ _ _ h => h) (Or.inl ⟨by rfl, fun w' hSw => by go_simp⟩) hHeld ?_
          try simp only [Act.put, List.getElem_toArray, List.getElem_cons_succ, List.getElem_cons_zero, List.setIfInBounds_toArray, List.set_cons_zero, List.set_cons_succ]
          refine wpAnyH_take (i := 4) (v := .pointer (some ⟨RB, 1, none⟩)) rfl (by kernel_rfl) (by kernel_rfl) (by kernel_rfl) (fun _ _ _ h => h) (Or.inl ⟨by rfl, fun w' hSw => by go_simp⟩) hHeld ?_
          try simp only [Act.put, List.getElem_toArray, List.getElem_cons_succ, List.getElem_cons_zero, List.setIfInBounds_toArray, List.set_cons_zero, List.set_cons_succ]
          refine wpAnyH_take (i := 5) (v := .slice A3 n3 c3) rfl (by kernel_rfl) (by kernel_rfl) (by kernel_rfl) (fun _ _ _ h => h) (Or.inl ⟨by rfl, fun w' hSw => by have hq := hSw; have hd := (HRl.out _ hq).1; go_simp⟩) hHeld ?_
          try simp only [Act.put, List.getElem_toArray, List.getElem_cons_succ, List.getElem_cons_zero, List.setIfInBounds_toArray, List.set_cons_zero, List.set_cons_succ]
          refine wpAnyH_ready (rs := [1]) (by kernel_rfl) (by simp) (AllReadyH.cons rfl (fun K1 hK1 => ?_) AllReadyH.nil)
          try simp only [Act.put, List.getElem_toArray, List.getElem_cons_succ, List.getElem_cons_zero, List.setIfInBounds_toArray, List.set_cons_zero, List.set_cons_succ]
          go_simp
          have hal := (HP8.out.below hHeld).all
          rw [HN3.out] at hal
          refine Calls.mono hal ?_
          clear hal
          rintro e wc1 ⟨A4, c4, rfl, hb4, hs4⟩
          refine hK1.out _ _ (two_below' hHeld hb4) (fun hHeld => ?_)
          clear hK1 K1
          try simp only [Act.put, List.getElem_toArray, List.getElem_cons_succ, List.getElem_cons_zero, List.setIfInBounds_toArray, List.set_cons_zero, List.set_cons_succ]
          refine wpAnyH_ready (rs := [6]) (by kernel_rfl) (by simp) (AllReadyH.cons rfl (fun K1 hK1 => ?_) AllReadyH.nil)
          try simp only [Act.put, List.getElem_toArray, List.getElem_cons_succ, List.getElem_cons_zero, List.setIfInBounds_toArray, List.set_cons_zero, List.set_cons_succ]
          go_simp
          have hsm := same18_any LP A4 A3 c4 c3 wc1 hs4 (HRl.out _ hHeld).2
          rw [HN3.out] at hsm
          refine Calls.mono hsm ?_
          clear hsm hs4 hb4
          rintro e wc2 ⟨rfl, hb5⟩
          refine hK1.out _ _ (two_below' hHeld hb5) (fun hHeld => ?_)
          clear hK1 K1
          try simp only [Act.put, List.getElem_toArray, List.getElem_cons_succ, List.getElem_cons_zero, List.setIfInBounds_toArray, List.set_cons_zero, List.set_cons_succ]
          refine wpAnyH_take (i := 7) (v := .bool false) rfl (by kernel_rfl) (by kernel_rfl) (by kernel_rfl) (fun _ _ _ h => h) (Or.inl ⟨by rfl, fun w' hSw => by go_simp⟩) hHeld ?_
          try simp only [Act.put, List.getElem_toArray, List.getElem_cons_succ, List.getElem_cons_zero, List.setIfInBounds_toArray, List.set_cons_zero, List.set_cons_succ]
          refine wpAnyH_take (i := 8) (v := .bool false) rfl (by kernel_rfl) (by kernel_rfl) (by kernel_rfl) (fun _ _ _ h => h) (Or.inl ⟨by rfl, fun w' hSw => by go_simp⟩) hHeld ?_
          try simp only [Act.put, List.getElem_toArray, List.getElem_cons_succ, List.getElem_cons_zero, List.setIfInBounds_toArray, List.set_cons_zero, List.set_cons_succ]
          refine wpAnyH_take (i := 9) (v := .pointer (some ⟨w.heap.size, 0, none⟩)) rfl (by kernel_rfl) (by kernel_rfl) (by kernel_rfl) (fun _ _ _ h => h) (Or.inl ⟨by rfl, fun w' hSw => by go_simp⟩) hHeld ?_
          try simp only [Act.put, List.getElem_toArray, List.getElem_cons_succ, List.getElem_cons_zero, List.setIfInBounds_toArray, List.set_cons_zero, List.set_cons_succ]
          refine wpAnyH_take (i := 11) (v := .pointer (some ⟨RB, 0, none⟩)) rfl (by kernel_rfl) (by kernel_rfl) (by kernel_rfl) (fun _ _ _ h => h) (Or.inl ⟨by rfl, fun w' hSw => by go_simp⟩) hHeld ?_
          try simp only [Act.put, List.getElem_toArray, List.getElem_cons_succ, List.getElem_cons_zero, List.setIfInBounds_toArray, List.set_cons_zero, List.set_cons_succ]
          refine wpAnyH_take (i := 12) (v := .pointer (some ⟨RB, 0, none⟩)) rfl (by kernel_rfl) (by kernel_rfl) (by kernel_rfl) (fun _ _ _ h => h) (Or.inl ⟨by rfl, fun w' hSw => by go_simp⟩) hHeld ?_
          try simp only [Act.put, List.getElem_toArray, List.getElem_cons_succ, List.getElem_cons_zero, List.setIfInBounds_toArray, List.set_cons_zero, List.set_cons_succ]
          refine wpAnyH_take (i := 13) (v := .pointer (some ⟨RB, 1, none⟩)) rfl (by kernel_rfl) (by kernel_rfl) (by kernel_rfl) (fun _ _ _ h => h) (Or.inl ⟨by rfl, fun w' hSw => by go_simp⟩) hHeld ?_
          try simp only [Act.put, List.getElem_toArray, List.getElem_cons_succ, List.getElem_cons_zero, List.setIfInBounds_toArray, List.set_cons_zero, List.set_cons_succ]
          refine wpAnyH_take (i := 14) (v := .slice A3 n3 c3) rfl (by kernel_rfl) (by kernel_rfl) (by kernel_rfl) (fun _ _ _ h => h) (Or.inl ⟨by rfl, fun w' hSw => by have hq := hSw; have hd := (HRl.out _ hq).1; go_simp⟩) hHeld ?_
          try simp only [Act.put, List.getElem_toArray, List.getElem_cons_succ, List.getElem_cons_zero, List.setIfInBounds_toArray, List.set_cons_zero, List.set_cons_succ]
          refine wpAnyH_take (i := 15) (v := .int .i64 n3) rfl (by kernel_rfl) (by kernel_rfl) (by kernel_rfl) (fun _ _ _ h => h) (Or.inl ⟨by rfl, fun w' hSw => by go_simp⟩) hHeld ?_
          try simp only [Act.put, List.getElem_toArray, List.getElem_cons_succ, List.getElem_cons_zero, List.setIfInBounds_toArray, List.set_cons_zero, List.set_cons_succ]
          refine wpAnyH_ready (rs := [10]) (by kernel_rfl) (by simp) (AllReadyH.cons rfl (fun K1 hK1 => ?_) AllReadyH.nil)
          try simp only [Act.put, List.getElem_toArray, List.getElem_cons_succ, List.getElem_cons_zero, List.setIfInBounds_toArray, List.set_cons_zero, List.set_cons_succ]
          go_simp
          have hln := (HP8.out.below hHeld).len
          rw [HN3.out] at hln
          refine Calls.mono hln ?_
          clear hln
          rintro e wz9 ⟨rfl, rfl⟩
          refine hK1.out _ _ (hHeld) (fun hHeld => ?_)
          clear hK1 K1
          try simp only [Act.put, List.getElem_toArray, List.getElem_cons_succ, List.getElem_cons_zero, List.setIfInBounds_toArray, List.set_cons_zero, List.set_cons_succ]
          refine wpAnyH_take (i := 16) (v := .bool false) rfl (by kernel_rfl) (by kernel_rfl) (by kernel_rfl) (fun _ _ _ h => h) (Or.inl ⟨by rfl, fun w' hSw => by go_simp⟩) hHeld ?_
          try simp only [Act.put, List.getElem_toArray, List.getElem_cons_succ, List.getElem_cons_zero, List.setIfInBounds_toArray, List.set_cons_zero, List.set_cons_succ]
          refine wpAnyH_take (i := 17) (v := .bool false) rfl (by kernel_rfl) (by kernel_rfl) (by kernel_rfl) (fun _ _ _ h => h) (Or.inl ⟨by rfl, fun w' hSw => by go_simp⟩) hHeld ?_
          try simp only [Act.put, List.getElem_toArray, List.getElem_cons_succ, List.getElem_cons_zero, List.setIfInBounds_toArray, List.set_cons_zero, List.set_cons_succ]
          refine wpAnyH_done (by kernel_rfl) ?_ _
          refine NoPanic.normal ?_
          have HPz := Lib.hid (HP8.out.below hHeld)
          clear hHeld
          go_wp2_with fail
          exact ⟨⟨k + 1, LP, N, by omega, by go_num, HPz.out.sub (by intro y hy; simp only [List.mem_cons, List.not_mem_nil, or_false] at hy ⊢; rcases hy with rfl | rfl <;> simp), HNl.out⟩, by simp [intOf]; omega⟩
        · skip
          have HPut : Hid (∀ (W : World) (L2 : List Wt) (rows : Rows18), DuE w W w.heap.size w.heap.size RB RB size L L2 rows → Calls Try.prog 10 #[.pointer (some ⟨w.heap.size, 0, none⟩), .agg x.w.cells.toArray] W fun e w' => e = .returned (.tuple #[.agg (Pl.putG size L x.w).cells.toArray, .bool (Pl.putF size L x.w), .int .i64 (Pl.putE size L x.w)]) ∧ DuE w w' w.heap.size w.heap.size RB RB size (Pl.put size L x.w) L2 rows) := Lib.hid (fun W L2 rows h => h.put x.w HXw.out)
          have HRput : Hid (∀ (W : World) (L1 : List Wt) (rows : Rows18), DuE w W w.heap.size w.heap.size RB RB size L1 L rows → Calls Try.prog 11 #[.pointer (some ⟨RB, 0, none⟩), .agg x.w.cells.toArray] W fun e w' => e = .returned (.tuple #[.agg (Pl.putG size L x.w).cells.toArray, .bool (Pl.putF size L x.w), .int .i64 (Pl.putE size L x.w)]) ∧ DuE w w' w.heap.size w.heap.size RB RB size L1 (Pl.put size L x.w) rows) := Lib.hid (fun W L1 rows h => h.rput x.w HXw.out)
          have hgo := Pl.putG_ok size HP.out.wok x.w
          have HG76 := Lib.hid (Wt.cells_len hgo)
          have HG1 := Lib.hid (Wt.cells_one hgo)
          have HEqG := Lib.hid (fun W => wait_same W hgo)
          rw [HCw.out] at HPut HRput
          obtain ⟨CG, hCG⟩ : ∃ CG, (Pl.putG size L x.w).cells = CG := ⟨_, rfl⟩
          obtain ⟨pf, hpf⟩ : ∃ pf, Pl.putF size L x.w = pf := ⟨_, rfl⟩
          obtain ⟨pe, hpe⟩ : ∃ pe, Pl.putE size L x.w = pe := ⟨_, rfl⟩
          obtain ⟨LP, hLP⟩ : ∃ LP, Pl.put size L x.w = LP := ⟨_, rfl⟩
          rw [hCG, hpf, hpe, hLP] at HPut HRput
          rw [hCG] at HG76 HG1 HEqG
          clear hgo hCG hpf hpe hLP
          go_wp2_with (first
            | ((with_reducible show wpList _ _ _ (⟨_, .load 40 (.tmp 86), _, _, _, _⟩ :: _) _ _); refine wpList_load_tx rfl 40 (.tmp 86) rfl ga (off + k * 78) (rfl) C _ (HXr.out _ HP.out.low) Try.underlying40 rfl (by rw [act18_info, HA78.out]) ?_)
            | (
               with_reducible show wpList _ _ _ (⟨_, .store 40 (.tmp 13) _, _, _, _, _⟩ :: _) _ _
               refine wpList_store_at rfl 40 (.tmp 13) (.tmp 87) rfl wr.heap.size 0 C ZA _ rfl rfl (Row.new wr 40 ZA) (by have := HZ78.out; have := HA78.out; omega) (by rw [act18_info, HA78.out]) HA1.out ?_
               intro w4 hr hg
               rw [splice_all (HA78.out.trans HZ78.out.symm)] at hr
               have hbx := below_own ((Below.refl wr.heap.size wr).alloc (Nat.le_refl _) (.cells ZA.toArray 40)) hg (fun k hk => by cases hk; exact Nat.le_refl _)
               have HP4 := Lib.hid (HP.out.new hbx hr)
               obtain ⟨ck, cn, cw⟩ := HCa.out _ _ hr
               have HCW4 := Lib.hid cw
               clear cw
               clear hbx
               clear hr hg)
            | ((with_reducible show wpList _ _ _ (⟨_, .load 38 (.tmp 129), _, _, _, _⟩ :: _) _ _); refine wpList_load_tx rfl 38 (.tmp 129) rfl wr.heap.size 2 (rfl) CW _ (HCW4.out) Try.underlying38 rfl (by rw [wait_info, HW76.out]) ?_))
          clear ck cn
          generalize wr.heap.size = g13 at *
          refine (HPut.out _ _ _ HP4.out).mono ?_
          rintro _ w5 ⟨rfl, hp5⟩
          have HP5 := Lib.hid hp5
          clear hp5 HPut
          have heq := HEqG.out
          go_wp2_with (first
            | (
               with_reducible show wpList _ _ _ (⟨_, .store 38 (.tmp 14) _, _, _, _, _⟩ :: _) _ _
               refine wpList_store_at rfl 38 (.tmp 14) (.tmp 132) rfl w5.heap.size 0 CG ZT _ rfl rfl (Row.new w5 38 ZT) (by have := HZ76.out; have := HG76.out; omega) (by rw [wait_info, HG76.out]) HG1.out ?_
               intro w6 hr hg
               rw [splice_all (HG76.out.trans HZ76.out.symm)] at hr
               have hbx := below_own ((Below.refl w5.heap.size w5).alloc (Nat.le_refl _) (.cells ZT.toArray 38)) hg (fun k hk => by cases hk; exact Nat.le_refl _)
               have HP6 := Lib.hid (HP5.out.new hbx hr)
               have HCW6 := Lib.hid (HCa.out _ _ (HP6.out.row (x := (g13, 40, C)) (by simp))).2.2
               clear hbx
               clear hr hg)
            | ((with_reducible show wpList _ _ _ (⟨_, .load 38 (.tmp 137), _, _, _, _⟩ :: _) _ _); refine wpList_load_tx rfl 38 (.tmp 137) rfl g13 2 (rfl) CW _ (HCW6.out) Try.underlying38 rfl (by rw [wait_info, HW76.out]) ?_))
          generalize w5.heap.size = g14 at *
          refine (HRput.out _ _ _ HP6.out).mono ?_
          rintro _ w7 ⟨rfl, hp7⟩
          have HP7 := Lib.hid hp7
          clear hp7 HRput
          go_wp2_with (first
            | (
               with_reducible show wpList _ _ _ (⟨_, .store 38 (.tmp 17) _, _, _, _, _⟩ :: _) _ _
               refine wpList_store_at rfl 38 (.tmp 17) (.tmp 140) rfl w7.heap.size 0 CG ZT _ rfl rfl (Row.new w7 38 ZT) (by have := HZ76.out; have := HG76.out; omega) (by rw [wait_info, HG76.out]) HG1.out ?_
               intro w8 hr hg
               rw [splice_all (HG76.out.trans HZ76.out.symm)] at hr
               have hbx := below_own ((Below.refl w7.heap.size w7).alloc (Nat.le_refl _) (.cells ZT.toArray 38)) hg (fun k hk => by cases hk; exact Nat.le_refl _)
               have HP8 := Lib.hid (HP7.out.new hbx hr)
               clear hbx
               clear hr hg)
            | ((with_reducible show wpList _ _ _ (⟨_, .load 38 (.tmp 14), _, _, _, _⟩ :: _) _ _); refine wpList_load_tx rfl 38 (.tmp 14) rfl g14 0 (rfl) CG _ (row_range (HP8.out.row (x := (g14, 38, CG)) (by simp))) Try.underlying38 rfl (by rw [wait_info, HG76.out]) ?_)
            | ((with_reducible show wpList _ _ _ (⟨_, .load 38 (.tmp 17), _, _, _, _⟩ :: _) _ _); refine wpList_load_tx rfl 38 (.tmp 17) rfl w7.heap.size 0 (rfl) CG _ (row_range (HP8.out.row (x := (w7.heap.size, 38, CG)) (by simp))) Try.underlying38 rfl (by rw [wait_info, HG76.out]) ?_))
          generalize w7.heap.size = g17 at *
          clear heq
          obtain ⟨A3, c3, _, hrl⟩ := HP8.out.rl
          obtain ⟨n3, hn3⟩ : ∃ n3, (LP).length = n3 := ⟨_, rfl⟩
          rw [hn3] at hrl
          have HRl := Lib.hid hrl
          have HN3 := Lib.hid hn3
          clear hrl hn3
          refine wp_region_noPanic ?_
          refine wp_region_held_drew (S := fun w' => Below w8.heap.size w8 w') (by kernel_rfl) ((Below.refl _ _).drew) (fun hHeld => ?_)
          generalize w8.drew = wq at *
          refine wpAnyH_take (i := 0) (v := .pointer (some ⟨w.heap.size, 0, none⟩)) rfl (by kernel_rfl) (by kernel_rfl) (by kernel_rfl) (fun _ _ _ h => h) (Or.inl ⟨by rfl, fun w' hSw => by go_simp⟩) hHeld ?_
          try simp only [Act.put, List.getElem_toArray, List.getElem_cons_succ, List.getElem_cons_zero, List.setIfInBounds_toArray, List.set_cons_zero, List.set_cons_succ]
          refine wpAnyH_take (i := 2) (v := .pointer (some ⟨RB, 0, none⟩)) rfl (by kernel_rfl) (by kernel_rfl) (by kernel_rfl) (fun _ _ _ h => h) (Or.inl ⟨by rfl, fun w' hSw => by go_simp⟩) hHeld ?_
          try simp only [Act.put, List.getElem_toArray, List.getElem_cons_succ, List.getElem_cons_zero, List.setIfInBounds_toArray, List.set_cons_zero, List.set_cons_succ]
          refine wpAnyH_take (i := 3) (v := .pointer (some ⟨RB, 0, none⟩)) rfl (by kernel_rfl) (by kernel_rfl) (by kernel_rfl) (fun _ _ _ h => h) (Or.inl ⟨by rfl, fun w' hSw => by go_simp⟩) hHeld ?_
          try simp only [Act.put, List.getElem_toArray, List.getElem_cons_succ, List.getElem_cons_zero, List.setIfInBounds_toArray, List.set_cons_zero, List.set_cons_succ]
          refine wpAnyH_take (i := 4) (v := .pointer (some ⟨RB, 1, none⟩)) rfl (by kernel_rfl) (by kernel_rfl) (by kernel_rfl) (fun _ _ _ h => h) (Or.inl ⟨by rfl, fun w' hSw => by go_simp⟩) hHeld ?_
          try simp only [Act.put, List.getElem_toArray, List.getElem_cons_succ, List.getElem_cons_zero, List.setIfInBounds_toArray, List.set_cons_zero, List.set_cons_succ]
          refine wpAnyH_take (i := 5) (v := .slice A3 n3 c3) rfl (by kernel_rfl) (by kernel_rfl) (by kernel_rfl) (fun _ _ _ h => h) (Or.inl ⟨by rfl, fun w' hSw => by have hq := hSw; have hd := (HRl.out _ hq).1; go_simp⟩) hHeld ?_
          try simp only [Act.put, List.getElem_toArray, List.getElem_cons_succ, List.getElem_cons_zero, List.setIfInBounds_toArray, List.set_cons_zero, List.set_cons_succ]
          refine wpAnyH_ready (rs := [1]) (by kernel_rfl) (by simp) (AllReadyH.cons rfl (fun K1 hK1 => ?_) AllReadyH.nil)
          try simp only [Act.put, List.getElem_toArray, List.getElem_cons_succ, List.getElem_cons_zero, List.setIfInBounds_toArray, List.set_cons_zero, List.set_cons_succ]
          go_simp
          have hal := (HP8.out.below hHeld).all
          rw [HN3.out] at hal
          refine Calls.mono hal ?_
          clear hal
          rintro e wc1 ⟨A4, c4, rfl, hb4, hs4⟩
          refine hK1.out _ _ (two_below' hHeld hb4) (fun hHeld => ?_)
          clear hK1 K1
          try simp only [Act.put, List.getElem_toArray, List.getElem_cons_succ, List.getElem_cons_zero, List.setIfInBounds_toArray, List.set_cons_zero, List.set_cons_succ]
          refine wpAnyH_ready (rs := [6]) (by kernel_rfl) (by simp) (AllReadyH.cons rfl (fun K1 hK1 => ?_) AllReadyH.nil)
          try simp only [Act.put, List.getElem_toArray, List.getElem_cons_succ, List.getElem_cons_zero, List.setIfInBounds_toArray, List.set_cons_zero, List.set_cons_succ]
          go_simp
          have hsm := same18_any LP A4 A3 c4 c3 wc1 hs4 (HRl.out _ hHeld).2
          rw [HN3.out] at hsm
          refine Calls.mono hsm ?_
          clear hsm hs4 hb4
          rintro e wc2 ⟨rfl, hb5⟩
          refine hK1.out _ _ (two_below' hHeld hb5) (fun hHeld => ?_)
          clear hK1 K1
          try simp only [Act.put, List.getElem_toArray, List.getElem_cons_succ, List.getElem_cons_zero, List.setIfInBounds_toArray, List.set_cons_zero, List.set_cons_succ]
          refine wpAnyH_take (i := 7) (v := .bool false) rfl (by kernel_rfl) (by kernel_rfl) (by kernel_rfl) (fun _ _ _ h => h) (Or.inl ⟨by rfl, fun w' hSw => by go_simp⟩) hHeld ?_
          try simp only [Act.put, List.getElem_toArray, List.getElem_cons_succ, List.getElem_cons_zero, List.setIfInBounds_toArray, List.set_cons_zero, List.set_cons_succ]
          refine wpAnyH_take (i := 8) (v := .bool false) rfl (by kernel_rfl) (by kernel_rfl) (by kernel_rfl) (fun _ _ _ h => h) (Or.inl ⟨by rfl, fun w' hSw => by go_simp⟩) hHeld ?_
          try simp only [Act.put, List.getElem_toArray, List.getElem_cons_succ, List.getElem_cons_zero, List.setIfInBounds_toArray, List.set_cons_zero, List.set_cons_succ]
          refine wpAnyH_take (i := 9) (v := .pointer (some ⟨w.heap.size, 0, none⟩)) rfl (by kernel_rfl) (by kernel_rfl) (by kernel_rfl) (fun _ _ _ h => h) (Or.inl ⟨by rfl, fun w' hSw => by go_simp⟩) hHeld ?_
          try simp only [Act.put, List.getElem_toArray, List.getElem_cons_succ, List.getElem_cons_zero, List.setIfInBounds_toArray, List.set_cons_zero, List.set_cons_succ]
          refine wpAnyH_take (i := 11) (v := .pointer (some ⟨RB, 0, none⟩)) rfl (by kernel_rfl) (by kernel_rfl) (by kernel_rfl) (fun _ _ _ h => h) (Or.inl ⟨by rfl, fun w' hSw => by go_simp⟩) hHeld ?_
          try simp only [Act.put, List.getElem_toArray, List.getElem_cons_succ, List.getElem_cons_zero, List.setIfInBounds_toArray, List.set_cons_zero, List.set_cons_succ]
          refine wpAnyH_take (i := 12) (v := .pointer (some ⟨RB, 0, none⟩)) rfl (by kernel_rfl) (by kernel_rfl) (by kernel_rfl) (fun _ _ _ h => h) (Or.inl ⟨by rfl, fun w' hSw => by go_simp⟩) hHeld ?_
          try simp only [Act.put, List.getElem_toArray, List.getElem_cons_succ, List.getElem_cons_zero, List.setIfInBounds_toArray, List.set_cons_zero, List.set_cons_succ]
          refine wpAnyH_take (i := 13) (v := .pointer (some ⟨RB, 1, none⟩)) rfl (by kernel_rfl) (by kernel_rfl) (by kernel_rfl) (fun _ _ _ h => h) (Or.inl ⟨by rfl, fun w' hSw => by go_simp⟩) hHeld ?_
          try simp only [Act.put, List.getElem_toArray, List.getElem_cons_succ, List.getElem_cons_zero, List.setIfInBounds_toArray, List.set_cons_zero, List.set_cons_succ]
          refine wpAnyH_take (i := 14) (v := .slice A3 n3 c3) rfl (by kernel_rfl) (by kernel_rfl) (by kernel_rfl) (fun _ _ _ h => h) (Or.inl ⟨by rfl, fun w' hSw => by have hq := hSw; have hd := (HRl.out _ hq).1; go_simp⟩) hHeld ?_
          try simp only [Act.put, List.getElem_toArray, List.getElem_cons_succ, List.getElem_cons_zero, List.setIfInBounds_toArray, List.set_cons_zero, List.set_cons_succ]
          refine wpAnyH_take (i := 15) (v := .int .i64 n3) rfl (by kernel_rfl) (by kernel_rfl) (by kernel_rfl) (fun _ _ _ h => h) (Or.inl ⟨by rfl, fun w' hSw => by go_simp⟩) hHeld ?_
          try simp only [Act.put, List.getElem_toArray, List.getElem_cons_succ, List.getElem_cons_zero, List.setIfInBounds_toArray, List.set_cons_zero, List.set_cons_succ]
          refine wpAnyH_ready (rs := [10]) (by kernel_rfl) (by simp) (AllReadyH.cons rfl (fun K1 hK1 => ?_) AllReadyH.nil)
          try simp only [Act.put, List.getElem_toArray, List.getElem_cons_succ, List.getElem_cons_zero, List.setIfInBounds_toArray, List.set_cons_zero, List.set_cons_succ]
          go_simp
          have hln := (HP8.out.below hHeld).len
          rw [HN3.out] at hln
          refine Calls.mono hln ?_
          clear hln
          rintro e wz9 ⟨rfl, rfl⟩
          refine hK1.out _ _ (hHeld) (fun hHeld => ?_)
          clear hK1 K1
          try simp only [Act.put, List.getElem_toArray, List.getElem_cons_succ, List.getElem_cons_zero, List.setIfInBounds_toArray, List.set_cons_zero, List.set_cons_succ]
          refine wpAnyH_take (i := 16) (v := .bool false) rfl (by kernel_rfl) (by kernel_rfl) (by kernel_rfl) (fun _ _ _ h => h) (Or.inl ⟨by rfl, fun w' hSw => by go_simp⟩) hHeld ?_
          try simp only [Act.put, List.getElem_toArray, List.getElem_cons_succ, List.getElem_cons_zero, List.setIfInBounds_toArray, List.set_cons_zero, List.set_cons_succ]
          refine wpAnyH_take (i := 17) (v := .bool false) rfl (by kernel_rfl) (by kernel_rfl) (by kernel_rfl) (fun _ _ _ h => h) (Or.inl ⟨by rfl, fun w' hSw => by go_simp⟩) hHeld ?_
          try simp only [Act.put, List.getElem_toArray, List.getElem_cons_succ, List.getElem_cons_zero, List.setIfInBounds_toArray, List.set_cons_zero, List.set_cons_succ]
          refine wpAnyH_done (by kernel_rfl) ?_ _
          refine NoPanic.normal ?_
          have HPz := Lib.hid (HP8.out.below hHeld)
          clear hHeld
          go_wp2_with fail
          exact ⟨⟨k + 1, LP, N, by omega, by go_num, HPz.out.sub (by intro y hy; simp only [List.mem_cons, List.not_mem_nil, or_false] at hy ⊢; rcases hy with rfl | rfl <;> simp), HNl.out⟩, by simp [intOf]; omega⟩
        · skip
          have HPut : Hid (∀ (W : World) (L2 : List Wt) (rows : Rows18), DuE w W w.heap.size w.heap.size RB RB size L L2 rows → Calls Try.prog 10 #[.pointer (some ⟨w.heap.size, 0, none⟩), .agg x.w.cells.toArray] W fun e w' => e = .returned (.tuple #[.agg (Pl.putG size L x.w).cells.toArray, .bool (Pl.putF size L x.w), .int .i64 (Pl.putE size L x.w)]) ∧ DuE w w' w.heap.size w.heap.size RB RB size (Pl.put size L x.w) L2 rows) := Lib.hid (fun W L2 rows h => h.put x.w HXw.out)
          have HRput : Hid (∀ (W : World) (L1 : List Wt) (rows : Rows18), DuE w W w.heap.size w.heap.size RB RB size L1 L rows → Calls Try.prog 11 #[.pointer (some ⟨RB, 0, none⟩), .agg x.w.cells.toArray] W fun e w' => e = .returned (.tuple #[.agg (Pl.putG size L x.w).cells.toArray, .bool (Pl.putF size L x.w), .int .i64 (Pl.putE size L x.w)]) ∧ DuE w w' w.heap.size w.heap.size RB RB size L1 (Pl.put size L x.w) rows) := Lib.hid (fun W L1 rows h => h.rput x.w HXw.out)
          have hgo := Pl.putG_ok size HP.out.wok x.w
          have HG76 := Lib.hid (Wt.cells_len hgo)
          have HG1 := Lib.hid (Wt.cells_one hgo)
          have HEqG := Lib.hid (fun W => wait_same W hgo)
          rw [HCw.out] at HPut HRput
          obtain ⟨CG, hCG⟩ : ∃ CG, (Pl.putG size L x.w).cells = CG := ⟨_, rfl⟩
          obtain ⟨pf, hpf⟩ : ∃ pf, Pl.putF size L x.w = pf := ⟨_, rfl⟩
          obtain ⟨pe, hpe⟩ : ∃ pe, Pl.putE size L x.w = pe := ⟨_, rfl⟩
          obtain ⟨LP, hLP⟩ : ∃ LP, Pl.put size L x.w = LP := ⟨_, rfl⟩
          rw [hCG, hpf, hpe, hLP] at HPut HRput
          rw [hCG] at HG76 HG1 HEqG
          clear hgo hCG hpf hpe hLP
          go_wp2_with (first
            | ((with_reducible show wpList _ _ _ (⟨_, .load 40 (.tmp 86), _, _, _, _⟩ :: _) _ _); refine wpList_load_tx rfl 40 (.tmp 86) rfl ga (off + k * 78) (rfl) C _ (HXr.out _ HP.out.low) Try.underlying40 rfl (by rw [act18_info, HA78.out]) ?_)
            | (
               with_reducible show wpList _ _ _ (⟨_, .store 40 (.tmp 13) _, _, _, _, _⟩ :: _) _ _
               refine wpList_store_at rfl 40 (.tmp 13) (.tmp 87) rfl wr.heap.size 0 C ZA _ rfl rfl (Row.new wr 40 ZA) (by have := HZ78.out; have := HA78.out; omega) (by rw [act18_info, HA78.out]) HA1.out ?_
               intro w4 hr hg
               rw [splice_all (HA78.out.trans HZ78.out.symm)] at hr
               have hbx := below_own ((Below.refl wr.heap.size wr).alloc (Nat.le_refl _) (.cells ZA.toArray 40)) hg (fun k hk => by cases hk; exact Nat.le_refl _)
               have HP4 := Lib.hid (HP.out.new hbx hr)
               obtain ⟨ck, cn, cw⟩ := HCa.out _ _ hr
               have HCW4 := Lib.hid cw
               clear cw
               clear hbx
               clear hr hg)
            | ((with_reducible show wpList _ _ _ (⟨_, .load 38 (.tmp 129), _, _, _, _⟩ :: _) _ _); refine wpList_load_tx rfl 38 (.tmp 129) rfl wr.heap.size 2 (rfl) CW _ (HCW4.out) Try.underlying38 rfl (by rw [wait_info, HW76.out]) ?_))
          clear ck cn
          generalize wr.heap.size = g13 at *
          refine (HPut.out _ _ _ HP4.out).mono ?_
          rintro _ w5 ⟨rfl, hp5⟩
          have HP5 := Lib.hid hp5
          clear hp5 HPut
          have heq := HEqG.out
          go_wp2_with (first
            | (
               with_reducible show wpList _ _ _ (⟨_, .store 38 (.tmp 14) _, _, _, _, _⟩ :: _) _ _
               refine wpList_store_at rfl 38 (.tmp 14) (.tmp 132) rfl w5.heap.size 0 CG ZT _ rfl rfl (Row.new w5 38 ZT) (by have := HZ76.out; have := HG76.out; omega) (by rw [wait_info, HG76.out]) HG1.out ?_
               intro w6 hr hg
               rw [splice_all (HG76.out.trans HZ76.out.symm)] at hr
               have hbx := below_own ((Below.refl w5.heap.size w5).alloc (Nat.le_refl _) (.cells ZT.toArray 38)) hg (fun k hk => by cases hk; exact Nat.le_refl _)
               have HP6 := Lib.hid (HP5.out.new hbx hr)
               have HCW6 := Lib.hid (HCa.out _ _ (HP6.out.row (x := (g13, 40, C)) (by simp))).2.2
               clear hbx
               clear hr hg)
            | ((with_reducible show wpList _ _ _ (⟨_, .load 38 (.tmp 137), _, _, _, _⟩ :: _) _ _); refine wpList_load_tx rfl 38 (.tmp 137) rfl g13 2 (rfl) CW _ (HCW6.out) Try.underlying38 rfl (by rw [wait_info, HW76.out]) ?_))
          generalize w5.heap.size = g14 at *
          refine (HRput.out _ _ _ HP6.out).mono ?_
          rintro _ w7 ⟨rfl, hp7⟩
          have HP7 := Lib.hid hp7
          clear hp7 HRput
          go_wp2_with (first
            | (
               with_reducible show wpList _ _ _ (⟨_, .store 38 (.tmp 17) _, _, _, _, _⟩ :: _) _ _
               refine wpList_store_at rfl 38 (.tmp 17) (.tmp 140) rfl w7.heap.size 0 CG ZT _ rfl rfl (Row.new w7 38 ZT) (by have := HZ76.out; have := HG76.out; omega) (by rw [wait_info, HG76.out]) HG1.out ?_
               intro w8 hr hg
               rw [splice_all (HG76.out.trans HZ76.out.symm)] at hr
               have hbx := below_own ((Below.refl w7.heap.size w7).alloc (Nat.le_refl _) (.cells ZT.toArray 38)) hg (fun k hk => by cases hk; exact Nat.le_refl _)
               have HP8 := Lib.hid (HP7.out.new hbx hr)
               clear hbx
               clear hr hg)
            | ((with_reducible show wpList _ _ _ (⟨_, .load 38 (.tmp 14), _, _, _, _⟩ :: _) _ _); refine wpList_load_tx rfl 38 (.tmp 14) rfl g14 0 (rfl) CG _ (row_range (HP8.out.row (x := (g14, 38, CG)) (by simp))) Try.underlying38 rfl (by rw [wait_info, HG76.out]) ?_)
            | ((with_reducible show wpList _ _ _ (⟨_, .load 38 (.tmp 17), _, _, _, _⟩ :: _) _ _); refine wpList_load_tx rfl 38 (.tmp 17) rfl w7.heap.size 0 (rfl) CG _ (row_range (HP8.out.row (x := (w7.heap.size, 38, CG)) (by simp))) Try.underlying38 rfl (by rw [wait_info, HG76.out]) ?_))
          generalize w7.heap.size = g17 at *
          clear heq
          obtain ⟨A3, c3, _, hrl⟩ := HP8.out.rl
          obtain ⟨n3, hn3⟩ : ∃ n3, (LP).length = n3 := ⟨_, rfl⟩
          rw [hn3] at hrl
          have HRl := Lib.hid hrl
          have HN3 := Lib.hid hn3
          clear hrl hn3
          refine wp_region_noPanic ?_
          refine wp_region_held_drew (S := fun w' => Below w8.heap.size w8 w') (by kernel_rfl) ((Below.refl _ _).drew) (fun hHeld => ?_)
          generalize w8.drew = wq at *
          refine wpAnyH_take (i := 0) (v := .pointer (some ⟨w.heap.size, 0, none⟩)) rfl (by kernel_rfl) (by kernel_rfl) (by kernel_rfl) (fun _ _ _ h => h) (Or.inl ⟨by rfl, fun w' hSw => by go_simp⟩) hHeld ?_
          try simp only [Act.put, List.getElem_toArray, List.getElem_cons_succ, List.getElem_cons_zero, List.setIfInBounds_toArray, List.set_cons_zero, List.set_cons_succ]
          refine wpAnyH_take (i := 2) (v := .pointer (some ⟨RB, 0, none⟩)) rfl (by kernel_rfl) (by kernel_rfl) (by kernel_rfl) (fun _ _ _ h => h) (Or.inl ⟨by rfl, fun w' hSw => by go_simp⟩) hHeld ?_
          try simp only [Act.put, List.getElem_toArray, List.getElem_cons_succ, List.getElem_cons_zero, List.setIfInBounds_toArray, List.set_cons_zero, List.set_cons_succ]
          refine wpAnyH_take (i := 3) (v := .pointer (some ⟨RB, 0, none⟩)) rfl (by kernel_rfl) (by kernel_rfl) (by kernel_rfl) (fun _ _ _ h => h) (Or.inl ⟨by rfl, fun w' hSw => by go_simp⟩) hHeld ?_
          try simp only [Act.put, List.getElem_toArray, List.getElem_cons_succ, List.getElem_cons_zero, List.setIfInBounds_toArray, List.set_cons_zero, List.set_cons_succ]
          refine wpAnyH_take (i := 4) (v := .pointer (some ⟨RB, 1, none⟩)) rfl (by kernel_rfl) (by kernel_rfl) (by kernel_rfl) (fun _ _ _ h => h) (Or.inl ⟨by rfl, fun w' hSw => by go_simp⟩) hHeld ?_
          try simp only [Act.put, List.getElem_toArray, List.getElem_cons_succ, List.getElem_cons_zero, List.setIfInBounds_toArray, List.set_cons_zero, List.set_cons_succ]
          refine wpAnyH_take (i := 5) (v := .slice A3 n3 c3) rfl (by kernel_rfl) (by kernel_rfl) (by kernel_rfl) (fun _ _ _ h => h) (Or.inl ⟨by rfl, fun w' hSw => by have hq := hSw; have hd := (HRl.out _ hq).1; go_simp⟩) hHeld ?_
          try simp only [Act.put, List.getElem_toArray, List.getElem_cons_succ, List.getElem_cons_zero, List.setIfInBounds_toArray, List.set_cons_zero, List.set_cons_succ]
          refine wpAnyH_ready (rs := [1]) (by kernel_rfl) (by simp) (AllReadyH.cons rfl (fun K1 hK1 => ?_) AllReadyH.nil)
          try simp only [Act.put, List.getElem_toArray, List.getElem_cons_succ, List.getElem_cons_zero, List.setIfInBounds_toArray, List.set_cons_zero, List.set_cons_succ]
          go_simp
          have hal := (HP8.out.below hHeld).all
          rw [HN3.out] at hal
          refine Calls.mono hal ?_
          clear hal
          rintro e wc1 ⟨A4, c4, rfl, hb4, hs4⟩
          refine hK1.out _ _ (two_below' hHeld hb4) (fun hHeld => ?_)
          clear hK1 K1
          try simp only [Act.put, List.getElem_toArray, List.getElem_cons_succ, List.getElem_cons_zero, List.setIfInBounds_toArray, List.set_cons_zero, List.set_cons_succ]
          refine wpAnyH_ready (rs := [6]) (by kernel_rfl) (by simp) (AllReadyH.cons rfl (fun K1 hK1 => ?_) AllReadyH.nil)
          try simp only [Act.put, List.getElem_toArray, List.getElem_cons_succ, List.getElem_cons_zero, List.setIfInBounds_toArray, List.set_cons_zero, List.set_cons_succ]
          go_simp
          have hsm := same18_any LP A4 A3 c4 c3 wc1 hs4 (HRl.out _ hHeld).2
          rw [HN3.out] at hsm
          refine Calls.mono hsm ?_
          clear hsm hs4 hb4
          rintro e wc2 ⟨rfl, hb5⟩
          refine hK1.out _ _ (two_below' hHeld hb5) (fun hHeld => ?_)
          clear hK1 K1
          try simp only [Act.put, List.getElem_toArray, List.getElem_cons_succ, List.getElem_cons_zero, List.setIfInBounds_toArray, List.set_cons_zero, List.set_cons_succ]
          refine wpAnyH_take (i := 7) (v := .bool false) rfl (by kernel_rfl) (by kernel_rfl) (by kernel_rfl) (fun _ _ _ h => h) (Or.inl ⟨by rfl, fun w' hSw => by go_simp⟩) hHeld ?_
          try simp only [Act.put, List.getElem_toArray, List.getElem_cons_succ, List.getElem_cons_zero, List.setIfInBounds_toArray, List.set_cons_zero, List.set_cons_succ]
          refine wpAnyH_take (i := 8) (v := .bool false) rfl (by kernel_rfl) (by kernel_rfl) (by kernel_rfl) (fun _ _ _ h => h) (Or.inl ⟨by rfl, fun w' hSw => by go_simp⟩) hHeld ?_
          try simp only [Act.put, List.getElem_toArray, List.getElem_cons_succ, List.getElem_cons_zero, List.setIfInBounds_toArray, List.set_cons_zero, List.set_cons_succ]
          refine wpAnyH_take (i := 9) (v := .pointer (some ⟨w.heap.size, 0, none⟩)) rfl (by kernel_rfl) (by kernel_rfl) (by kernel_rfl) (fun _ _ _ h => h) (Or.inl ⟨by rfl, fun w' hSw => by go_simp⟩) hHeld ?_
          try simp only [Act.put, List.getElem_toArray, List.getElem_cons_succ, List.getElem_cons_zero, List.setIfInBounds_toArray, List.set_cons_zero, List.set_cons_succ]
          refine wpAnyH_take (i := 11) (v := .pointer (some ⟨RB, 0, none⟩)) rfl (by kernel_rfl) (by kernel_rfl) (by kernel_rfl) (fun _ _ _ h => h) (Or.inl ⟨by rfl, fun w' hSw => by go_simp⟩) hHeld ?_
          try simp only [Act.put, List.getElem_toArray, List.getElem_cons_succ, List.getElem_cons_zero, List.setIfInBounds_toArray, List.set_cons_zero, List.set_cons_succ]
          refine wpAnyH_take (i := 12) (v := .pointer (some ⟨RB, 0, none⟩)) rfl (by kernel_rfl) (by kernel_rfl) (by kernel_rfl) (fun _ _ _ h => h) (Or.inl ⟨by rfl, fun w' hSw => by go_simp⟩) hHeld ?_
          try simp only [Act.put, List.getElem_toArray, List.getElem_cons_succ, List.getElem_cons_zero, List.setIfInBounds_toArray, List.set_cons_zero, List.set_cons_succ]
          refine wpAnyH_take (i := 13) (v := .pointer (some ⟨RB, 1, none⟩)) rfl (by kernel_rfl) (by kernel_rfl) (by kernel_rfl) (fun _ _ _ h => h) (Or.inl ⟨by rfl, fun w' hSw => by go_simp⟩) hHeld ?_
          try simp only [Act.put, List.getElem_toArray, List.getElem_cons_succ, List.getElem_cons_zero, List.setIfInBounds_toArray, List.set_cons_zero, List.set_cons_succ]
          refine wpAnyH_take (i := 14) (v := .slice A3 n3 c3) rfl (by kernel_rfl) (by kernel_rfl) (by kernel_rfl) (fun _ _ _ h => h) (Or.inl ⟨by rfl, fun w' hSw => by have hq := hSw; have hd := (HRl.out _ hq).1; go_simp⟩) hHeld ?_
          try simp only [Act.put, List.getElem_toArray, List.getElem_cons_succ, List.getElem_cons_zero, List.setIfInBounds_toArray, List.set_cons_zero, List.set_cons_succ]
          refine wpAnyH_take (i := 15) (v := .int .i64 n3) rfl (by kernel_rfl) (by kernel_rfl) (by kernel_rfl) (fun _ _ _ h => h) (Or.inl ⟨by rfl, fun w' hSw => by go_simp⟩) hHeld ?_
          try simp only [Act.put, List.getElem_toArray, List.getElem_cons_succ, List.getElem_cons_zero, List.setIfInBounds_toArray, List.set_cons_zero, List.set_cons_succ]
          refine wpAnyH_ready (rs := [10]) (by kernel_rfl) (by simp) (AllReadyH.cons rfl (fun K1 hK1 => ?_) AllReadyH.nil)
          try simp only [Act.put, List.getElem_toArray, List.getElem_cons_succ, List.getElem_cons_zero, List.setIfInBounds_toArray, List.set_cons_zero, List.set_cons_succ]
          go_simp
          have hln := (HP8.out.below hHeld).len
          rw [HN3.out] at hln
          refine Calls.mono hln ?_
          clear hln
          rintro e wz9 ⟨rfl, rfl⟩
          refine hK1.out _ _ (hHeld) (fun hHeld => ?_)
          clear hK1 K1
          try simp only [Act.put, List.getElem_toArray, List.getElem_cons_succ, List.getElem_cons_zero, List.setIfInBounds_toArray, List.set_cons_zero, List.set_cons_succ]
          refine wpAnyH_take (i := 16) (v := .bool false) rfl (by kernel_rfl) (by kernel_rfl) (by kernel_rfl) (fun _ _ _ h => h) (Or.inl ⟨by rfl, fun w' hSw => by go_simp⟩) hHeld ?_
          try simp only [Act.put, List.getElem_toArray, List.getElem_cons_succ, List.getElem_cons_zero, List.setIfInBounds_toArray, List.set_cons_zero, List.set_cons_succ]
          refine wpAnyH_take (i := 17) (v := .bool false) rfl (by kernel_rfl) (by kernel_rfl) (by kernel_rfl) (fun _ _ _ h => h) (Or.inl ⟨by rfl, fun w' hSw => by go_simp⟩) hHeld ?_
          try simp only [Act.put, List.getElem_toArray, List.getElem_cons_succ, List.getElem_cons_zero, List.setIfInBounds_toArray, List.set_cons_zero, List.set_cons_succ]
          refine wpAnyH_done (by kernel_rfl) ?_ _
          refine NoPanic.normal ?_
          have HPz := Lib.hid (HP8.out.below hHeld)
          clear hHeld
          go_wp2_with fail
          exact ⟨⟨k + 1, LP, N, by omega, by go_num, HPz.out.sub (by intro y hy; simp only [List.mem_cons, List.not_mem_nil, or_false] at hy ⊢; rcases hy with rfl | rfl <;> simp), HNl.out⟩, by simp [intOf]; omega⟩
        · skip
          obtain ⟨LO, hLO⟩ : ∃ LO, Pl.old L now = LO := ⟨_, rfl⟩
          obtain ⟨LY, hLY⟩ : ∃ LY, Pl.young L now = LY := ⟨_, rfl⟩
          obtain ⟨m4, hm4⟩ : ∃ m4, LO.length = m4 := ⟨_, rfl⟩
          have HOl := Lib.hid hLO
          have HYo := Lib.hid hLY
          have HM4 := Lib.hid hm4
          have HLO : Hid (LO.length ≤ 256) := Lib.hid (by rw [← hLO]; exact Nat.le_trans (Pl.old_len L now) HP.out.n256)
          clear hLO hLY hm4
          go_wp2_with (first
            | ((with_reducible show wpList _ _ _ (⟨_, .load 40 (.tmp 86), _, _, _, _⟩ :: _) _ _); refine wpList_load_tx rfl 40 (.tmp 86) rfl ga (off + k * 78) (rfl) C _ (HXr.out _ HP.out.low) Try.underlying40 rfl (by rw [act18_info, HA78.out]) ?_)
            | (
               with_reducible show wpList _ _ _ (⟨_, .store 40 (.tmp 13) _, _, _, _, _⟩ :: _) _ _
               refine wpList_store_at rfl 40 (.tmp 13) (.tmp 87) rfl wr.heap.size 0 C ZA _ rfl rfl (Row.new wr 40 ZA) (by have := HZ78.out; have := HA78.out; omega) (by rw [act18_info, HA78.out]) HA1.out ?_
               intro w4 hr hg
               rw [splice_all (HA78.out.trans HZ78.out.symm)] at hr
               have hbx := below_own ((Below.refl wr.heap.size wr).alloc (Nat.le_refl _) (.cells ZA.toArray 40)) hg (fun k hk => by cases hk; exact Nat.le_refl _)
               have HP4 := Lib.hid (HP.out.new hbx hr)
               obtain ⟨ck, cn, cw⟩ := HCa.out _ _ hr
               have HCW4 := Lib.hid cw
               clear cw
               clear hbx
               clear hr hg))
          clear ck cn
          generalize wr.heap.size = g13 at *
          have hT := HP4.out.below (Below.refl _ _).drew
          refine wp_region_noPanic ?_
          refine wp_region_held_drew (S := fun w' => Row w' g13 40 C) (by kernel_rfl) (HP4.out.row (x := (g13, 40, C)) (by simp)) (fun hHeld => ?_)
          generalize w4.drew = wq at *
          refine wpAnyH_take (i := 0) (v := .pointer (some ⟨w.heap.size, 0, none⟩)) rfl (by kernel_rfl) (by kernel_rfl) (by kernel_rfl) (fun _ _ _ h => h) (Or.inl ⟨by rfl, fun w' hSw => by go_simp⟩) hHeld ?_
          try simp only [Act.put, List.getElem_toArray, List.getElem_cons_succ, List.getElem_cons_zero, List.setIfInBounds_toArray, List.set_cons_zero, List.set_cons_succ]
          refine wpAnyH_take (i := 1) (v := .pointer (some ⟨g13, 1, none⟩)) rfl (by kernel_rfl) (by kernel_rfl) (by kernel_rfl) (fun _ _ _ h => h) (Or.inl ⟨by rfl, fun w' hSw => by go_simp⟩) hHeld ?_
          try simp only [Act.put, List.getElem_toArray, List.getElem_cons_succ, List.getElem_cons_zero, List.setIfInBounds_toArray, List.set_cons_zero, List.set_cons_succ]
          refine wpAnyH_take (i := 2) (v := .int .i64 now) rfl (by kernel_rfl) (by kernel_rfl) (by kernel_rfl) (fun _ _ _ h => h) (Or.inl ⟨by rfl, fun w' hSw => by have hq := hSw; have hd := (HCa.out _ _ hq).2.1; go_simp⟩) hHeld ?_
          try simp only [Act.put, List.getElem_toArray, List.getElem_cons_succ, List.getElem_cons_zero, List.setIfInBounds_toArray, List.set_cons_zero, List.set_cons_succ]
          refine wpAnyH_take (i := 4) (v := .pointer (some ⟨RB, 0, none⟩)) rfl (by kernel_rfl) (by kernel_rfl) (by kernel_rfl) (fun _ _ _ h => h) (Or.inl ⟨by rfl, fun w' hSw => by go_simp⟩) hHeld ?_
          try simp only [Act.put, List.getElem_toArray, List.getElem_cons_succ, List.getElem_cons_zero, List.setIfInBounds_toArray, List.set_cons_zero, List.set_cons_succ]
          refine wpAnyH_take (i := 5) (v := .pointer (some ⟨g13, 1, none⟩)) rfl (by kernel_rfl) (by kernel_rfl) (by kernel_rfl) (fun _ _ _ h => h) (Or.inl ⟨by rfl, fun w' hSw => by go_simp⟩) hHeld ?_
          try simp only [Act.put, List.getElem_toArray, List.getElem_cons_succ, List.getElem_cons_zero, List.setIfInBounds_toArray, List.set_cons_zero, List.set_cons_succ]
          refine wpAnyH_take (i := 6) (v := .int .i64 now) rfl (by kernel_rfl) (by kernel_rfl) (by kernel_rfl) (fun _ _ _ h => h) (Or.inl ⟨by rfl, fun w' hSw => by have hq := hSw; have hd := (HCa.out _ _ hq).2.1; go_simp⟩) hHeld ?_
          try simp only [Act.put, List.getElem_toArray, List.getElem_cons_succ, List.getElem_cons_zero, List.setIfInBounds_toArray, List.set_cons_zero, List.set_cons_succ]
          refine wpAnyH_ready (rs := [3]) (by kernel_rfl) (by simp) (AllReadyH.cons rfl (fun K1 hK1 => ?_) AllReadyH.nil)
          try simp only [Act.put, List.getElem_toArray, List.getElem_cons_succ, List.getElem_cons_zero, List.setIfInBounds_toArray, List.set_cons_zero, List.set_cons_succ]
          go_simp
          have hco := hT.old now
          rw [HOl.out, HYo.out, HM4.out] at hco
          refine Calls.mono hco ?_
          clear hT hco
          rintro e wc1 ⟨A4, c4, rfl, hT, ho4, hl4, hap4⟩
          refine hK1.out _ _ (hT.row (x := (g13, 40, C)) (by simp)) (fun hHeld => ?_)
          clear hK1 K1
          try simp only [Act.put, List.getElem_toArray, List.getElem_cons_succ, List.getElem_cons_zero, List.setIfInBounds_toArray, List.set_cons_zero, List.set_cons_succ]
          refine wpAnyH_ready (rs := [7]) (by kernel_rfl) (by simp) (AllReadyH.cons rfl (fun K1 hK1 => ?_) AllReadyH.nil)
          try simp only [Act.put, List.getElem_toArray, List.getElem_cons_succ, List.getElem_cons_zero, List.setIfInBounds_toArray, List.set_cons_zero, List.set_cons_succ]
          go_simp
          have hco := hT.rold now (l0 := LO) (by rw [HM4.out]; exact ho4) hl4 HLO.out (by rw [HM4.out]; exact hap4)
          rw [HOl.out, HYo.out, HM4.out] at hco
          refine Calls.mono hco ?_
          clear hT hco ho4 hl4 hap4
          rintro e wc2 ⟨A5, c5, rfl, hT, hs5, hs4⟩
          refine hK1.out _ _ (hT.row (x := (g13, 40, C)) (by simp)) (fun hHeld => ?_)
          clear hK1 K1
          try simp only [Act.put, List.getElem_toArray, List.getElem_cons_succ, List.getElem_cons_zero, List.setIfInBounds_toArray, List.set_cons_zero, List.set_cons_succ]
          refine wpAnyH_ready (rs := [8]) (by kernel_rfl) (by simp) (AllReadyH.cons rfl (fun K1 hK1 => ?_) AllReadyH.nil)
          try simp only [Act.put, List.getElem_toArray, List.getElem_cons_succ, List.getElem_cons_zero, List.setIfInBounds_toArray, List.set_cons_zero, List.set_cons_succ]
          go_simp
          have hsm := same18_any LO A4 A5 c4 c5 wc2 hs4 hs5
          rw [HM4.out] at hsm
          refine Calls.mono hsm ?_
          clear hsm hs4 hs5
          rintro e wc3 ⟨rfl, hb6⟩
          replace hT := hT.below hb6
          clear hb6
          refine hK1.out _ _ (hT.row (x := (g13, 40, C)) (by simp)) (fun hHeld => ?_)
          clear hK1 K1
          try simp only [Act.put, List.getElem_toArray, List.getElem_cons_succ, List.getElem_cons_zero, List.setIfInBounds_toArray, List.set_cons_zero, List.set_cons_succ]
          refine wpAnyH_take (i := 9) (v := .bool false) rfl (by kernel_rfl) (by kernel_rfl) (by kernel_rfl) (fun _ _ _ h => h) (Or.inl ⟨by rfl, fun w' hSw => by go_simp⟩) hHeld ?_
          try simp only [Act.put, List.getElem_toArray, List.getElem_cons_succ, List.getElem_cons_zero, List.setIfInBounds_toArray, List.set_cons_zero, List.set_cons_succ]
          refine wpAnyH_done (by kernel_rfl) ?_ _
          refine NoPanic.normal ?_
          have HP8 := Lib.hid hT
          clear hT hHeld
          generalize wc3 = w8 at *
          go_wp2_with fail
          obtain ⟨A3, c3, _, hrl⟩ := HP8.out.rl
          obtain ⟨n3, hn3⟩ : ∃ n3, (LY).length = n3 := ⟨_, rfl⟩
          rw [hn3] at hrl
          have HRl := Lib.hid hrl
          have HN3 := Lib.hid hn3
          clear hrl hn3
          refine wp_region_noPanic ?_
          refine wp_region_held_drew (S := fun w' => Below w8.heap.size w8 w') (by kernel_rfl) ((Below.refl _ _).drew) (fun hHeld => ?_)
          generalize w8.drew = wq at *
          refine wpAnyH_take (i := 0) (v := .pointer (some ⟨w.heap.size, 0, none⟩)) rfl (by kernel_rfl) (by kernel_rfl) (by kernel_rfl) (fun _ _ _ h => h) (Or.inl ⟨by rfl, fun w' hSw => by go_simp⟩) hHeld ?_
          try simp only [Act.put, List.getElem_toArray, List.getElem_cons_succ, List.getElem_cons_zero, List.setIfInBounds_toArray, List.set_cons_zero, List.set_cons_succ]
          refine wpAnyH_take (i := 2) (v := .pointer (some ⟨RB, 0, none⟩)) rfl (by kernel_rfl) (by kernel_rfl) (by kernel_rfl) (fun _ _ _ h => h) (Or.inl ⟨by rfl, fun w' hSw => by go_simp⟩) hHeld ?_
          try simp only [Act.put, List.getElem_toArray, List.getElem_cons_succ, List.getElem_cons_zero, List.setIfInBounds_toArray, List.set_cons_zero, List.set_cons_succ]
          refine wpAnyH_take (i := 3) (v := .pointer (some ⟨RB, 0, none⟩)) rfl (by kernel_rfl) (by kernel_rfl) (by kernel_rfl) (fun _ _ _ h => h) (Or.inl ⟨by rfl, fun w' hSw => by go_simp⟩) hHeld ?_
          try simp only [Act.put, List.getElem_toArray, List.getElem_cons_succ, List.getElem_cons_zero, List.setIfInBounds_toArray, List.set_cons_zero, List.set_cons_succ]
          refine wpAnyH_take (i := 4) (v := .pointer (some ⟨RB, 1, none⟩)) rfl (by kernel_rfl) (by kernel_rfl) (by kernel_rfl) (fun _ _ _ h => h) (Or.inl ⟨by rfl, fun w' hSw => by go_simp⟩) hHeld ?_
          try simp only [Act.put, List.getElem_toArray, List.getElem_cons_succ, List.getElem_cons_zero, List.setIfInBounds_toArray, List.set_cons_zero, List.set_cons_succ]
          refine wpAnyH_take (i := 5) (v := .slice A3 n3 c3) rfl (by kernel_rfl) (by kernel_rfl) (by kernel_rfl) (fun _ _ _ h => h) (Or.inl ⟨by rfl, fun w' hSw => by have hq := hSw; have hd := (HRl.out _ hq).1; go_simp⟩) hHeld ?_
          try simp only [Act.put, List.getElem_toArray, List.getElem_cons_succ, List.getElem_cons_zero, List.setIfInBounds_toArray, List.set_cons_zero, List.set_cons_succ]
          refine wpAnyH_ready (rs := [1]) (by kernel_rfl) (by simp) (AllReadyH.cons rfl (fun K1 hK1 => ?_) AllReadyH.nil)
          try simp only [Act.put, List.getElem_toArray, List.getElem_cons_succ, List.getElem_cons_zero, List.setIfInBounds_toArray, List.set_cons_zero, List.set_cons_succ]
          go_simp
          have hal := (HP8.out.below hHeld).all
          rw [HN3.out] at hal
          refine Calls.mono hal ?_
          clear hal
          rintro e wc1 ⟨A4, c4, rfl, hb4, hs4⟩
          refine hK1.out _ _ (two_below' hHeld hb4) (fun hHeld => ?_)
          clear hK1 K1
          try simp only [Act.put, List.getElem_toArray, List.getElem_cons_succ, List.getElem_cons_zero, List.setIfInBounds_toArray, List.set_cons_zero, List.set_cons_succ]
          refine wpAnyH_ready (rs := [6]) (by kernel_rfl) (by simp) (AllReadyH.cons rfl (fun K1 hK1 => ?_) AllReadyH.nil)
          try simp only [Act.put, List.getElem_toArray, List.getElem_cons_succ, List.getElem_cons_zero, List.setIfInBounds_toArray, List.set_cons_zero, List.set_cons_succ]
          go_simp
          have hsm := same18_any LY A4 A3 c4 c3 wc1 hs4 (HRl.out _ hHeld).2
          rw [HN3.out] at hsm
          refine Calls.mono hsm ?_
          clear hsm hs4 hb4
          rintro e wc2 ⟨rfl, hb5⟩
          refine hK1.out _ _ (two_below' hHeld hb5) (fun hHeld => ?_)
          clear hK1 K1
          try simp only [Act.put, List.getElem_toArray, List.getElem_cons_succ, List.getElem_cons_zero, List.setIfInBounds_toArray, List.set_cons_zero, List.set_cons_succ]
          refine wpAnyH_take (i := 7) (v := .bool false) rfl (by kernel_rfl) (by kernel_rfl) (by kernel_rfl) (fun _ _ _ h => h) (Or.inl ⟨by rfl, fun w' hSw => by go_simp⟩) hHeld ?_
          try simp only [Act.put, List.getElem_toArray, List.getElem_cons_succ, List.getElem_cons_zero, List.setIfInBounds_toArray, List.set_cons_zero, List.set_cons_succ]
          refine wpAnyH_take (i := 8) (v := .bool false) rfl (by kernel_rfl) (by kernel_rfl) (by kernel_rfl) (fun _ _ _ h => h) (Or.inl ⟨by rfl, fun w' hSw => by go_simp⟩) hHeld ?_
          try simp only [Act.put, List.getElem_toArray, List.getElem_cons_succ, List.getElem_cons_zero, List.setIfInBounds_toArray, List.set_cons_zero, List.set_cons_succ]
          refine wpAnyH_take (i := 9) (v := .pointer (some ⟨w.heap.size, 0, none⟩)) rfl (by kernel_rfl) (by kernel_rfl) (by kernel_rfl) (fun _ _ _ h => h) (Or.inl ⟨by rfl, fun w' hSw => by go_simp⟩) hHeld ?_
          try simp only [Act.put, List.getElem_toArray, List.getElem_cons_succ, List.getElem_cons_zero, List.setIfInBounds_toArray, List.set_cons_zero, List.set_cons_succ]
          refine wpAnyH_take (i := 11) (v := .pointer (some ⟨RB, 0, none⟩)) rfl (by kernel_rfl) (by kernel_rfl) (by kernel_rfl) (fun _ _ _ h => h) (Or.inl ⟨by rfl, fun w' hSw => by go_simp⟩) hHeld ?_
          try simp only [Act.put, List.getElem_toArray, List.getElem_cons_succ, List.getElem_cons_zero, List.setIfInBounds_toArray, List.set_cons_zero, List.set_cons_succ]
          refine wpAnyH_take (i := 12) (v := .pointer (some ⟨RB, 0, none⟩)) rfl (by kernel_rfl) (by kernel_rfl) (by kernel_rfl) (fun _ _ _ h => h) (Or.inl ⟨by rfl, fun w' hSw => by go_simp⟩) hHeld ?_
          try simp only [Act.put, List.getElem_toArray, List.getElem_cons_succ, List.getElem_cons_zero, List.setIfInBounds_toArray, List.set_cons_zero, List.set_cons_succ]
          refine wpAnyH_take (i := 13) (v := .pointer (some ⟨RB, 1, none⟩)) rfl (by kernel_rfl) (by kernel_rfl) (by kernel_rfl) (fun _ _ _ h => h) (Or.inl ⟨by rfl, fun w' hSw => by go_simp⟩) hHeld ?_
          try simp only [Act.put, List.getElem_toArray, List.getElem_cons_succ, List.getElem_cons_zero, List.setIfInBounds_toArray, List.set_cons_zero, List.set_cons_succ]
          refine wpAnyH_take (i := 14) (v := .slice A3 n3 c3) rfl (by kernel_rfl) (by kernel_rfl) (by kernel_rfl) (fun _ _ _ h => h) (Or.inl ⟨by rfl, fun w' hSw => by have hq := hSw; have hd := (HRl.out _ hq).1; go_simp⟩) hHeld ?_
          try simp only [Act.put, List.getElem_toArray, List.getElem_cons_succ, List.getElem_cons_zero, List.setIfInBounds_toArray, List.set_cons_zero, List.set_cons_succ]
          refine wpAnyH_take (i := 15) (v := .int .i64 n3) rfl (by kernel_rfl) (by kernel_rfl) (by kernel_rfl) (fun _ _ _ h => h) (Or.inl ⟨by rfl, fun w' hSw => by go_simp⟩) hHeld ?_
          try simp only [Act.put, List.getElem_toArray, List.getElem_cons_succ, List.getElem_cons_zero, List.setIfInBounds_toArray, List.set_cons_zero, List.set_cons_succ]
          refine wpAnyH_ready (rs := [10]) (by kernel_rfl) (by simp) (AllReadyH.cons rfl (fun K1 hK1 => ?_) AllReadyH.nil)
          try simp only [Act.put, List.getElem_toArray, List.getElem_cons_succ, List.getElem_cons_zero, List.setIfInBounds_toArray, List.set_cons_zero, List.set_cons_succ]
          go_simp
          have hln := (HP8.out.below hHeld).len
          rw [HN3.out] at hln
          refine Calls.mono hln ?_
          clear hln
          rintro e wz9 ⟨rfl, rfl⟩
          refine hK1.out _ _ (hHeld) (fun hHeld => ?_)
          clear hK1 K1
          try simp only [Act.put, List.getElem_toArray, List.getElem_cons_succ, List.getElem_cons_zero, List.setIfInBounds_toArray, List.set_cons_zero, List.set_cons_succ]
          refine wpAnyH_take (i := 16) (v := .bool false) rfl (by kernel_rfl) (by kernel_rfl) (by kernel_rfl) (fun _ _ _ h => h) (Or.inl ⟨by rfl, fun w' hSw => by go_simp⟩) hHeld ?_
          try simp only [Act.put, List.getElem_toArray, List.getElem_cons_succ, List.getElem_cons_zero, List.setIfInBounds_toArray, List.set_cons_zero, List.set_cons_succ]
          refine wpAnyH_take (i := 17) (v := .bool false) rfl (by kernel_rfl) (by kernel_rfl) (by kernel_rfl) (fun _ _ _ h => h) (Or.inl ⟨by rfl, fun w' hSw => by go_simp⟩) hHeld ?_
          try simp only [Act.put, List.getElem_toArray, List.getElem_cons_succ, List.getElem_cons_zero, List.setIfInBounds_toArray, List.set_cons_zero, List.set_cons_succ]
          refine wpAnyH_done (by kernel_rfl) ?_ _
          refine NoPanic.normal ?_
          have HPz := Lib.hid (HP8.out.below hHeld)
          clear hHeld
          go_wp2_with fail
          exact ⟨⟨k + 1, LY, N, by omega, by go_num, HPz.out.sub (by intro y hy; simp only [List.mem_cons, List.not_mem_nil, or_false] at hy ⊢; rcases hy with rfl | rfl <;> simp), HNl.out⟩, by simp [intOf]; omega⟩
        · have e0 : (kind == 0) = false := by simpa using hno.1
          have e1 : (kind == 1) = false := by simpa using hno.2.1
          have e2 : (kind == 2) = false := by simpa using hno.2.2.1
          have e3 : (kind == 3) = false := by simpa using hno.2.2.2
          clear hno
          cases hb : Pl.best L now (Pl.nxf N) L.length with
          | none =>
            have HBest := Lib.hid hb
            clear hb
            go_wp2_with (first
              | ((with_reducible show wpList _ _ _ (⟨_, .load 40 (.tmp 86), _, _, _, _⟩ :: _) _ _); refine wpList_load_tx rfl 40 (.tmp 86) rfl ga (off + k * 78) (rfl) C _ (HXr.out _ HP.out.low) Try.underlying40 rfl (by rw [act18_info, HA78.out]) ?_)
              | (
                 with_reducible show wpList _ _ _ (⟨_, .store 40 (.tmp 13) _, _, _, _, _⟩ :: _) _ _
                 refine wpList_store_at rfl 40 (.tmp 13) (.tmp 87) rfl wr.heap.size 0 C ZA _ rfl rfl (Row.new wr 40 ZA) (by have := HZ78.out; have := HA78.out; omega) (by rw [act18_info, HA78.out]) HA1.out ?_
                 intro w4 hr hg
                 rw [splice_all (HA78.out.trans HZ78.out.symm)] at hr
                 have hbx := below_own ((Below.refl wr.heap.size wr).alloc (Nat.le_refl _) (.cells ZA.toArray 40)) hg (fun k hk => by cases hk; exact Nat.le_refl _)
                 have HP4 := Lib.hid (HP.out.new hbx hr)
                 obtain ⟨ck, cn, cw⟩ := HCa.out _ _ hr
                 have HCW4 := Lib.hid cw
                 clear cw
                 clear hbx
                 clear hr hg))
            clear ck cn
            generalize wr.heap.size = g13 at *
            have N1 := HP4.out.next0 now _ _ _ (next16 (HP4.out.row (x := (gX, 23, [.slice (some ⟨gN, 0, none⟩) 64 64])) (by simp)) (HP4.out.row (x := (gN, 3, Is N)) (by simp)) HNl.out) HBest.out
            rw [HZT.out] at N1
            refine N1.mono ?_
            rintro _ w5 ⟨rfl, hp5⟩
            have HP5 := Lib.hid hp5
            clear hp5 N1
            have heq := HEqZ.out
            go_wp2_with (first
              | (
                 with_reducible show wpList _ _ _ (⟨_, .store 38 (.tmp 20) _, _, _, _, _⟩ :: _) _ _
                 refine wpList_store_at rfl 38 (.tmp 20) (.tmp 96) rfl w5.heap.size 0 ZT ZT _ rfl rfl (Row.new w5 38 ZT) (by have := HZ76.out; have := HZ76.out; omega) (by rw [wait_info, HZ76.out]) HZ1.out ?_
                 intro w6 hr hg
                 rw [splice_all (HZ76.out.trans HZ76.out.symm)] at hr
                 have hbx := below_own ((Below.refl w5.heap.size w5).alloc (Nat.le_refl _) (.cells ZT.toArray 38)) hg (fun k hk => by cases hk; exact Nat.le_refl _)
                 have HP6 := Lib.hid (HP5.out.new hbx hr)
                 have cn6 := (HCa.out _ _ (HP6.out.row (x := (g13, 40, C)) (by simp))).2.1
                 have cx6 := rowX (HP6.out.row (x := (gX, 23, [.slice (some ⟨gN, 0, none⟩) 64 64])) (by simp))
                 clear hbx
                 clear hr hg))
            clear cn6 cx6
            generalize w5.heap.size = g20 at *
            have N2 := HP6.out.rnext0 now N HNl.out (HP6.out.row (x := (gN, 3, Is N)) (by simp)) HBest.out
            rw [HZT.out] at N2
            refine N2.mono ?_
            rintro _ w7 ⟨rfl, hp7⟩
            have HP7 := Lib.hid hp7
            clear hp7 N2
            go_wp2_with (first
              | (
                 with_reducible show wpList _ _ _ (⟨_, .store 38 (.tmp 22) _, _, _, _, _⟩ :: _) _ _
                 refine wpList_store_at rfl 38 (.tmp 22) (.tmp 104) rfl w7.heap.size 0 ZT ZT _ rfl rfl (Row.new w7 38 ZT) (by have := HZ76.out; have := HZ76.out; omega) (by rw [wait_info, HZ76.out]) HZ1.out ?_
                 intro w8 hr hg
                 rw [splice_all (HZ76.out.trans HZ76.out.symm)] at hr
                 have hbx := below_own ((Below.refl w7.heap.size w7).alloc (Nat.le_refl _) (.cells ZT.toArray 38)) hg (fun k hk => by cases hk; exact Nat.le_refl _)
                 have HP8 := Lib.hid (HP7.out.new hbx hr)
                 clear hbx
                 clear hr hg)
              | ((with_reducible show wpList _ _ _ (⟨_, .load 38 (.tmp 20), _, _, _, _⟩ :: _) _ _); refine wpList_load_tx rfl 38 (.tmp 20) rfl g20 0 (rfl) ZT _ (row_range (HP8.out.row (x := (g20, 38, ZT)) (by simp))) Try.underlying38 rfl (by rw [wait_info, HZ76.out]) ?_)
              | ((with_reducible show wpList _ _ _ (⟨_, .load 38 (.tmp 22), _, _, _, _⟩ :: _) _ _); refine wpList_load_tx rfl 38 (.tmp 22) rfl w7.heap.size 0 (rfl) ZT _ (row_range (HP8.out.row (x := (w7.heap.size, 38, ZT)) (by simp))) Try.underlying38 rfl (by rw [wait_info, HZ76.out]) ?_))
            generalize w7.heap.size = g22 at *
            clear heq
            obtain ⟨A3, c3, _, hrl⟩ := HP8.out.rl
            obtain ⟨n3, hn3⟩ : ∃ n3, (L).length = n3 := ⟨_, rfl⟩
            rw [hn3] at hrl
            have HRl := Lib.hid hrl
            have HN3 := Lib.hid hn3
            clear hrl hn3
            refine wp_region_noPanic ?_
            refine wp_region_held_drew (S := fun w' => Below w8.heap.size w8 w') (by kernel_rfl) ((Below.refl _ _).drew) (fun hHeld => ?_)
            generalize w8.drew = wq at *
            refine wpAnyH_take (i := 0) (v := .pointer (some ⟨w.heap.size, 0, none⟩)) rfl (by kernel_rfl) (by kernel_rfl) (by kernel_rfl) (fun _ _ _ h => h) (Or.inl ⟨by rfl, fun w' hSw => by go_simp⟩) hHeld ?_
            try simp only [Act.put, List.getElem_toArray, List.getElem_cons_succ, List.getElem_cons_zero, List.setIfInBounds_toArray, List.set_cons_zero, List.set_cons_succ]
            refine wpAnyH_take (i := 2) (v := .pointer (some ⟨RB, 0, none⟩)) rfl (by kernel_rfl) (by kernel_rfl) (by kernel_rfl) (fun _ _ _ h => h) (Or.inl ⟨by rfl, fun w' hSw => by go_simp⟩) hHeld ?_
            try simp only [Act.put, List.getElem_toArray, List.getElem_cons_succ, List.getElem_cons_zero, List.setIfInBounds_toArray, List.set_cons_zero, List.set_cons_succ]
            refine wpAnyH_take (i := 3) (v := .pointer (some ⟨RB, 0, none⟩)) rfl (by kernel_rfl) (by kernel_rfl) (by kernel_rfl) (fun _ _ _ h => h) (Or.inl ⟨by rfl, fun w' hSw => by go_simp⟩) hHeld ?_
            try simp only [Act.put, List.getElem_toArray, List.getElem_cons_succ, List.getElem_cons_zero, List.setIfInBounds_toArray, List.set_cons_zero, List.set_cons_succ]
            refine wpAnyH_take (i := 4) (v := .pointer (some ⟨RB, 1, none⟩)) rfl (by kernel_rfl) (by kernel_rfl) (by kernel_rfl) (fun _ _ _ h => h) (Or.inl ⟨by rfl, fun w' hSw => by go_simp⟩) hHeld ?_
            try simp only [Act.put, List.getElem_toArray, List.getElem_cons_succ, List.getElem_cons_zero, List.setIfInBounds_toArray, List.set_cons_zero, List.set_cons_succ]
            refine wpAnyH_take (i := 5) (v := .slice A3 n3 c3) rfl (by kernel_rfl) (by kernel_rfl) (by kernel_rfl) (fun _ _ _ h => h) (Or.inl ⟨by rfl, fun w' hSw => by have hq := hSw; have hd := (HRl.out _ hq).1; go_simp⟩) hHeld ?_
            try simp only [Act.put, List.getElem_toArray, List.getElem_cons_succ, List.getElem_cons_zero, List.setIfInBounds_toArray, List.set_cons_zero, List.set_cons_succ]
            refine wpAnyH_ready (rs := [1]) (by kernel_rfl) (by simp) (AllReadyH.cons rfl (fun K1 hK1 => ?_) AllReadyH.nil)
            try simp only [Act.put, List.getElem_toArray, List.getElem_cons_succ, List.getElem_cons_zero, List.setIfInBounds_toArray, List.set_cons_zero, List.set_cons_succ]
            go_simp
            have hal := (HP8.out.below hHeld).all
            rw [HN3.out] at hal
            refine Calls.mono hal ?_
            clear hal
            rintro e wc1 ⟨A4, c4, rfl, hb4, hs4⟩
            refine hK1.out _ _ (two_below' hHeld hb4) (fun hHeld => ?_)
            clear hK1 K1
            try simp only [Act.put, List.getElem_toArray, List.getElem_cons_succ, List.getElem_cons_zero, List.setIfInBounds_toArray, List.set_cons_zero, List.set_cons_succ]
            refine wpAnyH_ready (rs := [6]) (by kernel_rfl) (by simp) (AllReadyH.cons rfl (fun K1 hK1 => ?_) AllReadyH.nil)
            try simp only [Act.put, List.getElem_toArray, List.getElem_cons_succ, List.getElem_cons_zero, List.setIfInBounds_toArray, List.set_cons_zero, List.set_cons_succ]
            go_simp
            have hsm := same18_any L A4 A3 c4 c3 wc1 hs4 (HRl.out _ hHeld).2
            rw [HN3.out] at hsm
            refine Calls.mono hsm ?_
            clear hsm hs4 hb4
            rintro e wc2 ⟨rfl, hb5⟩
            refine hK1.out _ _ (two_below' hHeld hb5) (fun hHeld => ?_)
            clear hK1 K1
            try simp only [Act.put, List.getElem_toArray, List.getElem_cons_succ, List.getElem_cons_zero, List.setIfInBounds_toArray, List.set_cons_zero, List.set_cons_succ]
            refine wpAnyH_take (i := 7) (v := .bool false) rfl (by kernel_rfl) (by kernel_rfl) (by kernel_rfl) (fun _ _ _ h => h) (Or.inl ⟨by rfl, fun w' hSw => by go_simp⟩) hHeld ?_
            try simp only [Act.put, List.getElem_toArray, List.getElem_cons_succ, List.getElem_cons_zero, List.setIfInBounds_toArray, List.set_cons_zero, List.set_cons_succ]
            refine wpAnyH_take (i := 8) (v := .bool false) rfl (by kernel_rfl) (by kernel_rfl) (by kernel_rfl) (fun _ _ _ h => h) (Or.inl ⟨by rfl, fun w' hSw => by go_simp⟩) hHeld ?_
            try simp only [Act.put, List.getElem_toArray, List.getElem_cons_succ, List.getElem_cons_zero, List.setIfInBounds_toArray, List.set_cons_zero, List.set_cons_succ]
            refine wpAnyH_take (i := 9) (v := .pointer (some ⟨w.heap.size, 0, none⟩)) rfl (by kernel_rfl) (by kernel_rfl) (by kernel_rfl) (fun _ _ _ h => h) (Or.inl ⟨by rfl, fun w' hSw => by go_simp⟩) hHeld ?_
            try simp only [Act.put, List.getElem_toArray, List.getElem_cons_succ, List.getElem_cons_zero, List.setIfInBounds_toArray, List.set_cons_zero, List.set_cons_succ]
            refine wpAnyH_take (i := 11) (v := .pointer (some ⟨RB, 0, none⟩)) rfl (by kernel_rfl) (by kernel_rfl) (by kernel_rfl) (fun _ _ _ h => h) (Or.inl ⟨by rfl, fun w' hSw => by go_simp⟩) hHeld ?_
            try simp only [Act.put, List.getElem_toArray, List.getElem_cons_succ, List.getElem_cons_zero, List.setIfInBounds_toArray, List.set_cons_zero, List.set_cons_succ]
            refine wpAnyH_take (i := 12) (v := .pointer (some ⟨RB, 0, none⟩)) rfl (by kernel_rfl) (by kernel_rfl) (by kernel_rfl) (fun _ _ _ h => h) (Or.inl ⟨by rfl, fun w' hSw => by go_simp⟩) hHeld ?_
            try simp only [Act.put, List.getElem_toArray, List.getElem_cons_succ, List.getElem_cons_zero, List.setIfInBounds_toArray, List.set_cons_zero, List.set_cons_succ]
            refine wpAnyH_take (i := 13) (v := .pointer (some ⟨RB, 1, none⟩)) rfl (by kernel_rfl) (by kernel_rfl) (by kernel_rfl) (fun _ _ _ h => h) (Or.inl ⟨by rfl, fun w' hSw => by go_simp⟩) hHeld ?_
            try simp only [Act.put, List.getElem_toArray, List.getElem_cons_succ, List.getElem_cons_zero, List.setIfInBounds_toArray, List.set_cons_zero, List.set_cons_succ]
            refine wpAnyH_take (i := 14) (v := .slice A3 n3 c3) rfl (by kernel_rfl) (by kernel_rfl) (by kernel_rfl) (fun _ _ _ h => h) (Or.inl ⟨by rfl, fun w' hSw => by have hq := hSw; have hd := (HRl.out _ hq).1; go_simp⟩) hHeld ?_
            try simp only [Act.put, List.getElem_toArray, List.getElem_cons_succ, List.getElem_cons_zero, List.setIfInBounds_toArray, List.set_cons_zero, List.set_cons_succ]
            refine wpAnyH_take (i := 15) (v := .int .i64 n3) rfl (by kernel_rfl) (by kernel_rfl) (by kernel_rfl) (fun _ _ _ h => h) (Or.inl ⟨by rfl, fun w' hSw => by go_simp⟩) hHeld ?_
            try simp only [Act.put, List.getElem_toArray, List.getElem_cons_succ, List.getElem_cons_zero, List.setIfInBounds_toArray, List.set_cons_zero, List.set_cons_succ]
            refine wpAnyH_ready (rs := [10]) (by kernel_rfl) (by simp) (AllReadyH.cons rfl (fun K1 hK1 => ?_) AllReadyH.nil)
            try simp only [Act.put, List.getElem_toArray, List.getElem_cons_succ, List.getElem_cons_zero, List.setIfInBounds_toArray, List.set_cons_zero, List.set_cons_succ]
            go_simp
            have hln := (HP8.out.below hHeld).len
            rw [HN3.out] at hln
            refine Calls.mono hln ?_
            clear hln
            rintro e wz9 ⟨rfl, rfl⟩
            refine hK1.out _ _ (hHeld) (fun hHeld => ?_)
            clear hK1 K1
            try simp only [Act.put, List.getElem_toArray, List.getElem_cons_succ, List.getElem_cons_zero, List.setIfInBounds_toArray, List.set_cons_zero, List.set_cons_succ]
            refine wpAnyH_take (i := 16) (v := .bool false) rfl (by kernel_rfl) (by kernel_rfl) (by kernel_rfl) (fun _ _ _ h => h) (Or.inl ⟨by rfl, fun w' hSw => by go_simp⟩) hHeld ?_
            try simp only [Act.put, List.getElem_toArray, List.getElem_cons_succ, List.getElem_cons_zero, List.setIfInBounds_toArray, List.set_cons_zero, List.set_cons_succ]
            refine wpAnyH_take (i := 17) (v := .bool false) rfl (by kernel_rfl) (by kernel_rfl) (by kernel_rfl) (fun _ _ _ h => h) (Or.inl ⟨by rfl, fun w' hSw => by go_simp⟩) hHeld ?_
            try simp only [Act.put, List.getElem_toArray, List.getElem_cons_succ, List.getElem_cons_zero, List.setIfInBounds_toArray, List.set_cons_zero, List.set_cons_succ]
            refine wpAnyH_done (by kernel_rfl) ?_ _
            refine NoPanic.normal ?_
            have HPz := Lib.hid (HP8.out.below hHeld)
            clear hHeld
            go_wp2_with fail
            exact ⟨⟨k + 1, L, N, by omega, by go_num, HPz.out.sub (by intro y hy; simp only [List.mem_cons, List.not_mem_nil, or_false] at hy ⊢; rcases hy with rfl | rfl <;> simp), HNl.out⟩, by simp [intOf]; omega⟩
          | some b =>
            have hbm := Pl.best_mem (Nat.le_refl _) hb
            have hbo := HP.out.may b hbm.1
            have HBest := Lib.hid hb
            have hfr := (Pl.err_zero hbo.2.1).1
            obtain ⟨fb, hfbe⟩ : ∃ fb : Nat, b.tx.frm = fb := ⟨b.tx.frm.toNat, by omega⟩
            have hfb64 : fb < 64 := by omega
            have hf0 : (0 : Int) ≤ (fb : Int) := by omega
            have hf1 : (fb : Int) < 64 := by omega
            have HFb64 := Lib.hid hfb64
            have HB76 := Lib.hid (Wt.cells_len hbo.1)
            have HB1 := Lib.hid (Wt.cells_one hbo.1)
            have HEqB := Lib.hid (fun W => wait_same W hbo.1)
            have HFb : Hid (∀ (W : World) (g : Nat), Row W g 38 b.cells → W.cell? ⟨g, 0, none⟩ = some (.int .i64 fb)) := Lib.hid (fun W g h => by have := (WBox.row hbo.1 h).1; rwa [hfbe] at this)
            obtain ⟨CB, hCB⟩ : ∃ CB, b.cells = CB := ⟨_, rfl⟩
            rw [hCB] at HB76 HB1 HEqB HFb
            have HCb := Lib.hid hCB
            obtain ⟨LN, hLN⟩ : ∃ LN, (L.eraseIdx (Pl.pos L b.ix)).map (Pl.raise b) = LN := ⟨_, rfl⟩
            have HLn := Lib.hid hLN
            obtain ⟨nv, hnv⟩ : ∃ nv, Pl.nxf N (fb : Int) = nv := ⟨_, rfl⟩
            have HNv := Lib.hid hnv
            have HIl : Hid ((Is N).length = 64) := Lib.hid (by unfold Is; rw [List.length_map]; exact HNl.out)
            clear hb hbm hbo hfr hfbe hfb64 hCB hLN hnv
            go_wp2_with (first
              | ((with_reducible show wpList _ _ _ (⟨_, .load 40 (.tmp 86), _, _, _, _⟩ :: _) _ _); refine wpList_load_tx rfl 40 (.tmp 86) rfl ga (off + k * 78) (rfl) C _ (HXr.out _ HP.out.low) Try.underlying40 rfl (by rw [act18_info, HA78.out]) ?_)
              | (
                 with_reducible show wpList _ _ _ (⟨_, .store 40 (.tmp 13) _, _, _, _, _⟩ :: _) _ _
                 refine wpList_store_at rfl 40 (.tmp 13) (.tmp 87) rfl wr.heap.size 0 C ZA _ rfl rfl (Row.new wr 40 ZA) (by have := HZ78.out; have := HA78.out; omega) (by rw [act18_info, HA78.out]) HA1.out ?_
                 intro w4 hr hg
                 rw [splice_all (HA78.out.trans HZ78.out.symm)] at hr
                 have hbx := below_own ((Below.refl wr.heap.size wr).alloc (Nat.le_refl _) (.cells ZA.toArray 40)) hg (fun k hk => by cases hk; exact Nat.le_refl _)
                 have HP4 := Lib.hid (HP.out.new hbx hr)
                 obtain ⟨ck, cn, cw⟩ := HCa.out _ _ hr
                 have HCW4 := Lib.hid cw
                 clear cw
                 clear hbx
                 clear hr hg))
            clear ck cn
            generalize wr.heap.size = g13 at *
            have N1 := HP4.out.next1 now _ _ _ (next16 (HP4.out.row (x := (gX, 23, [.slice (some ⟨gN, 0, none⟩) 64 64])) (by simp)) (HP4.out.row (x := (gN, 3, Is N)) (by simp)) HNl.out) b HBest.out
            rw [HCb.out, HLn.out] at N1
            refine N1.mono ?_
            rintro _ w5 ⟨rfl, hp5⟩
            have HP5 := Lib.hid hp5
            clear hp5 N1
            have heq := HEqB.out
            go_wp2_with (first
              | (
                 with_reducible show wpList _ _ _ (⟨_, .store 38 (.tmp 20) _, _, _, _, _⟩ :: _) _ _
                 refine wpList_store_at rfl 38 (.tmp 20) (.tmp 96) rfl w5.heap.size 0 CB ZT _ rfl rfl (Row.new w5 38 ZT) (by have := HZ76.out; have := HB76.out; omega) (by rw [wait_info, HB76.out]) HB1.out ?_
                 intro w6 hr hg
                 rw [splice_all (HB76.out.trans HZ76.out.symm)] at hr
                 have hbx := below_own ((Below.refl w5.heap.size w5).alloc (Nat.le_refl _) (.cells ZT.toArray 38)) hg (fun k hk => by cases hk; exact Nat.le_refl _)
                 have HP6 := Lib.hid (HP5.out.new hbx hr)
                 have cn6 := (HCa.out _ _ (HP6.out.row (x := (g13, 40, C)) (by simp))).2.1
                 have cx6 := rowX (HP6.out.row (x := (gX, 23, [.slice (some ⟨gN, 0, none⟩) 64 64])) (by simp))
                 clear hbx
                 clear hr hg))
            clear cn6 cx6
            generalize w5.heap.size = g20 at *
            have N2 := HP6.out.rnext1 now N HNl.out (HP6.out.row (x := (gN, 3, Is N)) (by simp)) b HBest.out
            rw [HCb.out, HLn.out] at N2
            refine N2.mono ?_
            rintro _ w7 ⟨rfl, hp7⟩
            have HP7 := Lib.hid hp7
            clear hp7 N2
            go_wp2_with (first
              | (
                 with_reducible show wpList _ _ _ (⟨_, .store 38 (.tmp 22) _, _, _, _, _⟩ :: _) _ _
                 refine wpList_store_at rfl 38 (.tmp 22) (.tmp 104) rfl w7.heap.size 0 CB ZT _ rfl rfl (Row.new w7 38 ZT) (by have := HZ76.out; have := HB76.out; omega) (by rw [wait_info, HB76.out]) HB1.out ?_
                 intro w8 hr hg
                 rw [splice_all (HB76.out.trans HZ76.out.symm)] at hr
                 have hbx := below_own ((Below.refl w7.heap.size w7).alloc (Nat.le_refl _) (.cells ZT.toArray 38)) hg (fun k hk => by cases hk; exact Nat.le_refl _)
                 have HP8 := Lib.hid (HP7.out.new hbx hr)
                 have cx8 := rowX (HP8.out.row (x := (gX, 23, [.slice (some ⟨gN, 0, none⟩) 64 64])) (by simp))
                 have cf8 := HFb.out _ _ hr
                 have cv8 := rowIs (HP8.out.row (x := (gN, 3, Is N)) (by simp)) HNl.out fb HFb64.out
                 rw [HNv.out] at cv8
                 clear hbx
                 clear hr hg)
              | ((with_reducible show wpList _ _ _ (⟨_, .load 38 (.tmp 20), _, _, _, _⟩ :: _) _ _); refine wpList_load_tx rfl 38 (.tmp 20) rfl g20 0 (rfl) CB _ (row_range (HP8.out.row (x := (g20, 38, CB)) (by simp))) Try.underlying38 rfl (by rw [wait_info, HB76.out]) ?_)
              | ((with_reducible show wpList _ _ _ (⟨_, .load 38 (.tmp 22), _, _, _, _⟩ :: _) _ _); refine wpList_load_tx rfl 38 (.tmp 22) rfl w7.heap.size 0 (rfl) CB _ (row_range (HP8.out.row (x := (w7.heap.size, 38, CB)) (by simp))) Try.underlying38 rfl (by rw [wait_info, HB76.out]) ?_)
              | ((with_reducible show wpList _ _ _ (⟨_, .store 3 (.tmp 122) _, _, _, _, _⟩ :: _) _ _)
                 refine wpList_store_int rfl 3 (.tmp 122) (.tmp 121) rfl gN fb 3 (Is N) _ (by first | rfl | simp) rfl (HP8.out.row (x := (gN, 3, Is N)) (by simp)) (by rw [HIl.out]; exact HFb64.out) rfl ?_
                 intro w9 hr9' hg9
                 obtain ⟨nv1, hr9⟩ : ∃ nv1 : Int, Row w9 gN 3 ((Is N).set fb (.int .i64 nv1)) := ⟨_, hr9'⟩
                 have hset : (Is N).set fb (.int .i64 nv1) = Is (N.set fb nv1) := by unfold Is; rw [List.map_set]
                 rw [hset] at hr9
                 have HP9 := Lib.hid (HP8.out.write (rows' := [(gN, 3, Is (N.set fb nv1)), (gX, 23, [.slice (some ⟨gN, 0, none⟩) 64 64])]) hg9 hr9 ⟨3, Is N, by simp⟩ (by
                   intro y hy
                   simp only [List.mem_cons, List.not_mem_nil, or_false] at hy
                   rcases hy with rfl | rfl
                   · exact .inl rfl
                   · exact .inr ⟨by simp, HNNX.out.symm⟩))
                 clear hr9 hr9' hg9 hset))
            clear heq cx8 cf8 cv8
            obtain ⟨A3, c3, _, hrl⟩ := HP9.out.rl
            obtain ⟨n3, hn3⟩ : ∃ n3, (LN).length = n3 := ⟨_, rfl⟩
            rw [hn3] at hrl
            have HRl := Lib.hid hrl
            have HN3 := Lib.hid hn3
            clear hrl hn3
            refine wp_region_noPanic ?_
            refine wp_region_held_drew (S := fun w' => Below w9.heap.size w9 w') (by kernel_rfl) ((Below.refl _ _).drew) (fun hHeld => ?_)
            generalize w9.drew = wq at *
            refine wpAnyH_take (i := 0) (v := .pointer (some ⟨w.heap.size, 0, none⟩)) rfl (by kernel_rfl) (by kernel_rfl) (by kernel_rfl) (fun _ _ _ h => h) (Or.inl ⟨by rfl, fun w' hSw => by go_simp⟩) hHeld ?_
            try simp only [Act.put, List.getElem_toArray, List.getElem_cons_succ, List.getElem_cons_zero, List.setIfInBounds_toArray, List.set_cons_zero, List.set_cons_succ]
            refine wpAnyH_take (i := 2) (v := .pointer (some ⟨RB, 0, none⟩)) rfl (by kernel_rfl) (by kernel_rfl) (by kernel_rfl) (fun _ _ _ h => h) (Or.inl ⟨by rfl, fun w' hSw => by go_simp⟩) hHeld ?_
            try simp only [Act.put, List.getElem_toArray, List.getElem_cons_succ, List.getElem_cons_zero, List.setIfInBounds_toArray, List.set_cons_zero, List.set_cons_succ]
            refine wpAnyH_take (i := 3) (v := .pointer (some ⟨RB, 0, none⟩)) rfl (by kernel_rfl) (by kernel_rfl) (by kernel_rfl) (fun _ _ _ h => h) (Or.inl ⟨by rfl, fun w' hSw => by go_simp⟩) hHeld ?_
            try simp only [Act.put, List.getElem_toArray, List.getElem_cons_succ, List.getElem_cons_zero, List.setIfInBounds_toArray, List.set_cons_zero, List.set_cons_succ]
            refine wpAnyH_take (i := 4) (v := .pointer (some ⟨RB, 1, none⟩)) rfl (by kernel_rfl) (by kernel_rfl) (by kernel_rfl) (fun _ _ _ h => h) (Or.inl ⟨by rfl, fun w' hSw => by go_simp⟩) hHeld ?_
            try simp only [Act.put, List.getElem_toArray, List.getElem_cons_succ, List.getElem_cons_zero, List.setIfInBounds_toArray, List.set_cons_zero, List.set_cons_succ]
            refine wpAnyH_take (i := 5) (v := .slice A3 n3 c3) rfl (by kernel_rfl) (by kernel_rfl) (by kernel_rfl) (fun _ _ _ h => h) (Or.inl ⟨by rfl, fun w' hSw => by have hq := hSw; have hd := (HRl.out _ hq).1; go_simp⟩) hHeld ?_
            try simp only [Act.put, List.getElem_toArray, List.getElem_cons_succ, List.getElem_cons_zero, List.setIfInBounds_toArray, List.set_cons_zero, List.set_cons_succ]
            refine wpAnyH_ready (rs := [1]) (by kernel_rfl) (by simp) (AllReadyH.cons rfl (fun K1 hK1 => ?_) AllReadyH.nil)
            try simp only [Act.put, List.getElem_toArray, List.getElem_cons_succ, List.getElem_cons_zero, List.setIfInBounds_toArray, List.set_cons_zero, List.set_cons_succ]
            go_simp
            have hal := (HP9.out.below hHeld).all
            rw [HN3.out] at hal
            refine Calls.mono hal ?_
            clear hal
            rintro e wc1 ⟨A4, c4, rfl, hb4, hs4⟩
            refine hK1.out _ _ (two_below' hHeld hb4) (fun hHeld => ?_)
            clear hK1 K1
            try simp only [Act.put, List.getElem_toArray, List.getElem_cons_succ, List.getElem_cons_zero, List.setIfInBounds_toArray, List.set_cons_zero, List.set_cons_succ]
            refine wpAnyH_ready (rs := [6]) (by kernel_rfl) (by simp) (AllReadyH.cons rfl (fun K1 hK1 => ?_) AllReadyH.nil)
            try simp only [Act.put, List.getElem_toArray, List.getElem_cons_succ, List.getElem_cons_zero, List.setIfInBounds_toArray, List.set_cons_zero, List.set_cons_succ]
            go_simp
            have hsm := same18_any LN A4 A3 c4 c3 wc1 hs4 (HRl.out _ hHeld).2
            rw [HN3.out] at hsm
            refine Calls.mono hsm ?_
            clear hsm hs4 hb4
            rintro e wc2 ⟨rfl, hb5⟩
            refine hK1.out _ _ (two_below' hHeld hb5) (fun hHeld => ?_)
            clear hK1 K1
            try simp only [Act.put, List.getElem_toArray, List.getElem_cons_succ, List.getElem_cons_zero, List.setIfInBounds_toArray, List.set_cons_zero, List.set_cons_succ]
            refine wpAnyH_take (i := 7) (v := .bool false) rfl (by kernel_rfl) (by kernel_rfl) (by kernel_rfl) (fun _ _ _ h => h) (Or.inl ⟨by rfl, fun w' hSw => by go_simp⟩) hHeld ?_
            try simp only [Act.put, List.getElem_toArray, List.getElem_cons_succ, List.getElem_cons_zero, List.setIfInBounds_toArray, List.set_cons_zero, List.set_cons_succ]
            refine wpAnyH_take (i := 8) (v := .bool false) rfl (by kernel_rfl) (by kernel_rfl) (by kernel_rfl) (fun _ _ _ h => h) (Or.inl ⟨by rfl, fun w' hSw => by go_simp⟩) hHeld ?_
            try simp only [Act.put, List.getElem_toArray, List.getElem_cons_succ, List.getElem_cons_zero, List.setIfInBounds_toArray, List.set_cons_zero, List.set_cons_succ]
            refine wpAnyH_take (i := 9) (v := .pointer (some ⟨w.heap.size, 0, none⟩)) rfl (by kernel_rfl) (by kernel_rfl) (by kernel_rfl) (fun _ _ _ h => h) (Or.inl ⟨by rfl, fun w' hSw => by go_simp⟩) hHeld ?_
            try simp only [Act.put, List.getElem_toArray, List.getElem_cons_succ, List.getElem_cons_zero, List.setIfInBounds_toArray, List.set_cons_zero, List.set_cons_succ]
            refine wpAnyH_take (i := 11) (v := .pointer (some ⟨RB, 0, none⟩)) rfl (by kernel_rfl) (by kernel_rfl) (by kernel_rfl) (fun _ _ _ h => h) (Or.inl ⟨by rfl, fun w' hSw => by go_simp⟩) hHeld ?_
            try simp only [Act.put, List.getElem_toArray, List.getElem_cons_succ, List.getElem_cons_zero, List.setIfInBounds_toArray, List.set_cons_zero, List.set_cons_succ]
            refine wpAnyH_take (i := 12) (v := .pointer (some ⟨RB, 0, none⟩)) rfl (by kernel_rfl) (by kernel_rfl) (by kernel_rfl) (fun _ _ _ h => h) (Or.inl ⟨by rfl, fun w' hSw => by go_simp⟩) hHeld ?_
            try simp only [Act.put, List.getElem_toArray, List.getElem_cons_succ, List.getElem_cons_zero, List.setIfInBounds_toArray, List.set_cons_zero, List.set_cons_succ]
            refine wpAnyH_take (i := 13) (v := .pointer (some ⟨RB, 1, none⟩)) rfl (by kernel_rfl) (by kernel_rfl) (by kernel_rfl) (fun _ _ _ h => h) (Or.inl ⟨by rfl, fun w' hSw => by go_simp⟩) hHeld ?_
            try simp only [Act.put, List.getElem_toArray, List.getElem_cons_succ, List.getElem_cons_zero, List.setIfInBounds_toArray, List.set_cons_zero, List.set_cons_succ]
            refine wpAnyH_take (i := 14) (v := .slice A3 n3 c3) rfl (by kernel_rfl) (by kernel_rfl) (by kernel_rfl) (fun _ _ _ h => h) (Or.inl ⟨by rfl, fun w' hSw => by have hq := hSw; have hd := (HRl.out _ hq).1; go_simp⟩) hHeld ?_
            try simp only [Act.put, List.getElem_toArray, List.getElem_cons_succ, List.getElem_cons_zero, List.setIfInBounds_toArray, List.set_cons_zero, List.set_cons_succ]
            refine wpAnyH_take (i := 15) (v := .int .i64 n3) rfl (by kernel_rfl) (by kernel_rfl) (by kernel_rfl) (fun _ _ _ h => h) (Or.inl ⟨by rfl, fun w' hSw => by go_simp⟩) hHeld ?_
            try simp only [Act.put, List.getElem_toArray, List.getElem_cons_succ, List.getElem_cons_zero, List.setIfInBounds_toArray, List.set_cons_zero, List.set_cons_succ]
            refine wpAnyH_ready (rs := [10]) (by kernel_rfl) (by simp) (AllReadyH.cons rfl (fun K1 hK1 => ?_) AllReadyH.nil)
            try simp only [Act.put, List.getElem_toArray, List.getElem_cons_succ, List.getElem_cons_zero, List.setIfInBounds_toArray, List.set_cons_zero, List.set_cons_succ]
            go_simp
            have hln := (HP9.out.below hHeld).len
            rw [HN3.out] at hln
            refine Calls.mono hln ?_
            clear hln
            rintro e wz9 ⟨rfl, rfl⟩
            refine hK1.out _ _ (hHeld) (fun hHeld => ?_)
            clear hK1 K1
            try simp only [Act.put, List.getElem_toArray, List.getElem_cons_succ, List.getElem_cons_zero, List.setIfInBounds_toArray, List.set_cons_zero, List.set_cons_succ]
            refine wpAnyH_take (i := 16) (v := .bool false) rfl (by kernel_rfl) (by kernel_rfl) (by kernel_rfl) (fun _ _ _ h => h) (Or.inl ⟨by rfl, fun w' hSw => by go_simp⟩) hHeld ?_
            try simp only [Act.put, List.getElem_toArray, List.getElem_cons_succ, List.getElem_cons_zero, List.setIfInBounds_toArray, List.set_cons_zero, List.set_cons_succ]
            refine wpAnyH_take (i := 17) (v := .bool false) rfl (by kernel_rfl) (by kernel_rfl) (by kernel_rfl) (fun _ _ _ h => h) (Or.inl ⟨by rfl, fun w' hSw => by go_simp⟩) hHeld ?_
            try simp only [Act.put, List.getElem_toArray, List.getElem_cons_succ, List.getElem_cons_zero, List.setIfInBounds_toArray, List.set_cons_zero, List.set_cons_succ]
            refine wpAnyH_done (by kernel_rfl) ?_ _
            refine NoPanic.normal ?_
            have HPz := Lib.hid (HP9.out.below hHeld)
            clear hHeld
            go_wp2_with fail
            exact ⟨⟨k + 1, LN, N.set fb nv1, by omega, by go_num, HPz.out.sub (by intro y hy; simp only [List.mem_cons, List.not_mem_nil, or_false] at hy ⊢; rcases hy with rfl | rfl <;> simp), (by rw [List.length_set]; exact HNl.out)⟩, by simp [intOf]; omega⟩
      · have key : ∀ (Q : Prop), ((¬ k < n → Q) ∧ (k < n → ¬ k < 100 → Q)) → Q := fun Q h => by
          by_cases q : k < n
          · exact h.2 q (fun q2 => hkn ⟨q, q2⟩)
          · exact h.1 q
        clear hkn
        refine key _ ⟨fun q => ?_, fun q q2 => ?_⟩
        · have hki : (n : Int) ≤ (k : Int) := by omega
          clear q key
          go_wp2_with fail
          go_ret
          exact ⟨rfl, HP.out.low⟩
        · have hki : (k : Int) < (n : Int) := by omega
          have hk5 : (100 : Int) ≤ (k : Int) := by omega
          clear q q2 key
          go_wp2_with fail
          go_ret
          exact ⟨rfl, HP.out.low⟩
end Go.Proofs.Ytoicpidiejhjeaa
