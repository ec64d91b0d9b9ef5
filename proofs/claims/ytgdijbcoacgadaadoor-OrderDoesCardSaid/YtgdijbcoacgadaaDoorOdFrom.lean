/- From: receipts from one on; slices.Clone. -/
import Derived.Test.YtgdijbcoacgadaaDoorOdTake
import Derived.Deep.Upon
namespace Go.Proofs.YtgdijbcoacgadaaDoor
open Go.RowKit
set_option linter.unusedVariables false
set_option linter.unusedSimpArgs false
set_option maxRecDepth 100000

/-- the receipts of a slice that is nil, or lies somewhere with room -/
def SlR (w : World) (B : Nat) (A : Option Addr) (c : Nat) (l : List Rp) : Prop := (l ≠ [] → ∃ g off, A = some ⟨g, off, none⟩ ∧ g < B ∧ ∀ i (h : i < l.length), w.rangeAt g (off + i * 68) l[i].cells) ∧ (A = none → l = [] ∧ c = 0) ∧ l.length ≤ c ∧ l.length ≤ 1000000 ∧ ∀ b ∈ l, b.Fits
theorem SlR.below {w w' : World} {B : Nat} {A : Option Addr} {c : Nat} {l : List Rp} (h : SlR w B A c l) (hb : Below B w w') : SlR w' B A c l :=
  ⟨fun h0 => by
    obtain ⟨g, off, e, hg, hat⟩ := h.1 h0
    exact ⟨g, off, e, hg, fun i hi q u hu => (hb.cell (p := ⟨g, off + i * 68 + q, none⟩) hg).trans (hat i hi q u hu)⟩, h.2⟩
theorem SlR.mono {w : World} {B B' : Nat} {A : Option Addr} {c : Nat} {l : List Rp} (h : SlR w B A c l) (hB : B ≤ B') : SlR w B' A c l :=
  ⟨fun h0 => by
    obtain ⟨g, off, e, hg, hat⟩ := h.1 h0
    exact ⟨g, off, e, by omega, hat⟩, h.2⟩
theorem flat_one19 {l : List Rp} (hf : ∀ b ∈ l, b.Fits) : ∀ u ∈ Rw.flat Rp.cells l, u.oneCell' = true := fun u hu => by
  obtain ⟨y, hy, hyu⟩ := List.mem_flatMap.1 hu
  exact Rp.cells_one (hf y hy).prev (hf y hy).hash u hyu
theorem rps_flat19 {w : World} {g : Nat} : ∀ (l : List Rp) (off : Nat), (∀ i (h : i < l.length), w.rangeAt g (off + i * 68) l[i].cells) → (∀ y ∈ l, y.cells.length = 68) → w.rangeAt g off (Rw.flat Rp.cells l)
  | [], off, _, _ => fun j v hv => by simp [Rw.flat] at hv
  | x :: r, off, h, hl => fun j v hv => by
    have hc := hl x (by simp)
    have hv : (x.cells ++ Rw.flat Rp.cells r)[j]? = some v := hv
    by_cases hj : j < 68
    · rw [List.getElem?_append_left (by omega)] at hv
      have := h 0 (by simp) j v hv
      rwa [Nat.zero_mul, Nat.add_zero] at this
    · rw [List.getElem?_append_right (by omega), hc] at hv
      have := rps_flat19 r (off + 68) (fun i hi => by
        have := h (i + 1) (by simpa using hi)
        rw [show off + 68 + i * 68 = off + (i + 1) * 68 by omega]
        simpa using this) (fun y hy => hl y (by simp [hy])) (j - 68) v hv
      rwa [show off + 68 + (j - 68) = off + j by omega] at this
theorem rp_whole19 : (Tryd.prog.info? 30).map (fun i => (i.zero, i.size, i.bytes)) = some (some (.agg Rp.zero.cells.toArray), 68, 104) := by kernel_rfl
theorem wpList_appL19 {ops : Array Oper} {rest : List Oper} {o2 : Oper} {a : Act} {w : World} {Q : Exit → Act → World → Prop} (hg2 : o2.guard = none) (sl y : Operand)
    (ho2 : o2.op = .call { callee := .builtin .append, args := #[sl, y], argTypes := #[26, 26] })
    (t2 : List Rp) (A2 : Option Addr) (c2 : Nat) (hin : SlR w w.heap.size A2 c2 t2) (base : Nat) (v : Value) (l : List Rp) (hown : OwnL w base 30 68 Rp.cells v l) (hbase : base ≤ w.heap.size) (hlen : l.length ≤ 1000000)
    (hs : a.eval sl = v) (hy : a.eval y = .slice A2 t2.length c2)
    (K : ∀ v' w', OwnL w' base 30 68 Rp.cells v' (l ++ t2) → Chg (fun k => v.ownBlock = some k) w w' → (∀ k, v'.ownBlock = some k → v.ownBlock = some k ∨ w.heap.size ≤ k) → wpList Tryd.prog ops Q rest (a.put o2.dst v') w') :
    wpList Tryd.prog ops Q (o2 :: rest) a w := by
  obtain ⟨i0, hi, h2⟩ := Option.map_eq_some_iff.1 rp_whole19
  simp only [Prod.mk.injEq] at h2
  obtain ⟨hz, hsz, hby⟩ := h2
  have hz68 : Rp.zero.cells.length = 68 := Rp.cells_len Rp.zero_fits.prev Rp.zero_fits.hash
  by_cases h0 : t2 = []
  · subst h0
    obtain ⟨A, c, rfl, hlc, _⟩ := hown.form
    refine wpList_plain hg2 fun _ hK => ?_
    have hr := fun ty => run_append_nothing (P := Tryd.prog) w 26 26 ty 30 i0 Tryd.underlying26 hi A l.length c hlc (.slice A2 0 c2) (by
      cases A2 with
      | none => exact Src.ofNil w Tryd.underlying26 c2
      | some q => exact Src.ofSlice w Tryd.underlying26 q 0 c2 [] (by simp) (by simp) (by simp))
    unfold Oper.wp execOp
    simp only [ho2, resolve, invoke, builtin, Sem.run_bind, Sem.run_pure, Result.andThen_ok, List.map_toArray, List.map_cons, List.map_nil, hs, hy, List.length_nil, hr]
    exact hK _ _ (K _ _ (by rw [List.append_nil]; exact hown) (Chg.refl _ _) (fun k hk => .inl hk))
  · obtain ⟨g, off, e, hg, hat⟩ := hin.1 h0
    subst e
    have hl68 : ∀ y ∈ t2, y.cells.length = 68 := fun y hy => Rp.cells_len (hin.2.2.2.2 y hy).prev (hin.2.2.2.2 y hy).hash
    have hpos : 0 < t2.length := List.length_pos_iff.2 h0
    have hlen2 := hin.2.2.2.1
    refine wpList_append_own_at' hg2 sl y 26 ho2 base 30 i0 (.agg Rp.zero.cells.toArray) 68 104 Tryd.underlying26 hi hz hsz hby (by simpa [Value.cells] using hz68) (by decide) v l.length (Rw.flat Rp.cells l) hs hown.own ⟨g, off, none⟩ t2.length c2 (Rw.flat Rp.cells t2) hy (Rw.flat_len hl68) (fun j u hu => ?_) (flat_one19 hin.2.2.2.2) hpos (by unfold maxLen; omega) (by omega) hbase (fun v' w' ho hg hat => K v' w' ⟨by rw [Rw.flat_append, List.length_append]; exact ho⟩ ?_ ?_)
    · have e : (⟨g, off, none⟩ : Addr).add j = ⟨g, off + j, none⟩ := by unfold Addr.add; split <;> simp_all
      rw [e]
      exact rps_flat19 t2 off hat hl68 j u hu
    · exact Chg.of_grown (S := fun k => v.ownBlock = some k) hg (fun k hk => .inl hk)
    · intro k hk
      rcases hat with q | q
      · exact .inl (q ▸ hk)
      · rw [q] at hk
        cases hk
        exact .inr (Nat.le_refl _)
set_option maxHeartbeats 1600000 in
theorem clone19_any (A : Option Addr) (c : Nat) (l : List Rp) (w : World) (hin : SlR w w.heap.size A c l) :
    Calls Tryd.prog 30 #[.slice A l.length c] w fun e w' => (∃ v, e = .returned v ∧ OwnL w' w.heap.size 30 68 Rp.cells v l) ∧ Below w.heap.size w w' := by
  cases A with
  | none =>
    obtain ⟨rfl, rfl⟩ := hin.2.1 rfl
    clear hin
    have heq := fun W : World => Lib.run_eql_slice_nil (P := Tryd.prog) W 26 30 none 0 0 0 0 Tryd.underlying26
    go_enter Tryd.func30, Tryd.ntmps30
    go_wp2_with fail
    go_ret
    exact ⟨⟨_, rfl, OwnL.nil _ _ _ _ _⟩, Below.refl _ _⟩
  | some a =>
    have hown0 : OwnL (w.alloc (.cells #[] 30)) w.heap.size 30 68 Rp.cells (.slice (some ⟨w.heap.size, 0, none⟩) 0 0) [] := ⟨rfl, .inr ⟨w.heap.size, 0, #[], rfl, Nat.le_refl _, heap_alloc_new _ _, Nat.le_refl _, Nat.zero_le _, rfl, rfl⟩⟩
    have hb0 := (Below.refl w.heap.size w).alloc (Nat.le_refl _) (.cells #[] 30)
    have HO0 := Lib.hid hown0
    have Hb0 := Lib.hid hb0
    have HS0 := Lib.hid ((hin.below hb0).mono hb0.size)
    obtain ⟨n, hn⟩ : ∃ n, l.length = n := ⟨_, rfl⟩
    have HM := Lib.hid hn
    rw [hn]
    have heq := fun W : World => Lib.run_eql_slice_nil (P := Tryd.prog) W 26 30 (some a) n c 0 0 Tryd.underlying26
    clear hin hown0 hb0 hn
    go_enter Tryd.func30, Tryd.ntmps30
    go_wp2_with (first
      | ((with_reducible show wpList _ _ _ (⟨_, .call { callee := .builtin .append, args := #[.tmp 5, .tmp 6], argTypes := _ }, _, _, _, _⟩ :: _) _ _)
         refine wpList_appL19 rfl (.tmp 5) (.tmp 6) rfl l (some a) c HS0.out w.heap.size _ [] HO0.out Hb0.out.size (by simp) rfl (by rw [HM.out]; rfl) ?_
         intro v9 w9 ho9 hc9 hk9
         have HO9 := Lib.hid ho9
         have HB9 := Lib.hid (below_chg Hb0.out hc9 Hb0.out.size (fun k hk => by cases hk; exact Nat.le_refl _))
         clear ho9 hc9 hk9))
    go_ret
    exact ⟨⟨_, rfl, HO9.out⟩, HB9.out⟩
theorem LogAt.slR {w : World} {base B n c : Nat} {A : Option Addr} {dv : Value} {rs : List Rp} (h : LogAt w base B (.slice A n c) dv rs) (lo : Nat) (hlo : lo ≤ rs.length) :
    SlR w w.heap.size (if c = lo then A else A.map (fun x => x.add (lo * 68))) (c - lo) (rs.drop lo) := by
  have hl := h.len
  have hc : rs.length ≤ c := by
    obtain ⟨A', c', e, h1, _⟩ := h.own.form
    injection e with e1 e2 e3
    omega
  refine ⟨fun h0 => ?_, fun e => ?_, by rw [List.length_drop]; omega, by rw [List.length_drop]; omega, fun b hb => h.fits b (List.mem_of_mem_drop hb)⟩
  · have hlt : lo < rs.length := by
      rcases Nat.lt_or_ge lo rs.length with q | q
      · exact q
      · exact absurd (List.drop_of_length_le q) h0
    obtain ⟨g, c', hge, _, hgl⟩ := h.own.ne (by intro e; rw [e] at hlt; simp at hlt)
    injection hge with ea eb ec
    subst ea
    subst ec
    subst eb
    refine ⟨g, lo * 68, by rw [if_neg (by omega)]; show some (Addr.add _ _) = _; rw [add_at, Nat.zero_add], hgl, fun i hi => ?_⟩
    rw [List.length_drop] at hi
    rw [List.getElem_drop, show lo * 68 + i * 68 = (lo + i) * 68 by omega]
    exact h.own.at (Rp.lens h.fits) (lo + i) (by omega)
  · have e2 : A = none := by
      split at e
      · exact e
      · cases A with
        | none => rfl
        | some q => cases e
    subst e2
    rcases h.own.own.2 with ⟨e3, hn⟩ | ⟨g, cap, cur, e3, _⟩
    · injection e3 with e1 e2 e3
      have e4 := List.length_eq_zero_iff.1 hn
      subst e4
      exact ⟨by simp, by omega⟩
    · injection e3 with e1 e2 e3
      cases e1
/-- from where on -/
def Od.lo (n : Nat) (i : Int) : Nat := if i < 0 then 0 else if i ≤ (n : Int) then i.toNat else n
theorem Od.lo_le (n : Nat) (i : Int) : Od.lo n i ≤ n := by unfold Od.lo; split <;> (try split) <;> omega
set_option maxHeartbeats 3200000 in
theorem LogAt.from_a {w : World} {base B : Nat} {v dv : Value} {rs : List Rp} (h : LogAt w base B v dv rs) (i : Int) (h1 : i < 0) :
    Calls Tryd.prog 18 #[.pointer (some ⟨B, 0, none⟩), .int .i64 i] w fun e w' => (∃ u, e = .returned u ∧ OwnL w' w.heap.size 30 68 Rp.cells u (rs.drop 0)) ∧ Below w.heap.size w w' := by
  obtain ⟨A, c, rfl⟩ := h.form
  have HC0 : Hid (∀ W, Below w.heap.size w W → W.cell? ⟨B, 0, none⟩ = some (.slice A rs.length c)) := Lib.hid (fun W hW => (h.below hW).c0)
  obtain ⟨V, HV⟩ : ∃ V, Value.slice (if c = 0 then A else Option.map (fun x => x.add (0 * 68)) A) (rs.length - 0) (c - 0) = V := ⟨_, rfl⟩
  have CL : Hid (∀ W, Below w.heap.size w W → Calls Tryd.prog 30 #[V] W fun e w' => (∃ u, e = .returned u ∧ OwnL w' W.heap.size 30 68 Rp.cells u (rs.drop 0)) ∧ Below W.heap.size W w') := Lib.hid (fun W hW => by
    have := clone19_any _ _ _ W ((h.below hW).slR 0 (by omega))
    rw [List.length_drop, HV] at this
    exact this)
  generalize rs.drop 0 = RD at *
  clear h
  generalize rs.length = n at *
  obtain rfl : Value.slice A n c = V := by simpa [add_zero_] using HV
  clear HV
  go_enter Tryd.func18, Tryd.ntmps18
  go_wp2_with fail
  refine wp_region_held_drew (S := fun w' => Below w.heap.size w w') (by kernel_rfl) ((Below.refl _ _).drew) (fun hHeld => ?_)
  generalize w.drew = wq at *
  refine wpAnyH_take (i := 0) (v := .pointer (some ⟨B, 0, none⟩)) rfl (by kernel_rfl) (by kernel_rfl) (by kernel_rfl) (fun _ _ _ h => h) (Or.inl ⟨by rfl, fun w' hSw => by go_simp⟩) hHeld ?_
  try simp only [Act.put, List.getElem_toArray, List.getElem_cons_succ, List.getElem_cons_zero, List.setIfInBounds_toArray, List.set_cons_zero, List.set_cons_succ]
  refine wpAnyH_take (i := 1) (v := .pointer (some ⟨B, 0, none⟩)) rfl (by kernel_rfl) (by kernel_rfl) (by kernel_rfl) (fun _ _ _ h => h) (Or.inl ⟨by rfl, fun w' hSw => by go_simp⟩) hHeld ?_
  try simp only [Act.put, List.getElem_toArray, List.getElem_cons_succ, List.getElem_cons_zero, List.setIfInBounds_toArray, List.set_cons_zero, List.set_cons_succ]
  refine wpAnyH_take (i := 2) (v := .pointer (some ⟨B, 0, none⟩)) rfl (by kernel_rfl) (by kernel_rfl) (by kernel_rfl) (fun _ _ _ h => h) (Or.inl ⟨by rfl, fun w' hSw => by go_simp⟩) hHeld ?_
  try simp only [Act.put, List.getElem_toArray, List.getElem_cons_succ, List.getElem_cons_zero, List.setIfInBounds_toArray, List.set_cons_zero, List.set_cons_succ]
  refine wpAnyH_take (i := 3) (v := .slice A n c) rfl (by kernel_rfl) (by kernel_rfl) (by kernel_rfl) (fun _ _ _ h => h) (Or.inl ⟨by rfl, fun w' hSw => by have hq := hSw; have hd := HC0.out _ hq; go_simp⟩) hHeld ?_
  try simp only [Act.put, List.getElem_toArray, List.getElem_cons_succ, List.getElem_cons_zero, List.setIfInBounds_toArray, List.set_cons_zero, List.set_cons_succ]
  refine wpAnyH_take (i := 4) (v := .int .i64 i) rfl (by kernel_rfl) (by kernel_rfl) (by kernel_rfl) (fun _ _ _ h => h) (Or.inl ⟨by rfl, fun w' hSw => by go_simp⟩) hHeld ?_
  try simp only [Act.put, List.getElem_toArray, List.getElem_cons_succ, List.getElem_cons_zero, List.setIfInBounds_toArray, List.set_cons_zero, List.set_cons_succ]
  refine wpAnyH_take (i := 5) (v := .int .i64 0) rfl (by kernel_rfl) (by kernel_rfl) (by kernel_rfl) (fun _ _ _ h => h) (Or.inl ⟨by rfl, fun w' hSw => by have hq := hSw; have hd : max i 0 = 0 := (by omega); go_simp⟩) hHeld ?_
  try simp only [Act.put, List.getElem_toArray, List.getElem_cons_succ, List.getElem_cons_zero, List.setIfInBounds_toArray, List.set_cons_zero, List.set_cons_succ]
  refine wpAnyH_take (i := 6) (v := .pointer (some ⟨B, 0, none⟩)) rfl (by kernel_rfl) (by kernel_rfl) (by kernel_rfl) (fun _ _ _ h => h) (Or.inl ⟨by rfl, fun w' hSw => by go_simp⟩) hHeld ?_
  try simp only [Act.put, List.getElem_toArray, List.getElem_cons_succ, List.getElem_cons_zero, List.setIfInBounds_toArray, List.set_cons_zero, List.set_cons_succ]
  refine wpAnyH_take (i := 7) (v := .pointer (some ⟨B, 0, none⟩)) rfl (by kernel_rfl) (by kernel_rfl) (by kernel_rfl) (fun _ _ _ h => h) (Or.inl ⟨by rfl, fun w' hSw => by go_simp⟩) hHeld ?_
  try simp only [Act.put, List.getElem_toArray, List.getElem_cons_succ, List.getElem_cons_zero, List.setIfInBounds_toArray, List.set_cons_zero, List.set_cons_succ]
  refine wpAnyH_take (i := 8) (v := .pointer (some ⟨B, 0, none⟩)) rfl (by kernel_rfl) (by kernel_rfl) (by kernel_rfl) (fun _ _ _ h => h) (Or.inl ⟨by rfl, fun w' hSw => by go_simp⟩) hHeld ?_
  try simp only [Act.put, List.getElem_toArray, List.getElem_cons_succ, List.getElem_cons_zero, List.setIfInBounds_toArray, List.set_cons_zero, List.set_cons_succ]
  refine wpAnyH_take (i := 9) (v := .slice A n c) rfl (by kernel_rfl) (by kernel_rfl) (by kernel_rfl) (fun _ _ _ h => h) (Or.inl ⟨by rfl, fun w' hSw => by have hq := hSw; have hd := HC0.out _ hq; go_simp⟩) hHeld ?_
  try simp only [Act.put, List.getElem_toArray, List.getElem_cons_succ, List.getElem_cons_zero, List.setIfInBounds_toArray, List.set_cons_zero, List.set_cons_succ]
  refine wpAnyH_take (i := 10) (v := .int .i64 n) rfl (by kernel_rfl) (by kernel_rfl) (by kernel_rfl) (fun _ _ _ h => h) (Or.inl ⟨by rfl, fun w' hSw => by go_simp⟩) hHeld ?_
  try simp only [Act.put, List.getElem_toArray, List.getElem_cons_succ, List.getElem_cons_zero, List.setIfInBounds_toArray, List.set_cons_zero, List.set_cons_succ]
  refine wpAnyH_take (i := 11) (v := .int .i64 0) rfl (by kernel_rfl) (by kernel_rfl) (by kernel_rfl) (fun _ _ _ h => h) (Or.inl ⟨by rfl, fun w' hSw => by have hq := hSw; have hd : min (0 : Int) (n : Int) = 0 := (by omega); go_simp⟩) hHeld ?_
  try simp only [Act.put, List.getElem_toArray, List.getElem_cons_succ, List.getElem_cons_zero, List.setIfInBounds_toArray, List.set_cons_zero, List.set_cons_succ]
  refine wpAnyH_take (i := 12) (v := .slice A n c) rfl (by kernel_rfl) (by kernel_rfl) (by kernel_rfl) (fun _ _ _ h => h) (Or.inl ⟨by rfl, fun w' hSw => by go_simp⟩) hHeld ?_
  try simp only [Act.put, List.getElem_toArray, List.getElem_cons_succ, List.getElem_cons_zero, List.setIfInBounds_toArray, List.set_cons_zero, List.set_cons_succ]
  refine wpAnyH_ready (rs := [13]) (by kernel_rfl) (by simp) (AllReadyH.cons rfl (fun K1 hK1 => ?_) AllReadyH.nil)
  try simp only [Act.put, List.getElem_toArray, List.getElem_cons_succ, List.getElem_cons_zero, List.setIfInBounds_toArray, List.set_cons_zero, List.set_cons_succ]
  go_simp
  refine Calls.mono (CL.out _ hHeld) ?_
  rintro e wc1 ⟨⟨vv, rfl, ho9⟩, hc2⟩
  have HO9 := Lib.hid (ho9.mono hHeld.size)
  clear ho9
  refine hK1.out _ _ (two_below' hHeld hc2) (fun hHeld => ?_)
  clear hK1 K1
  try simp only [Act.put, List.getElem_toArray, List.getElem_cons_succ, List.getElem_cons_zero, List.setIfInBounds_toArray, List.set_cons_zero, List.set_cons_succ]
  refine wpAnyH_take (i := 14) (v := vv) rfl (by kernel_rfl) (by kernel_rfl) (by kernel_rfl) (fun _ _ _ h => h) (Or.inl ⟨by rfl, fun w' hSw => by go_simp⟩) hHeld ?_
  try simp only [Act.put, List.getElem_toArray, List.getElem_cons_succ, List.getElem_cons_zero, List.setIfInBounds_toArray, List.set_cons_zero, List.set_cons_succ]
  refine wpAnyH_done (by kernel_rfl) ?_ _
  go_wp2_with fail
  go_ret
  exact ⟨⟨_, rfl, HO9.out⟩, hHeld⟩
set_option maxHeartbeats 3200000 in
theorem LogAt.from_b {w : World} {base B : Nat} {v dv : Value} {rs : List Rp} (h : LogAt w base B v dv rs) (k : Nat) (hk : k ≤ rs.length) :
    Calls Tryd.prog 18 #[.pointer (some ⟨B, 0, none⟩), .int .i64 (k : Int)] w fun e w' => (∃ u, e = .returned u ∧ OwnL w' w.heap.size 30 68 Rp.cells u (rs.drop k)) ∧ Below w.heap.size w w' := by
  obtain ⟨A, c, rfl⟩ := h.form
  have HC0 : Hid (∀ W, Below w.heap.size w W → W.cell? ⟨B, 0, none⟩ = some (.slice A rs.length c)) := Lib.hid (fun W hW => (h.below hW).c0)
  have hk0 : (0 : Int) ≤ (k : Int) := by omega
  have hkn : (k : Int) ≤ (rs.length : Int) := by omega
  have d1 : ¬ ((k : Int) < 0) := by omega
  have d2 : ¬ ((rs.length : Int) < (k : Int)) := by omega
  obtain ⟨V, HV⟩ : ∃ V, Value.slice (if c = k then A else Option.map (fun x => x.add (k * 68)) A) (rs.length - k) (c - k) = V := ⟨_, rfl⟩
  have CL : Hid (∀ W, Below w.heap.size w W → Calls Tryd.prog 30 #[V] W fun e w' => (∃ u, e = .returned u ∧ OwnL w' W.heap.size 30 68 Rp.cells u (rs.drop k)) ∧ Below W.heap.size W w') := Lib.hid (fun W hW => by
    have := clone19_any _ _ _ W ((h.below hW).slR k (by omega))
    rw [List.length_drop, HV] at this
    exact this)
  generalize rs.drop k = RD at *
  clear h hk
  generalize rs.length = n at *
  go_enter Tryd.func18, Tryd.ntmps18
  go_wp2_with fail
  refine wp_region_held_drew (S := fun w' => Below w.heap.size w w') (by kernel_rfl) ((Below.refl _ _).drew) (fun hHeld => ?_)
  generalize w.drew = wq at *
  refine wpAnyH_take (i := 0) (v := .pointer (some ⟨B, 0, none⟩)) rfl (by kernel_rfl) (by kernel_rfl) (by kernel_rfl) (fun _ _ _ h => h) (Or.inl ⟨by rfl, fun w' hSw => by go_simp⟩) hHeld ?_
  try simp only [Act.put, List.getElem_toArray, List.getElem_cons_succ, List.getElem_cons_zero, List.setIfInBounds_toArray, List.set_cons_zero, List.set_cons_succ]
  refine wpAnyH_take (i := 1) (v := .pointer (some ⟨B, 0, none⟩)) rfl (by kernel_rfl) (by kernel_rfl) (by kernel_rfl) (fun _ _ _ h => h) (Or.inl ⟨by rfl, fun w' hSw => by go_simp⟩) hHeld ?_
  try simp only [Act.put, List.getElem_toArray, List.getElem_cons_succ, List.getElem_cons_zero, List.setIfInBounds_toArray, List.set_cons_zero, List.set_cons_succ]
  refine wpAnyH_take (i := 2) (v := .pointer (some ⟨B, 0, none⟩)) rfl (by kernel_rfl) (by kernel_rfl) (by kernel_rfl) (fun _ _ _ h => h) (Or.inl ⟨by rfl, fun w' hSw => by go_simp⟩) hHeld ?_
  try simp only [Act.put, List.getElem_toArray, List.getElem_cons_succ, List.getElem_cons_zero, List.setIfInBounds_toArray, List.set_cons_zero, List.set_cons_succ]
  refine wpAnyH_take (i := 3) (v := .slice A n c) rfl (by kernel_rfl) (by kernel_rfl) (by kernel_rfl) (fun _ _ _ h => h) (Or.inl ⟨by rfl, fun w' hSw => by have hq := hSw; have hd := HC0.out _ hq; go_simp⟩) hHeld ?_
  try simp only [Act.put, List.getElem_toArray, List.getElem_cons_succ, List.getElem_cons_zero, List.setIfInBounds_toArray, List.set_cons_zero, List.set_cons_succ]
  refine wpAnyH_take (i := 4) (v := .int .i64 k) rfl (by kernel_rfl) (by kernel_rfl) (by kernel_rfl) (fun _ _ _ h => h) (Or.inl ⟨by rfl, fun w' hSw => by go_simp⟩) hHeld ?_
  try simp only [Act.put, List.getElem_toArray, List.getElem_cons_succ, List.getElem_cons_zero, List.setIfInBounds_toArray, List.set_cons_zero, List.set_cons_succ]
  refine wpAnyH_take (i := 5) (v := .int .i64 k) rfl (by kernel_rfl) (by kernel_rfl) (by kernel_rfl) (fun _ _ _ h => h) (Or.inl ⟨by rfl, fun w' hSw => by go_simp⟩) hHeld ?_
  try simp only [Act.put, List.getElem_toArray, List.getElem_cons_succ, List.getElem_cons_zero, List.setIfInBounds_toArray, List.set_cons_zero, List.set_cons_succ]
  refine wpAnyH_take (i := 6) (v := .pointer (some ⟨B, 0, none⟩)) rfl (by kernel_rfl) (by kernel_rfl) (by kernel_rfl) (fun _ _ _ h => h) (Or.inl ⟨by rfl, fun w' hSw => by go_simp⟩) hHeld ?_
  try simp only [Act.put, List.getElem_toArray, List.getElem_cons_succ, List.getElem_cons_zero, List.setIfInBounds_toArray, List.set_cons_zero, List.set_cons_succ]
  refine wpAnyH_take (i := 7) (v := .pointer (some ⟨B, 0, none⟩)) rfl (by kernel_rfl) (by kernel_rfl) (by kernel_rfl) (fun _ _ _ h => h) (Or.inl ⟨by rfl, fun w' hSw => by go_simp⟩) hHeld ?_
  try simp only [Act.put, List.getElem_toArray, List.getElem_cons_succ, List.getElem_cons_zero, List.setIfInBounds_toArray, List.set_cons_zero, List.set_cons_succ]
  refine wpAnyH_take (i := 8) (v := .pointer (some ⟨B, 0, none⟩)) rfl (by kernel_rfl) (by kernel_rfl) (by kernel_rfl) (fun _ _ _ h => h) (Or.inl ⟨by rfl, fun w' hSw => by go_simp⟩) hHeld ?_
  try simp only [Act.put, List.getElem_toArray, List.getElem_cons_succ, List.getElem_cons_zero, List.setIfInBounds_toArray, List.set_cons_zero, List.set_cons_succ]
  refine wpAnyH_take (i := 9) (v := .slice A n c) rfl (by kernel_rfl) (by kernel_rfl) (by kernel_rfl) (fun _ _ _ h => h) (Or.inl ⟨by rfl, fun w' hSw => by have hq := hSw; have hd := HC0.out _ hq; go_simp⟩) hHeld ?_
  try simp only [Act.put, List.getElem_toArray, List.getElem_cons_succ, List.getElem_cons_zero, List.setIfInBounds_toArray, List.set_cons_zero, List.set_cons_succ]
  refine wpAnyH_take (i := 10) (v := .int .i64 n) rfl (by kernel_rfl) (by kernel_rfl) (by kernel_rfl) (fun _ _ _ h => h) (Or.inl ⟨by rfl, fun w' hSw => by go_simp⟩) hHeld ?_
  try simp only [Act.put, List.getElem_toArray, List.getElem_cons_succ, List.getElem_cons_zero, List.setIfInBounds_toArray, List.set_cons_zero, List.set_cons_succ]
  refine wpAnyH_take (i := 11) (v := .int .i64 k) rfl (by kernel_rfl) (by kernel_rfl) (by kernel_rfl) (fun _ _ _ h => h) (Or.inl ⟨by rfl, fun w' hSw => by have hq := hSw; have hd : min (k : Int) (n : Int) = (k : Int) := (by omega); go_simp⟩) hHeld ?_
  try simp only [Act.put, List.getElem_toArray, List.getElem_cons_succ, List.getElem_cons_zero, List.setIfInBounds_toArray, List.set_cons_zero, List.set_cons_succ]
  refine wpAnyH_take (i := 12) (v := V) rfl (by kernel_rfl) (by kernel_rfl) (by kernel_rfl) (fun _ _ _ h => h) (Or.inl ⟨by rfl, fun w' hSw => by have hq := hSw; have hd := HV; go_simp⟩) hHeld ?_
  try simp only [Act.put, List.getElem_toArray, List.getElem_cons_succ, List.getElem_cons_zero, List.setIfInBounds_toArray, List.set_cons_zero, List.set_cons_succ]
  refine wpAnyH_ready (rs := [13]) (by kernel_rfl) (by simp) (AllReadyH.cons rfl (fun K1 hK1 => ?_) AllReadyH.nil)
  try simp only [Act.put, List.getElem_toArray, List.getElem_cons_succ, List.getElem_cons_zero, List.setIfInBounds_toArray, List.set_cons_zero, List.set_cons_succ]
  go_simp
  refine Calls.mono (CL.out _ hHeld) ?_
  rintro e wc1 ⟨⟨vv, rfl, ho9⟩, hc2⟩
  have HO9 := Lib.hid (ho9.mono hHeld.size)
  clear ho9
  refine hK1.out _ _ (two_below' hHeld hc2) (fun hHeld => ?_)
  clear hK1 K1
  try simp only [Act.put, List.getElem_toArray, List.getElem_cons_succ, List.getElem_cons_zero, List.setIfInBounds_toArray, List.set_cons_zero, List.set_cons_succ]
  refine wpAnyH_take (i := 14) (v := vv) rfl (by kernel_rfl) (by kernel_rfl) (by kernel_rfl) (fun _ _ _ h => h) (Or.inl ⟨by rfl, fun w' hSw => by go_simp⟩) hHeld ?_
  try simp only [Act.put, List.getElem_toArray, List.getElem_cons_succ, List.getElem_cons_zero, List.setIfInBounds_toArray, List.set_cons_zero, List.set_cons_succ]
  refine wpAnyH_done (by kernel_rfl) ?_ _
  go_wp2_with fail
  go_ret
  exact ⟨⟨_, rfl, HO9.out⟩, hHeld⟩
set_option maxHeartbeats 3200000 in
theorem LogAt.from_c {w : World} {base B : Nat} {v dv : Value} {rs : List Rp} (h : LogAt w base B v dv rs) (i : Int) (h1 : (rs.length : Int) < i) :
    Calls Tryd.prog 18 #[.pointer (some ⟨B, 0, none⟩), .int .i64 i] w fun e w' => (∃ u, e = .returned u ∧ OwnL w' w.heap.size 30 68 Rp.cells u (rs.drop rs.length)) ∧ Below w.heap.size w w' := by
  obtain ⟨A, c, rfl⟩ := h.form
  have HC0 : Hid (∀ W, Below w.heap.size w W → W.cell? ⟨B, 0, none⟩ = some (.slice A rs.length c)) := Lib.hid (fun W hW => (h.below hW).c0)
  have d1 : ¬ (i < 0) := by omega
  have d2 : ¬ (i ≤ (rs.length : Int)) := by omega
  obtain ⟨V, HV⟩ : ∃ V, Value.slice (if c = rs.length then A else Option.map (fun x => x.add (rs.length * 68)) A) (rs.length - rs.length) (c - rs.length) = V := ⟨_, rfl⟩
  have CL : Hid (∀ W, Below w.heap.size w W → Calls Tryd.prog 30 #[V] W fun e w' => (∃ u, e = .returned u ∧ OwnL w' W.heap.size 30 68 Rp.cells u (rs.drop rs.length)) ∧ Below W.heap.size W w') := Lib.hid (fun W hW => by
    have := clone19_any _ _ _ W ((h.below hW).slR rs.length (by omega))
    rw [List.length_drop, HV] at this
    exact this)
  generalize rs.drop rs.length = RD at *
  clear h
  generalize rs.length = n at *
  go_enter Tryd.func18, Tryd.ntmps18
  go_wp2_with fail
  refine wp_region_held_drew (S := fun w' => Below w.heap.size w w') (by kernel_rfl) ((Below.refl _ _).drew) (fun hHeld => ?_)
  generalize w.drew = wq at *
  refine wpAnyH_take (i := 0) (v := .pointer (some ⟨B, 0, none⟩)) rfl (by kernel_rfl) (by kernel_rfl) (by kernel_rfl) (fun _ _ _ h => h) (Or.inl ⟨by rfl, fun w' hSw => by go_simp⟩) hHeld ?_
  try simp only [Act.put, List.getElem_toArray, List.getElem_cons_succ, List.getElem_cons_zero, List.setIfInBounds_toArray, List.set_cons_zero, List.set_cons_succ]
  refine wpAnyH_take (i := 1) (v := .pointer (some ⟨B, 0, none⟩)) rfl (by kernel_rfl) (by kernel_rfl) (by kernel_rfl) (fun _ _ _ h => h) (Or.inl ⟨by rfl, fun w' hSw => by go_simp⟩) hHeld ?_
  try simp only [Act.put, List.getElem_toArray, List.getElem_cons_succ, List.getElem_cons_zero, List.setIfInBounds_toArray, List.set_cons_zero, List.set_cons_succ]
  refine wpAnyH_take (i := 2) (v := .pointer (some ⟨B, 0, none⟩)) rfl (by kernel_rfl) (by kernel_rfl) (by kernel_rfl) (fun _ _ _ h => h) (Or.inl ⟨by rfl, fun w' hSw => by go_simp⟩) hHeld ?_
  try simp only [Act.put, List.getElem_toArray, List.getElem_cons_succ, List.getElem_cons_zero, List.setIfInBounds_toArray, List.set_cons_zero, List.set_cons_succ]
  refine wpAnyH_take (i := 3) (v := .slice A n c) rfl (by kernel_rfl) (by kernel_rfl) (by kernel_rfl) (fun _ _ _ h => h) (Or.inl ⟨by rfl, fun w' hSw => by have hq := hSw; have hd := HC0.out _ hq; go_simp⟩) hHeld ?_
  try simp only [Act.put, List.getElem_toArray, List.getElem_cons_succ, List.getElem_cons_zero, List.setIfInBounds_toArray, List.set_cons_zero, List.set_cons_succ]
  refine wpAnyH_take (i := 4) (v := .int .i64 i) rfl (by kernel_rfl) (by kernel_rfl) (by kernel_rfl) (fun _ _ _ h => h) (Or.inl ⟨by rfl, fun w' hSw => by go_simp⟩) hHeld ?_
  try simp only [Act.put, List.getElem_toArray, List.getElem_cons_succ, List.getElem_cons_zero, List.setIfInBounds_toArray, List.set_cons_zero, List.set_cons_succ]
  refine wpAnyH_take (i := 5) (v := .int .i64 i) rfl (by kernel_rfl) (by kernel_rfl) (by kernel_rfl) (fun _ _ _ h => h) (Or.inl ⟨by rfl, fun w' hSw => by have hq := hSw; have hd : max i 0 = i := (by omega); go_simp⟩) hHeld ?_
  try simp only [Act.put, List.getElem_toArray, List.getElem_cons_succ, List.getElem_cons_zero, List.setIfInBounds_toArray, List.set_cons_zero, List.set_cons_succ]
  refine wpAnyH_take (i := 6) (v := .pointer (some ⟨B, 0, none⟩)) rfl (by kernel_rfl) (by kernel_rfl) (by kernel_rfl) (fun _ _ _ h => h) (Or.inl ⟨by rfl, fun w' hSw => by go_simp⟩) hHeld ?_
  try simp only [Act.put, List.getElem_toArray, List.getElem_cons_succ, List.getElem_cons_zero, List.setIfInBounds_toArray, List.set_cons_zero, List.set_cons_succ]
  refine wpAnyH_take (i := 7) (v := .pointer (some ⟨B, 0, none⟩)) rfl (by kernel_rfl) (by kernel_rfl) (by kernel_rfl) (fun _ _ _ h => h) (Or.inl ⟨by rfl, fun w' hSw => by go_simp⟩) hHeld ?_
  try simp only [Act.put, List.getElem_toArray, List.getElem_cons_succ, List.getElem_cons_zero, List.setIfInBounds_toArray, List.set_cons_zero, List.set_cons_succ]
  refine wpAnyH_take (i := 8) (v := .pointer (some ⟨B, 0, none⟩)) rfl (by kernel_rfl) (by kernel_rfl) (by kernel_rfl) (fun _ _ _ h => h) (Or.inl ⟨by rfl, fun w' hSw => by go_simp⟩) hHeld ?_
  try simp only [Act.put, List.getElem_toArray, List.getElem_cons_succ, List.getElem_cons_zero, List.setIfInBounds_toArray, List.set_cons_zero, List.set_cons_succ]
  refine wpAnyH_take (i := 9) (v := .slice A n c) rfl (by kernel_rfl) (by kernel_rfl) (by kernel_rfl) (fun _ _ _ h => h) (Or.inl ⟨by rfl, fun w' hSw => by have hq := hSw; have hd := HC0.out _ hq; go_simp⟩) hHeld ?_
  try simp only [Act.put, List.getElem_toArray, List.getElem_cons_succ, List.getElem_cons_zero, List.setIfInBounds_toArray, List.set_cons_zero, List.set_cons_succ]
  refine wpAnyH_take (i := 10) (v := .int .i64 n) rfl (by kernel_rfl) (by kernel_rfl) (by kernel_rfl) (fun _ _ _ h => h) (Or.inl ⟨by rfl, fun w' hSw => by go_simp⟩) hHeld ?_
  try simp only [Act.put, List.getElem_toArray, List.getElem_cons_succ, List.getElem_cons_zero, List.setIfInBounds_toArray, List.set_cons_zero, List.set_cons_succ]
  refine wpAnyH_take (i := 11) (v := .int .i64 n) rfl (by kernel_rfl) (by kernel_rfl) (by kernel_rfl) (fun _ _ _ h => h) (Or.inl ⟨by rfl, fun w' hSw => by have hq := hSw; have hd : min i (n : Int) = (n : Int) := (by omega); go_simp⟩) hHeld ?_
  try simp only [Act.put, List.getElem_toArray, List.getElem_cons_succ, List.getElem_cons_zero, List.setIfInBounds_toArray, List.set_cons_zero, List.set_cons_succ]
  refine wpAnyH_take (i := 12) (v := V) rfl (by kernel_rfl) (by kernel_rfl) (by kernel_rfl) (fun _ _ _ h => h) (Or.inl ⟨by rfl, fun w' hSw => by have hq := hSw; have hd : Value.slice (if c = n then A else Option.map (fun x => x.add (n * 68)) A) 0 (c - n) = V := (by simpa using HV); go_simp⟩) hHeld ?_
  try simp only [Act.put, List.getElem_toArray, List.getElem_cons_succ, List.getElem_cons_zero, List.setIfInBounds_toArray, List.set_cons_zero, List.set_cons_succ]
  refine wpAnyH_ready (rs := [13]) (by kernel_rfl) (by simp) (AllReadyH.cons rfl (fun K1 hK1 => ?_) AllReadyH.nil)
  try simp only [Act.put, List.getElem_toArray, List.getElem_cons_succ, List.getElem_cons_zero, List.setIfInBounds_toArray, List.set_cons_zero, List.set_cons_succ]
  go_simp
  refine Calls.mono (CL.out _ hHeld) ?_
  rintro e wc1 ⟨⟨vv, rfl, ho9⟩, hc2⟩
  have HO9 := Lib.hid (ho9.mono hHeld.size)
  clear ho9
  refine hK1.out _ _ (two_below' hHeld hc2) (fun hHeld => ?_)
  clear hK1 K1
  try simp only [Act.put, List.getElem_toArray, List.getElem_cons_succ, List.getElem_cons_zero, List.setIfInBounds_toArray, List.set_cons_zero, List.set_cons_succ]
  refine wpAnyH_take (i := 14) (v := vv) rfl (by kernel_rfl) (by kernel_rfl) (by kernel_rfl) (fun _ _ _ h => h) (Or.inl ⟨by rfl, fun w' hSw => by go_simp⟩) hHeld ?_
  try simp only [Act.put, List.getElem_toArray, List.getElem_cons_succ, List.getElem_cons_zero, List.setIfInBounds_toArray, List.set_cons_zero, List.set_cons_succ]
  refine wpAnyH_done (by kernel_rfl) ?_ _
  go_wp2_with fail
  go_ret
  exact ⟨⟨_, rfl, HO9.out⟩, hHeld⟩
theorem LogAt.from {w : World} {base B : Nat} {v dv : Value} {rs : List Rp} (h : LogAt w base B v dv rs) (i : Int) :
    Calls Tryd.prog 18 #[.pointer (some ⟨B, 0, none⟩), .int .i64 i] w fun e w' => (∃ u, e = .returned u ∧ OwnL w' w.heap.size 30 68 Rp.cells u (rs.drop (Od.lo rs.length i))) ∧ Below w.heap.size w w' := by
  unfold Od.lo
  by_cases h1 : i < 0
  · rw [if_pos h1]; exact h.from_a i h1
  · rw [if_neg h1]
    by_cases h2 : i ≤ (rs.length : Int)
    · rw [if_pos h2]
      obtain ⟨k, rfl⟩ := Int.eq_ofNat_of_zero_le (show 0 ≤ i by omega)
      exact h.from_b k (by omega)
    · rw [if_neg h2]; exact h.from_c i (by omega)
end Go.Proofs.YtgdijbcoacgadaaDoor
