/- append of a list of Waits; slices.Clone. -/
import Derived.Test.YtoicpidiejhjeaaPlPush
import Derived.Deep.Upon
namespace Go.Proofs.Ytoicpidiejhjeaa
open Go.RowKit
set_option linter.unusedVariables false
set_option linter.unusedSimpArgs false
set_option maxRecDepth 100000

/-- the Waits of a slice that is nil, or lies somewhere with room -/
def SlW (w : World) (B : Nat) (A : Option Addr) (c : Nat) (l : List Wt) : Prop := LsAt Wt.cells 76 w B A l ∧ (A = none → l = [] ∧ c = 0) ∧ l.length ≤ c ∧ l.length ≤ 1000000 ∧ ∀ b ∈ l, b.Ok
theorem SlW.below {w w' : World} {B : Nat} {A : Option Addr} {c : Nat} {l : List Wt} (h : SlW w B A c l) (hb : Below B w w') : SlW w' B A c l := ⟨h.1.below hb, h.2⟩
theorem SlW.mono {w : World} {B B' : Nat} {A : Option Addr} {c : Nat} {l : List Wt} (h : SlW w B A c l) (hB : B ≤ B') : SlW w B' A c l := ⟨h.1.mono hB, h.2⟩
theorem OwnL.slW {w : World} {base : Nat} {A : Option Addr} {n c : Nat} {l : List Wt} (h : OwnL w base 38 76 Wt.cells (.slice A n c) l) (hf : ∀ b ∈ l, b.Ok) (hl : l.length ≤ 1000000) : SlW w w.heap.size A c l := by
  refine ⟨h.lsAt (fun x hx => Wt.cells_len (hf x hx)), fun e => ?_, ?_, hl, hf⟩
  · subst e
    rcases h.own.2 with ⟨e, hn⟩ | ⟨g, cap, cur, e, _⟩
    · injection e with e1 e2 e3
      exact ⟨List.length_eq_zero_iff.1 hn, e3⟩
    · injection e with e1 e2 e3
      cases e1
  · obtain ⟨A', c', e, h1, _⟩ := h.form
    injection e with e1 e2 e3
    omega
theorem flat_one18 {l : List Wt} (hf : ∀ b ∈ l, b.Ok) : ∀ u ∈ Rw.flat Wt.cells l, u.oneCell' = true := fun u hu => by
  obtain ⟨y, hy, hyu⟩ := List.mem_flatMap.1 hu
  exact Wt.cells_one (hf y hy) u hyu
theorem waits_flat18 {w : World} {g : Nat} : ∀ (l : List Wt) (off : Nat), (∀ i (h : i < l.length), w.rangeAt g (off + i * 76) l[i].cells) → (∀ y ∈ l, y.cells.length = 76) → w.rangeAt g off (Rw.flat Wt.cells l)
  | [], off, _, _ => fun j v hv => by simp [Rw.flat] at hv
  | x :: r, off, h, hl => fun j v hv => by
    have hc := hl x (by simp)
    have hv : (x.cells ++ Rw.flat Wt.cells r)[j]? = some v := hv
    by_cases hj : j < 76
    · rw [List.getElem?_append_left (by omega)] at hv
      have := h 0 (by simp) j v hv
      rwa [Nat.zero_mul, Nat.add_zero] at this
    · rw [List.getElem?_append_right (by omega), hc] at hv
      have := waits_flat18 r (off + 76) (fun i hi => by
        have := h (i + 1) (by simpa using hi)
        rw [show off + 76 + i * 76 = off + (i + 1) * 76 by omega]
        simpa using this) (fun y hy => hl y (by simp [hy])) (j - 76) v hv
      rwa [show off + 76 + (j - 76) = off + j by omega] at this

theorem wpList_appL {ops : Array Oper} {rest : List Oper} {o2 : Oper} {a : Act} {w : World} {Q : Exit → Act → World → Prop} (hg2 : o2.guard = none) (sl y : Operand)
    (ho2 : o2.op = .call { callee := .builtin .append, args := #[sl, y], argTypes := #[30, 30] })
    (t2 : List Wt) (A2 : Option Addr) (c2 : Nat) (hin : SlW w w.heap.size A2 c2 t2) (base : Nat) (v : Value) (l : List Wt) (hown : OwnL w base 38 76 Wt.cells v l) (hbase : base ≤ w.heap.size) (hlen : l.length ≤ 1000000)
    (hs : a.eval sl = v) (hy : a.eval y = .slice A2 t2.length c2)
    (K : ∀ v' w', OwnL w' base 38 76 Wt.cells v' (l ++ t2) → Chg (fun k => v.ownBlock = some k) w w' → (∀ k, v'.ownBlock = some k → v.ownBlock = some k ∨ w.heap.size ≤ k) → wpList Try.prog ops Q rest (a.put o2.dst v') w') :
    wpList Try.prog ops Q (o2 :: rest) a w := by
  obtain ⟨i0, hi, h2⟩ := Option.map_eq_some_iff.1 wait_whole
  simp only [Prod.mk.injEq] at h2
  obtain ⟨hz, hsz, hby⟩ := h2
  have hz76 : Wt.none.cells.length = 76 := Wt.cells_len Wt.none_ok
  by_cases h0 : t2 = []
  · subst h0
    obtain ⟨A, c, rfl, hlc, _⟩ := hown.form
    refine wpList_plain hg2 fun _ hK => ?_
    have hr := fun ty => run_append_nothing (P := Try.prog) w 30 30 ty 38 i0 Try.underlying30 hi A l.length c hlc (.slice A2 0 c2) (by
      cases A2 with
      | none => exact Src.ofNil w Try.underlying30 c2
      | some q => exact Src.ofSlice w Try.underlying30 q 0 c2 [] (by simp) (by simp) (by simp))
    unfold Oper.wp execOp
    simp only [ho2, resolve, invoke, builtin, Sem.run_bind, Sem.run_pure, Result.andThen_ok, List.map_toArray, List.map_cons, List.map_nil, hs, hy, List.length_nil, hr]
    exact hK _ _ (K _ _ (by rw [List.append_nil]; exact hown) (Chg.refl _ _) (fun k hk => .inl hk))
  · obtain ⟨g, e, hg, hat⟩ := hin.1 h0
    subst e
    have hl76 : ∀ y ∈ t2, y.cells.length = 76 := fun y hy => Wt.cells_len (hin.2.2.2.2 y hy)
    have hpos : 0 < t2.length := List.length_pos_iff.2 h0
    have hlen2 := hin.2.2.2.1
    refine wpList_append_own_at' hg2 sl y 30 ho2 base 38 i0 (.agg Wt.none.cells.toArray) 76 168 Try.underlying30 hi hz hsz hby (by simpa [Value.cells] using hz76) (by decide) v l.length (Rw.flat Wt.cells l) hs hown.own ⟨g, 0, none⟩ t2.length c2 (Rw.flat Wt.cells t2) hy (Rw.flat_len hl76) (fun j u hu => ?_) (flat_one18 hin.2.2.2.2) hpos (by unfold maxLen; omega) (by omega) hbase (fun v' w' ho hg hat => K v' w' ⟨by rw [Rw.flat_append, List.length_append]; exact ho⟩ ?_ ?_)
    · have e : (⟨g, 0, none⟩ : Addr).add j = ⟨g, 0 + j, none⟩ := by unfold Addr.add; split <;> simp_all
      rw [e]
      exact waits_flat18 t2 0 (fun i hi => by rw [Nat.zero_add]; exact hat i hi) hl76 j u hu
    · exact Chg.of_grown (S := fun k => v.ownBlock = some k) hg (fun k hk => .inl hk)
    · intro k hk
      rcases hat with q | q
      · exact .inl (q ▸ hk)
      · rw [q] at hk
        cases hk
        exact .inr (Nat.le_refl _)
set_option maxHeartbeats 1600000 in
theorem clone18_any (A : Option Addr) (c : Nat) (l : List Wt) (w : World) (hin : SlW w w.heap.size A c l) :
    Calls Try.prog 35 #[.slice A l.length c] w fun e w' => (∃ v, e = .returned v ∧ OwnL w' w.heap.size 38 76 Wt.cells v l) ∧ Below w.heap.size w w' := by
  cases A with
  | none =>
    obtain ⟨rfl, rfl⟩ := hin.2.1 rfl
    clear hin
    have heq := fun W : World => Lib.run_eql_slice_nil (P := Try.prog) W 30 38 none 0 0 0 0 Try.underlying30
    go_enter Try.func35, Try.ntmps35
    go_wp2_with fail
    go_ret
    exact ⟨⟨_, rfl, OwnL.nil _ _ _ _ _⟩, Below.refl _ _⟩
  | some a =>
    have hown0 : OwnL (w.alloc (.cells #[] 38)) w.heap.size 38 76 Wt.cells (.slice (some ⟨w.heap.size, 0, none⟩) 0 0) [] := ⟨rfl, .inr ⟨w.heap.size, 0, #[], rfl, Nat.le_refl _, heap_alloc_new _ _, Nat.le_refl _, Nat.zero_le _, rfl, rfl⟩⟩
    have hb0 := (Below.refl w.heap.size w).alloc (Nat.le_refl _) (.cells #[] 38)
    have HO0 := Lib.hid hown0
    have Hb0 := Lib.hid hb0
    have HS0 := Lib.hid ((hin.below hb0).mono hb0.size)
    obtain ⟨n, hn⟩ : ∃ n, l.length = n := ⟨_, rfl⟩
    have HM := Lib.hid hn
    rw [hn]
    have heq := fun W : World => Lib.run_eql_slice_nil (P := Try.prog) W 30 38 (some a) n c 0 0 Try.underlying30
    clear hin hown0 hb0 hn
    go_enter Try.func35, Try.ntmps35
    go_wp2_with (first
      | ((with_reducible show wpList _ _ _ (⟨_, .call { callee := .builtin .append, args := #[.tmp 5, .tmp 6], argTypes := _ }, _, _, _, _⟩ :: _) _ _)
         refine wpList_appL rfl (.tmp 5) (.tmp 6) rfl l (some a) c HS0.out w.heap.size _ [] HO0.out Hb0.out.size (by simp) rfl (by rw [HM.out]; rfl) ?_
         intro v9 w9 ho9 hc9 hk9
         have HO9 := Lib.hid ho9
         have HB9 := Lib.hid (below_chg Hb0.out hc9 Hb0.out.size (fun k hk => by cases hk; exact Nat.le_refl _))
         clear ho9 hc9 hk9))
    go_ret
    exact ⟨⟨_, rfl, HO9.out⟩, HB9.out⟩
end Go.Proofs.Ytoicpidiejhjeaa
