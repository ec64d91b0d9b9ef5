/- slices.Insert at the end. -/
import Derived.Test.YtoicpidiejhjeaaPlPush
namespace Go.Proofs.Ytoicpidiejhjeaa
open Go.RowKit
set_option linter.unusedVariables false
set_option linter.unusedSimpArgs false
set_option maxRecDepth 100000

theorem wpList_app1 {ops : Array Oper} {rest : List Oper} {o2 : Oper} {a : Act} {w : World} {Q : Exit → Act → World → Prop} (hg2 : o2.guard = none) (sl y : Operand)
    (ho2 : o2.op = .call { callee := .builtin .append, args := #[sl, y], argTypes := #[30, 30] })
    (t : Wt) (ht : t.Ok) (gv m : Nat) (hrow : Row w gv 38 t.cells) (base : Nat) (v : Value) (l : List Wt) (hown : OwnL w base 38 76 Wt.cells v l) (hbase : base ≤ w.heap.size) (hlen : l.length ≤ 100000)
    (hs : a.eval sl = v) (hy : a.eval y = .slice (some ⟨gv, 0, none⟩) 1 m)
    (K : ∀ v' w', OwnL w' base 38 76 Wt.cells v' (l ++ [t]) → Chg (fun k => v.ownBlock = some k) w w' → (∀ k, v'.ownBlock = some k → v.ownBlock = some k ∨ w.heap.size ≤ k) → wpList Try.prog ops Q rest (a.put o2.dst v') w') :
    wpList Try.prog ops Q (o2 :: rest) a w := by
  obtain ⟨i0, hi, h2⟩ := Option.map_eq_some_iff.1 wait_whole
  simp only [Prod.mk.injEq] at h2
  obtain ⟨hz, hsz, hby⟩ := h2
  have hc76 := Wt.cells_len ht
  have hz76 : Wt.none.cells.length = 76 := Wt.cells_len Wt.none_ok
  refine wpList_append_own_at' hg2 sl y 30 ho2 base 38 i0 (.agg Wt.none.cells.toArray) 76 168 Try.underlying30 hi hz hsz hby (by simpa [Value.cells] using hz76) (by decide) v l.length (Rw.flat Wt.cells l) hs hown.own ⟨gv, 0, none⟩ 1 m t.cells hy (by rw [hc76]) (fun j u hu => ?_) (Wt.cells_one ht) (by decide) (by unfold maxLen; omega) (by omega) hbase (fun v' w' ho hg hat => K v' w' (OwnL.pushed ho) ?_ ?_)
  · have := row_range hrow j u hu
    rw [Nat.zero_add] at this
    have hadd : (⟨gv, 0, none⟩ : Addr).add j = ⟨gv, j, none⟩ := by unfold Addr.add; split <;> simp_all
    rw [hadd]
    exact this
  · exact Chg.of_grown (S := fun k => v.ownBlock = some k) hg (fun k hk => .inl hk)
  · intro k hk
    rcases hat with q | q
    · exact .inl (q ▸ hk)
    · rw [q] at hk
      cases hk
      exact .inr (Nat.le_refl _)
/-- what slices.Insert makes of a list, at an element's own place -/
def InsOk (l : List Wt) (x : Wt) : Prop := ∀ (W : World) (base : Nat) (A : Option Addr) (c gv : Nat), OwnL W base 38 76 Wt.cells (.slice A l.length c) l → base ≤ W.heap.size → Row W gv 38 x.cells → (Value.slice A l.length c).ownBlock ≠ some gv →
  Calls Try.prog 29 #[.slice A l.length c, .int .i64 (Pl.pos l x.ix), .slice (some ⟨gv, 0, none⟩) 1 1] W fun e w' => ∃ u, e = .returned u ∧ OwnL w' base 38 76 Wt.cells u (Pl.ins l x) ∧ Chg (fun k => (Value.slice A l.length c).ownBlock = some k) W w' ∧ ∀ k, u.ownBlock = some k → (Value.slice A l.length c).ownBlock = some k ∨ W.heap.size ≤ k
theorem Pl.ins_last {l : List Wt} {x : Wt} (h : Pl.pos l x.ix = l.length) : Pl.ins l x = l ++ [x] := by
  unfold Pl.ins
  rw [h, List.take_of_length_le (Nat.le_refl _), List.drop_of_length_le (Nat.le_refl _)]
theorem Pl.pos_last {l : List Wt} {i : Int} (h : ∀ y ∈ l, y.ix < i) : Pl.pos l i = l.length := by
  unfold Pl.pos
  rw [List.countP_eq_length]
  intro y hy
  simpa using h y hy
set_option maxHeartbeats 3200000 in
theorem insOk_last (l : List Wt) (x : Wt) (hx : x.Ok) (hl : l.length ≤ 100000) (hp : Pl.pos l x.ix = l.length) : InsOk l x := by
  intro W base A c gv hown hbase hrow hne
  have HI : Hid (Pl.ins l x = l ++ [x]) := Lib.hid (Pl.ins_last hp)
  rw [hp]
  obtain ⟨_, _, e, hlc, hcm⟩ := hown.form
  injection e with e1 e2 e3
  subst e1
  subst e3
  have HO := Lib.hid hown
  have HR := Lib.hid hrow
  have HL := Lib.hid hl
  have HX := Lib.hid hx
  have HB := Lib.hid hbase
  clear hp hown hrow hne hl hx hbase
  obtain ⟨n, hn⟩ : ∃ n, l.length = n := ⟨_, rfl⟩
  rw [hn] at hlc HO ⊢
  rw [HI.out]
  clear hn
  by_cases hcn : c = n
  · subst hcn
    go_enter Try.func29, Try.ntmps29
    go_wp2_with (first
      | ((with_reducible show wpList _ _ _ (⟨_, .call { callee := .builtin .append, args := #[.tmp 23, .tmp 24], argTypes := _ }, _, _, _, _⟩ :: _) _ _)
         refine wpList_app1 rfl (.tmp 23) (.tmp 24) rfl x HX.out gv 1 HR.out base _ l HO.out HB.out HL.out rfl rfl ?_
         intro v9 w9 ho9 hc9 hk9
         have HO9 := Lib.hid ho9
         have HC9 := Lib.hid hc9
         have HK9 := Lib.hid hk9
         clear ho9 hc9 hk9))
    go_ret
    exact ⟨_, rfl, HO9.out, HC9.out, HK9.out⟩
  · go_enter Try.func29, Try.ntmps29
    go_wp2_with (first
      | ((with_reducible show wpList _ _ _ (⟨_, .call { callee := .builtin .append, args := #[.tmp 23, .tmp 24], argTypes := _ }, _, _, _, _⟩ :: _) _ _)
         refine wpList_app1 rfl (.tmp 23) (.tmp 24) rfl x HX.out gv 1 HR.out base _ l HO.out HB.out HL.out rfl rfl ?_
         intro v9 w9 ho9 hc9 hk9
         have HO9 := Lib.hid ho9
         have HC9 := Lib.hid hc9
         have HK9 := Lib.hid hk9
         clear ho9 hc9 hk9))
    go_ret
    exact ⟨_, rfl, HO9.out, HC9.out, HK9.out⟩
end Go.Proofs.Ytoicpidiejhjeaa
