/- append of one Wait to a list in own memory. -/
import Derived.Test.YtoicpidiejhjeaaPlMem
import Derived.Test.YtoicpidiejhjeaaNoBlocks
import Derived.Test.YtoicpidiejhjeaaNoReg
namespace Go.Proofs.Ytoicpidiejhjeaa
open Go.RowKit
set_option linter.unusedVariables false
set_option linter.unusedSimpArgs false
set_option maxRecDepth 100000

theorem fill_wait (ZA : Array Value) (CT : List Value) (h : CT.length = 76) : Instr.fill (fun i => some (i * 76, 76)) ((Array.range (1 * 76)).map (ZA[· % ZA.size]!)) [(0, .agg CT.toArray)] = some CT.toArray := by
  have e : ((Array.range (1 * 76)).map (ZA[· % ZA.size]!)) = ((List.range 76).map (ZA[· % ZA.size]!)).toArray := by rw [← Array.toList_inj]; simp
  rw [e, fill_step _ _ 0 _ CT _ 0 76 rfl (by simp [Value.cells]) h (by simp), fill_end]
  simp [List.drop_of_length_le]
theorem wait_whole : (Try.prog.info? 38).map (fun i => (i.zero, i.size, i.bytes)) = some (some (.agg Wt.none.cells.toArray), 76, 168) := by kernel_rfl
theorem wpList_push {ops : Array Oper} {rest : List Oper} {o1 o2 : Oper} {a : Act} {w : World} {Q : Exit → Act → World → Prop} (hg1 : o1.guard = none) (hg2 : o2.guard = none) (x : Operand) (b : Tmp) (sl : Operand)
    (ho1 : o1.op = .buildSlice 30 1 #[(0, x)]) (hd1 : o1.dst = some b) (ho2 : o2.op = .call { callee := .builtin .append, args := #[sl, .tmp b], argTypes := #[30, 30] })
    (t : Wt) (ht : t.Ok) (C : List Value) (hC : t.cells = C) (hx : a.eval x = .agg C.toArray) (base : Nat) (v : Value) (l : List Wt) (hown : OwnL w base 38 76 Wt.cells v l) (hbase : base ≤ w.heap.size) (hlen : l.length ≤ 100000)
    (hs : (a.put (some b) (.slice (some ⟨w.heap.size, 0, none⟩) 1 1)).eval sl = v) (hb : (a.put (some b) (.slice (some ⟨w.heap.size, 0, none⟩) 1 1)).eval (.tmp b) = .slice (some ⟨w.heap.size, 0, none⟩) 1 1)
    (K : ∀ v' w', OwnL w' base 38 76 Wt.cells v' (l ++ [t]) → Chg (fun k => v.ownBlock = some k) w w' → (∀ k, v'.ownBlock = some k → v.ownBlock = some k ∨ w.heap.size ≤ k) → wpList Try.prog ops Q rest ((a.put (some b) (.slice (some ⟨w.heap.size, 0, none⟩) 1 1)).put o2.dst v') w') :
    wpList Try.prog ops Q (o1 :: o2 :: rest) a w := by
  subst hC
  obtain ⟨i0, hi, h2⟩ := Option.map_eq_some_iff.1 wait_whole
  simp only [Prod.mk.injEq] at h2
  obtain ⟨hz, hsz, hby⟩ := h2
  have hc76 := Wt.cells_len ht
  refine wpList_buildSliceL hg1 30 38 1 [(0, x)] ho1 (some b) hd1 [(0, .agg t.cells.toArray)] (by simp only [List.map_cons, List.map_nil, hx]) t.cells.toArray i0 (.agg Wt.none.cells.toArray) 76 Try.underlying30 hi hz hsz (by decide) (by decide) (fill_wait Wt.none.cells.toArray t.cells hc76) ?_
  have hnew := Row.new w 38 t.cells
  have hz76 : Wt.none.cells.length = 76 := Wt.cells_len Wt.none_ok
  have hown' : OwnL (w.alloc (.cells t.cells.toArray 38)) base 38 76 Wt.cells v l := hown.alloc _
  have hbs : base ≤ (w.alloc (.cells t.cells.toArray 38)).heap.size := by simp; omega
  refine wpList_append_own_at' hg2 sl (.tmp b) 30 ho2 base 38 i0 (.agg Wt.none.cells.toArray) 76 168 Try.underlying30 hi hz hsz hby (by simpa [Value.cells] using hz76) (by decide) v l.length (Rw.flat Wt.cells l) hs hown'.own ⟨w.heap.size, 0, none⟩ 1 1 t.cells hb (by rw [hc76]) (fun j u hu => ?_) (Wt.cells_one ht) (by decide) (by unfold maxLen; omega) (by omega) hbs (fun v' w' ho hg hat => K v' w' (OwnL.pushed ho) ?_ ?_)
  · have := row_range hnew j u hu
    rw [Nat.zero_add] at this
    have hadd : (⟨w.heap.size, 0, none⟩ : Addr).add j = ⟨w.heap.size, j, none⟩ := by unfold Addr.add; split <;> simp_all
    rw [hadd]
    exact this
  · refine (Chg.of_below ((Below.refl w.heap.size w).alloc (Nat.le_refl _) (.cells t.cells.toArray 38))).trans (Chg.of_grown (S := fun k => v.ownBlock = some k) hg (fun k hk => .inl hk)) (fun i hi => .inl hi)
  · intro k hk
    rcases hat with q | q
    · exact .inl (q ▸ hk)
    · rw [q] at hk
      cases hk
      exact .inr (by simp)
/-- two lists that grow side by side, above a world -/
structure TwoW (w wr : World) (u v : Value) (lo ly : List Wt) : Prop where
  below : Below w.heap.size w wr
  o : OwnL wr w.heap.size 38 76 Wt.cells u lo
  y : OwnL wr w.heap.size 38 76 Wt.cells v ly
  ap : ∀ k, u.ownBlock = some k → v.ownBlock ≠ some k
section
variable {w wr W : World} {u v u' v' : Value} {lo ly lo' ly' : List Wt}
theorem TwoW.nil (w : World) : TwoW w w (.slice none 0 0) (.slice none 0 0) [] [] := ⟨Below.refl _ _, OwnL.nil _ _ _ _ _, OwnL.nil _ _ _ _ _, fun k hk => by cases hk⟩
theorem TwoW.step (h : TwoW w wr u v lo ly) (hb : Below wr.heap.size wr W) : TwoW w W u v lo ly := ⟨two_below' h.below hb, h.o.below hb, h.y.below hb, h.ap⟩
theorem TwoW.pushO (h : TwoW w wr u v lo ly) (ho : OwnL W w.heap.size 38 76 Wt.cells u' lo') (hc : Chg (fun k => u.ownBlock = some k) wr W) (hk : ∀ k, u'.ownBlock = some k → u.ownBlock = some k ∨ wr.heap.size ≤ k) : TwoW w W u' v lo' ly :=
  ⟨below_chg h.below hc h.below.size (fun k hk => (h.o.lt k hk).1), ho, h.y.chg hc (fun k hk hu => h.ap k hu hk), fun k hu hv => by
    rcases hk k hu with q | q
    · exact h.ap k q hv
    · have := (h.y.lt k hv).2; omega⟩
theorem TwoW.swap (h : TwoW w wr u v lo ly) : TwoW w wr v u ly lo := ⟨h.below, h.y, h.o, fun k hk hu => h.ap k hu hk⟩
theorem TwoW.pushY (h : TwoW w wr u v lo ly) (ho : OwnL W w.heap.size 38 76 Wt.cells v' ly') (hc : Chg (fun k => v.ownBlock = some k) wr W) (hk : ∀ k, v'.ownBlock = some k → v.ownBlock = some k ∨ wr.heap.size ≤ k) : TwoW w W u v' lo ly' :=
  (h.swap.pushO ho hc hk).swap
end
end Go.Proofs.Ytoicpidiejhjeaa
