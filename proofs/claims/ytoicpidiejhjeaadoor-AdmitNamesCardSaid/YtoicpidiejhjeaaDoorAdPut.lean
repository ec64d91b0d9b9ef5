/- A gate's map written: what stays. -/
import Derived.Test.YtoicpidiejhjeaaDoorAdAsk
namespace Go.Proofs.YtoicpidiejhjeaaDoor
open Go.RowKit Go.Maps
set_option linter.unusedVariables false
set_option linter.unusedSimpArgs false

theorem wp_mapPut {H : Type} {P : Program} {op : Oper} {a : Act} {w : World} {K : Act → World → Prop} {Q : Exit → Act → World → Prop} (t : TypeId) (m x v : Operand) (ho : op.op = Op.mapUpdate t m x v)
    (k e : TypeId) (L : Keyed P k) (ht : P.underlying t = some (.map k e)) (R : Value → Option (DataW H × List MemPlace)) (b n : Nat) (D : DataW H)
    (hm : a.eval m = .map (some b)) (hown : w.ownsMap P k R b n D) (hn : n < maxLen) (key val : Value) (kl : Lit) (hx : a.eval x = key) (hv : a.eval v = val) (hkey : keyOf P k key = some kl)
    (d : DataW H) (ps : List MemPlace) (hval : R val = some (d, ps))
    (h : ∀ w', w'.ownsMap P k R b (n + 1) (D.put kl d) → w.grownBy w' (some b) → K (a.put op.dst undef) w') : op.wp P a w K Q := by
  obtain ⟨w', hrun, r1, r2⟩ := hown.store L ht hn hkey hval
  unfold Oper.wp
  simp [execOp, ho, hm, hx, hv, hrun, Result.andThen]
  exact h w' r1 r2.grown
theorem wp_mapDel {H : Type} {P : Program} {op : Oper} {a : Act} {w : World} {K : Act → World → Prop} {Q : Exit → Act → World → Prop} (t k : TypeId) (m x : Operand) (ho : op.op = Op.call { callee := Callee.builtin Builtin.delete, args := #[m, x], argTypes := #[t, k] })
    (e : TypeId) (L : Keyed P k) (ht : P.underlying t = some (.map k e)) (R : Value → Option (DataW H × List MemPlace)) (b n : Nat) (D : DataW H)
    (hm : a.eval m = .map (some b)) (hown : w.ownsMap P k R b n D) (key : Value) (kl : Lit) (hx : a.eval x = key) (hkey : keyOf P k key = some kl)
    (h : ∀ w', w'.ownsMap P k R b n (D.del kl) → w.grownBy w' (some b) → K (a.put op.dst (.tuple #[])) w') : op.wp P a w K Q := by
  obtain ⟨w', hrun, r1, r2⟩ := hown.drop L ht hkey op.type
  unfold Oper.wp
  simp [execOp, ho, resolve, invoke, builtin, hm, hx, hrun, Result.andThen]
  exact h w' r1 r2.grown
section
variable {w0 w wq w2 w3 : World} {B M n K b : Nat} {g : Ad.G} {D : DataW Unit} {N : List UInt8}
theorem row_ne_set {D' : DataW Unit} {k : Nat} {T : TypeId} {xs : List Value} (hD : wq.ownsMap Tryd.prog 33 unitElem M K D') (hr : Row wq k T xs) : k ≠ M := by
  obtain ⟨es, clock, hb, _⟩ := hD
  rintro rfl
  unfold Row at hr
  rw [hr] at hb
  cases hb
theorem GTo.turned (h : GTo w0 w B M g n) (hb : Below w.heap.size w wq) (hg : wq.grownBy w2 (some M)) : Below w0.heap.size w0 w2 ∧ KeepsG w w2 ∧ Row w2 B 53 (Ad.cells g M) := by
  have hq := h.below hb
  obtain ⟨D, K, _, hD, _⟩ := hq.own.map
  refine ⟨below_own hq.low hg (fun k hk => by cases hk; exact h.hi.2), fun k T xs _ hr => ?_, hq.own.row.kept hg (by simpa using hq.own.apart)⟩
  have h1 := hr.below hb
  exact h1.kept hg (by simpa using row_ne_set hD h1)
theorem GTo.put (h : GTo w0 w B M g n) (hb : Below w.heap.size w wq) (hg : wq.grownBy w2 (some M)) (hm : w2.ownsMap Tryd.prog 33 unitElem M (K + 1) (D.put (litH N) (.agg []))) (hK : K ≤ n) (hV : ReadsS D g.nm) (hN : N.length = 32) (hin : N ∉ g.nm) :
    GTo w0 w2 B M { g with nm := g.nm ++ [N] } (n + 1) ∧ KeepsG w w2 := by
  obtain ⟨h1, h2, h3⟩ := h.turned hb hg
  exact ⟨⟨h1, ⟨h3, ⟨_, K + 1, by omega, hm, hV.put hN hin⟩, ⟨h.own.ok.len, fun v hv => by have := h.own.ok.nxs v hv; omega, h.own.ok.fl⟩⟩, h.hi⟩, h2⟩
theorem GTo.del (h : GTo w0 w B M g n) (hb : Below w.heap.size w wq) (hg : wq.grownBy w2 (some M)) (hm : w2.ownsMap Tryd.prog 33 unitElem M K (D.del (litH N))) (hK : K ≤ n) (hV : ReadsS D g.nm) (hin : N ∈ g.nm) :
    GTo w0 w2 B M { g with nm := g.nm.erase N } (n + 1) ∧ KeepsG w w2 := by
  obtain ⟨h1, h2, h3⟩ := h.turned hb hg
  exact ⟨⟨h1, ⟨h3, ⟨_, K, by omega, hm, hV.del hin⟩, ⟨h.own.ok.len, fun v hv => by have := h.own.ok.nxs v hv; omega, h.own.ok.fl⟩⟩, h.hi⟩, h2⟩
/-- a store into a block of the call's own -/
theorem GTo.into (h0 : GTo w0 w B M g n) {g' : Ad.G} {m : Nat} (h : GTo w0 w2 B M g' m ∧ KeepsG w w2) (hg : w2.grownBy w3 (some b)) (hb : w.heap.size ≤ b) : GTo w0 w3 B M g' m ∧ KeepsG w w3 := by
  have hB := h0.own.ltB
  have hM := h0.own.ltM
  have hs := h0.low.size
  refine ⟨⟨below_own h.1.low hg (fun k hk => by cases hk; omega), h.1.own.kept hg (by simp; omega) (by simp; omega), h.1.hi⟩, fun k T xs hT hr => ?_⟩
  have h1 := h.2 k T xs hT hr
  have := hr.lt
  exact h1.kept hg (by simp; omega)
/-- an account's next nonce rises -/
theorem GTo.next (h : GTo w0 w B M g n) (i : Nat) (hi : i ≤ 63) (hx : (i : Int) = i) : Row (w.setCell ⟨B, 1 + i, none⟩ (.int .i64 (Ad.nxt g i + 1))) B 53 (Ad.cells { g with nx := g.nx.set i (Ad.nxt g i + 1) } M) := by
  have hl := h.own.ok.len
  have hr := h.own.row.set (1 + i) (.int .i64 (Ad.nxt g i + 1)) (by rw [Ad.cells_len h.own.ok]; omega)
  have e : (Ad.cells g M).set (1 + i) (.int .i64 (Ad.nxt g i + 1)) = Ad.cells { g with nx := g.nx.set i (Ad.nxt g i + 1) } M := by
    unfold Ad.cells
    rw [Nat.add_comm 1 i, List.set_cons_succ, List.set_append_left _ _ (by rw [List.length_map]; omega), List.map_set]
  rw [e] at hr
  exact hr
end
end Go.Proofs.YtoicpidiejhjeaaDoor
