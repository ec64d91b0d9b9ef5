/- What later texts need of the earlier layers. -/
/- What later texts need of the earlier layers. -/
import Derived.Test.YtinciddchpccnaaDoorChecked
import Derived.Deep.AppendSrc
import Derived.Deep.DeepAppendWide
import Derived.OwnWalk
import Derived.Below
import Derived.WalkKit
import Derived.Test.YtinciddchpccnaaDoorBxO
import Derived.Test.YtinciddchpccnaaDoorWinMath
import Derived.Test.YtinciddchpccnaaDoorWinNum
import Derived.Test.YtinciddchpccnaaDoorOwnApp
import Derived.Test.YtinciddchpccnaaDoorWinOwn
import Derived.Test.YtinciddchpccnaaDoorWinOwn8
import Derived.Test.YtinciddchpccnaaDoorWinPack
import Derived.Test.YtinciddchpccnaaDoorWinUn
import Derived.Test.YtinciddchpccnaaDoorWinAgain
set_option maxRecDepth 100000
/- ---- WinSrc ---- -/
/- Layer 7: as OwnApp, and where the row lies behind it: append onto a row of bytes of the call's own, of whatever is appended (a string, a slice), up to growslice's own bound. -/
namespace Go.Proofs.YtinciddchpccnaaDoor
open Go.RowKit
set_option linter.unusedVariables false
set_option linter.unusedSimpArgs false

theorem run_own_src2 {P : Program} (w : World) (base : Nat) (t tx ty e : TypeId) (i : TypeInfo) (ht : P.underlying t = some (.slice e)) (hi : P.info? e = some i) (hz : i.zero = some (.int .u8 0)) (hsize : i.size = 1) (hby : i.bytes = 1)
    (v : Value) (n : Nat) (xs : List Value) (hown : w.ownsRow base e 1 v n xs) (x : Value) (m : Nat) (news : List Value) (hs : Src P 1 tx x m news w)
    (hbytes : (n + m) + (n + m) / 4 + 192 ≤ 281474976710656) (hbase : base ≤ w.heap.size) :
    ∃ v' w', (Builtin.append_ #[t, tx] ty #[v, x]).run P w = .ok v' w' ∧ w'.ownsRow base e 1 v' (n + m) (xs ++ news) ∧ w.grownBy w' v.ownBlock ∧ (v'.ownBlock = v.ownBlock ∨ v'.ownBlock = some w.heap.size) := by
  have hxl : xs.length = n := by simpa using hown.1
  have hnl : news.length = m := by simpa using hs.newsLen
  have hlen : (xs ++ news).length = (n + m) * 1 := by rw [List.length_append, hxl, hnl, Nat.mul_one]
  have hs' : Src P i.size tx x m news w := by rw [hsize]; exact hs
  have grown : ∀ (old : Nat), old < n + m → ∀ (row : Option Nat),
      (w.drew.alloc (.cells ((xs ++ news).toArray ++ Builtin.zeroCells (Value.int .u8 0).cells (grownCap w (n + m) old e - (n + m))) e)).ownsRow base e 1
        (.slice (some ⟨w.heap.size, 0, none⟩) (n + m) (grownCap w (n + m) old e)) (n + m) (xs ++ news) ∧
      w.grownBy (w.drew.alloc (.cells ((xs ++ news).toArray ++ Builtin.zeroCells (Value.int .u8 0).cells (grownCap w (n + m) old e - (n + m))) e)) row := by
    intro old ho row
    have hge := grownCap_ge w (n + m) old e
    have hcm : grownCap w (n + m) old e ≤ maxLen := grownCap_le_maxLen w (n + m) old e (by unfold maxLen; omega)
    refine ⟨⟨hlen, .inr ⟨w.heap.size, _, _, rfl, hbase, heap_alloc_new w.drew _, hge, hcm, ?_, ?_⟩⟩, ⟨rfl, rfl, rfl, by simp, fun k hk _ => Below.heap_alloc w.drew _ k hk⟩⟩
    · have hz1 : (Value.int IntKind.u8 0).cells.size = 1 := rfl
      simp only [Array.size_append, List.size_toArray, size_zeroCells, hz1, List.length_append, hxl, hnl]
      omega
    · rw [Array.toList_append, ← hlen]
      exact List.take_left
  rcases hown.2 with ⟨rfl, rfl⟩ | ⟨g, cap, cur, rfl, hbg, hg, hnc, hcm, hcs, htake⟩
  · have hx : xs = [] := List.eq_nil_of_length_eq_zero hxl
    subst hx
    by_cases hm : m = 0
    · subst hm
      have hn : news = [] := List.eq_nil_of_length_eq_zero hnl
      subst hn
      refine ⟨.slice none 0 0, w, ?_, World.ownsRow_nil w base e 1, ⟨rfl, rfl, rfl, Nat.le_refl _, fun _ _ _ => rfl⟩, Or.inl rfl⟩
      rcases hs'.kind with ⟨e', hk⟩ | hk <;> simp [Builtin.append_, run_underlying ht, run_underlying hk, sizeOf, typeInfo, hi, hs'.len, hs'.cells]
    · have hr := run_append_grow_src (P := P) w t tx ty e i (.int .u8 0) ht hi hz none 0 0 [] (run_firstCells_none w.drew i.size 0 0 0) x m news hs' (by omega) (by omega) (by
        have := nextslicecap_le_wide (need := 0 + m) (old := 0) (by omega)
        rw [hby]; omega)
      have hgr := grown 0 (by omega) (Value.ownBlock (.slice none 0 0))
      exact ⟨_, _, hr, hgr.1, hgr.2, Or.inr rfl⟩
  · have hcs' : cur.size = cap := by simpa using hcs
    by_cases hroom : n + m ≤ cap
    · have hst := run_storeCells_at P g n e news 0 cur w hg (by omega) hs.one
      have hrun : (Builtin.append_ #[t, tx] ty #[.slice (some ⟨g, 0, none⟩) n cap, x]).run P w =
          .ok (.slice (some ⟨g, 0, none⟩) (n + m) cap) (w.setRow g (cur.toList.take n ++ news ++ cur.toList.drop (n + m)).toArray) := by
        simp only [Nat.add_zero, hnl] at hst
        rcases hs.kind with ⟨e', hk⟩ | hk <;> simp [Builtin.append_, run_underlying ht, run_underlying hk, sizeOf, typeInfo, hi, hsize, hs.len, hroom, hs.cells, Addr.add_lit, hst]
      refine ⟨_, _, hrun, ⟨hlen, .inr ⟨g, cap, _, rfl, hbg, setRow_heap w g cur _ e _ hg, hroom, hcm, ?_, ?_⟩⟩, ⟨rfl, rfl, rfl, by simp, fun k _ hk => setRow_other w g k _ (fun e => hk (by simp [Value.ownBlock, e]))⟩, Or.inl rfl⟩
      · simp only [List.size_toArray, List.length_append, List.length_take, List.length_drop, Array.length_toList, hnl]
        omega
      · have ht' : cur.toList.take n = xs := by simpa using htake
        rw [ht', ← hlen]
        exact List.take_left
    · have holds : ∀ j u, xs[j]? = some u → w.cell? ((⟨g, 0, none⟩ : Addr).add j) = some u := hown.cells (g := g) rfl
      have hr := run_append_grow_src (P := P) w t tx ty e i (.int .u8 0) ht hi hz (some ⟨g, 0, none⟩) n cap xs
        (run_firstCells_some w.drew i.size n ⟨g, 0, none⟩ n cap xs (by rw [hsize]; simpa using hxl) (by simpa using holds)) x m news hs' (by omega) (by omega) (by
        have := nextslicecap_le_wide (need := n + m) (old := cap) (by omega)
        rw [hby]; omega)
      have hgr := grown cap (by omega) (Value.ownBlock (.slice (some ⟨g, 0, none⟩) n cap))
      exact ⟨_, _, hr, hgr.1, hgr.2, Or.inr rfl⟩
/-- at the operation -/
theorem wpList_own_src2 {P : Program} (w : World) {ops : Array Oper} {rest : List Oper} {o : Oper} {a : Act} {Q : Exit → Act → World → Prop} (hgd : o.guard = none) (sl x : Operand) (t tx : TypeId)
    (ho : o.op = .call { callee := .builtin .append, args := #[sl, x], argTypes := #[t, tx] }) (base : Nat) (e : TypeId) (i : TypeInfo) (ht : P.underlying t = some (.slice e)) (hi : P.info? e = some i) (hz : i.zero = some (.int .u8 0)) (hsize : i.size = 1) (hby : i.bytes = 1)
    (v : Value) (n : Nat) (xs : List Value) (hv : a.eval sl = v) (hown : w.ownsRow base e 1 v n xs) (u : Value) (m : Nat) (news : List Value) (hx : a.eval x = u) (hs : Src P 1 tx u m news w)
    (hbytes : (n + m) + (n + m) / 4 + 192 ≤ 281474976710656) (hbase : base ≤ w.heap.size)
    (h : ∀ v' w', w'.ownsRow base e 1 v' (n + m) (xs ++ news) → w.grownBy w' v.ownBlock → (v'.ownBlock = v.ownBlock ∨ v'.ownBlock = some w.heap.size) → wpList P ops Q rest (a.put o.dst v') w') : wpList P ops Q (o :: rest) a w := by
  refine wpList_plain hgd fun K hK => ?_
  obtain ⟨v', w', hr, h2, h3, h4⟩ := run_own_src2 (P := P) w base t tx o.type e i ht hi hz hsize hby v n xs hown u m news hs hbytes hbase
  unfold Oper.wp execOp
  simp only [ho, resolve, invoke, builtin, Sem.run_bind, Sem.run_pure, Result.andThen_ok, List.map_toArray, List.map_cons, List.map_nil, hv, hx, hr]
  exact hK _ _ (h v' w' h2 h3 h4)
end Go.Proofs.YtinciddchpccnaaDoor
set_option maxRecDepth 100000
/- ---- WinTwo ---- -/
/- Layer 7: two rows of bytes of the call's own, side by side. -/
namespace Go.Proofs.YtinciddchpccnaaDoor
open Go.RowKit
set_option linter.unusedVariables false
set_option linter.unusedSimpArgs false

def Two (base : Nat) (w : World) (b r : Value) (bs rs : List UInt8) : Prop :=
  w.ownsRow base 5 1 b bs.length (bytesV bs) ∧ w.ownsRow base 5 1 r rs.length (bytesV rs) ∧ b.ownBlock ≠ none ∧ r.ownBlock ≠ none ∧ b.ownBlock ≠ r.ownBlock
theorem Two.swap {base : Nat} {w : World} {b r : Value} {bs rs : List UInt8} (h : Two base w b r bs rs) : Two base w r b rs bs :=
  ⟨h.2.1, h.1, h.2.2.2.1, h.2.2.1, fun e => h.2.2.2.2 e.symm⟩
theorem Two.alloc {base : Nat} {w : World} {b r : Value} {bs rs : List UInt8} (h : Two base w b r bs rs) (o : Obj) : Two base (w.alloc o) b r bs rs :=
  ⟨h.1.alloc o, h.2.1.alloc o, h.2.2.1, h.2.2.2.1, h.2.2.2.2⟩
theorem Two.drewN {base : Nat} {w : World} {b r : Value} {bs rs : List UInt8} (h : Two base w b r bs rs) (n : Nat) : Two base (w.drewN n) b r bs rs :=
  ⟨own_drewN h.1 n, own_drewN h.2.1 n, h.2.2.1, h.2.2.2.1, h.2.2.2.2⟩
theorem Two.fresh {base : Nat} {w : World} {b r : Value} {bs rs : List UInt8} (h : Two base w b r bs rs) (hb : base ≤ w.heap.size) :
    Two base (w.alloc (.cells #[] 5)) b (.slice (some ⟨w.heap.size, 0, none⟩) 0 0) bs [] := by
  refine ⟨h.1.alloc _, ⟨rfl, .inr ⟨w.heap.size, 0, #[], rfl, hb, heap_alloc_new _ _, Nat.le_refl _, by unfold maxLen; omega, rfl, rfl⟩⟩, h.2.2.1, by simp [Value.ownBlock], fun e => ?_⟩
  have := (h.1.lt w.heap.size (by rw [e]; rfl)).2
  omega
theorem Two.start (w : World) : Two w.heap.size ((w.alloc (.cells #[] 5)).alloc (.cells #[] 5)) (.slice (some ⟨w.heap.size, 0, none⟩) 0 0) (.slice (some ⟨w.heap.size + 1, 0, none⟩) 0 0) [] [] := by
  refine ⟨(own_empty w 5).alloc _, ⟨rfl, .inr ⟨w.heap.size + 1, 0, #[], rfl, by omega, ?_, Nat.le_refl _, by unfold maxLen; omega, rfl, rfl⟩⟩, by simp [Value.ownBlock], by simp [Value.ownBlock], by simp [Value.ownBlock]⟩
  have h := heap_alloc_new (w.alloc (.cells #[] 5)) (.cells #[] 5)
  have e : (w.alloc (.cells #[] 5)).heap.size = w.heap.size + 1 := by simp
  rw [e] at h
  exact h
theorem Two.text {P : Program} {base : Nat} {w : World} {b r : Value} {bs rs : List UInt8} (h : Two base w b r bs rs) (src : TypeId) (hs : P.underlying src = some (.slice 5)) (he : P.underlying 5 = some (.int .u8))
    (dst : TypeId) (hd : P.underlying dst = some .string) : (convert src dst b).run P w = .ok (S bs) w := own_text h.1 rfl src hs he dst hd
theorem Two.form {base : Nat} {w : World} {b r : Value} {bs rs : List UInt8} (h : Two base w b r bs rs) : (∃ g c, b = .slice (some ⟨g, 0, none⟩) bs.length c) ∧ ∃ g c, r = .slice (some ⟨g, 0, none⟩) rs.length c := by
  obtain ⟨h1, h2, h3, h4, _⟩ := h
  constructor
  · rcases h1.2 with ⟨rfl, _⟩ | ⟨g, cap, cur, rfl, _⟩
    · simp [Value.ownBlock] at h3
    · exact ⟨g, cap, rfl⟩
  · rcases h2.2 with ⟨rfl, _⟩ | ⟨g, cap, cur, rfl, _⟩
    · simp [Value.ownBlock] at h4
    · exact ⟨g, cap, rfl⟩
theorem Two.src {P : Program} {base : Nat} {w : World} {b r : Value} {bs rs : List UInt8} (h : Two base w b r bs rs) (tx e' : TypeId) (hk : P.underlying tx = some (.slice e')) : Src P 1 tx r rs.length (bytesV rs) w := by
  obtain ⟨_, g, c, rfl⟩ := h.form
  exact Src.ofSlice _ hk _ _ _ _ (by simp [bytesV]) (h.2.1.cells (g := g) rfl) (by intro u hu; obtain ⟨_, _, rfl⟩ := List.mem_map.1 hu; rfl)
theorem src_three {P : Program} (W : World) (tx e' : TypeId) (hk : P.underlying tx = some (.slice e')) (e : TypeId) (x y z : UInt8) :
    Src P 1 tx (.slice (some ⟨W.heap.size, 0, none⟩) 3 3) 3 (bytesV [x, y, z]) (W.alloc (.cells #[.int .u8 (x.toNat : Int), .int .u8 (y.toNat : Int), .int .u8 (z.toNat : Int)] e)) :=
  Src.ofSlice _ hk _ _ _ _ rfl (by
    intro j u hj
    match j, hj with
    | 0, hj => simp [bytesV] at hj; subst hj; simp [Addr.add]
    | 1, hj => simp [bytesV] at hj; subst hj; simp [Addr.add]
    | 2, hj => simp [bytesV] at hj; subst hj; simp [Addr.add]) (by intro u hu; obtain ⟨_, _, rfl⟩ := List.mem_map.1 hu; rfl)
theorem src_three_at {P : Program} (W : World) (n : Nat) (hn : n = W.heap.size) (tx e' : TypeId) (hk : P.underlying tx = some (.slice e')) (e : TypeId) (x y z : UInt8) :
    Src P 1 tx (.slice (some ⟨n, 0, none⟩) 3 3) 3 (bytesV [x, y, z]) (W.alloc (.cells #[.int .u8 (x.toNat : Int), .int .u8 (y.toNat : Int), .int .u8 (z.toNat : Int)] e)) := by
  subst hn; exact src_three W tx e' hk e x y z
/-- append onto the first of the two -/
theorem wpList_two {P : Program} (w : World) {ops : Array Oper} {rest : List Oper} {o : Oper} {a : Act} {Q : Exit → Act → World → Prop} (hgd : o.guard = none) (sl x : Operand) (t tx : TypeId)
    (ho : o.op = .call { callee := .builtin .append, args := #[sl, x], argTypes := #[t, tx] }) (base : Nat) (i : TypeInfo) (ht : P.underlying t = some (.slice 5)) (hi : P.info? 5 = some i) (hz : i.zero = some (.int .u8 0)) (hsize : i.size = 1) (hby : i.bytes = 1)
    (v r : Value) (bs rs : List UInt8) (hv : a.eval sl = v) (hT : Two base w v r bs rs) (u : Value) (m : Nat) (nb : List UInt8) (hm : m = nb.length) (hx : a.eval x = u) (hs : Src P 1 tx u m (bytesV nb) w)
    (hbytes : bs.length + m ≤ 225179981368371) (hbase : base ≤ w.heap.size)
    (h : ∀ v' w', Two base w' v' r (bs ++ nb) rs → Below base w w' → wpList P ops Q rest (a.put o.dst v') w') : wpList P ops Q (o :: rest) a w := by
  subst hm
  refine wpList_own_src2 w hgd sl x t tx ho base 5 i ht hi hz hsize hby v bs.length (bytesV bs) hv hT.1 u nb.length (bytesV nb) hx hs (by omega) hbase fun v' w' h1 h2 h3 => ?_
  refine h v' w' ⟨by rw [List.length_append, bytesV_app]; exact h1, hT.2.1.kept h2 (.inr fun e => hT.2.2.2.2 e.symm), ?_, hT.2.2.2.1, ?_⟩ ((Below.refl _ _).grown h2 hbase (fun j hj => (hT.1.lt j hj).1))
  · rcases h3 with e | e <;> rw [e]
    · exact hT.2.2.1
    · simp
  · rcases h3 with e | e <;> rw [e]
    · exact hT.2.2.2.2
    · intro e2
      have := (hT.2.1.lt w.heap.size e2.symm).2
      omega
namespace Win
theorem mat_best (K : List UInt8) (p : Nat) : (4 ≤ (best K p).1 → mat K p = best K p) ∧ (¬ 4 ≤ (best K p).1 → (mat K p).1 = 0) := by
  constructor
  · intro h
    show matTo K p _ = _
    unfold matTo
    exact if_pos h
  · intro h
    show (matTo K p _).1 = _
    unfold matTo
    exact congrArg Prod.fst (if_neg h)
theorem Up.last {s : List UInt8} {p : Nat} {done rest : List UInt8} (h : Up s p done rest) (hp : (static ++ s).length ≤ p) : Up s p (done ++ lits rest) [] := by
  have h5 := h.stop hp
  obtain ⟨h1, h2, f, h3, h4⟩ := h
  exact ⟨by simp; omega, h2, 0, by omega, by rw [← h5]; show _ ++ lits [] = _; rw [lits_nil, List.append_nil]⟩
end Win
end Go.Proofs.YtinciddchpccnaaDoor
