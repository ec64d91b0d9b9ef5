/- What later texts need of the earlier layers. -/
import Derived.Test.YtinciddchpccnaaDoorBxO
import Derived.Test.YtinciddchpccnaaDoorBxS
import Derived.Test.YtinciddchpccnaaDoorBxT
import Derived.Test.YtinciddchpccnaaDoorBxC
import Derived.Deep.RegionLaw
import Derived.Deep.DeepAppendWide
import Derived.RangeFuncBox
import Derived.Deep.RegionHeld3
import Derived.Laws.ResultCell
import Derived.Laws.Closers25
import Derived.Deep.Onto
import Derived.Laws.CopyOwn
import Derived.Lib.BufferWrite
/- ---- TxCheck ---- -/
/- tx.Check and the reference's Check. -/
namespace Go.Proofs.YtinciddchpccnaaDoor
open Go.RowKit
set_option linter.unusedVariables false
set_option linter.unusedSimpArgs false

theorem tx_below {w w1 : World} {o : Obj} (h : (w.alloc o).grownBy w1 none) : Below w.heap.size w w1 := ((Below.refl w.heap.size w).alloc (Nat.le_refl _) o).grown h (by simp) (fun k hk => by cases hk)
theorem hash_built : Tryd.prog.built 51 [] = some (bRow Tx.zero) := by kernel_rfl
end Go.Proofs.YtinciddchpccnaaDoor

/- ---- OwnStep ---- -/
/- append onto a slice of the call's own, as one step of a region that draws its order. -/
namespace Go.Proofs.YtinciddchpccnaaDoor
open Go.RowKit
set_option linter.unusedVariables false
set_option linter.unusedSimpArgs false

theorem step_append_own {P : Program} {ops : Array Oper} {o : Oper} {a : Act} {w : World} {K : Act → World → Prop} {Q : Exit → Act → World → Prop} {E : Prop}
    (hg : o.guard = none) (s x : Operand) (t : TypeId) (hop : o.op = Op.call { callee := Callee.builtin Builtin.append, args := #[s, x], argTypes := #[t, t] })
    (base : Nat) (e : TypeId) (i : TypeInfo) (z : Value) (size bytes : Nat) (ht : P.underlying t = some (.slice e)) (hi : P.info? e = some i) (hz : i.zero = some z)
    (hsize : i.size = size) (hby : i.bytes = bytes) (hzs : z.cells.size = size) (hsz : 0 < size)
    (v : Value) (n : Nat) (xs : List Value) (hs : a.eval s = v) (hown : w.ownsRow base e size v n xs)
    (ad : Addr) (m c : Nat) (news : List Value) (hx : a.eval x = .slice (some ad) m c) (hl : news.length = m * size) (hnews : ∀ j u, news[j]? = some u → w.cell? (ad.add j) = some u) (h1 : ∀ u ∈ news, u.oneCell' = true) (hm : 0 < m)
    (h63 : n + m ≤ maxLen) (hbytes : ((n + m) + (n + m) / 4 + 192) * bytes ≤ 281474976710656) (hbase : base ≤ w.heap.size)
    (h : ∀ g cap w', w'.ownsRow base e size (.slice (some ⟨g, 0, none⟩) (n + m) cap) (n + m) (xs ++ news) → w.grownBy w' v.ownBlock → K (a.put o.dst (.slice (some ⟨g, 0, none⟩) (n + m) cap)) w') :
    if Region.wanted o (yielded ops a.tmps) = true then Oper.wp P o a w K Q else E := by
  have hw : Region.wanted o (yielded ops a.tmps) = true := by simp [Region.wanted, hg]
  rw [if_pos hw]
  refine wp_append_own_wide w s x t hop base e i z size bytes ht hi hz hsize hby hzs hsz v n xs hs hown ad m c news hx hl hnews h1 h63 hbytes hbase fun v' w' h2 h3 h4 => ?_
  obtain ⟨m', rfl⟩ : ∃ m', m = m' + 1 := ⟨m - 1, by omega⟩
  obtain ⟨g, cap, rfl⟩ := ownsRow_succ h2
  exact h g cap w' h2 h3
end Go.Proofs.YtinciddchpccnaaDoor

/- ---- TxBodies ---- -/
/- tx.Body: its closure lay, and Body. -/
/- tx.Body. -/
namespace Go.Proofs.YtinciddchpccnaaDoor
open Go.RowKit
set_option linter.unusedVariables false
set_option linter.unusedSimpArgs false

theorem apart_of {w : World} {base B n : Nat} {t : TypeId} {v : Value} {xs ys : List Value} (hv : Row w B t ys) (ht : t ≠ 9) (hown : w.ownsRow base 9 1 v n xs) : some B ≠ v.ownBlock := by
  intro e
  rcases hown.2 with ⟨rfl, _⟩ | ⟨g, cap, cur, rfl, hg, hh, _⟩
  · simp [Value.ownBlock] at e
  · simp only [Value.ownBlock, Option.some.injEq] at e
    subst e
    unfold Row at hv
    rw [hh] at hv
    simp at hv
    exact ht hv.2.symm
theorem number_ok (n : Int) (w : World) (h0 : 0 ≤ n) (h1 : n ≤ 9223372036854775807) :
    Calls Tryd.prog 59 #[.int .i64 n] w fun e w' => e = .returned (.tuple #[S (Oct.num n.toNat), .int .i64 0]) ∧ Below w.heap.size w w' := by
  have := Number_any n w h1
  unfold Oct.numE at this
  rw [if_neg (by omega)] at this
  exact this
theorem str_info5 : (Tryd.prog.info? 9).map (fun i => (i.zero, i.size, i.bytes)) = some (some (.string ByteArray.empty), 1, 16) := by kernel_rfl
theorem one_text (w : World) (t : TypeId) (s : List UInt8) : ∀ j u, [S s][j]? = some u → (w.alloc (.cells #[S s] t)).cell? ((⟨w.heap.size, 0, none⟩ : Addr).add j) = some u := by
  intro j u hj
  match j, hj with
  | 0, hj =>
    simp at hj
    subst hj
    simp [Addr.add]
theorem one_textc (s : List UInt8) : ∀ u ∈ [S s], u.oneCell' = true := by
  intro u hu
  simp at hu
  subst hu
  rfl
end Go.Proofs.YtinciddchpccnaaDoor
namespace Go.Proofs.YtinciddchpccnaaDoor
open Go.RowKit
set_option linter.unusedVariables false
set_option linter.unusedSimpArgs false

namespace Tx
def lays (t : Tx) : List (List UInt8) := [Oct.num t.frm.toNat, Oct.num t.nonce.toNat, Oct.num t.fee.toNat, Oct.num t.to.toNat]
def fields (t : Tx) : List (List UInt8) := (t.lays ++ [t.data.data.toList]) ++ (if t.lane = true then [Oct.num t.round.toNat, Oct.num t.turn.toNat] else [])
def bodyE (t : Tx) : List UInt8 × Int := if t.err = 0 then Oct.listE t.fields else ([], t.err)
end Tx
theorem below_own {w0 W W' : World} {r : Option Nat} (h : Below w0.heap.size w0 W) (hg : W.grownBy W' r) (hr : ∀ k, r = some k → w0.heap.size ≤ k) : Below w0.heap.size w0 W' := h.grown hg h.size hr
/-- octets.List over texts of the call's own -/
theorem list_own (L : List (List UInt8)) (base g k cap : Nat) (W : World) (h : W.ownsRow base 9 1 (.slice (some ⟨g, 0, none⟩) k cap) k (L.map S)) (hk : k = L.length) :
    Calls Tryd.prog 30 #[.slice (some ⟨g, 0, none⟩) k cap] W fun e w' => e = .returned (.tuple #[S (Oct.listE L).1, .int .i64 (Oct.listE L).2]) ∧ Below W.heap.size W w' := by
  subst hk
  obtain ⟨A, c, hA, hT⟩ := texts_own h
  obtain ⟨rfl, rfl⟩ : some (⟨g, 0, none⟩ : Addr) = A ∧ cap = c := by simpa using hA
  exact List_any _ _ L W hT
end Go.Proofs.YtinciddchpccnaaDoor

/- ---- TxText ---- -/
/- tx.Text. -/
namespace Go.Proofs.YtinciddchpccnaaDoor
open Go.RowKit
set_option linter.unusedVariables false
set_option linter.unusedSimpArgs false

namespace Tx
def outer (t : Tx) (b : List UInt8) : List (List UInt8) := if t.lane = true then [b, t.tag, t.bY] else [b, t.tag]
def textE (t : Tx) : List UInt8 × Int := if t.bodyE.2 = 0 then Oct.listE (t.outer t.bodyE.1) else ([], t.bodyE.2)
end Tx
theorem texts_new (W : World) (t : TypeId) (L : List (List UInt8)) : Texts (W.alloc (.cells (L.map S).toArray t)) (W.alloc (.cells (L.map S).toArray t)).heap.size (some ⟨W.heap.size, 0, none⟩) L := by
  intro hne
  refine ⟨W.heap.size, 0, rfl, by simp, fun i hi => ?_⟩
  have h := (Row.new W t (L.map S)).cell i (by simpa using hi)
  rw [Nat.zero_add, h]
  simp
theorem list_2 (a b : List UInt8) (W : World) : Calls Tryd.prog 30 #[.slice (some ⟨W.heap.size, 0, none⟩) 2 2] (W.alloc (.cells #[S a, S b] 9)) fun e w' => e = .returned (.tuple #[S (Oct.listE [a, b]).1, .int .i64 (Oct.listE [a, b]).2]) ∧ Below (W.alloc (.cells #[S a, S b] 9)).heap.size (W.alloc (.cells #[S a, S b] 9)) w' :=
  List_any _ 2 [a, b] _ (texts_new W 9 [a, b])
theorem two_below' {w w1 w2 : World} (h1 : Below w.heap.size w w1) (h2 : Below w1.heap.size w1 w2) : Below w.heap.size w w2 := h1.grown (grownBy_of_below h2 none) h1.size (fun k hk => by cases hk)
end Go.Proofs.YtinciddchpccnaaDoor

/- ---- TxRow ---- -/
/- Rows loaded and stored, whole or in the middle of a block; a result that lies in a block. -/
namespace Go.Proofs.YtinciddchpccnaaDoor
open Go.RowKit
set_option linter.unusedVariables false
set_option linter.unusedSimpArgs false

theorem row_setCells {g : Nat} {T : TypeId} : ∀ (l : List Value) (off : Nat) (w : World) (xs : List Value), Row w g T xs → off + l.length ≤ xs.length →
    Row (w.setCells g off l) g T (xs.take off ++ (l ++ xs.drop (off + l.length))) ∧ w.grownBy (w.setCells g off l) (some g)
  | [], off, w, xs, h, hl => by
    refine ⟨?_, grownBy_refl _ _⟩
    simp only [List.nil_append, List.length_nil, Nat.add_zero, List.take_append_drop]
    exact h
  | v :: l, off, w, xs, h, hl => by
    simp only [List.length_cons] at hl
    obtain ⟨h1, h2⟩ := row_setCells l (off + 1) (w.setCell ⟨g, off, none⟩ v) (xs.set off v) (h.set off v (by omega)) (by rw [List.length_set]; omega)
    refine ⟨?_, (grownBy_set w g off v).trans h2⟩
    have e1 : (xs.set off v).take (off + 1) = xs.take off ++ [v] := by
      rw [List.take_succ_eq_append_getElem (by rw [List.length_set]; omega), List.take_set_of_le (Nat.le_refl _)]
      simp
    have e2 : (xs.set off v).drop (off + 1 + l.length) = xs.drop (off + 1 + l.length) := by rw [List.drop_set_of_lt (by omega)]
    rw [e1, e2, List.append_assoc] at h1
    simp only [List.length_cons]
    rw [show off + (l.length + 1) = off + 1 + l.length by omega]
    exact h1
/-- a value of many cells stored into a block's middle -/
theorem wpList_store_at {P : Program} {ops : Array Oper} {rest : List Oper} {op : Oper} {a : Act} {w : World} {Q : Exit → Act → World → Prop} (hgd : op.guard = none) (ty : TypeId) (x y : Operand) (ho : op.op = .store ty x y)
    (g off : Nat) (l xs : List Value) (T : TypeId) (hx : a.eval x = .pointer (some ⟨g, off, none⟩)) (hy : a.eval y = .agg l.toArray) (hg : Row w g T xs) (hoff : off + l.length ≤ xs.length)
    (hi : (P.info? ty).map (·.size) = some l.length) (h1 : ∀ v ∈ l, v.oneCell' = true)
    (h : ∀ w', Row w' g T (xs.take off ++ (l ++ xs.drop (off + l.length))) → w.grownBy w' (some g) → wpList P ops Q rest (a.put op.dst undef) w') : wpList P ops Q (op :: rest) a w := by
  obtain ⟨r1, r2⟩ := row_setCells l off w xs hg hoff
  exact wpList_store_mid hgd ty x y ho g off l.toArray hx hy (fun j hj => ⟨by
    have hj' : j < l.length := by simpa using hj
    rw [hg.cell (off + j) (by omega)]; rfl, hg.free _⟩) (by simpa using hi) (all_oneCell_toArray h1) (h _ r1 r2)
theorem results_rowL {P : Program} {fn : Func} {p u : Tmp} {ty : TypeId} (h : fn.results = #[.cell p ty, .tmp u]) (tmps : Array Value) (w : World) (g : Nat) (T : TypeId) (xs : List Value) (d : TypeDesc)
    (hp : tmps.getD p undef = .pointer (some ⟨g, 0, none⟩)) (hg : Row w g T xs)
    (hu : P.underlying ty = some d) (hd : (match d with | .struct _ | .array _ _ => true | _ => false) = true) (hi : (P.info? ty).map (·.size) = some xs.toArray.size) (x : Value) (hx : tmps.getD u undef = x) :
    (results fn tmps).run P w = .ok (.tuple #[.agg xs.toArray, x]) w := by
  rw [results_cell_tmp h, hp]
  have hl := run_loadVar_row w g T ty xs.toArray (0, 0) d hg hu hd hi
  have ha : (asAddr (.pointer (some ⟨g, 0, none⟩))).run P w = .ok ⟨g, 0, none⟩ w := rfl
  rw [ha]
  simp only [Result.andThen, hl, hx]
theorem row_range {w : World} {g : Nat} {T : TypeId} {xs : List Value} (h : Row w g T xs) : w.rangeAt g 0 xs := by
  intro j v hv
  obtain ⟨hlt, he⟩ := List.getElem?_eq_some_iff.1 hv
  rw [Nat.zero_add, h.cell j hlt, he]
theorem hash_one (R : List UInt8) (h : R.length = 32) : ∀ v ∈ (bRow R).toList, v.oneCell' = true := by
  rw [bRow_yRow R h]
  unfold yRow
  intro v hv
  simp at hv
  obtain ⟨b, _, rfl⟩ := hv
  rfl
theorem Tx.cells_one {t : Tx} (h : t.Ok) : ∀ v ∈ t.cells, v.oneCell' = true := by
  intro v hv
  unfold Tx.cells Tx.head at hv
  rcases List.mem_append.1 hv with h1 | h1
  · simp at h1
    rcases h1 with rfl | rfl | rfl | rfl | rfl | rfl | rfl | rfl <;> rfl
  · rcases List.mem_append.1 h1 with h2 | h2
    · exact hash_one _ h.bY v h2
    · exact hash_one _ h.tag v h2
theorem Tx.none_ok : Tx.none.Ok := ⟨rfl, rfl, by decide, fits0, fits0, fits0, fits0, fits0, fits0⟩
theorem hash_zv (w : World) : (zeroValue 51).run Tryd.prog w = .ok (.agg (bRow Tx.zero)) w := by kernel_rfl
/-- a list's bytes are few -/
theorem listGo_len : ∀ (L : List (List UInt8)) (left : Nat) (b : List UInt8), Oct.listGo left L = some b → b.length ≤ left + 9 * L.length
  | [], left, b, h => by
    simp only [Oct.listGo, Option.some.injEq] at h
    subst h
    simp
  | s :: r, left, b, h => by
    unfold Oct.listGo at h
    split at h
    · cases h
    · obtain ⟨c, hc, rfl⟩ := Option.map_eq_some_iff.1 h
      have := listGo_len r (left - s.length) c hc
      have h2 := Oct.num_length_le s.length
      have h3 : (Oct.text s).length = (Oct.num s.length).length + s.length := by unfold Oct.text; rw [List.length_append]
      rw [List.length_append, h3, List.length_cons]
      omega
theorem listE_len (L : List (List UInt8)) : (Oct.listE L).1.length ≤ 100000 := by
  unfold Oct.listE
  split
  · simp
  · next hl =>
    cases h : Oct.listGo 65536 L with
    | none => simp
    | some b =>
      have h1 := listGo_len L 65536 b h
      have h2 := Oct.num_length_le L.length
      simp only [List.length_append]
      omega
theorem Tx.body_len (t : Tx) : t.bodyE.1.length ≤ 100000 := by
  unfold Tx.bodyE
  split
  · exact listE_len _
  · simp
theorem Tx.text_len (t : Tx) : t.textE.1.length ≤ 100000 := by
  unfold Tx.textE
  split
  · exact listE_len _
  · simp
end Go.Proofs.YtinciddchpccnaaDoor

/- ---- TxSigns ---- -/
/- tx.Name, Sign, Hand, Signed. -/
/- tx.Sign, Hand. -/
namespace Go.Proofs.YtinciddchpccnaaDoor
open Go.RowKit
set_option linter.unusedVariables false
set_option linter.unusedSimpArgs false

theorem splice_all {xs l : List Value} (h : l.length = xs.length) : xs.take 0 ++ (l ++ xs.drop (0 + l.length)) = l := by
  rw [List.take_zero, List.nil_append, List.drop_of_length_le (by omega), List.append_nil]
theorem row_two (w : World) (A B : Array Value) (t1 t2 : TypeId) : Row ((w.alloc (.cells A t1)).alloc (.cells B t2)) (w.heap.size + 1) t2 B.toList ∧ Below w.heap.size w ((w.alloc (.cells A t1)).alloc (.cells B t2)) ∧ Row ((w.alloc (.cells A t1)).alloc (.cells B t2)) w.heap.size t1 A.toList := by
  have h := Row.new (w.alloc (.cells A t1)) t2 B.toList
  rw [show ∀ (W : World) (o : Obj), (W.alloc o).heap.size = W.heap.size + 1 from fun W o => by simp] at h
  exact ⟨h, ((Below.refl w.heap.size w).alloc (Nat.le_refl _) _).alloc (by simp) _, (Row.new w t1 A.toList).kept (grownBy_alloc _ _ none) (by simp)⟩
namespace Tx
end Tx

end Go.Proofs.YtinciddchpccnaaDoor
namespace Go.Proofs.YtinciddchpccnaaDoor
open Go.RowKit
set_option linter.unusedVariables false
set_option linter.unusedSimpArgs false

end Go.Proofs.YtinciddchpccnaaDoor

/- ---- TxReads ---- -/
/- tx.Read: its mathematics; list, whole. -/
/- tx.readBody. -/
/- tx.readBody: the walk. -/
namespace Go.Proofs.YtinciddchpccnaaDoor
open Go.RowKit
set_option linter.unusedVariables false
set_option linter.unusedSimpArgs false

namespace Tx
/-- a list that is all of a text -/
def listAll (s : List UInt8) : Option (List (List UInt8)) := if (Oct.rdList s 0).2.2 = 0 ∧ (Oct.rdList s 0).2.1 = s.length then some (Oct.rdList s 0).1 else Option.none
/-- a number that is all of a text -/
def numAll (s : List UInt8) : Option Int := if (Oct.rdNum s 0).2.2 = 0 ∧ (Oct.rdNum s 0).2.1 = s.length then some (Oct.rdNum s 0).1 else Option.none
theorem listAll_listE {L : List (List UInt8)} {b : List UInt8} (h : Oct.listE L = (b, 0)) : listAll b = some L := by
  have := Oct.rdList_list [] [] L b h
  simp only [List.nil_append, List.append_nil, List.length_nil, Int.natCast_zero] at this
  unfold listAll
  rw [this]
  simp
theorem listE_listAll {s : List UInt8} {L : List (List UInt8)} (h : listAll s = some L) : Oct.listE L = (s, 0) := by
  unfold listAll at h
  split at h
  · next h1 =>
    obtain ⟨h2, h3⟩ := h1
    have hL : (Oct.rdList s 0).1 = L := by simpa using h
    rcases Oct.rdList_ok (s := s) (p := 0) (q := (Oct.rdList s 0).2.1) (e := (Oct.rdList s 0).2.2) (l := (Oct.rdList s 0).1) rfl with ⟨h4, _⟩ | ⟨_, _, _, _, h4⟩
    · exact absurd h2 h4
    · rw [hL, h3] at h4
      rw [h4]
      simp
  · cases h
theorem numAll_num {n : Nat} (h : n < 2 ^ 63) : numAll (Oct.num n) = some (n : Int) := by
  have := Oct.rdNum_num [] [] n h
  simp only [List.nil_append, List.append_nil, List.length_nil, Int.natCast_zero] at this
  unfold numAll
  rw [this]
  simp
theorem num_numAll {s : List UInt8} {n : Int} (h : numAll s = some n) : 0 ≤ n ∧ n ≤ 9223372036854775807 ∧ Oct.num n.toNat = s := by
  unfold numAll at h
  split at h
  · next h1 =>
    obtain ⟨h2, h3⟩ := h1
    have hN : (Oct.rdNum s 0).1 = n := by simpa using h
    rcases Oct.rdNum_ok (s := s) (p := 0) (n := (Oct.rdNum s 0).1) (q := (Oct.rdNum s 0).2.1) (e := (Oct.rdNum s 0).2.2) rfl with ⟨h4, _⟩ | ⟨_, _, h5, h6, _, _, h7⟩
    · exact absurd h2 h4
    · rw [hN] at h5 h6 h7
      rw [h3] at h7
      refine ⟨h5, by omega, ?_⟩
      rw [← h7]
      simp
  · cases h
end Tx

end Go.Proofs.YtinciddchpccnaaDoor
namespace Go.Proofs.YtinciddchpccnaaDoor
open Go.RowKit
set_option linter.unusedVariables false
set_option linter.unusedSimpArgs false

namespace Tx
/-- the i-th number of a body put in its place -/
def put (t : Tx) (i : Nat) (n : Int) : Tx :=
  if i = 0 then { t with frm := n } else if i = 1 then { t with nonce := n } else if i = 2 then { t with fee := n } else if i = 3 then { t with to := n } else if i = 5 then { t with round := n } else if i = 6 then { t with turn := n } else t
theorem listGo_text : ∀ (L : List (List UInt8)) (left : Nat) (b : List UInt8), Oct.listGo left L = some b → ∀ x ∈ L, x.length ≤ left
  | s :: r, left, b, h, x, hx => by
    unfold Oct.listGo at h
    split at h
    · cases h
    · next hle =>
      obtain ⟨c, hc, rfl⟩ := Option.map_eq_some_iff.1 h
      rcases List.mem_cons.1 hx with rfl | hx
      · omega
      · have := listGo_text r (left - s.length) c hc x hx
        omega
theorem listAll_text {s : List UInt8} {L : List (List UInt8)} (h : listAll s = some L) : ∀ x ∈ L, x.length ≤ 65536 := by
  have h1 := listE_listAll h
  unfold Oct.listE at h1
  split at h1
  · simp at h1
  · cases hg : Oct.listGo 65536 L with
    | none => rw [hg] at h1; simp at h1
    | some b => exact listGo_text L 65536 b hg
end Tx
end Go.Proofs.YtinciddchpccnaaDoor
namespace Go.Proofs.YtinciddchpccnaaDoor
open Go.RowKit
set_option linter.unusedVariables false
set_option linter.unusedSimpArgs false

theorem below_put {base : Nat} {w0 W : World} {g i : Nat} {v : Value} (h : Below base w0 W) (hg : base ≤ g) (hs : base ≤ W.heap.size) : Below base w0 (W.setCell ⟨g, i, none⟩ v) :=
  h.grown (grownBy_set W g i v) hs (fun k hk => by cases hk; exact hg)
end Go.Proofs.YtinciddchpccnaaDoor

/- ---- TxCap ---- -/
/- octets.ReadList with its slice's capacity; list. -/
namespace Go.Proofs.YtinciddchpccnaaDoor.Cap
open Go.RowKit
set_option linter.unusedVariables false
set_option linter.unusedSimpArgs false

/-- a slice value that reads as these texts -/
def TextsV (w : World) (v : Value) (l : List (List UInt8)) : Prop := ∃ A c, v = .slice A l.length c ∧ l.length ≤ c ∧ Texts w w.heap.size A l
theorem texts_own {w : World} {base : Nat} {v : Value} {l : List (List UInt8)} (h : w.ownsRow base 9 1 v l.length (l.map S)) : TextsV w v l := by
  have hlt := h.lt
  have hcs := fun g (hg : v.ownBlock = some g) => h.cells hg
  rcases h.2 with ⟨rfl, hx⟩ | ⟨g, cap, cur, rfl, _, hh, hnc, _⟩
  · have : l = [] := by simpa using hx
    subst this
    exact ⟨none, 0, rfl, Nat.le_refl _, fun h => absurd rfl h⟩
  · refine ⟨some ⟨g, 0, none⟩, cap, rfl, by first | exact hnc | omega, fun _ => ⟨g, 0, rfl, (hlt g rfl).2, fun i hi => ?_⟩⟩
    have := hcs g rfl i (S l[i]) (by simp [hi])
    have e : (⟨g, 0, none⟩ : Addr).add i = ⟨g, 0 + i, none⟩ := by unfold Addr.add; split <;> simp_all
    rwa [e] at this
def ListEnds (w : World) (s : List UInt8) (p : Int) (e : Ending) (w' : World) : Prop :=
  ∃ v, e = .returned (.tuple #[v, .int .i64 (Oct.rdList s p).2.1, .int .i64 (Oct.rdList s p).2.2]) ∧ TextsV w' v (Oct.rdList s p).1 ∧ Below w.heap.size w w'
set_option maxRecDepth 20000 in
set_option maxHeartbeats 800000 in
theorem ReadList_any (s : ByteArray) (p : Int) (w : World) (hs : s.size ≤ 9223372036854775807) :
    Calls Tryd.prog 32 #[.string s, .int .i64 p] w (ListEnds w s.data.toList p) := by
  obtain ⟨i0, hi, hz0, hz1, hz2⟩ := info_parts str_info
  have Hi := Lib.hid hi; clear hi
  have Hz0 := Lib.hid hz0; clear hz0
  have Hz1 := Lib.hid hz1; clear hz1
  have Hz2 := Lib.hid hz2; clear hz2
  rcases hn : Oct.rdNum s.data.toList p with ⟨n, q, e⟩
  have hok := Oct.rdNum_ok hn
  have hv : rdNumV s p = three n q e := by unfold rdNumV; rw [hn]
  have hnil : ∀ W : World, TextsV W (.slice none 0 0) [] := fun W => ⟨none, 0, rfl, Nat.le_refl _, fun h => absurd rfl h⟩
  by_cases he : e ≠ 0
  · have hr : Oct.rdList s.data.toList p = ([], 0, e) := by unfold Oct.rdList; rw [hn]; simp only; rw [if_pos he]
    unfold ListEnds
    rw [hr]
    have hd : (e != 0) = true := by rw [bne_iff_ne]; exact he
    clear he hr hok
    have Hv := Lib.hid hv; clear hv hn
    go_enter Tryd.func32, Tryd.ntmps32
    go_wp2_with fail
    refine (readNumber_any s p _ hs).mono ?_
    rintro e w1 ⟨rfl, rfl⟩
    rw [Hv.out]
    unfold three
    go_wp2
    go_ret3
    exact ⟨_, rfl, hnil _, Below.refl _ _⟩
  · obtain rfl : e = 0 := by omega
    rcases hok with h | ⟨_, hp, hn0, hn1, hpq, hq, _⟩
    · exact absurd h.1 he
    by_cases h6 : 1024 < n
    · have hr : Oct.rdList s.data.toList p = ([], 0, 3) := by unfold Oct.rdList; rw [hn]; simp only; rw [if_neg he, if_pos h6]
      unfold ListEnds
      rw [hr]
      have hd : decide (1024 < n) = true := by simpa using h6
      clear he hr
      have Hv := Lib.hid hv; clear hv hn
      go_enter Tryd.func32, Tryd.ntmps32
      go_wp2_with fail
      refine (readNumber_any s p _ hs).mono ?_
      rintro e w1 ⟨rfl, rfl⟩
      rw [Hv.out]
      unfold three
      go_wp2
      go_ret3
      exact ⟨_, rfl, hnil _, Below.refl _ _⟩
    have hd : decide (1024 < n) = false := by simpa using h6
    obtain ⟨m, rfl⟩ := Int.eq_ofNat_of_zero_le hn0
    have hr : Oct.rdList s.data.toList p = finish (Oct.rdGo s.data.toList m 65536 q) := by
      unfold Oct.rdList; rw [hn]; simp only; rw [if_neg he, if_neg h6, Int.toNat_natCast]
      cases Oct.rdGo s.data.toList m 65536 q <;> rfl
    have hlen := Oct.bytes_len s
    rw [hlen] at hq
    have Hr := Lib.hid hr
    have Hv := Lib.hid hv
    clear hv hn he hr hlen
    go_enter Tryd.func32, Tryd.ntmps32
    go_wp2_with fail
    refine (readNumber_any s p _ hs).mono ?_
    rintro e w1 ⟨rfl, rfl⟩
    rw [Hv.out]
    unfold three
    go_wp2_with fail
    go_loopw [1, 9, 10, 27] (fun at_ left v i wr => ∃ (k : Nat) (acc : List (List UInt8)) (lf : Nat) (b : Int), k ≤ m ∧ acc.length = k ∧ lf ≤ 65536 ∧ 0 ≤ b ∧ b ≤ s.size ∧ i = .int .i64 k ∧ at_ = .int .i64 b ∧ left = .int .i64 lf ∧
        wr.ownsRow w.heap.size 9 1 v acc.length (acc.map S) ∧ Below w.heap.size w wr ∧ Oct.rdGo s.data.toList m 65536 q = more acc (Oct.rdGo s.data.toList (m - k) lf b)) (fun _ _ _ i _ => m - (intOf i).toNat)
    case atStart => exact ⟨0, [], 65536, q, by omega, rfl, by omega, by omega, hq, rfl, rfl, rfl, World.ownsRow_nil _ _ _ _, Below.refl _ _, by rw [more_nil, Nat.sub_zero]⟩
    case round =>
      obtain ⟨k, acc, lf, b, hk, hacc, hlf, hb0, hb1, rfl, rfl, rfl, hown, hbel, hrem⟩ := hrel
      have Hacc := Lib.hid hacc
      have Hrem := Lib.hid hrem
      clear hacc hrem
      by_cases hlt : k < m
      · rcases ht : Oct.rdText s.data.toList b with ⟨t, b2, e2⟩
        have hok := Oct.rdText_ok ht
        have Ht := Lib.hid ht
        clear ht
        obtain ⟨j, hj⟩ : ∃ j, m - k = j + 1 := ⟨m - k - 1, by omega⟩
        have hrem := Hrem.out
        rw [hj] at hrem
        by_cases he2 : e2 ≠ 0
        · have hfin : Oct.rdList s.data.toList p = ([], 0, e2) := by rw [Hr.out, hrem, more_err Ht.out he2]; rfl
          have Hfin := Lib.hid hfin
          have hd : (e2 != 0) = true := by rw [bne_iff_ne]; exact he2
          clear hfin hrem hj hok he2
          go_wp2_with fail
          refine (ReadText_any s b _ hs).mono ?_
          rintro e w1 ⟨rfl, hb2⟩
          rw [Ht.out]
          go_wp2_with fail
          go_ret3
          unfold ListEnds
          rw [Hfin.out]
          exact ⟨_, rfl, hnil _, hbel.trans (hb2.mono hbel.size)⟩
        obtain rfl : e2 = 0 := by omega
        rcases hok with h | ⟨_, _, ht64, hbb, hb2s, _⟩
        · exact absurd h.1 he2
        rw [Oct.bytes_len] at hb2s
        by_cases hbig : lf < t.length
        · have hfin : Oct.rdList s.data.toList p = ([], 0, 3) := by rw [Hr.out, hrem, more_big Ht.out hbig]; rfl
          have Hfin := Lib.hid hfin
          have hd1 : decide ((lf : Int) < (t.length : Int)) = true := by simp; omega
          have hd2 : decide (lf < t.length) = true := by simp; omega
          clear hfin hrem hj he2
          go_wp2_with fail
          refine (ReadText_any s b _ hs).mono ?_
          rintro e w1 ⟨rfl, hb2⟩
          rw [Ht.out]
          go_wp2_with fail
          go_ret3
          unfold ListEnds
          rw [Hfin.out]
          exact ⟨_, rfl, hnil _, hbel.trans (hb2.mono hbel.size)⟩
        · rw [more_step Ht.out hbig] at hrem
          have hj' : j = m - (k + 1) := by omega
          subst hj'
          have Hrem2 := Lib.hid hrem
          have hd1 : decide ((lf : Int) < (t.length : Int)) = false := by simp; omega
          have hd2 : decide (lf < t.length) = false := by simp; omega
          clear hrem hj he2
          go_wp2_with fail
          refine (ReadText_any s b _ hs).mono ?_
          rintro e w1 ⟨rfl, hb2⟩
          rw [Ht.out]
          have hown1 := (own_below hown hb2).alloc (.cells #[S t] 9)
          have hal := Hacc.out
          have hbel1 := (hbel.trans (hb2.mono hbel.size)).alloc (hbel.trans (hb2.mono hbel.size)).size (.cells #[S t] 9)
          have hsz := hbel1.size
          have c3 : acc.length + 1 ≤ maxLen := by unfold maxLen; omega
          have c4 : (acc.length + 1) * 16 ≤ 140737488355328 := by omega
          have hc1 := one_at w1 9 (S t)
          have Hown1 := Lib.hid hown1
          have Hc1 := Lib.hid hc1
          clear hown hown1 hc1 hal
          go_wp2_with (at_builtin; refine wpList_append_own _ rfl (.tmp 48) (.tmp 50) _ rfl w.heap.size 9 i0 _ 1 16 Tryd.underlying45 Hi.out Hz0.out Hz1.out Hz2.out rfl (by decide) u10 acc.length (acc.map S) rfl Hown1.out ⟨w1.heap.size, 0, none⟩ 1 1 [S t] rfl rfl Hc1.out (by simp [Value.oneCell']) c3 c4 hsz ?_; intro v2 w2 hown2 hgr2 _)
          refine ⟨⟨k + 1, acc ++ [t], lf - t.length, b2, by omega, by rw [List.length_append, Hacc.out]; rfl, by omega, by omega, hb2s, by go_num, rfl, ?_, ?_, hbel1.grown hgr2 hsz (fun g hg => (Hown1.out.lt g hg).1), Hrem2.out⟩, by simp [intOf]; omega⟩
          · congr 1; omega
          · simpa using hown2
      · obtain rfl : k = m := by omega
        have hfin : Oct.rdList s.data.toList p = (acc, b, 0) := by rw [Hr.out, Hrem.out, Nat.sub_self]; simp [Oct.rdGo, more, finish]
        have Hfin := Lib.hid hfin
        have Hown := Lib.hid hown
        clear hfin hown
        go_wp2_with fail
        go_ret3
        unfold ListEnds
        rw [Hfin.out]
        exact ⟨_, rfl, texts_own Hown.out, hbel⟩
end Go.Proofs.YtinciddchpccnaaDoor.Cap

/- ---- NoA ---- -/
/- notes: number, account, fields. -/
/- notes: numbers. -/
/- notes: itemMayBe. -/
namespace Go.Proofs.YtinciddchpccnaaDoor
open Go.RowKit
set_option linter.unusedVariables false
set_option linter.unusedSimpArgs false

theorem nnumber_any (n : Int) (w : World) :
    Calls Tryd.prog 84 #[.int .i64 n] w fun e w' => e = .returned (.bool (Tx.num n)) ∧ w = w' := by
  unfold Tx.num
  by_cases h : 0 ≤ n
  · have hd : decide (0 ≤ n) = true := by simpa using h
    have Hd := Lib.hid hd
    clear hd
    go_enter Tryd.func84, Tryd.ntmps84
    go_wp2
    go_ret
    exact ⟨by rw [Hd.out]; rfl, rfl⟩
  · have hd : decide (0 ≤ n) = false := by simpa using h
    have Hd := Lib.hid hd
    clear hd
    go_enter Tryd.func84, Tryd.ntmps84
    go_wp2
    go_ret
    exact ⟨by rw [Hd.out]; rfl, rfl⟩
set_option maxRecDepth 20000 in
theorem fields_any (s : ByteArray) (w : World) (hs : s.size ≤ 9223372036854775807) :
    Calls Tryd.prog 70 #[.string s] w fun e w' => (match Tx.listAll s.data.toList with
      | some L => ∃ v, e = .returned (.tuple #[v, .bool true]) ∧ Cap.TextsV w' v L
      | none => ∃ v, e = .returned (.tuple #[v, .bool false])) ∧ Below w.heap.size w w' := by
  have RL := Cap.ReadList_any s 0 w hs
  unfold Cap.ListEnds at RL
  have hq : (s.data.toList.length : Int) = (s.size : Int) := by rw [Array.length_toList]; rfl
  unfold Tx.listAll
  rw [hq]
  generalize (Oct.rdList s.data.toList 0).2.1 = q at *
  generalize (Oct.rdList s.data.toList 0).2.2 = er at *
  generalize (Oct.rdList s.data.toList 0).1 = L at *
  have HRL := Lib.hid RL
  clear hq RL
  by_cases h0 : er = 0
  · subst h0
    by_cases h1 : q = (s.size : Int)
    · rw [if_pos ⟨rfl, h1⟩]
      have d1 : (q == (s.size : Int)) = true := by simpa using h1
      have D1 := Lib.hid d1
      clear h1 d1
      go_enter Tryd.func70, Tryd.ntmps70
      go_wp2_with fail
      refine HRL.out.mono ?_
      rintro _ w1 ⟨v, rfl, hT, hb⟩
      have HTx := Lib.hid hT
      have Hb := Lib.hid hb
      clear hT hb
      have d1 := D1.out
      go_wp2_with fail
      go_ret2
      exact ⟨⟨v, by first | rfl | rw [D1.out], HTx.out⟩, Hb.out⟩
    · rw [if_neg (fun h => h1 h.2)]
      have d1 : (q == (s.size : Int)) = false := by simpa using h1
      have D1 := Lib.hid d1
      clear h1 d1
      go_enter Tryd.func70, Tryd.ntmps70
      go_wp2_with fail
      refine HRL.out.mono ?_
      rintro _ w1 ⟨v, rfl, hT, hb⟩
      have Hb := Lib.hid hb
      clear hT hb
      have d1 := D1.out
      go_wp2_with fail
      go_ret2
      exact ⟨⟨v, by first | rfl | rw [D1.out]⟩, Hb.out⟩
  · rw [if_neg (fun h => h0 h.1)]
    have d0 : (er == 0) = false := by simpa using h0
    have D0 := Lib.hid d0
    clear h0 d0
    go_enter Tryd.func70, Tryd.ntmps70
    go_wp2_with fail
    refine HRL.out.mono ?_
    rintro _ w1 ⟨v, rfl, hT, hb⟩
    have Hb := Lib.hid hb
    clear hT hb
    have d0 := D0.out
    go_wp2_with fail
    go_ret2
    exact ⟨⟨v, by first | rfl | rw [D0.out]⟩, Hb.out⟩
end Go.Proofs.YtinciddchpccnaaDoor
namespace Go.Proofs.YtinciddchpccnaaDoor
open Go.RowKit
set_option linter.unusedVariables false
set_option linter.unusedSimpArgs false

theorem row_apart {w w1 : World} {base nb n : Nat} {e t : TypeId} {size : Nat} {v : Value} {xs ys : List Value} (h : Row w nb t ys) (hlt : nb < base) (hown : w.ownsRow base e size v n xs) (hg : w.grownBy w1 v.ownBlock) : Row w1 nb t ys :=
  h.kept hg (fun hh => by have := (hown.lt nb hh.symm).1; omega)
theorem below_row {w w1 w2 : World} {base n : Nat} {e : TypeId} {size : Nat} {v : Value} {xs : List Value} (hb : Below base w w1) (hs : base ≤ w1.heap.size) (hown : w1.ownsRow base e size v n xs) (hg : w1.grownBy w2 v.ownBlock) : Below base w w2 :=
  hb.grown hg hs (fun k hk => (hown.lt k hk).1)
set_option maxRecDepth 20000 in
set_option maxHeartbeats 400000 in
theorem numbers_any (ns : List Int) (c : Nat) (hns : ∀ n ∈ ns, 0 ≤ n ∧ n ≤ 9223372036854775807) (w : World) (nb : Nat) (hN : Row w nb 3 (Is ns)) (hlen : ns.length ≤ 900) :
    Calls Tryd.prog 57 #[.slice (some ⟨nb, 0, none⟩) ns.length c] w fun e w' => ∃ v, e = .returned v ∧ w'.ownsRow w.heap.size 9 1 v ns.length ((ns.map fun n => Oct.num n.toNat).map S) ∧ Below w.heap.size w w' := by
  obtain ⟨i0, hi, h2⟩ := Option.map_eq_some_iff.1 str_info5
  simp only [Prod.mk.injEq] at h2
  obtain ⟨hz, hs, hby⟩ := h2
  have Hi := Lib.hid hi
  have Hz := Lib.hid hz
  have Hs := Lib.hid hs
  have Hby := Lib.hid hby
  have HN := Lib.hid hN
  have Hns := Lib.hid hns
  have hnb := hN.lt
  obtain ⟨m, hm⟩ : ∃ m, m = ns.length := ⟨_, rfl⟩
  rw [← hm] at hlen ⊢
  have Hm := Lib.hid hm
  clear hi hz hs hby hN hns hm
  go_enter Tryd.func57, Tryd.ntmps57
  go_wp2_with (with_reducible show wpList _ _ _ (⟨_, .makeSlice _ _ _, _, _, _, _⟩ :: _) _ _
               refine wpList_make_own w rfl _ _ 45 rfl w.heap.size 9 i0 (.string ByteArray.empty) 1 Tryd.underlying45 Hi.out Hz.out Hs.out .i64 .i64 ((m : Int) + 2) (m + 2) rfl rfl (by omega) (by rw [Hby.out]; omega) (by unfold maxLen; omega) (Nat.le_refl _) ?_
               intro w1 hown1 hg1
               have Hown1 := Lib.hid hown1
               have HN1 := Lib.hid (HN.out.kept hg1 (by simp))
               have Hb1 := Lib.hid ((Below.refl w.heap.size w).grown hg1 (Nat.le_refl _) (fun k hk => by cases hk))
               clear hown1 hg1)
  go_loopw [3, 14] (fun v i wr => ∃ k : Nat, k ≤ m ∧ i = .int .i64 k ∧ wr.ownsRow w.heap.size 9 1 v k (((ns.take k).map fun n => Oct.num n.toNat).map S) ∧ Row wr nb 3 (Is ns) ∧ Below w.heap.size w wr) (fun _ i _ => m - (intOf i).toNat)
  case atStart => exact ⟨0, Nat.zero_le _, rfl, by simpa using Hown1.out, HN1.out, Hb1.out⟩
  case round =>
    obtain ⟨k, hk, rfl, hown, hNr, hbr⟩ := hrel
    have HNr := Lib.hid hNr
    have Hbr := Lib.hid hbr
    have Hown := Lib.hid hown
    clear hNr hbr hown Hown1 HN1 Hb1 HN
    by_cases hlt : k < m
    · have hki : (k : Int) < (m : Int) := by omega
      have hkn : k < ns.length := by rw [← Hm.out]; exact hlt
      have cn := HNr.out.num k hkn
      obtain ⟨x, hx⟩ : ∃ x, x = ns.getD k 0 := ⟨_, rfl⟩
      have hxn : ns[k] = x := by rw [hx]; simp [List.getD, hkn]
      have hxb := Hns.out x (by rw [← hxn]; exact List.getElem_mem hkn)
      have htk : ((ns.take (k + 1)).map fun n => Oct.num n.toNat).map S = ((ns.take k).map fun n => Oct.num n.toNat).map S ++ [S (Oct.num x.toNat)] := by
        rw [List.take_succ_eq_append_getElem hkn, List.map_append, List.map_append, hxn]; rfl
      rw [← hx] at cn
      have Htk := Lib.hid htk
      generalize ((ns.take k).map fun n => Oct.num n.toNat).map S = K at *
      clear htk hx hxn hkn
      go_wp2_with fail
      refine (number_ok x _ hxb.1 hxb.2).mono ?_
      rintro _ w1 ⟨rfl, hb1⟩
      have hg1 := grownBy_of_below hb1 none
      have hown1 := Hown.out.kept hg1 (by cases u3.ownBlock <;> simp)
      have hN1 := HNr.out.kept hg1 (by simp)
      have hb1' := two_below' Hbr.out hb1
      have hown2 := hown1.alloc (.cells #[S (Oct.num x.toNat)] 9)
      have hN2 := hN1.kept (grownBy_alloc w1 (.cells #[S (Oct.num x.toNat)] 9) none) (by simp)
      have hb2 : Below w.heap.size w (w1.alloc (.cells #[S (Oct.num x.toNat)] 9)) := hb1'.alloc hb1'.size _
      have hsz2 : w.heap.size ≤ (w1.alloc (.cells #[S (Oct.num x.toNat)] 9)).heap.size := hb2.size
      have hk63 : k + 1 ≤ maxLen := by unfold maxLen; omega
      have hk48 : ((k + 1) + (k + 1) / 4 + 192) * 16 ≤ 281474976710656 := by omega
      have Hown2 := Lib.hid hown2
      have HN2 := Lib.hid hN2
      have Hb2 := Lib.hid hb2
      clear hb1 hg1 hown1 hN1 hb1' hown2 hN2 hb2 Hown HNr Hbr cn
      go_wp2_with (at_builtin; refine wpList_append_own_wide _ rfl (.tmp 23) (.tmp 25) 45 rfl w.heap.size 9 i0 (.string ByteArray.empty) 1 16 Tryd.underlying45 Hi.out Hz.out Hs.out Hby.out rfl (by decide) _ _ _ rfl Hown2.out ⟨w1.heap.size, 0, none⟩ 1 1 [S (Oct.num x.toNat)] rfl rfl (one_text _ _ _) (one_textc _) hk63 hk48 hsz2 ?_
                   intro v' w3 hown3 hgrow3 _
                   obtain ⟨g, cap, rfl⟩ := ownsRow_succ hown3
                   have HN3 := Lib.hid (row_apart HN2.out hnb Hown2.out hgrow3)
                   have Hb3 := Lib.hid (below_row Hb2.out hsz2 Hown2.out hgrow3)
                   have Hown3 := Lib.hid hown3
                   clear hown3 hgrow3)
      refine ⟨⟨k + 1, hlt, by go_num, by rw [Htk.out]; exact Hown3.out, HN3.out, Hb3.out⟩, by simp [intOf]; omega⟩
    · have hki : (m : Int) ≤ (k : Int) := by omega
      have ekm : k = m := by omega
      subst ekm
      have hown := Hown.out
      rw [List.take_of_length_le (by rw [← Hm.out]; omega)] at hown
      have Hown' := Lib.hid hown
      clear hown
      go_wp2_with fail
      go_ret
      exact ⟨_, rfl, Hown'.out, Hbr.out⟩
end Go.Proofs.YtinciddchpccnaaDoor
namespace Go.Proofs.YtinciddchpccnaaDoor
open Go.RowKit
set_option linter.unusedVariables false
set_option linter.unusedSimpArgs false

def Item.v (kd who n : Int) (s : ByteArray) : Value := .agg #[.int .i64 kd, .int .i64 who, .int .i64 n, .string s]
theorem item_a10 (kd who n : Int) (s : ByteArray) (w : World) (k1 : (kd == 1) = true) (b0 : ¬ 0 ≤ who) : Calls Tryd.prog 94 #[.agg #[.int .i64 kd, .int .i64 who, .int .i64 n, .string s]] w fun e w' => e = .returned (.bool false) ∧ Below w.heap.size w w' := by
  go_enter Tryd.func94, Tryd.ntmps94
  go_wp2_with fail
  go_ret
  exact ⟨by first | rfl | (simp; done) | (simp; omega), (Below.refl w.heap.size w).alloc (Nat.le_refl _) _⟩
theorem item_a11 (kd who n : Int) (s : ByteArray) (w : World) (k1 : (kd == 1) = true) (b0 : 0 ≤ who) (b1 : ¬ who ≤ 64) : Calls Tryd.prog 94 #[.agg #[.int .i64 kd, .int .i64 who, .int .i64 n, .string s]] w fun e w' => e = .returned (.bool false) ∧ Below w.heap.size w w' := by
  go_enter Tryd.func94, Tryd.ntmps94
  go_wp2_with fail
  go_ret
  exact ⟨by first | rfl | (simp; done) | (simp; omega), (Below.refl w.heap.size w).alloc (Nat.le_refl _) _⟩
theorem item_a12 (kd who n : Int) (s : ByteArray) (w : World) (k1 : (kd == 1) = true) (b0 : 0 ≤ who) (b1 : who ≤ 64) (n0 : (n == 0) = false) : Calls Tryd.prog 94 #[.agg #[.int .i64 kd, .int .i64 who, .int .i64 n, .string s]] w fun e w' => e = .returned (.bool false) ∧ Below w.heap.size w w' := by
  go_enter Tryd.func94, Tryd.ntmps94
  go_wp2_with fail
  go_ret
  exact ⟨by first | rfl | (simp; done) | (simp; omega), (Below.refl w.heap.size w).alloc (Nat.le_refl _) _⟩
theorem item_a13 (kd who n : Int) (s : ByteArray) (w : World) (k1 : (kd == 1) = true) (b0 : 0 ≤ who) (b1 : who ≤ 64) (n0 : (n == 0) = true) (t0 : ¬ (s.size : Int) ≤ 65472) : Calls Tryd.prog 94 #[.agg #[.int .i64 kd, .int .i64 who, .int .i64 n, .string s]] w fun e w' => e = .returned (.bool false) ∧ Below w.heap.size w w' := by
  go_enter Tryd.func94, Tryd.ntmps94
  go_wp2_with fail
  go_ret
  exact ⟨by first | rfl | (simp; done) | (simp; omega), (Below.refl w.heap.size w).alloc (Nat.le_refl _) _⟩
theorem item_a14 (kd who n : Int) (s : ByteArray) (w : World) (k1 : (kd == 1) = true) (b0 : 0 ≤ who) (b1 : who ≤ 64) (n0 : (n == 0) = true) (t0 : (s.size : Int) ≤ 65472) : Calls Tryd.prog 94 #[.agg #[.int .i64 kd, .int .i64 who, .int .i64 n, .string s]] w fun e w' => e = .returned (.bool true) ∧ Below w.heap.size w w' := by
  go_enter Tryd.func94, Tryd.ntmps94
  go_wp2_with fail
  go_ret
  exact ⟨by first | rfl | (simp; done) | (simp; omega), (Below.refl w.heap.size w).alloc (Nat.le_refl _) _⟩
theorem item_a30 (kd who n : Int) (s : ByteArray) (w : World) (k1 : (kd == 1) = false) (k3 : (kd == 3) = true) (b0 : ¬ 0 ≤ who) : Calls Tryd.prog 94 #[.agg #[.int .i64 kd, .int .i64 who, .int .i64 n, .string s]] w fun e w' => e = .returned (.bool false) ∧ Below w.heap.size w w' := by
  go_enter Tryd.func94, Tryd.ntmps94
  go_wp2_with fail
  go_ret
  exact ⟨by first | rfl | (simp; done) | (simp; omega), (Below.refl w.heap.size w).alloc (Nat.le_refl _) _⟩
theorem item_a31 (kd who n : Int) (s : ByteArray) (w : World) (k1 : (kd == 1) = false) (k3 : (kd == 3) = true) (b0 : 0 ≤ who) (b1 : ¬ who ≤ 64) : Calls Tryd.prog 94 #[.agg #[.int .i64 kd, .int .i64 who, .int .i64 n, .string s]] w fun e w' => e = .returned (.bool false) ∧ Below w.heap.size w w' := by
  go_enter Tryd.func94, Tryd.ntmps94
  go_wp2_with fail
  go_ret
  exact ⟨by first | rfl | (simp; done) | (simp; omega), (Below.refl w.heap.size w).alloc (Nat.le_refl _) _⟩
theorem item_a32 (kd who n : Int) (s : ByteArray) (w : World) (k1 : (kd == 1) = false) (k3 : (kd == 3) = true) (b0 : 0 ≤ who) (b1 : who ≤ 64) (n0 : (n == 0) = false) : Calls Tryd.prog 94 #[.agg #[.int .i64 kd, .int .i64 who, .int .i64 n, .string s]] w fun e w' => e = .returned (.bool false) ∧ Below w.heap.size w w' := by
  go_enter Tryd.func94, Tryd.ntmps94
  go_wp2_with fail
  go_ret
  exact ⟨by first | rfl | (simp; done) | (simp; omega), (Below.refl w.heap.size w).alloc (Nat.le_refl _) _⟩
theorem item_a33 (kd who n : Int) (s : ByteArray) (w : World) (k1 : (kd == 1) = false) (k3 : (kd == 3) = true) (b0 : 0 ≤ who) (b1 : who ≤ 64) (n0 : (n == 0) = true) (t0 : ¬ (s.size : Int) ≤ 65472) : Calls Tryd.prog 94 #[.agg #[.int .i64 kd, .int .i64 who, .int .i64 n, .string s]] w fun e w' => e = .returned (.bool false) ∧ Below w.heap.size w w' := by
  go_enter Tryd.func94, Tryd.ntmps94
  go_wp2_with fail
  go_ret
  exact ⟨by first | rfl | (simp; done) | (simp; omega), (Below.refl w.heap.size w).alloc (Nat.le_refl _) _⟩
theorem item_a34 (kd who n : Int) (s : ByteArray) (w : World) (k1 : (kd == 1) = false) (k3 : (kd == 3) = true) (b0 : 0 ≤ who) (b1 : who ≤ 64) (n0 : (n == 0) = true) (t0 : (s.size : Int) ≤ 65472) : Calls Tryd.prog 94 #[.agg #[.int .i64 kd, .int .i64 who, .int .i64 n, .string s]] w fun e w' => e = .returned (.bool true) ∧ Below w.heap.size w w' := by
  go_enter Tryd.func94, Tryd.ntmps94
  go_wp2_with fail
  go_ret
  exact ⟨by first | rfl | (simp; done) | (simp; omega), (Below.refl w.heap.size w).alloc (Nat.le_refl _) _⟩
theorem item_d (kd who n : Int) (s : ByteArray) (w : World) (k1 : (kd == 1) = false) (k3 : (kd == 3) = false) (k2 : (kd == 2) = false) : Calls Tryd.prog 94 #[.agg #[.int .i64 kd, .int .i64 who, .int .i64 n, .string s]] w fun e w' => e = .returned (.bool false) ∧ Below w.heap.size w w' := by
  go_enter Tryd.func94, Tryd.ntmps94
  go_wp2_with fail
  go_ret
  exact ⟨by first | rfl | (simp; done), (Below.refl w.heap.size w).alloc (Nat.le_refl _) _⟩
theorem item_c0 (kd who n : Int) (s : ByteArray) (w : World) (k1 : (kd == 1) = false) (k3 : (kd == 3) = false) (k2 : (kd == 2) = true) (b0 : (who == 0) = false) : Calls Tryd.prog 94 #[.agg #[.int .i64 kd, .int .i64 who, .int .i64 n, .string s]] w fun e w' => e = .returned (.bool false) ∧ Below w.heap.size w w' := by
  go_enter Tryd.func94, Tryd.ntmps94
  go_wp2_with fail
  go_ret
  exact ⟨by first | rfl | (simp; done), (Below.refl w.heap.size w).alloc (Nat.le_refl _) _⟩
theorem item_c1 (kd who n : Int) (s : ByteArray) (w : World) (k1 : (kd == 1) = false) (k3 : (kd == 3) = false) (k2 : (kd == 2) = true) (b0 : (who == 0) = true) (nn : Tx.num n = false) : Calls Tryd.prog 94 #[.agg #[.int .i64 kd, .int .i64 who, .int .i64 n, .string s]] w fun e w' => e = .returned (.bool false) ∧ Below w.heap.size w w' := by
  have NN := fun W => nnumber_any n W
  rw [nn] at NN
  clear nn
  go_enter Tryd.func94, Tryd.ntmps94
  go_wp2_with fail
  refine (NN _).mono ?_
  rintro _ w1 ⟨rfl, rfl⟩
  go_wp2_with fail
  go_ret
  exact ⟨by first | rfl | (simp; done), (Below.refl w.heap.size w).alloc (Nat.le_refl _) _⟩
theorem item_c2 (kd who n : Int) (s : ByteArray) (w : World) (k1 : (kd == 1) = false) (k3 : (kd == 3) = false) (k2 : (kd == 2) = true) (b0 : (who == 0) = true) (nn : Tx.num n = true) : Calls Tryd.prog 94 #[.agg #[.int .i64 kd, .int .i64 who, .int .i64 n, .string s]] w fun e w' => e = .returned (.bool s.toList.isEmpty) ∧ Below w.heap.size w w' := by
  have NN := fun W => nnumber_any n W
  rw [nn] at NN
  clear nn
  go_enter Tryd.func94, Tryd.ntmps94
  go_wp2_with fail
  refine (NN _).mono ?_
  rintro _ w1 ⟨rfl, rfl⟩
  go_wp2_with fail
  go_ret
  exact ⟨by first | rfl | (simp; done), (Below.refl w.heap.size w).alloc (Nat.le_refl _) _⟩
/-- which items there may be -/
def Item.ok (kd who n : Int) (s : ByteArray) : Bool :=
  if (kd == 1) = true ∨ (kd == 3) = true then decide (0 ≤ who ∧ who ≤ 64 ∧ (n == 0) = true ∧ (s.size : Int) ≤ 65472)
  else if (kd == 2) = true ∧ (who == 0) = true ∧ Tx.num n = true then s.toList.isEmpty else false
theorem itemMayBe_any (kd who n : Int) (s : ByteArray) (w : World) : Calls Tryd.prog 94 #[.agg #[.int .i64 kd, .int .i64 who, .int .i64 n, .string s]] w fun e w' => e = .returned (.bool (Item.ok kd who n s)) ∧ Below w.heap.size w w' := by
  unfold Item.ok
  rcases Bool.eq_false_or_eq_true (kd == 1) with k1 | k1
  · rw [if_pos (.inl k1)]
    by_cases b0 : 0 ≤ who
    · by_cases b1 : who ≤ 64
      · rcases Bool.eq_false_or_eq_true (n == 0) with n0 | n0
        · by_cases t0 : (s.size : Int) ≤ 65472
          · rw [decide_eq_true ⟨b0, b1, n0, t0⟩]; exact item_a14 kd who n s w k1 b0 b1 n0 t0
          · rw [decide_eq_false (fun h => t0 h.2.2.2)]; exact item_a13 kd who n s w k1 b0 b1 n0 t0
        · rw [decide_eq_false (fun h => by rw [n0] at h; exact absurd h.2.2.1 (by simp))]; exact item_a12 kd who n s w k1 b0 b1 n0
      · rw [decide_eq_false (fun h => b1 h.2.1)]; exact item_a11 kd who n s w k1 b0 b1
    · rw [decide_eq_false (fun h => b0 h.1)]; exact item_a10 kd who n s w k1 b0
  rcases Bool.eq_false_or_eq_true (kd == 3) with k3 | k3
  · rw [if_pos (.inr k3)]
    by_cases b0 : 0 ≤ who
    · by_cases b1 : who ≤ 64
      · rcases Bool.eq_false_or_eq_true (n == 0) with n0 | n0
        · by_cases t0 : (s.size : Int) ≤ 65472
          · rw [decide_eq_true ⟨b0, b1, n0, t0⟩]; exact item_a34 kd who n s w k1 k3 b0 b1 n0 t0
          · rw [decide_eq_false (fun h => t0 h.2.2.2)]; exact item_a33 kd who n s w k1 k3 b0 b1 n0 t0
        · rw [decide_eq_false (fun h => by rw [n0] at h; exact absurd h.2.2.1 (by simp))]; exact item_a32 kd who n s w k1 k3 b0 b1 n0
      · rw [decide_eq_false (fun h => b1 h.2.1)]; exact item_a31 kd who n s w k1 k3 b0 b1
    · rw [decide_eq_false (fun h => b0 h.1)]; exact item_a30 kd who n s w k1 k3 b0
  rw [if_neg (by simp [k1, k3])]
  rcases Bool.eq_false_or_eq_true (kd == 2) with k2 | k2
  · rcases Bool.eq_false_or_eq_true (who == 0) with b0 | b0
    · rcases Bool.eq_false_or_eq_true (Tx.num n) with nn | nn
      · rw [if_pos ⟨k2, b0, nn⟩]; exact item_c2 kd who n s w k1 k3 k2 b0 nn
      · rw [if_neg (by simp [nn])]; exact item_c1 kd who n s w k1 k3 k2 b0 nn
    · rw [if_neg (by simp [b0])]; exact item_c0 kd who n s w k1 k3 k2 b0
  · rw [if_neg (by simp [k2])]; exact item_d kd who n s w k1 k3 k2
end Go.Proofs.YtinciddchpccnaaDoor

/- ---- NoMath ---- -/
/- notes, as plain data: items, bids, receipts, batches; their bytes, and what bytes are read as. -/
namespace Go.Proofs.YtinciddchpccnaaDoor
open Go.RowKit
set_option linter.unusedVariables false
set_option linter.unusedSimpArgs false

namespace No
abbrev T8 := List UInt8
/-- the first n texts of a list as numbers -/
def raw : Nat → List T8 → Option (List Int)
  | 0, _ => some []
  | _ + 1, [] => none
  | n + 1, s :: r => match Tx.numAll s with
    | none => none
    | some x => (raw n r).map (x :: ·)
/-- the same, each a number that may be -/
def nums : Nat → List T8 → Option (List Int)
  | 0, _ => some []
  | _ + 1, [] => none
  | n + 1, s :: r => match Tx.numAll s with
    | none => none
    | some x => if Tx.num x = true then (nums n r).map (x :: ·) else none
theorem nums_raw : ∀ (n : Nat) (l : List T8), nums n l = (raw n l).bind fun ns => if ns.all Tx.num = true then some ns else none
  | 0, _ => rfl
  | _ + 1, [] => rfl
  | n + 1, s :: r => by
    unfold nums raw
    cases h : Tx.numAll s with
    | none => rfl
    | some x =>
      simp only
      rw [nums_raw n r]
      cases hr : raw n r with
      | none => simp
      | some ns =>
        simp only [Option.bind_some, Option.map_some, List.all_cons, Bool.and_eq_true]
        by_cases h1 : Tx.num x = true
        · by_cases h2 : ns.all Tx.num = true
          · rw [if_pos h1, if_pos h2, if_pos ⟨h1, h2⟩]; rfl
          · rw [if_pos h1, if_neg h2, if_neg (fun h => h2 h.2)]; rfl
        · rw [if_neg h1, if_neg (fun h => h1 h.1)]
theorem raw_len : ∀ (n : Nat) (l : List T8) (ns : List Int), raw n l = some ns → ns.length = n ∧ n ≤ l.length ∧ ∀ x ∈ ns, 0 ≤ x ∧ x ≤ 9223372036854775807
  | 0, _, ns, h => by
    simp only [raw, Option.some.injEq] at h
    subst h
    simp
  | n + 1, [], ns, h => by simp [raw] at h
  | n + 1, s :: r, ns, h => by
    unfold raw at h
    cases hs : Tx.numAll s with
    | none => rw [hs] at h; simp at h
    | some x =>
      rw [hs] at h
      simp only at h
      obtain ⟨m, hm, rfl⟩ := Option.map_eq_some_iff.1 h
      obtain ⟨h1, h2, h3⟩ := raw_len n r m hm
      have hx := Tx.num_numAll hs
      refine ⟨by simp [h1], by simp only [List.length_cons]; omega, fun y hy => ?_⟩
      rcases List.mem_cons.1 hy with rfl | hy
      · exact ⟨hx.1, hx.2.1⟩
      · exact h3 y hy
theorem raw_back : ∀ (n : Nat) (l : List T8) (ns : List Int), raw n l = some ns → l = ns.map (fun x => Oct.num x.toNat) ++ l.drop n
  | 0, l, ns, h => by
    simp only [raw, Option.some.injEq] at h
    subst h
    simp
  | n + 1, [], ns, h => by simp [raw] at h
  | n + 1, s :: r, ns, h => by
    unfold raw at h
    cases hs : Tx.numAll s with
    | none => rw [hs] at h; simp at h
    | some x =>
      rw [hs] at h
      simp only at h
      obtain ⟨m, hm, rfl⟩ := Option.map_eq_some_iff.1 h
      have hx := Tx.num_numAll hs
      have := raw_back n r m hm
      simp only [List.map_cons, List.drop_succ_cons, List.cons_append, hx.2.2]
      rw [← this]
theorem raw_of : ∀ (ns : List Int) (l : List T8), (∀ x ∈ ns, 0 ≤ x ∧ x ≤ 9223372036854775807) → raw ns.length (ns.map (fun x => Oct.num x.toNat) ++ l) = some ns
  | [], l, _ => rfl
  | x :: ns, l, h => by
    have hx := h x (by simp)
    have e : Tx.numAll (Oct.num x.toNat) = some x := by
      rw [Tx.numAll_num (by omega)]
      simp only [Option.some.injEq]
      omega
    simp only [List.length_cons, List.map_cons, List.cons_append, raw, e]
    rw [raw_of ns l (fun y hy => h y (by simp [hy]))]
    rfl
theorem data_eq (d : ByteArray) : (⟨d.data.toList.toArray⟩ : ByteArray) = d := by cases d; rfl
theorem empty_iff (s : ByteArray) : s.toList.isEmpty = true ↔ s.data.toList = [] := by
  rw [← decide_eq_emptyBytes, decide_eq_true_eq]
  constructor
  · rintro rfl; rfl
  · intro h
    have : s.data = #[] := Array.toList_inj.1 h
    cases s
    simp only at this
    subst this
    rfl
theorem num_iff {x : Int} : Tx.num x = true ↔ 0 ≤ x ∧ x ≤ 1099511627776 := by unfold Tx.num; simp
theorem acct_iff {x : Int} : Tx.acct x = true ↔ 0 ≤ x ∧ x ≤ 63 := by unfold Tx.acct; simp
end No

/-- an item -/
structure It where
  kind : Int
  who : Int
  n : Int
  text : ByteArray
namespace It
def v (i : It) : Value := .agg #[.int .i64 i.kind, .int .i64 i.who, .int .i64 i.n, .string i.text]
def ok (i : It) : Bool := Item.ok i.kind i.who i.n i.text
def zero : It := ⟨0, 0, 0, ByteArray.empty⟩
def fields (i : It) : List No.T8 := [Oct.num i.kind.toNat, Oct.num i.who.toNat, Oct.num i.n.toNat, i.text.data.toList]
def textE (i : It) : No.T8 × Int := if i.ok = true then Oct.listE i.fields else ([], 2)
def of (ns : List Int) (rest : List No.T8) : Option It :=
  match ns, rest with
  | [a, b, c], [t] => if (It.mk a b c ⟨t.toArray⟩).ok = true then some ⟨a, b, c, ⟨t.toArray⟩⟩ else none
  | _, _ => none
/-- what bytes are read as -/
def read (s : No.T8) : Option It := (Tx.listAll s).bind fun l => (No.raw 3 l).bind fun ns => of ns (l.drop 3)
theorem ok_iff (i : It) : i.ok = true ↔ (((i.kind = 1 ∨ i.kind = 3) ∧ 0 ≤ i.who ∧ i.who ≤ 64 ∧ i.n = 0 ∧ (i.text.size : Int) ≤ 65472) ∨ (i.kind = 2 ∧ i.who = 0 ∧ 0 ≤ i.n ∧ i.n ≤ 1099511627776 ∧ i.text.data.toList = [])) := by
  unfold ok Item.ok
  split
  · next h =>
    simp only [beq_iff_eq] at h
    simp only [beq_iff_eq, decide_eq_true_eq]
    constructor
    · intro hh; exact .inl ⟨h, hh⟩
    · rintro (⟨_, hh⟩ | ⟨hh, _⟩)
      · exact hh
      · omega
  · next h =>
    simp only [beq_iff_eq] at h
    split
    · next h2 =>
      simp only [beq_iff_eq, No.num_iff] at h2
      constructor
      · intro hh
        refine .inr ⟨h2.1, h2.2.1, h2.2.2.1, h2.2.2.2, ?_⟩
        exact (No.empty_iff _).1 hh
      · rintro (⟨hh, _⟩ | ⟨_, _, _, _, hh⟩)
        · exact absurd hh h
        · exact (No.empty_iff _).2 hh
    · next h2 =>
      simp only [beq_iff_eq, No.num_iff] at h2
      constructor
      · intro hh; cases hh
      · rintro (⟨hh, _⟩ | ⟨h3, h4, h5, h6, _⟩)
        · exact absurd hh h
        · exact absurd ⟨h3, h4, h5, h6⟩ h2
theorem ok_num {i : It} (h : i.ok = true) : Tx.num i.kind = true ∧ Tx.num i.who = true ∧ Tx.num i.n = true := by
  rw [ok_iff] at h
  rw [No.num_iff, No.num_iff, No.num_iff]
  omega
theorem read_text {i : It} {b : No.T8} (h : i.textE = (b, 0)) : read b = some i := by
  unfold textE at h
  split at h
  · next hk =>
    obtain ⟨h1, h2, h3⟩ := ok_num hk
    rw [No.num_iff] at h1 h2 h3
    unfold read
    rw [Tx.listAll_listE h]
    have := No.raw_of [i.kind, i.who, i.n] [i.text.data.toList] (by intro x hx; simp at hx; rcases hx with rfl | rfl | rfl <;> omega)
    simp only [List.length_cons, List.length_nil, List.map_cons, List.map_nil, List.cons_append, List.nil_append] at this
    simp only [Option.bind_some, fields, this, List.drop_succ_cons, List.drop_zero, of, No.data_eq]
    rw [if_pos hk]
  · simp at h
theorem text_read {s : No.T8} {i : It} (h : read s = some i) : i.textE = (s, 0) := by
  unfold read at h
  obtain ⟨l, hl, h⟩ := Option.bind_eq_some_iff.1 h
  obtain ⟨ns, hn, h⟩ := Option.bind_eq_some_iff.1 h
  have hb := No.raw_back 3 l ns hn
  unfold of at h
  split at h
  · next a b c t hd =>
    split at h
    · next hk =>
      simp only [Option.some.injEq] at h
      subst h
      unfold textE
      rw [if_pos hk]
      have e : fields ⟨a, b, c, ⟨t.toArray⟩⟩ = l := by rw [hb, hd]; rfl
      rw [e]
      exact Tx.listE_listAll hl
    · cases h
  · cases h
end It

/-- a bid -/
structure Bd where
  round : Int
  who : Int
  amount : Int
  salt : Int
  tag : List UInt8
namespace Bd
def cells (b : Bd) : List Value := [.int .i64 b.round, .int .i64 b.who, .int .i64 b.amount, .int .i64 b.salt] ++ (bRow b.tag).toList
def v (b : Bd) : Value := .agg b.cells.toArray
def ok (b : Bd) : Bool := Tx.acct b.who && (Tx.num b.round && (Tx.num b.amount && Tx.num b.salt))
def zero : Bd := ⟨0, 0, 0, 0, Tx.zero⟩
def numsL (b : Bd) : List Int := [b.round, b.who, b.amount, b.salt]
def body (b : Bd) : No.T8 := (Oct.listE (b.numsL.map fun x => Oct.num x.toNat)).1
def fields (b : Bd) : List No.T8 := (b.numsL.map fun x => Oct.num x.toNat) ++ [b.tag]
def textE (b : Bd) : No.T8 × Int := if b.ok = true then Oct.listE b.fields else ([], 2)
def of (ns : List Int) (rest : List No.T8) : Option Bd :=
  match ns, rest with
  | [a, b, c, d], [t] => if t.length = 32 ∧ (Bd.mk a b c d t).ok = true then some ⟨a, b, c, d, t⟩ else none
  | _, _ => none
def read (s : No.T8) : Option Bd := (Tx.listAll s).bind fun l => (No.raw 4 l).bind fun ns => of ns (l.drop 4)
structure Fits (b : Bd) : Prop where
  tag : b.tag.length = 32
  round : Tx.fits b.round
  who : Tx.fits b.who
  amount : Tx.fits b.amount
  salt : Tx.fits b.salt
theorem ok_iff (b : Bd) : b.ok = true ↔ (0 ≤ b.who ∧ b.who ≤ 63) ∧ (0 ≤ b.round ∧ b.round ≤ 1099511627776) ∧ (0 ≤ b.amount ∧ b.amount ≤ 1099511627776) ∧ (0 ≤ b.salt ∧ b.salt ≤ 1099511627776) := by
  unfold ok
  simp only [Bool.and_eq_true, No.num_iff, No.acct_iff]
theorem ok_nums {b : Bd} (h : b.ok = true) : ∀ x ∈ b.numsL, 0 ≤ x ∧ x ≤ 9223372036854775807 := by
  rw [ok_iff] at h
  intro x hx
  simp [numsL] at hx
  rcases hx with rfl | rfl | rfl | rfl <;> omega
theorem read_text {b : Bd} {s : No.T8} (ht : b.tag.length = 32) (h : b.textE = (s, 0)) : read s = some b := by
  unfold textE at h
  split at h
  · next hk =>
    unfold read
    rw [Tx.listAll_listE h]
    have := No.raw_of b.numsL [b.tag] (ok_nums hk)
    simp only [Option.bind_some, fields]
    rw [show (4 : Nat) = b.numsL.length from rfl, this]
    simp only [Option.bind_some]
    rw [List.drop_left' (by simp)]
    simp only [numsL, of]
    rw [if_pos ⟨ht, hk⟩]
  · simp at h
theorem text_read {s : No.T8} {b : Bd} (h : read s = some b) : b.textE = (s, 0) ∧ b.tag.length = 32 ∧ b.ok = true := by
  unfold read at h
  obtain ⟨l, hl, h⟩ := Option.bind_eq_some_iff.1 h
  obtain ⟨ns, hn, h⟩ := Option.bind_eq_some_iff.1 h
  have hb := No.raw_back 4 l ns hn
  unfold of at h
  split at h
  · next a b c d t hd =>
    split at h
    · next hk =>
      simp only [Option.some.injEq] at h
      subst h
      refine ⟨?_, hk.1, hk.2⟩
      unfold textE
      rw [if_pos hk.2]
      have e : fields ⟨a, b, c, d, t⟩ = l := by rw [hb, hd]; rfl
      rw [e]
      exact Tx.listE_listAll hl
    · cases h
  · cases h
end Bd

/-- a receipt -/
structure Rp where
  index : Int
  kind : Int
  time : Int
  body : ByteArray
  prev : List UInt8
  hash : List UInt8
namespace Rp
def cells (r : Rp) : List Value := [.int .i64 r.index, .int .i64 r.kind, .int .i64 r.time, .string r.body] ++ ((bRow r.prev).toList ++ (bRow r.hash).toList)
def v (r : Rp) : Value := .agg r.cells.toArray
def ok (r : Rp) : Bool := ((r.kind == 1) || (r.kind == 2)) && (Tx.num r.index && (Tx.num r.time && decide ((r.body.size : Int) ≤ 656)))
def zero : Rp := ⟨0, 0, 0, ByteArray.empty, Tx.zero, Tx.zero⟩
def numsL (r : Rp) : List Int := [r.index, r.kind, r.time]
def texts (r : Rp) : List No.T8 := (r.numsL.map fun x => Oct.num x.toNat) ++ [r.body.data.toList]
/-- the hash that it is to have -/
def link (r : Rp) : List UInt8 := Sha.sum (r.prev ++ (Oct.listE r.texts).1)
def fields (r : Rp) : List No.T8 := r.texts ++ [r.prev, r.hash]
def textE (r : Rp) : No.T8 × Int := if r.ok = true then (if r.hash = r.link then Oct.listE r.fields else ([], 7)) else ([], 2)
def of (ns : List Int) (rest : List No.T8) : Option Rp :=
  match ns, rest with
  | [a, b, c], [t, p, h] => if (p.length = 32 ∧ h.length = 32) ∧ (Rp.mk a b c ⟨t.toArray⟩ p h).ok = true ∧ h = (Rp.mk a b c ⟨t.toArray⟩ p h).link then some ⟨a, b, c, ⟨t.toArray⟩, p, h⟩ else none
  | _, _ => none
def read (s : No.T8) : Option Rp := (Tx.listAll s).bind fun l => (No.raw 3 l).bind fun ns => of ns (l.drop 3)
structure Fits (r : Rp) : Prop where
  prev : r.prev.length = 32
  hash : r.hash.length = 32
  body : r.body.size ≤ 140737488351232
  index : Tx.fits r.index
  kind : Tx.fits r.kind
  time : Tx.fits r.time
theorem ok_iff (r : Rp) : r.ok = true ↔ (r.kind = 1 ∨ r.kind = 2) ∧ (0 ≤ r.index ∧ r.index ≤ 1099511627776) ∧ (0 ≤ r.time ∧ r.time ≤ 1099511627776) ∧ (r.body.size : Int) ≤ 656 := by
  unfold ok
  simp only [Bool.and_eq_true, Bool.or_eq_true, No.num_iff, beq_iff_eq, decide_eq_true_eq]
theorem ok_nums {r : Rp} (h : r.ok = true) : ∀ x ∈ r.numsL, 0 ≤ x ∧ x ≤ 9223372036854775807 := by
  rw [ok_iff] at h
  intro x hx
  simp [numsL] at hx
  rcases hx with rfl | rfl | rfl <;> omega
theorem ok_num {r : Rp} (h : r.ok = true) : Tx.num r.index = true ∧ Tx.num r.kind = true ∧ Tx.num r.time = true := by
  rw [ok_iff] at h
  rw [No.num_iff, No.num_iff, No.num_iff]
  omega
theorem link_len (r : Rp) : r.link.length = 32 := Sha.sum_len _
theorem read_text {r : Rp} {s : No.T8} (hp : r.prev.length = 32) (h : r.textE = (s, 0)) : read s = some r := by
  unfold textE at h
  split at h
  · next hk =>
    split at h
    · next hh =>
      unfold read
      rw [Tx.listAll_listE h]
      have := No.raw_of r.numsL [r.body.data.toList, r.prev, r.hash] (ok_nums hk)
      have e : r.fields = r.numsL.map (fun x => Oct.num x.toNat) ++ [r.body.data.toList, r.prev, r.hash] := by unfold fields texts; simp
      simp only [Option.bind_some]
      rw [e, show (3 : Nat) = r.numsL.length from rfl, this]
      simp only [Option.bind_some]
      rw [List.drop_left' (by simp)]
      simp only [numsL, of, No.data_eq]
      rw [if_pos ⟨⟨hp, by rw [hh]; exact link_len r⟩, hk, hh⟩]
    · simp at h
  · simp at h
theorem text_read {s : No.T8} {r : Rp} (h : read s = some r) : r.textE = (s, 0) ∧ (r.prev.length = 32 ∧ r.hash.length = 32) ∧ r.ok = true ∧ r.hash = r.link := by
  unfold read at h
  obtain ⟨l, hl, h⟩ := Option.bind_eq_some_iff.1 h
  obtain ⟨ns, hn, h⟩ := Option.bind_eq_some_iff.1 h
  have hb := No.raw_back 3 l ns hn
  unfold of at h
  split at h
  · next a b c t p q hd =>
    split at h
    · next hk =>
      simp only [Option.some.injEq] at h
      subst h
      refine ⟨?_, hk.1, hk.2.1, hk.2.2⟩
      unfold textE
      rw [if_pos hk.2.1, if_pos hk.2.2]
      have e : fields ⟨a, b, c, ⟨t.toArray⟩, p, q⟩ = l := by rw [hb, hd]; rfl
      rw [e]
      exact Tx.listE_listAll hl
    · cases h
  · cases h
end Rp

/-- a batch's part: is it the inbox's, its text -/
abbrev Pt := Bool × List UInt8
namespace Pt
def ok (p : Pt) : Bool := decide (p.2.length ≤ 656) && !(p.1 && !p.2.isEmpty)
def lay (p : Pt) : No.T8 := if p.1 = true then [2] else 1 :: p.2
def of (s : No.T8) : Option Pt := if s = [2] then some (true, []) else match s with
  | c :: r => if c = 1 then some (false, r) else none
  | [] => none
theorem of_lay {p : Pt} (h : Pt.ok p = true) : of (lay p) = some p := by
  obtain ⟨d, t⟩ := p
  cases d
  · unfold lay of
    simp
  · unfold ok at h
    simp at h
    unfold lay of
    simp [h.2]
theorem lay_of {s : No.T8} {p : Pt} (h : of s = some p) : lay p = s := by
  unfold of at h
  split at h
  · next e =>
    simp only [Option.some.injEq] at h
    subst h
    rw [e]; rfl
  · split at h
    · split at h
      · next e =>
        simp only [Option.some.injEq] at h
        subst h
        rw [e]; rfl
      · cases h
    · cases h
def all : List No.T8 → Option (List Pt)
  | [] => some []
  | s :: r => match of s with
    | none => none
    | some p => (all r).map (p :: ·)
theorem all_lay : ∀ {l : List Pt}, l.all ok = true → all (l.map lay) = some l
  | [], _ => rfl
  | p :: l, h => by
    simp only [List.all_cons, Bool.and_eq_true] at h
    simp only [List.map_cons, all, of_lay h.1, all_lay h.2, Option.map_some]
theorem lay_all : ∀ {l : List No.T8} {ps : List Pt}, all l = some ps → ps.map lay = l
  | [], ps, h => by
    simp only [all, Option.some.injEq] at h
    subst h
    rfl
  | s :: r, ps, h => by
    unfold all at h
    cases ho : of s with
    | none => rw [ho] at h; cases h
    | some p =>
      rw [ho] at h
      simp only at h
      obtain ⟨m, hm, rfl⟩ := Option.map_eq_some_iff.1 h
      simp only [List.map_cons, lay_of ho, lay_all hm]
end Pt
/-- a batch -/
structure Bt where
  seq : Int
  first : Int
  before : Int
  parts : List Pt
namespace Bt
def ok (b : Bt) : Bool := (Tx.num b.seq && (Tx.num b.first && Tx.num b.before)) && (decide (b.parts.length ≤ 512) && b.parts.all Pt.ok)
def zero : Bt := ⟨0, 0, 0, []⟩
def numsL (b : Bt) : List Int := [b.seq, b.first, b.before]
def fields (b : Bt) : List No.T8 := (b.numsL.map fun x => Oct.num x.toNat) ++ b.parts.map Pt.lay
def textE (b : Bt) : No.T8 × Int := if b.ok = true then Oct.listE b.fields else ([], 2)
def of (ns : List Int) (rest : List No.T8) : Option Bt :=
  match ns, Pt.all rest with
  | [a, b, c], some ps => if (Bt.mk a b c ps).ok = true then some ⟨a, b, c, ps⟩ else none
  | _, _ => none
def read (s : No.T8) : Option Bt := (Tx.listAll s).bind fun l => (No.raw 3 l).bind fun ns => of ns (l.drop 3)
theorem ok_iff (b : Bt) : b.ok = true ↔ ((0 ≤ b.seq ∧ b.seq ≤ 1099511627776) ∧ (0 ≤ b.first ∧ b.first ≤ 1099511627776) ∧ (0 ≤ b.before ∧ b.before ≤ 1099511627776)) ∧ b.parts.length ≤ 512 ∧ b.parts.all Pt.ok = true := by
  unfold ok
  simp only [Bool.and_eq_true, No.num_iff, decide_eq_true_eq]
theorem ok_nums {b : Bt} (h : b.ok = true) : ∀ x ∈ b.numsL, 0 ≤ x ∧ x ≤ 9223372036854775807 := by
  rw [ok_iff] at h
  intro x hx
  simp [numsL] at hx
  rcases hx with rfl | rfl | rfl <;> omega
theorem read_text {b : Bt} {s : No.T8} (h : b.textE = (s, 0)) : read s = some b := by
  unfold textE at h
  split at h
  · next hk =>
    unfold read
    rw [Tx.listAll_listE h]
    have := No.raw_of b.numsL (b.parts.map Pt.lay) (ok_nums hk)
    simp only [Option.bind_some, fields]
    rw [show (3 : Nat) = b.numsL.length from rfl, this]
    simp only [Option.bind_some]
    rw [List.drop_left' (by simp)]
    have hp := Pt.all_lay ((ok_iff b).1 hk).2.2
    simp only [numsL, of, hp]
    rw [if_pos hk]
  · simp at h
theorem text_read {s : No.T8} {b : Bt} (h : read s = some b) : b.textE = (s, 0) ∧ b.ok = true := by
  unfold read at h
  obtain ⟨l, hl, h⟩ := Option.bind_eq_some_iff.1 h
  obtain ⟨ns, hn, h⟩ := Option.bind_eq_some_iff.1 h
  have hb := No.raw_back 3 l ns hn
  unfold of at h
  split at h
  · next a b c ps hd =>
    split at h
    · next hk =>
      simp only [Option.some.injEq] at h
      subst h
      refine ⟨?_, hk⟩
      unfold textE
      rw [if_pos hk]
      have e : fields ⟨a, b, c, ps⟩ = l := by
        have := Pt.lay_all hd
        unfold fields
        rw [this]
        exact hb.symm
      rw [e]
      exact Tx.listE_listAll hl
    · cases h
  · cases h
end Bt
end Go.Proofs.YtinciddchpccnaaDoor

/- ---- NoH ---- -/
/- notes: read. -/
/- What is held over a drawn region: a row, and all that was there. -/
namespace Go.Proofs.YtinciddchpccnaaDoor
open Go.RowKit
set_option linter.unusedVariables false
set_option linter.unusedSimpArgs false

namespace No
/-- pointers to a block's first cells -/
def ptrs (g n : Nat) : List Value := (List.range n).map fun i => .pointer (some ⟨g, i, none⟩)
theorem ptrs_len (g n : Nat) : (ptrs g n).length = n := by simp [ptrs]
theorem ptrs_at {w : World} {g pb n : Nat} {T : TypeId} (h : Row w pb T (ptrs g n)) (k : Nat) (hk : k < n) : w.cell? ⟨pb, k, none⟩ = some (.pointer (some ⟨g, k, none⟩)) := by
  rw [h.cell k (by rw [ptrs_len]; exact hk)]
  simp [ptrs]
theorem nums_short : ∀ (n : Nat) (l : List T8), l.length < n → nums n l = none
  | 0, _, h => by omega
  | n + 1, [], _ => rfl
  | n + 1, s :: r, h => by
    unfold nums
    rw [nums_short n r (by simp at h; omega)]
    cases Tx.numAll s with
    | none => rfl
    | some x => simp
theorem nums_none {l : List T8} {n k : Nat} (h : k < n) (hk : k < l.length) (hx : Tx.numAll l[k] = none) : nums (n - k) (l.drop k) = none := by
  obtain ⟨j, hj⟩ : ∃ j, n - k = j + 1 := ⟨n - k - 1, by omega⟩
  rw [hj, List.drop_eq_getElem_cons hk, nums, hx]
theorem nums_bad {l : List T8} {n k : Nat} {x : Int} (h : k < n) (hk : k < l.length) (hx : Tx.numAll l[k] = some x) (hn : Tx.num x = false) : nums (n - k) (l.drop k) = none := by
  obtain ⟨j, hj⟩ : ∃ j, n - k = j + 1 := ⟨n - k - 1, by omega⟩
  rw [hj, List.drop_eq_getElem_cons hk, nums, hx]
  simp only
  rw [if_neg (by rw [hn]; simp)]
theorem nums_go {l : List T8} {n k : Nat} {x : Int} (h : k < n) (hk : k < l.length) (hx : Tx.numAll l[k] = some x) (hn : Tx.num x = true) : nums (n - k) (l.drop k) = (nums (n - (k + 1)) (l.drop (k + 1))).map (x :: ·) := by
  obtain ⟨j, hj⟩ : ∃ j, n - k = j + 1 := ⟨n - k - 1, by omega⟩
  rw [hj, List.drop_eq_getElem_cons hk, nums, hx]
  simp only
  rw [if_pos hn, show n - (k + 1) = j by omega]
theorem map_app {α : Type} (o : Option (List α)) (a : List α) (x : α) : (o.map (x :: ·)).map (a ++ ·) = o.map ((a ++ [x]) ++ ·) := by
  cases o <;> simp
/-- what read leaves -/
def ReadOf (F : Option (List Int)) (l : List T8) (n g : Nat) (T : TypeId) (xs : List Value) (e : Ending) (w' : World) : Prop :=
  match F with
  | some ns => ∃ A' c', e = .returned (.tuple #[.slice A' (l.length - n) c', .bool true]) ∧ l.length - n ≤ c' ∧ Texts w' g A' (l.drop n) ∧ Row w' g T (Is ns ++ xs.drop n)
  | none => ∃ v, e = .returned (.tuple #[v, .bool false])
end No
theorem sliceN (W : World) (b off m n c : Nat) (hn : n ≤ m) (hc : m ≤ c) : ∃ A', (Instr.slice 45 (.slice (some ⟨b, off, none⟩) m c) (some (.int .i64 n)) none none).run Tryd.prog W = .ok (.slice A' (m - n) (c - n)) W ∧ (n < m → A' = some ⟨b, off + n, none⟩) := by
  have hz : (sizeOf (Tryd.prog.elem 45)).run Tryd.prog W = .ok 1 W := by kernel_rfl
  have e := run_slice_l (P := Tryd.prog) (w := W) (t := 45) (a := some ⟨b, off, none⟩) (len := m) (cap := c) (by kernel_rfl) (kl := .i64) (l := (n : Int)) (by omega) (by omega)
  rw [hz] at e
  simp only [Result.andThen, Int.toNat_natCast] at e
  unfold sliced at e
  refine ⟨_, e, fun h => ?_⟩
  rw [if_neg (by omega)]
  simp [Addr.add]
set_option maxRecDepth 20000 in
set_option maxHeartbeats 800000 in
theorem noRead_any (l : List No.T8) (A : Option Addr) (c n : Nat) (xs : List Value) (T : TypeId) (w : World) (g pb cp : Nat)
    (hl : ∀ x ∈ l, x.length ≤ 65536) (hll : l.length ≤ 2000) (hc : l.length ≤ c) (hT : Texts w g A l) (hg : Row w g T xs) (hp : Row w pb 98 (No.ptrs g n)) (hgp : g < pb) (hn : n ≤ xs.length) (h0 : 0 < n) (hn4 : n ≤ 100) :
    Calls Tryd.prog 71 #[.slice A l.length c, .slice (some ⟨pb, 0, none⟩) n cp] w fun e w' => No.ReadOf (No.nums n l) l n g T xs e w' ∧ Below g w w' := by
  by_cases hlt : l.length < n
  · rw [No.nums_short n l hlt]
    have hd : ((l.length : Int) < (n : Int)) := by omega
    clear hT hg hp
    go_enter Tryd.func71, Tryd.ntmps71
    go_wp2_with fail
    go_ret2
    exact ⟨⟨_, rfl⟩, Below.refl _ _⟩
  obtain ⟨b, off, rfl, hbg, hct⟩ := hT (by intro e; rw [e] at hlt; simp at hlt; omega)
  obtain ⟨m, hm⟩ : ∃ m, m = l.length := ⟨_, rfl⟩
  rw [← hm] at hlt hc hll ⊢
  have hnm : ¬ ((m : Int) < (n : Int)) := by omega
  have hgw : g < w.heap.size := hg.lt
  have HM := Lib.hid hm
  have Hl := Lib.hid hl
  have Hct := Lib.hid hct
  have Hg := Lib.hid hg
  have Hp := Lib.hid hp
  obtain ⟨F, hF⟩ : ∃ F, F = No.nums n l := ⟨_, rfl⟩
  rw [← hF]
  have HF := Lib.hid hF
  clear hm hl hct hT hg hp hF
  go_enter Tryd.func71, Tryd.ntmps71
  go_wp2_with fail
  go_loopw [18] (fun i wr => ∃ (k : Nat) (ns : List Int), k ≤ n ∧ i = .int .i64 k ∧ ns.length = k ∧ F = (No.nums (n - k) (l.drop k)).map (ns ++ ·) ∧ Row wr g T (Is ns ++ xs.drop k) ∧ Row wr pb 98 (No.ptrs g n) ∧ (∀ i (h : i < l.length), wr.cell? ⟨b, off + i, none⟩ = some (S l[i])) ∧ Below g w wr) (fun i _ => n - (intOf i).toNat)
  case atStart => exact ⟨0, [], Nat.zero_le _, rfl, rfl, by rw [HF.out]; simp, by simpa [Is] using Hg.out, Hp.out, Hct.out, Below.refl _ _⟩
  case round =>
    obtain ⟨k, ns, hk, rfl, hns, hFk, hru, hpk, hck, hbk⟩ := hrel
    have HFk := Lib.hid hFk
    have Hru := Lib.hid hru
    have Hpk := Lib.hid hpk
    have Hck := Lib.hid hck
    have Hbk := Lib.hid hbk
    have Hns := Lib.hid hns
    clear hFk hru hpk hck hbk hns Hg Hp Hct HF
    by_cases hkn : k < n
    · have hki : (k : Int) < (n : Int) := by omega
      have hkm : (k : Int) < (m : Int) := by omega
      have hkl : k < l.length := by rw [← HM.out]; omega
      have ctx := Hck.out k hkl
      have cp := No.ptrs_at Hpk.out k hkn
      obtain ⟨x, hx⟩ : ∃ x, x = l[k] := ⟨_, rfl⟩
      rw [← hx] at ctx
      have hxl : x.length ≤ 65536 := by rw [hx]; exact Hl.out _ (List.getElem_mem _)
      have RL : Hid (∀ W, Calls Tryd.prog 65 #[S x, .int .i64 0] W fun e w' => e = .returned (three (Oct.rdNum x 0).1 (Oct.rdNum x 0).2.1 (Oct.rdNum x 0).2.2) ∧ W = w') := fun W => by
        have := readNumber_any ⟨x.toArray⟩ 0 W (by show x.length ≤ _; omega)
        unfold rdNumV at this
        exact this
      have hall : Tx.numAll x = if (Oct.rdNum x 0).2.2 = 0 ∧ (Oct.rdNum x 0).2.1 = x.length then some (Oct.rdNum x 0).1 else none := rfl
      generalize (Oct.rdNum x 0).2.1 = q at *
      generalize (Oct.rdNum x 0).2.2 = er at *
      generalize (Oct.rdNum x 0).1 = y at *
      unfold three at RL
      by_cases he : er = 0
      · subst he
        by_cases hq : q = (x.length : Int)
        · rw [if_pos ⟨rfl, hq⟩] at hall
          have hqd : (q != (x.length : Int)) = false := by simpa using hq
          have hyb := Tx.num_numAll hall
          rcases Bool.eq_false_or_eq_true (Tx.num y) with hy | hy
          · have hgo := No.nums_go hkn hkl (by rw [← hx]; exact hall) hy
            have hF2 : F = (No.nums (n - (k + 1)) (l.drop (k + 1))).map ((ns ++ [y]) ++ ·) := by rw [HFk.out, hgo, No.map_app]
            have hlx : k < (Is ns ++ xs.drop k).length := by rw [List.length_append, List.length_drop]; unfold Is; rw [List.length_map, Hns.out]; omega
            have co := Hru.out.cell k hlx
            have fo := Hru.out.free k
            have hrn := Hru.out.set k (.int .i64 y) hlx
            have hset : (Is ns ++ xs.drop k).set k (.int .i64 y) = Is (ns ++ [y]) ++ xs.drop (k + 1) := by
              have hlI : (Is ns).length = k := by unfold Is; rw [List.length_map, Hns.out]
              rw [List.set_append_right _ _ (by omega), hlI, Nat.sub_self, List.drop_eq_getElem_cons (by omega : k < xs.length), List.set_cons_zero]
              unfold Is
              rw [List.map_append, List.append_assoc]
              rfl
            rw [hset] at hrn
            have NN : Hid (∀ W, Calls Tryd.prog 84 #[.int .i64 y] W fun e w' => e = .returned (.bool true) ∧ W = w') := fun W => by have := nnumber_any y W; rw [hy] at this; exact this
            have hbn : Below g w (wr.setCell ⟨g, k, none⟩ (.int .i64 y)) := below_put Hbk.out (Nat.le_refl _) (by have := Hbk.out.size; omega)
            have hpn := Hpk.out.kept (grownBy_set wr g k (.int .i64 y)) (by simp; omega)
            have hcn : ∀ i (h : i < l.length), (wr.setCell ⟨g, k, none⟩ (.int .i64 y)).cell? ⟨b, off + i, none⟩ = some (S l[i]) := fun i h => (grownBy_set wr g k (.int .i64 y)).cell (Hck.out i h) (by simp; omega)
            have HF2 := Lib.hid hF2
            have Hrn := Lib.hid hrn
            have Hbn := Lib.hid hbn
            have Hpn := Lib.hid hpn
            have Hcn := Lib.hid hcn
            have hnl : (ns ++ [y]).length = k + 1 := by rw [List.length_append, Hns.out]; rfl
            have Hnl := Lib.hid hnl
            generalize (Is ns ++ xs.drop k)[k] = ov at co
            clear hgo hF2 hrn hset hbn hpn hcn hall hx hq hy hnl
            go_wp2_with fail
            refine (RL.out _).mono ?_
            rintro _ w5 ⟨rfl, rfl⟩
            go_wp2_with fail
            refine (NN.out _).mono ?_
            rintro _ w5 ⟨rfl, rfl⟩
            go_wp2_with fail
            refine ⟨⟨k + 1, ns ++ [y], hkn, by go_num, Hnl.out, HF2.out, Hrn.out, Hpn.out, Hcn.out, Hbn.out⟩, by simp [intOf]; omega⟩
          · have hFn : F = none := by rw [HFk.out, No.nums_bad hkn hkl (by rw [← hx]; exact hall) hy]; rfl
            have NN : Hid (∀ W, Calls Tryd.prog 84 #[.int .i64 y] W fun e w' => e = .returned (.bool false) ∧ W = w') := fun W => by have := nnumber_any y W; rw [hy] at this; exact this
            have HFn := Lib.hid hFn
            clear hFn hall hx hq hy
            go_wp2_with fail
            refine (RL.out _).mono ?_
            rintro _ w5 ⟨rfl, rfl⟩
            go_wp2_with fail
            refine (NN.out _).mono ?_
            rintro _ w5 ⟨rfl, rfl⟩
            go_wp2_with fail
            go_ret2
            rw [HFn.out]
            exact ⟨⟨_, rfl⟩, Hbk.out⟩
        · rw [if_neg (fun h => hq h.2)] at hall
          have hFn : F = none := by rw [HFk.out, No.nums_none hkn hkl (by rw [← hx]; exact hall)]; rfl
          have hqd : (q != (x.length : Int)) = true := by simpa using hq
          have HFn := Lib.hid hFn
          clear hFn hall hx hq
          go_wp2_with fail
          refine (RL.out _).mono ?_
          rintro _ w5 ⟨rfl, rfl⟩
          go_wp2_with fail
          go_ret2
          rw [HFn.out]
          exact ⟨⟨_, rfl⟩, Hbk.out⟩
      · rw [if_neg (fun h => he h.1)] at hall
        have hFn : F = none := by rw [HFk.out, No.nums_none hkn hkl (by rw [← hx]; exact hall)]; rfl
        have hed : (er != 0) = true := by simpa using he
        have HFn := Lib.hid hFn
        clear hFn hall hx he
        go_wp2_with fail
        refine (RL.out _).mono ?_
        rintro _ w5 ⟨rfl, rfl⟩
        go_wp2_with fail
        go_ret2
        rw [HFn.out]
        exact ⟨⟨_, rfl⟩, Hbk.out⟩
    · have hki : (n : Int) ≤ (k : Int) := by omega
      obtain rfl : k = n := by omega
      have hFe : F = some ns := by rw [HFk.out, Nat.sub_self]; simp [No.nums]
      obtain ⟨A', hsl, hA'⟩ := sliceN wr b off m k c (by omega) hc
      have hlm := HM.out
      have htx : Texts wr g A' (l.drop k) := fun hne => by
        have hkm : k < m := by
          rw [hlm]
          exact Nat.lt_of_not_le fun h => hne (List.drop_of_length_le h)
        refine ⟨b, off + k, hA' hkm, hbg, fun i hi => ?_⟩
        rw [List.length_drop] at hi
        have := Hck.out (k + i) (by omega)
        rw [show off + k + i = off + (k + i) by omega, this]
        simp
      have HFe := Lib.hid hFe
      have Htx := Lib.hid htx
      clear hFe hA' hlm htx
      go_wp2_with fail
      go_ret2
      rw [HFe.out]
      exact ⟨⟨A', c - k, by rw [← HM.out]; rfl, by rw [← HM.out]; omega, Htx.out, Hru.out⟩, Hbk.out⟩
end Go.Proofs.YtinciddchpccnaaDoor
namespace Go.Proofs.YtinciddchpccnaaDoor
open Go.RowKit
set_option linter.unusedVariables false
set_option linter.unusedSimpArgs false

/-- a block as it was, and all below w0 -/
def RowIn (w0 W : World) (g : Nat) (T : TypeId) (C : List Value) : Prop := Row W g T C ∧ Below w0.heap.size w0 W
theorem RowIn.step {w0 W W' : World} {g : Nat} {T : TypeId} {C : List Value} (h : RowIn w0 W g T C) (hb : Below W.heap.size W W') : RowIn w0 W' g T C :=
  ⟨h.1.kept (grownBy_of_below hb none) (by simp), two_below' h.2 hb⟩
theorem RowIn.grown {w0 W W' : World} {g : Nat} {T : TypeId} {C : List Value} {r : Option Nat} (h : RowIn w0 W g T C) (hg : W.grownBy W' r) (hr : ∀ k, r = some k → w0.heap.size ≤ k) (hne : some g ≠ r) : RowIn w0 W' g T C :=
  ⟨h.1.kept hg hne, h.2.grown hg h.2.size hr⟩
theorem RowIn.drew {w0 W : World} {g : Nat} {T : TypeId} {C : List Value} (h : RowIn w0 W g T C) : RowIn w0 W.drew g T C := h.step (Below.refl _ _).drew
theorem RowIn.size {w0 W : World} {g : Nat} {T : TypeId} {C : List Value} (h : RowIn w0 W g T C) : w0.heap.size ≤ W.heap.size := h.2.size
/-- behind a call that makes memory, ahead of which a value was boxed -/
theorem rowIn_call {w w1 : World} {T : TypeId} {C : List Value} (h : Below (w.alloc (.cells C.toArray T)).heap.size (w.alloc (.cells C.toArray T)) w1) : RowIn w w1 w.heap.size T C :=
  ⟨(Row.new w T C).kept (grownBy_of_below h none) (by simp), tx_below (grownBy_of_below h none)⟩
theorem row_news {W : World} {g : Nat} {T : TypeId} {xs : List Value} (h : Row W g T xs) : ∀ j u, xs[j]? = some u → W.cell? ((⟨g, 0, none⟩ : Addr).add j) = some u := by
  intro j u hj
  obtain ⟨hlt, he⟩ := List.getElem?_eq_some_iff.1 hj
  have e : (⟨g, 0, none⟩ : Addr).add j = ⟨g, j, none⟩ := by unfold Addr.add; split <;> simp_all
  rw [e, h.cell j hlt, he]
theorem own_keeps {w0 W W' : World} {base n : Nat} {v : Value} {xs : List Value} {g : Nat} {T : TypeId} {C : List Value} (h : RowIn w0 W g T C) (hT : T ≠ 9) (hown : W.ownsRow base 9 1 v n xs) (hb : w0.heap.size ≤ base) (hg : W.grownBy W' v.ownBlock) : RowIn w0 W' g T C :=
  h.grown hg (fun k hk => Nat.le_trans hb (hown.lt k hk).1) (apart_of h.1 hT hown)
theorem list_owned (L : List (List UInt8)) {base k : Nat} {v : Value} {W : World} {xs : List Value} (hx : xs = L.map S) (h : W.ownsRow base 9 1 v (k + 1) xs) (hk : k + 1 = L.length) :
    Calls Tryd.prog 30 #[v] W fun e w' => e = .returned (.tuple #[S (Oct.listE L).1, .int .i64 (Oct.listE L).2]) ∧ Below W.heap.size W w' := by
  subst hx
  obtain ⟨g, cap, rfl⟩ := ownsRow_succ h
  exact list_own L base g (k + 1) cap W h hk
theorem no_row_below {base k : Nat} {W W' : World} {T : TypeId} {xs : List Value} (h : Row W k T xs) (hb : Below base W W') (hk : k < base) : Row W' k T xs := (hb.block k hk).trans h
end Go.Proofs.YtinciddchpccnaaDoor

/- ---- NoI ---- -/
/- notes: WriteItem. -/
/- notes: hashes. -/
namespace Go.Proofs.YtinciddchpccnaaDoor
open Go.RowKit
set_option linter.unusedVariables false
set_option linter.unusedSimpArgs false

namespace It
def cells (i : It) : List Value := [.int .i64 i.kind, .int .i64 i.who, .int .i64 i.n, .string i.text]
end It
/-- texts behind numbers: an owned row, appended to -/
theorem str5 : ∃ i0 : TypeInfo, Tryd.prog.info? 9 = some i0 ∧ i0.zero = some (.string ByteArray.empty) ∧ i0.size = 1 ∧ i0.bytes = 16 := by
  obtain ⟨i0, hi, h2⟩ := Option.map_eq_some_iff.1 str_info5
  simp only [Prod.mk.injEq] at h2
  exact ⟨i0, hi, h2.1, h2.2.1, h2.2.2⟩
set_option maxRecDepth 20000 in
theorem writeItem_no (i : It) (w : World) (h : i.ok = false) :
    Calls Tryd.prog 76 #[.agg i.cells.toArray] w fun e w' => e = .returned (.tuple #[S [], .int .i64 2]) ∧ Below w.heap.size w w' := by
  have MB := fun W => itemMayBe_any i.kind i.who i.n i.text W
  unfold It.ok at h
  rw [h] at MB
  have HMB := Lib.hid MB
  clear MB h
  unfold It.cells
  go_enter Tryd.func76, Tryd.ntmps76
  go_wp2_with fail
  refine (HMB.out _).mono ?_
  rintro _ w1 ⟨rfl, hb1⟩
  have Hb1 := Lib.hid (tx_below (grownBy_of_below hb1 none))
  clear hb1
  go_wp2_with fail
  go_ret2
  exact ⟨rfl, Hb1.out⟩
set_option maxRecDepth 20000 in
set_option maxHeartbeats 1600000 in
theorem writeItem_ok (i : It) (w : World) (h : i.ok = true) :
    Calls Tryd.prog 76 #[.agg i.cells.toArray] w fun e w' => e = .returned (.tuple #[S (Oct.listE i.fields).1, .int .i64 (Oct.listE i.fields).2]) ∧ Below w.heap.size w w' := by
  obtain ⟨i0, hi, hz, hs, hby⟩ := str5
  have Hi := Lib.hid hi
  have Hz := Lib.hid hz
  have Hs := Lib.hid hs
  have Hby := Lib.hid hby
  have hn := It.ok_num h
  simp only [No.num_iff] at hn
  have MB := fun W => itemMayBe_any i.kind i.who i.n i.text W
  unfold It.ok at h
  rw [h] at MB
  have HMB := Lib.hid MB
  have NB : Hid (∀ (W : World) (nb : Nat), Row W nb 3 (Is [i.kind, i.who, i.n]) → Calls Tryd.prog 57 #[.slice (some ⟨nb, 0, none⟩) 3 3] W fun e w' => ∃ v, e = .returned v ∧ w'.ownsRow W.heap.size 9 1 v 3 ([Oct.num i.kind.toNat, Oct.num i.who.toNat, Oct.num i.n.toNat].map S) ∧ Below W.heap.size W w') := fun W nb hN =>
    numbers_any [i.kind, i.who, i.n] 3 (by intro x hx; simp at hx; rcases hx with rfl | rfl | rfl <;> omega) W nb hN (by simp)
  have hff : [Oct.num i.kind.toNat, Oct.num i.who.toNat, Oct.num i.n.toNat].map S ++ [Value.string i.text] = i.fields.map S := rfl
  have Hff := Lib.hid hff
  have hfl : 3 = i.fields.length - 1 := rfl
  have hfl4 : 3 + 1 = i.fields.length := rfl
  have Hfl := Lib.hid hfl4
  unfold It.cells
  generalize i.fields = L at *
  generalize [Oct.num i.kind.toNat, Oct.num i.who.toNat, Oct.num i.n.toNat].map S = NS at *
  generalize i.kind = kd at *
  generalize i.who = who at *
  generalize i.n = n at *
  generalize i.text = tx at *
  clear hi hz hs hby hn MB h hff hfl hfl4
  go_enter Tryd.func76, Tryd.ntmps76
  go_wp2_with fail
  refine (HMB.out _).mono ?_
  rintro _ w1 ⟨rfl, hb1⟩
  have hS0 : RowIn w w1.drew w.heap.size 59 [.int .i64 kd, .int .i64 who, .int .i64 n, .string tx] := (rowIn_call hb1).drew
  have HS0 := Lib.hid hS0
  clear hb1 hS0
  go_wp2_with fail
  refine wp_region_held_drew (S := fun w' => RowIn w w' w.heap.size 59 [.int .i64 kd, .int .i64 who, .int .i64 n, .string tx]) (by kernel_rfl) (HS0.out) (fun hHeld => ?_)
  generalize w1.drew = w9 at *
  refine wpAnyH_take (i := 0) (v := .pointer (some ⟨w.heap.size, 0, none⟩)) rfl (by kernel_rfl) (by kernel_rfl) (by kernel_rfl) (fun _ _ _ h => h) (Or.inl ⟨by rfl, fun w' hSw => by go_simp⟩) hHeld ?_
  try simp only [Act.put, List.getElem_toArray, List.getElem_cons_succ, List.getElem_cons_zero, List.setIfInBounds_toArray, List.set_cons_zero, List.set_cons_succ]
  refine wpAnyH_take (i := 1) (v := .int .i64 kd) rfl (by kernel_rfl) (by kernel_rfl) (by kernel_rfl) (fun _ _ _ h => h) (Or.inl ⟨by rfl, fun w' hSw => by have hq := hSw; have hc := hq.1.cell 0 (by simp); go_simp⟩) hHeld ?_
  try simp only [Act.put, List.getElem_toArray, List.getElem_cons_succ, List.getElem_cons_zero, List.setIfInBounds_toArray, List.set_cons_zero, List.set_cons_succ]
  refine wpAnyH_take (i := 2) (v := .pointer (some ⟨w.heap.size, 1, none⟩)) rfl (by kernel_rfl) (by kernel_rfl) (by kernel_rfl) (fun _ _ _ h => h) (Or.inl ⟨by rfl, fun w' hSw => by go_simp⟩) hHeld ?_
  try simp only [Act.put, List.getElem_toArray, List.getElem_cons_succ, List.getElem_cons_zero, List.setIfInBounds_toArray, List.set_cons_zero, List.set_cons_succ]
  refine wpAnyH_take (i := 3) (v := .int .i64 who) rfl (by kernel_rfl) (by kernel_rfl) (by kernel_rfl) (fun _ _ _ h => h) (Or.inl ⟨by rfl, fun w' hSw => by have hq := hSw; have hc := hq.1.cell 1 (by simp); go_simp⟩) hHeld ?_
  try simp only [Act.put, List.getElem_toArray, List.getElem_cons_succ, List.getElem_cons_zero, List.setIfInBounds_toArray, List.set_cons_zero, List.set_cons_succ]
  refine wpAnyH_take (i := 4) (v := .pointer (some ⟨w.heap.size, 2, none⟩)) rfl (by kernel_rfl) (by kernel_rfl) (by kernel_rfl) (fun _ _ _ h => h) (Or.inl ⟨by rfl, fun w' hSw => by go_simp⟩) hHeld ?_
  try simp only [Act.put, List.getElem_toArray, List.getElem_cons_succ, List.getElem_cons_zero, List.setIfInBounds_toArray, List.set_cons_zero, List.set_cons_succ]
  refine wpAnyH_take (i := 5) (v := .int .i64 n) rfl (by kernel_rfl) (by kernel_rfl) (by kernel_rfl) (fun _ _ _ h => h) (Or.inl ⟨by rfl, fun w' hSw => by have hq := hSw; have hc := hq.1.cell 2 (by simp); go_simp⟩) hHeld ?_
  try simp only [Act.put, List.getElem_toArray, List.getElem_cons_succ, List.getElem_cons_zero, List.setIfInBounds_toArray, List.set_cons_zero, List.set_cons_succ]
  refine wpAnyH_take (i := 8) (v := .pointer (some ⟨w.heap.size, 3, none⟩)) rfl (by kernel_rfl) (by kernel_rfl) (by kernel_rfl) (fun _ _ _ h => h) (Or.inl ⟨by rfl, fun w' hSw => by go_simp⟩) hHeld ?_
  try simp only [Act.put, List.getElem_toArray, List.getElem_cons_succ, List.getElem_cons_zero, List.setIfInBounds_toArray, List.set_cons_zero, List.set_cons_succ]
  refine wpAnyH_take (i := 9) (v := .string tx) rfl (by kernel_rfl) (by kernel_rfl) (by kernel_rfl) (fun _ _ _ h => h) (Or.inl ⟨by rfl, fun w' hSw => by have hq := hSw; have hc := hq.1.cell 3 (by simp); go_simp⟩) hHeld ?_
  try simp only [Act.put, List.getElem_toArray, List.getElem_cons_succ, List.getElem_cons_zero, List.setIfInBounds_toArray, List.set_cons_zero, List.set_cons_succ]
  refine wpAnyH_ready (rs := [6, 10]) (by kernel_rfl) (by simp) (AllReadyH.cons rfl (fun K1 hK1 => ?_) (AllReadyH.cons rfl (fun K1 hK1 => ?_) AllReadyH.nil))
  · skip
    try simp only [Act.put, List.getElem_toArray, List.getElem_cons_succ, List.getElem_cons_zero, List.setIfInBounds_toArray, List.set_cons_zero, List.set_cons_succ]
    go_simp
    have hd2 := (Below.refl w9.heap.size w9).alloc (Nat.le_refl _) (.cells #[.int .i64 kd, .int .i64 who, .int .i64 n] 3)
    have r1 : Row (w9.alloc (.cells #[.int .i64 kd, .int .i64 who, .int .i64 n] 3)) w9.heap.size 3 (Is [kd, who, n]) := Row.new w9 3 (Is [kd, who, n])
    have hHeld2 := hHeld.step hd2
    generalize w9.alloc (.cells #[.int .i64 kd, .int .i64 who, .int .i64 n] 3) = wb1 at *
    obtain ⟨gb3, gb3e⟩ : ∃ gb3, gb3 = w9.heap.size := ⟨_, rfl⟩
    rw [← gb3e] at r1 ⊢
    refine hK1.out _ _ (hHeld2) (fun hHeld => ?_)
    clear hK1 K1
    try simp only [Act.put, List.getElem_toArray, List.getElem_cons_succ, List.getElem_cons_zero, List.setIfInBounds_toArray, List.set_cons_zero, List.set_cons_succ]
    clear hHeld2 gb3e
    refine wpAnyH_ready (rs := [7, 10]) (by kernel_rfl) (by simp) (AllReadyH.cons rfl (fun K1 hK1 => ?_) (AllReadyH.cons rfl (fun K1 hK1 => ?_) AllReadyH.nil))
    · skip
      try simp only [Act.put, List.getElem_toArray, List.getElem_cons_succ, List.getElem_cons_zero, List.setIfInBounds_toArray, List.set_cons_zero, List.set_cons_succ]
      go_simp
      refine Calls.mono (NB.out _ _ r1) ?_
      rintro e wn4 ⟨vN, rfl, hown, hn5⟩
      have hown := hown.mono hHeld.size
      clear r1
      refine hK1.out _ _ (hHeld.step hn5) (fun hHeld => ?_)
      clear hK1 K1
      try simp only [Act.put, List.getElem_toArray, List.getElem_cons_succ, List.getElem_cons_zero, List.setIfInBounds_toArray, List.set_cons_zero, List.set_cons_succ]
      refine wpAnyH_ready (rs := [10]) (by kernel_rfl) (by simp) (AllReadyH.cons rfl (fun K1 hK1 => ?_) AllReadyH.nil)
      try simp only [Act.put, List.getElem_toArray, List.getElem_cons_succ, List.getElem_cons_zero, List.setIfInBounds_toArray, List.set_cons_zero, List.set_cons_succ]
      go_simp
      have hd7 := (Below.refl wn4.heap.size wn4).alloc (Nat.le_refl _) (.cells #[.string tx] 9)
      have r2 : Row (wn4.alloc (.cells #[.string tx] 9)) wn4.heap.size 9 ([.string tx]) := Row.new wn4 9 ([.string tx])
      have hown := own_below hown hd7
      have hHeld2 := hHeld.step hd7
      generalize wn4.alloc (.cells #[.string tx] 9) = wb6 at *
      obtain ⟨gb8, gb8e⟩ : ∃ gb8, gb8 = wn4.heap.size := ⟨_, rfl⟩
      rw [← gb8e] at r2 ⊢
      refine hK1.out _ _ (hHeld2) (fun hHeld => ?_)
      clear hK1 K1
      try simp only [Act.put, List.getElem_toArray, List.getElem_cons_succ, List.getElem_cons_zero, List.setIfInBounds_toArray, List.set_cons_zero, List.set_cons_succ]
      clear hHeld2 gb8e
      refine wpAnyH_ready (rs := [11]) (by kernel_rfl) (by simp) (AllReadyH.cons rfl (fun K1 hK1 => ?_) AllReadyH.nil)
      try simp only [Act.put, List.getElem_toArray, List.getElem_cons_succ, List.getElem_cons_zero, List.setIfInBounds_toArray, List.set_cons_zero, List.set_cons_succ]
      rw [if_pos (by rfl)]
      refine wp_append_own_wide wb6 _ _ 45 rfl w.heap.size 9 i0 (.string ByteArray.empty) 1 16 Tryd.underlying45 Hi.out Hz.out Hs.out Hby.out rfl (by decide) vN 3 NS rfl hown ⟨gb8, 0, none⟩ 1 1 [.string tx] rfl rfl (row_news r2) (by intro u hu; simp at hu; first | (subst hu; rfl) | (rcases hu with rfl | rfl <;> rfl)) (by unfold maxLen; omega) (by omega) hHeld.size fun vP wp9 hownP hgrow _ => ?_
      have hHeld2 := own_keeps hHeld (by decide) hown (Nat.le_refl _) hgrow
      clear hown r2 hgrow
      refine hK1.out _ _ (hHeld2) (fun hHeld => ?_)
      clear hK1 K1
      try simp only [Act.put, List.getElem_toArray, List.getElem_cons_succ, List.getElem_cons_zero, List.setIfInBounds_toArray, List.set_cons_zero, List.set_cons_succ]
      refine wpAnyH_ready (rs := [12]) (by kernel_rfl) (by simp) (AllReadyH.cons rfl (fun K1 hK1 => ?_) AllReadyH.nil)
      try simp only [Act.put, List.getElem_toArray, List.getElem_cons_succ, List.getElem_cons_zero, List.setIfInBounds_toArray, List.set_cons_zero, List.set_cons_succ]
      go_simp
      refine Calls.mono (list_owned L Hff.out hownP Hfl.out) ?_
      rintro e wl10 ⟨rfl, hl11⟩
      refine hK1.out _ _ (hHeld.step hl11) (fun hHeld => ?_)
      clear hK1 K1
      try simp only [Act.put, List.getElem_toArray, List.getElem_cons_succ, List.getElem_cons_zero, List.setIfInBounds_toArray, List.set_cons_zero, List.set_cons_succ]
      refine wpAnyH_take (i := 13) (v := S (Oct.listE L).1) rfl (by kernel_rfl) (by kernel_rfl) (by kernel_rfl) (fun _ _ _ h => h) (Or.inl ⟨by rfl, fun w' hSw => by go_simp⟩) hHeld ?_
      try simp only [Act.put, List.getElem_toArray, List.getElem_cons_succ, List.getElem_cons_zero, List.setIfInBounds_toArray, List.set_cons_zero, List.set_cons_succ]
      refine wpAnyH_take (i := 14) (v := .int .i64 (Oct.listE L).2) rfl (by kernel_rfl) (by kernel_rfl) (by kernel_rfl) (fun _ _ _ h => h) (Or.inl ⟨by rfl, fun w' hSw => by go_simp⟩) hHeld ?_
      try simp only [Act.put, List.getElem_toArray, List.getElem_cons_succ, List.getElem_cons_zero, List.setIfInBounds_toArray, List.set_cons_zero, List.set_cons_succ]
      refine wpAnyH_take (i := 15) (v := S (Oct.listE L).1) rfl (by kernel_rfl) (by kernel_rfl) (by kernel_rfl) (fun _ _ _ h => h) (Or.inl ⟨by rfl, fun w' hSw => by go_simp⟩) hHeld ?_
      try simp only [Act.put, List.getElem_toArray, List.getElem_cons_succ, List.getElem_cons_zero, List.setIfInBounds_toArray, List.set_cons_zero, List.set_cons_succ]
      refine wpAnyH_take (i := 16) (v := .int .i64 (Oct.listE L).2) rfl (by kernel_rfl) (by kernel_rfl) (by kernel_rfl) (fun _ _ _ h => h) (Or.inl ⟨by rfl, fun w' hSw => by go_simp⟩) hHeld ?_
      try simp only [Act.put, List.getElem_toArray, List.getElem_cons_succ, List.getElem_cons_zero, List.setIfInBounds_toArray, List.set_cons_zero, List.set_cons_succ]
      refine wpAnyH_done (by kernel_rfl) ?_ _
      have Hbe := Lib.hid hHeld.2
      clear hHeld
      go_wp2_with fail
      go_ret2
      exact ⟨rfl, Hbe.out⟩
    · skip
      try simp only [Act.put, List.getElem_toArray, List.getElem_cons_succ, List.getElem_cons_zero, List.setIfInBounds_toArray, List.set_cons_zero, List.set_cons_succ]
      go_simp
      have hd13 := (Below.refl wb1.heap.size wb1).alloc (Nat.le_refl _) (.cells #[.string tx] 9)
      have r2 : Row (wb1.alloc (.cells #[.string tx] 9)) wb1.heap.size 9 ([.string tx]) := Row.new wb1 9 ([.string tx])
      have r1 := r1.kept (grownBy_of_below hd13 none) (by simp)
      have hHeld2 := hHeld.step hd13
      generalize wb1.alloc (.cells #[.string tx] 9) = wb12 at *
      obtain ⟨gb14, gb14e⟩ : ∃ gb14, gb14 = wb1.heap.size := ⟨_, rfl⟩
      rw [← gb14e] at r2 ⊢
      refine hK1.out _ _ (hHeld2) (fun hHeld => ?_)
      clear hK1 K1
      try simp only [Act.put, List.getElem_toArray, List.getElem_cons_succ, List.getElem_cons_zero, List.setIfInBounds_toArray, List.set_cons_zero, List.set_cons_succ]
      clear hHeld2 gb14e
      refine wpAnyH_ready (rs := [7]) (by kernel_rfl) (by simp) (AllReadyH.cons rfl (fun K1 hK1 => ?_) AllReadyH.nil)
      try simp only [Act.put, List.getElem_toArray, List.getElem_cons_succ, List.getElem_cons_zero, List.setIfInBounds_toArray, List.set_cons_zero, List.set_cons_succ]
      go_simp
      refine Calls.mono (NB.out _ _ r1) ?_
      rintro e wn15 ⟨vN, rfl, hown, hn16⟩
      have hown := hown.mono hHeld.size
      clear r1
      have r2 := r2.kept (grownBy_of_below hn16 none) (by simp)
      refine hK1.out _ _ (hHeld.step hn16) (fun hHeld => ?_)
      clear hK1 K1
      try simp only [Act.put, List.getElem_toArray, List.getElem_cons_succ, List.getElem_cons_zero, List.setIfInBounds_toArray, List.set_cons_zero, List.set_cons_succ]
      refine wpAnyH_ready (rs := [11]) (by kernel_rfl) (by simp) (AllReadyH.cons rfl (fun K1 hK1 => ?_) AllReadyH.nil)
      try simp only [Act.put, List.getElem_toArray, List.getElem_cons_succ, List.getElem_cons_zero, List.setIfInBounds_toArray, List.set_cons_zero, List.set_cons_succ]
      rw [if_pos (by rfl)]
      refine wp_append_own_wide wn15 _ _ 45 rfl w.heap.size 9 i0 (.string ByteArray.empty) 1 16 Tryd.underlying45 Hi.out Hz.out Hs.out Hby.out rfl (by decide) vN 3 NS rfl hown ⟨gb14, 0, none⟩ 1 1 [.string tx] rfl rfl (row_news r2) (by intro u hu; simp at hu; first | (subst hu; rfl) | (rcases hu with rfl | rfl <;> rfl)) (by unfold maxLen; omega) (by omega) hHeld.size fun vP wp17 hownP hgrow _ => ?_
      have hHeld2 := own_keeps hHeld (by decide) hown (Nat.le_refl _) hgrow
      clear hown r2 hgrow
      refine hK1.out _ _ (hHeld2) (fun hHeld => ?_)
      clear hK1 K1
      try simp only [Act.put, List.getElem_toArray, List.getElem_cons_succ, List.getElem_cons_zero, List.setIfInBounds_toArray, List.set_cons_zero, List.set_cons_succ]
      refine wpAnyH_ready (rs := [12]) (by kernel_rfl) (by simp) (AllReadyH.cons rfl (fun K1 hK1 => ?_) AllReadyH.nil)
      try simp only [Act.put, List.getElem_toArray, List.getElem_cons_succ, List.getElem_cons_zero, List.setIfInBounds_toArray, List.set_cons_zero, List.set_cons_succ]
      go_simp
      refine Calls.mono (list_owned L Hff.out hownP Hfl.out) ?_
      rintro e wl18 ⟨rfl, hl19⟩
      refine hK1.out _ _ (hHeld.step hl19) (fun hHeld => ?_)
      clear hK1 K1
      try simp only [Act.put, List.getElem_toArray, List.getElem_cons_succ, List.getElem_cons_zero, List.setIfInBounds_toArray, List.set_cons_zero, List.set_cons_succ]
      refine wpAnyH_take (i := 13) (v := S (Oct.listE L).1) rfl (by kernel_rfl) (by kernel_rfl) (by kernel_rfl) (fun _ _ _ h => h) (Or.inl ⟨by rfl, fun w' hSw => by go_simp⟩) hHeld ?_
      try simp only [Act.put, List.getElem_toArray, List.getElem_cons_succ, List.getElem_cons_zero, List.setIfInBounds_toArray, List.set_cons_zero, List.set_cons_succ]
      refine wpAnyH_take (i := 14) (v := .int .i64 (Oct.listE L).2) rfl (by kernel_rfl) (by kernel_rfl) (by kernel_rfl) (fun _ _ _ h => h) (Or.inl ⟨by rfl, fun w' hSw => by go_simp⟩) hHeld ?_
      try simp only [Act.put, List.getElem_toArray, List.getElem_cons_succ, List.getElem_cons_zero, List.setIfInBounds_toArray, List.set_cons_zero, List.set_cons_succ]
      refine wpAnyH_take (i := 15) (v := S (Oct.listE L).1) rfl (by kernel_rfl) (by kernel_rfl) (by kernel_rfl) (fun _ _ _ h => h) (Or.inl ⟨by rfl, fun w' hSw => by go_simp⟩) hHeld ?_
      try simp only [Act.put, List.getElem_toArray, List.getElem_cons_succ, List.getElem_cons_zero, List.setIfInBounds_toArray, List.set_cons_zero, List.set_cons_succ]
      refine wpAnyH_take (i := 16) (v := .int .i64 (Oct.listE L).2) rfl (by kernel_rfl) (by kernel_rfl) (by kernel_rfl) (fun _ _ _ h => h) (Or.inl ⟨by rfl, fun w' hSw => by go_simp⟩) hHeld ?_
      try simp only [Act.put, List.getElem_toArray, List.getElem_cons_succ, List.getElem_cons_zero, List.setIfInBounds_toArray, List.set_cons_zero, List.set_cons_succ]
      refine wpAnyH_done (by kernel_rfl) ?_ _
      have Hbe := Lib.hid hHeld.2
      clear hHeld
      go_wp2_with fail
      go_ret2
      exact ⟨rfl, Hbe.out⟩
  · skip
    try simp only [Act.put, List.getElem_toArray, List.getElem_cons_succ, List.getElem_cons_zero, List.setIfInBounds_toArray, List.set_cons_zero, List.set_cons_succ]
    go_simp
    have hd21 := (Below.refl w9.heap.size w9).alloc (Nat.le_refl _) (.cells #[.string tx] 9)
    have r2 : Row (w9.alloc (.cells #[.string tx] 9)) w9.heap.size 9 ([.string tx]) := Row.new w9 9 ([.string tx])
    have hHeld2 := hHeld.step hd21
    generalize w9.alloc (.cells #[.string tx] 9) = wb20 at *
    obtain ⟨gb22, gb22e⟩ : ∃ gb22, gb22 = w9.heap.size := ⟨_, rfl⟩
    rw [← gb22e] at r2 ⊢
    refine hK1.out _ _ (hHeld2) (fun hHeld => ?_)
    clear hK1 K1
    try simp only [Act.put, List.getElem_toArray, List.getElem_cons_succ, List.getElem_cons_zero, List.setIfInBounds_toArray, List.set_cons_zero, List.set_cons_succ]
    clear hHeld2 gb22e
    refine wpAnyH_ready (rs := [6]) (by kernel_rfl) (by simp) (AllReadyH.cons rfl (fun K1 hK1 => ?_) AllReadyH.nil)
    try simp only [Act.put, List.getElem_toArray, List.getElem_cons_succ, List.getElem_cons_zero, List.setIfInBounds_toArray, List.set_cons_zero, List.set_cons_succ]
    go_simp
    have hd24 := (Below.refl wb20.heap.size wb20).alloc (Nat.le_refl _) (.cells #[.int .i64 kd, .int .i64 who, .int .i64 n] 3)
    have r1 : Row (wb20.alloc (.cells #[.int .i64 kd, .int .i64 who, .int .i64 n] 3)) wb20.heap.size 3 (Is [kd, who, n]) := Row.new wb20 3 (Is [kd, who, n])
    have r2 := r2.kept (grownBy_of_below hd24 none) (by simp)
    have hHeld2 := hHeld.step hd24
    generalize wb20.alloc (.cells #[.int .i64 kd, .int .i64 who, .int .i64 n] 3) = wb23 at *
    obtain ⟨gb25, gb25e⟩ : ∃ gb25, gb25 = wb20.heap.size := ⟨_, rfl⟩
    rw [← gb25e] at r1 ⊢
    refine hK1.out _ _ (hHeld2) (fun hHeld => ?_)
    clear hK1 K1
    try simp only [Act.put, List.getElem_toArray, List.getElem_cons_succ, List.getElem_cons_zero, List.setIfInBounds_toArray, List.set_cons_zero, List.set_cons_succ]
    clear hHeld2 gb25e
    refine wpAnyH_ready (rs := [7]) (by kernel_rfl) (by simp) (AllReadyH.cons rfl (fun K1 hK1 => ?_) AllReadyH.nil)
    try simp only [Act.put, List.getElem_toArray, List.getElem_cons_succ, List.getElem_cons_zero, List.setIfInBounds_toArray, List.set_cons_zero, List.set_cons_succ]
    go_simp
    refine Calls.mono (NB.out _ _ r1) ?_
    rintro e wn26 ⟨vN, rfl, hown, hn27⟩
    have hown := hown.mono hHeld.size
    clear r1
    have r2 := r2.kept (grownBy_of_below hn27 none) (by simp)
    refine hK1.out _ _ (hHeld.step hn27) (fun hHeld => ?_)
    clear hK1 K1
    try simp only [Act.put, List.getElem_toArray, List.getElem_cons_succ, List.getElem_cons_zero, List.setIfInBounds_toArray, List.set_cons_zero, List.set_cons_succ]
    refine wpAnyH_ready (rs := [11]) (by kernel_rfl) (by simp) (AllReadyH.cons rfl (fun K1 hK1 => ?_) AllReadyH.nil)
    try simp only [Act.put, List.getElem_toArray, List.getElem_cons_succ, List.getElem_cons_zero, List.setIfInBounds_toArray, List.set_cons_zero, List.set_cons_succ]
    rw [if_pos (by rfl)]
    refine wp_append_own_wide wn26 _ _ 45 rfl w.heap.size 9 i0 (.string ByteArray.empty) 1 16 Tryd.underlying45 Hi.out Hz.out Hs.out Hby.out rfl (by decide) vN 3 NS rfl hown ⟨gb22, 0, none⟩ 1 1 [.string tx] rfl rfl (row_news r2) (by intro u hu; simp at hu; first | (subst hu; rfl) | (rcases hu with rfl | rfl <;> rfl)) (by unfold maxLen; omega) (by omega) hHeld.size fun vP wp28 hownP hgrow _ => ?_
    have hHeld2 := own_keeps hHeld (by decide) hown (Nat.le_refl _) hgrow
    clear hown r2 hgrow
    refine hK1.out _ _ (hHeld2) (fun hHeld => ?_)
    clear hK1 K1
    try simp only [Act.put, List.getElem_toArray, List.getElem_cons_succ, List.getElem_cons_zero, List.setIfInBounds_toArray, List.set_cons_zero, List.set_cons_succ]
    refine wpAnyH_ready (rs := [12]) (by kernel_rfl) (by simp) (AllReadyH.cons rfl (fun K1 hK1 => ?_) AllReadyH.nil)
    try simp only [Act.put, List.getElem_toArray, List.getElem_cons_succ, List.getElem_cons_zero, List.setIfInBounds_toArray, List.set_cons_zero, List.set_cons_succ]
    go_simp
    refine Calls.mono (list_owned L Hff.out hownP Hfl.out) ?_
    rintro e wl29 ⟨rfl, hl30⟩
    refine hK1.out _ _ (hHeld.step hl30) (fun hHeld => ?_)
    clear hK1 K1
    try simp only [Act.put, List.getElem_toArray, List.getElem_cons_succ, List.getElem_cons_zero, List.setIfInBounds_toArray, List.set_cons_zero, List.set_cons_succ]
    refine wpAnyH_take (i := 13) (v := S (Oct.listE L).1) rfl (by kernel_rfl) (by kernel_rfl) (by kernel_rfl) (fun _ _ _ h => h) (Or.inl ⟨by rfl, fun w' hSw => by go_simp⟩) hHeld ?_
    try simp only [Act.put, List.getElem_toArray, List.getElem_cons_succ, List.getElem_cons_zero, List.setIfInBounds_toArray, List.set_cons_zero, List.set_cons_succ]
    refine wpAnyH_take (i := 14) (v := .int .i64 (Oct.listE L).2) rfl (by kernel_rfl) (by kernel_rfl) (by kernel_rfl) (fun _ _ _ h => h) (Or.inl ⟨by rfl, fun w' hSw => by go_simp⟩) hHeld ?_
    try simp only [Act.put, List.getElem_toArray, List.getElem_cons_succ, List.getElem_cons_zero, List.setIfInBounds_toArray, List.set_cons_zero, List.set_cons_succ]
    refine wpAnyH_take (i := 15) (v := S (Oct.listE L).1) rfl (by kernel_rfl) (by kernel_rfl) (by kernel_rfl) (fun _ _ _ h => h) (Or.inl ⟨by rfl, fun w' hSw => by go_simp⟩) hHeld ?_
    try simp only [Act.put, List.getElem_toArray, List.getElem_cons_succ, List.getElem_cons_zero, List.setIfInBounds_toArray, List.set_cons_zero, List.set_cons_succ]
    refine wpAnyH_take (i := 16) (v := .int .i64 (Oct.listE L).2) rfl (by kernel_rfl) (by kernel_rfl) (by kernel_rfl) (fun _ _ _ h => h) (Or.inl ⟨by rfl, fun w' hSw => by go_simp⟩) hHeld ?_
    try simp only [Act.put, List.getElem_toArray, List.getElem_cons_succ, List.getElem_cons_zero, List.setIfInBounds_toArray, List.set_cons_zero, List.set_cons_succ]
    refine wpAnyH_done (by kernel_rfl) ?_ _
    have Hbe := Lib.hid hHeld.2
    clear hHeld
    go_wp2_with fail
    go_ret2
    exact ⟨rfl, Hbe.out⟩
theorem writeItem_any (i : It) (w : World) :
    Calls Tryd.prog 76 #[i.v] w fun e w' => e = .returned (two i.textE.1 i.textE.2) ∧ Below w.heap.size w w' := by
  unfold It.textE
  rcases Bool.eq_false_or_eq_true i.ok with h | h
  · rw [if_pos h]; exact writeItem_ok i w h
  · rw [if_neg (by rw [h]; simp)]; exact writeItem_no i w h
end Go.Proofs.YtinciddchpccnaaDoor
namespace Go.Proofs.YtinciddchpccnaaDoor
open Go.RowKit
set_option linter.unusedVariables false
set_option linter.unusedSimpArgs false

namespace No
def AllH (l : List T8) : Prop := ∀ h ∈ l, h.length = 32
end No
end Go.Proofs.YtinciddchpccnaaDoor

/- ---- TxRef ---- -/
/- The reference of layer 4: number, Body. -/
namespace Go.Proofs.YtinciddchpccnaaDoor
open Go.RowKit
set_option linter.unusedVariables false
set_option linter.unusedSimpArgs false

theorem own_lit (w : World) (base k : Nat) (L : List (List UInt8)) (hk : k = L.length) (hb : base ≤ w.heap.size) (hl : k ≤ 1000) : (w.alloc (.cells (L.map S).toArray 9)).ownsRow base 9 1 (.slice (some ⟨w.heap.size, 0, none⟩) k k) k (L.map S) := by
  subst hk
  refine ⟨by simp, .inr ⟨w.heap.size, L.length, (L.map S).toArray, rfl, hb, heap_alloc_new w _, Nat.le_refl _, by unfold maxLen; omega, by simp, by simp [List.take_of_length_le]⟩⟩
end Go.Proofs.YtinciddchpccnaaDoor

/- ---- TxRead4 ---- -/
/- tx.Read. -/
namespace Go.Proofs.YtinciddchpccnaaDoor
open Go.RowKit
set_option linter.unusedVariables false
set_option linter.unusedSimpArgs false

namespace Tx
end Tx
theorem bytes_below (w : World) (e : TypeId) (s : ByteArray) : Below w.heap.size w (Lib.bytesWorld w e s) :=
  ⟨rfl, rfl, rfl, by rw [Lib.bytesWorld_size]; omega, fun k hk => Lib.bytesWorld_at_old w e s k hk⟩
/-- a text of 32 bytes as a new row -/
theorem conv32 (W : World) (x : List UInt8) (hx : x.length = 32) : ∃ cp Wc, (convert 9 48 (S x)).run Tryd.prog W = .ok (.slice (some ⟨W.heap.size, 0, none⟩) 32 cp) Wc ∧ W.grownBy Wc none ∧ Wc.rangeAt W.heap.size 0 (bRow x).toList := by
  have h := Lib.run_convert_string_bytes (P := Tryd.prog) W 9 48 5 ⟨x.toArray⟩ Tryd.underlying9 Tryd.underlying48 Tryd.underlying5
  have hs : (⟨x.toArray⟩ : ByteArray).size = 32 := hx
  rw [hs] at h
  refine ⟨_, _, h, grownBy_of_below (bytes_below W 5 ⟨x.toArray⟩) none, ?_⟩
  intro j v hv
  rw [bRow_yRow x hx] at hv
  unfold yRow at hv
  simp only [List.getElem?_map] at hv
  obtain ⟨b, hb, rfl⟩ := Option.map_eq_some_iff.1 hv
  obtain ⟨hj, hb'⟩ := List.getElem?_eq_some_iff.1 hb
  rw [Nat.zero_add, Lib.bytesWorld_cell W 5 ⟨x.toArray⟩ j (by rw [hs, ← hx]; exact hj)]
  simp [hb]
end Go.Proofs.YtinciddchpccnaaDoor

/- ---- TxRef3 ---- -/
/- The reference of layer 4: Text. -/
namespace Go.Proofs.YtinciddchpccnaaDoor
open Go.RowKit
set_option linter.unusedVariables false
set_option linter.unusedSimpArgs false

theorem rlist_2 (a b : List UInt8) (W : World) : Calls Tryd.prog 24 #[.slice (some ⟨W.heap.size, 0, none⟩) 2 2] (W.alloc (.cells #[S a, S b] 9)) fun e w' => e = .returned (.tuple #[S (Oct.listE [a, b]).1, .int .i64 (Oct.listE [a, b]).2]) ∧ Below (W.alloc (.cells #[S a, S b] 9)).heap.size (W.alloc (.cells #[S a, S b] 9)) w' :=
  refList_any _ 2 [a, b] _ (texts_new W 9 [a, b])
end Go.Proofs.YtinciddchpccnaaDoor
