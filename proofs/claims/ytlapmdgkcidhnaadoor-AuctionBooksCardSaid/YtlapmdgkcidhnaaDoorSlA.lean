/- What later texts need of the earlier layers. -/
import Derived.Test.YtlapmdgkcidhnaaDoorSlO
import Derived.Test.YtlapmdgkcidhnaaDoorSlS
import Derived.Test.YtlapmdgkcidhnaaDoorSlT
import Derived.Test.YtlapmdgkcidhnaaDoorSlC
import Derived.Deep.RegionLaw
import Derived.Deep.DeepAppendWide
import Derived.RangeFuncBox
import Derived.Deep.RegionHeld3
import Derived.Laws.ResultCell
import Derived.Laws.Closers25
import Derived.Deep.Onto
import Derived.Laws.CopyOwn
import Derived.Lib.BufferWrite
/- ---- TxCheck ---- -/
/- tx.Check and the reference's Check. -/
namespace Go.Proofs.YtlapmdgkcidhnaaDoor
open Go.RowKit
set_option linter.unusedVariables false
set_option linter.unusedSimpArgs false

theorem tx_below {w w1 : World} {o : Obj} (h : (w.alloc o).grownBy w1 none) : Below w.heap.size w w1 := ((Below.refl w.heap.size w).alloc (Nat.le_refl _) o).grown h (by simp) (fun k hk => by cases hk)
theorem hash_built : Tryd.prog.built 28 [] = some (bRow Tx.zero) := by kernel_rfl
end Go.Proofs.YtlapmdgkcidhnaaDoor

/- ---- OwnStep ---- -/
/- append onto a slice of the call's own, as one step of a region that draws its order. -/
namespace Go.Proofs.YtlapmdgkcidhnaaDoor
open Go.RowKit
set_option linter.unusedVariables false
set_option linter.unusedSimpArgs false

theorem step_append_own {P : Program} {ops : Array Oper} {o : Oper} {a : Act} {w : World} {K : Act → World → Prop} {Q : Exit → Act → World → Prop} {E : Prop}
    (hg : o.guard = none) (s x : Operand) (t : TypeId) (hop : o.op = Op.call { callee := Callee.builtin Builtin.append, args := #[s, x], argTypes := #[t, t] })
    (base : Nat) (e : TypeId) (i : TypeInfo) (z : Value) (size bytes : Nat) (ht : P.underlying t = some (.slice e)) (hi : P.info? e = some i) (hz : i.zero = some z)
    (hsize : i.size = size) (hby : i.bytes = bytes) (hzs : z.cells.size = size) (hsz : 0 < size)
    (v : Value) (n : Nat) (xs : List Value) (hs : a.eval s = v) (hown : w.ownsRow base e size v n xs)
    (ad : Addr) (m c : Nat) (news : List Value) (hx : a.eval x = .slice (some ad) m c) (hl : news.length = m * size) (hnews : ∀ j u, news[j]? = some u → w.cell? (ad.add j) = some u) (h1 : ∀ u ∈ news, u.oneCell' = true) (hm : 0 < m)
    (h63 : n + m ≤ maxLen) (hbytes : ((n + m) + (n + m) / 4 + 192) * bytes ≤ 281474976710656) (hbase : base ≤ w.heap.size)
    (h : ∀ g cap w', w'.ownsRow base e size (.slice (some ⟨g, 0, none⟩) (n + m) cap) (n + m) (xs ++ news) → w.grownBy w' v.ownBlock → K (a.put o.dst (.slice (some ⟨g, 0, none⟩) (n + m) cap)) w') :
    if Region.wanted o (yielded ops a.tmps) = true then Oper.wp P o a w K Q else E := by
  have hw : Region.wanted o (yielded ops a.tmps) = true := by simp [Region.wanted, hg]
  rw [if_pos hw]
  refine wp_append_own_wide w s x t hop base e i z size bytes ht hi hz hsize hby hzs hsz v n xs hs hown ad m c news hx hl hnews h1 h63 hbytes hbase fun v' w' h2 h3 h4 => ?_
  obtain ⟨m', rfl⟩ : ∃ m', m = m' + 1 := ⟨m - 1, by omega⟩
  obtain ⟨g, cap, rfl⟩ := ownsRow_succ h2
  exact h g cap w' h2 h3
end Go.Proofs.YtlapmdgkcidhnaaDoor

/- ---- TxBodies ---- -/
/- tx.Body: its closure lay, and Body. -/
/- tx.Body. -/
namespace Go.Proofs.YtlapmdgkcidhnaaDoor
open Go.RowKit
set_option linter.unusedVariables false
set_option linter.unusedSimpArgs false

theorem apart_of {w : World} {base B n : Nat} {t : TypeId} {v : Value} {xs ys : List Value} (hv : Row w B t ys) (ht : t ≠ 9) (hown : w.ownsRow base 9 1 v n xs) : some B ≠ v.ownBlock := by
  intro e
  rcases hown.2 with ⟨rfl, _⟩ | ⟨g, cap, cur, rfl, hg, hh, _⟩
  · simp [Value.ownBlock] at e
  · simp only [Value.ownBlock, Option.some.injEq] at e
    subst e
    unfold Row at hv
    rw [hh] at hv
    simp at hv
    exact ht hv.2.symm
theorem number_ok (n : Int) (w : World) (h0 : 0 ≤ n) (h1 : n ≤ 9223372036854775807) :
    Calls Tryd.prog 121 #[.int .i64 n] w fun e w' => e = .returned (.tuple #[S (Oct.num n.toNat), .int .i64 0]) ∧ Below w.heap.size w w' := by
  have := Number_any n w h1
  unfold Oct.numE at this
  rw [if_neg (by omega)] at this
  exact this
theorem str_info5 : (Tryd.prog.info? 9).map (fun i => (i.zero, i.size, i.bytes)) = some (some (.string ByteArray.empty), 1, 16) := by kernel_rfl
theorem one_text (w : World) (t : TypeId) (s : List UInt8) : ∀ j u, [S s][j]? = some u → (w.alloc (.cells #[S s] t)).cell? ((⟨w.heap.size, 0, none⟩ : Addr).add j) = some u := by
  intro j u hj
  match j, hj with
  | 0, hj =>
    simp at hj
    subst hj
    simp [Addr.add]
theorem one_textc (s : List UInt8) : ∀ u ∈ [S s], u.oneCell' = true := by
  intro u hu
  simp at hu
  subst hu
  rfl
end Go.Proofs.YtlapmdgkcidhnaaDoor
namespace Go.Proofs.YtlapmdgkcidhnaaDoor
open Go.RowKit
set_option linter.unusedVariables false
set_option linter.unusedSimpArgs false

namespace Tx
def lays (t : Tx) : List (List UInt8) := [Oct.num t.frm.toNat, Oct.num t.nonce.toNat, Oct.num t.fee.toNat, Oct.num t.to.toNat]
def fields (t : Tx) : List (List UInt8) := (t.lays ++ [t.data.data.toList]) ++ (if t.lane = true then [Oct.num t.round.toNat, Oct.num t.turn.toNat] else [])
def bodyE (t : Tx) : List UInt8 × Int := if t.err = 0 then Oct.listE t.fields else ([], t.err)
end Tx
theorem below_own {w0 W W' : World} {r : Option Nat} (h : Below w0.heap.size w0 W) (hg : W.grownBy W' r) (hr : ∀ k, r = some k → w0.heap.size ≤ k) : Below w0.heap.size w0 W' := h.grown hg h.size hr
/-- octets.List over texts of the call's own -/
theorem list_own (L : List (List UInt8)) (base g k cap : Nat) (W : World) (h : W.ownsRow base 9 1 (.slice (some ⟨g, 0, none⟩) k cap) k (L.map S)) (hk : k = L.length) :
    Calls Tryd.prog 80 #[.slice (some ⟨g, 0, none⟩) k cap] W fun e w' => e = .returned (.tuple #[S (Oct.listE L).1, .int .i64 (Oct.listE L).2]) ∧ Below W.heap.size W w' := by
  subst hk
  obtain ⟨A, c, hA, hT⟩ := texts_own h
  obtain ⟨rfl, rfl⟩ : some (⟨g, 0, none⟩ : Addr) = A ∧ cap = c := by simpa using hA
  exact List_any _ _ L W hT
end Go.Proofs.YtlapmdgkcidhnaaDoor

/- ---- TxText ---- -/
/- tx.Text. -/
namespace Go.Proofs.YtlapmdgkcidhnaaDoor
open Go.RowKit
set_option linter.unusedVariables false
set_option linter.unusedSimpArgs false

namespace Tx
def outer (t : Tx) (b : List UInt8) : List (List UInt8) := if t.lane = true then [b, t.tag, t.bY] else [b, t.tag]
def textE (t : Tx) : List UInt8 × Int := if t.bodyE.2 = 0 then Oct.listE (t.outer t.bodyE.1) else ([], t.bodyE.2)
end Tx
theorem hash_str4 (W : World) (g o : Nat) (h : List UInt8) (hh : h.length = 32) (hg : W.rangeAt g o (bRow h).toList) :
    (Go.convert 129 9 (.slice (some ⟨g, o, none⟩) 32 32)).run Tryd.prog W = .ok (S h) W := by
  have := run_convert_bytes_arg (P := Tryd.prog) W 129 5 Tryd.underlying129 Tryd.underlying5 g o 32 32 (h.map fun b => (b.toNat : Int)) (by rw [List.length_map, hh]) (fun i hi => by
    have e : (bRow h).toList[i]? = (yRow h)[i]? := by rw [bRow_yRow h hh]; simp
    have := hg i _ (e.trans (yRow_at h i (by omega)))
    exact this) 9 Tryd.underlying9
  rw [bytes_of_] at this
  exact this
theorem texts_new (W : World) (t : TypeId) (L : List (List UInt8)) : Texts (W.alloc (.cells (L.map S).toArray t)) (W.alloc (.cells (L.map S).toArray t)).heap.size (some ⟨W.heap.size, 0, none⟩) L := by
  intro hne
  refine ⟨W.heap.size, 0, rfl, by simp, fun i hi => ?_⟩
  have h := (Row.new W t (L.map S)).cell i (by simpa using hi)
  rw [Nat.zero_add, h]
  simp
theorem list_3 (a b c : List UInt8) (W : World) : Calls Tryd.prog 80 #[.slice (some ⟨W.heap.size, 0, none⟩) 3 3] (W.alloc (.cells #[S a, S b, S c] 9)) fun e w' => e = .returned (.tuple #[S (Oct.listE [a, b, c]).1, .int .i64 (Oct.listE [a, b, c]).2]) ∧ Below (W.alloc (.cells #[S a, S b, S c] 9)).heap.size (W.alloc (.cells #[S a, S b, S c] 9)) w' :=
  List_any _ 3 [a, b, c] _ (texts_new W 9 [a, b, c])
theorem list_2 (a b : List UInt8) (W : World) : Calls Tryd.prog 80 #[.slice (some ⟨W.heap.size, 0, none⟩) 2 2] (W.alloc (.cells #[S a, S b] 9)) fun e w' => e = .returned (.tuple #[S (Oct.listE [a, b]).1, .int .i64 (Oct.listE [a, b]).2]) ∧ Below (W.alloc (.cells #[S a, S b] 9)).heap.size (W.alloc (.cells #[S a, S b] 9)) w' :=
  List_any _ 2 [a, b] _ (texts_new W 9 [a, b])
theorem two_below' {w w1 w2 : World} (h1 : Below w.heap.size w w1) (h2 : Below w1.heap.size w1 w2) : Below w.heap.size w w2 := h1.grown (grownBy_of_below h2 none) h1.size (fun k hk => by cases hk)
end Go.Proofs.YtlapmdgkcidhnaaDoor

/- ---- TxRow ---- -/
/- Rows loaded and stored, whole or in the middle of a block; a result that lies in a block. -/
namespace Go.Proofs.YtlapmdgkcidhnaaDoor
open Go.RowKit
set_option linter.unusedVariables false
set_option linter.unusedSimpArgs false

theorem row_setCells {g : Nat} {T : TypeId} : ∀ (l : List Value) (off : Nat) (w : World) (xs : List Value), Row w g T xs → off + l.length ≤ xs.length →
    Row (w.setCells g off l) g T (xs.take off ++ (l ++ xs.drop (off + l.length))) ∧ w.grownBy (w.setCells g off l) (some g)
  | [], off, w, xs, h, hl => by
    refine ⟨?_, grownBy_refl _ _⟩
    simp only [List.nil_append, List.length_nil, Nat.add_zero, List.take_append_drop]
    exact h
  | v :: l, off, w, xs, h, hl => by
    simp only [List.length_cons] at hl
    obtain ⟨h1, h2⟩ := row_setCells l (off + 1) (w.setCell ⟨g, off, none⟩ v) (xs.set off v) (h.set off v (by omega)) (by rw [List.length_set]; omega)
    refine ⟨?_, (grownBy_set w g off v).trans h2⟩
    have e1 : (xs.set off v).take (off + 1) = xs.take off ++ [v] := by
      rw [List.take_succ_eq_append_getElem (by rw [List.length_set]; omega), List.take_set_of_le (Nat.le_refl _)]
      simp
    have e2 : (xs.set off v).drop (off + 1 + l.length) = xs.drop (off + 1 + l.length) := by rw [List.drop_set_of_lt (by omega)]
    rw [e1, e2, List.append_assoc] at h1
    simp only [List.length_cons]
    rw [show off + (l.length + 1) = off + 1 + l.length by omega]
    exact h1
/-- a value of many cells stored into a block's middle -/
theorem wpList_store_at {P : Program} {ops : Array Oper} {rest : List Oper} {op : Oper} {a : Act} {w : World} {Q : Exit → Act → World → Prop} (hgd : op.guard = none) (ty : TypeId) (x y : Operand) (ho : op.op = .store ty x y)
    (g off : Nat) (l xs : List Value) (T : TypeId) (hx : a.eval x = .pointer (some ⟨g, off, none⟩)) (hy : a.eval y = .agg l.toArray) (hg : Row w g T xs) (hoff : off + l.length ≤ xs.length)
    (hi : (P.info? ty).map (·.size) = some l.length) (h1 : ∀ v ∈ l, v.oneCell' = true)
    (h : ∀ w', Row w' g T (xs.take off ++ (l ++ xs.drop (off + l.length))) → w.grownBy w' (some g) → wpList P ops Q rest (a.put op.dst undef) w') : wpList P ops Q (op :: rest) a w := by
  obtain ⟨r1, r2⟩ := row_setCells l off w xs hg hoff
  exact wpList_store_mid hgd ty x y ho g off l.toArray hx hy (fun j hj => ⟨by
    have hj' : j < l.length := by simpa using hj
    rw [hg.cell (off + j) (by omega)]; rfl, hg.free _⟩) (by simpa using hi) (all_oneCell_toArray h1) (h _ r1 r2)
theorem results_rowL {P : Program} {fn : Func} {p u : Tmp} {ty : TypeId} (h : fn.results = #[.cell p ty, .tmp u]) (tmps : Array Value) (w : World) (g : Nat) (T : TypeId) (xs : List Value) (d : TypeDesc)
    (hp : tmps.getD p undef = .pointer (some ⟨g, 0, none⟩)) (hg : Row w g T xs)
    (hu : P.underlying ty = some d) (hd : (match d with | .struct _ | .array _ _ => true | _ => false) = true) (hi : (P.info? ty).map (·.size) = some xs.toArray.size) (x : Value) (hx : tmps.getD u undef = x) :
    (results fn tmps).run P w = .ok (.tuple #[.agg xs.toArray, x]) w := by
  rw [results_cell_tmp h, hp]
  have hl := run_loadVar_row w g T ty xs.toArray (0, 0) d hg hu hd hi
  have ha : (asAddr (.pointer (some ⟨g, 0, none⟩))).run P w = .ok ⟨g, 0, none⟩ w := rfl
  rw [ha]
  simp only [Result.andThen, hl, hx]
theorem row_range {w : World} {g : Nat} {T : TypeId} {xs : List Value} (h : Row w g T xs) : w.rangeAt g 0 xs := by
  intro j v hv
  obtain ⟨hlt, he⟩ := List.getElem?_eq_some_iff.1 hv
  rw [Nat.zero_add, h.cell j hlt, he]
theorem hash_one (R : List UInt8) (h : R.length = 32) : ∀ v ∈ (bRow R).toList, v.oneCell' = true := by
  rw [bRow_yRow R h]
  unfold yRow
  intro v hv
  simp at hv
  obtain ⟨b, _, rfl⟩ := hv
  rfl
theorem Tx.cells_one {t : Tx} (h : t.Ok) : ∀ v ∈ t.cells, v.oneCell' = true := by
  intro v hv
  unfold Tx.cells Tx.head at hv
  rcases List.mem_append.1 hv with h1 | h1
  · simp at h1
    rcases h1 with rfl | rfl | rfl | rfl | rfl | rfl | rfl | rfl <;> rfl
  · rcases List.mem_append.1 h1 with h2 | h2
    · exact hash_one _ h.bY v h2
    · exact hash_one _ h.tag v h2
theorem Tx.none_ok : Tx.none.Ok := ⟨rfl, rfl, by decide, fits0, fits0, fits0, fits0, fits0, fits0⟩
theorem tx_zv (w : World) : (zeroValue 74).run Tryd.prog w = .ok (.agg Tx.none.arr) w := by kernel_rfl
theorem hash_zv (w : World) : (zeroValue 28).run Tryd.prog w = .ok (.agg (bRow Tx.zero)) w := by kernel_rfl
theorem tx_built0 : Tryd.prog.built 74 [] = some Tx.none.arr := by kernel_rfl
/-- a list's bytes are few -/
theorem listGo_len : ∀ (L : List (List UInt8)) (left : Nat) (b : List UInt8), Oct.listGo left L = some b → b.length ≤ left + 9 * L.length
  | [], left, b, h => by
    simp only [Oct.listGo, Option.some.injEq] at h
    subst h
    simp
  | s :: r, left, b, h => by
    unfold Oct.listGo at h
    split at h
    · cases h
    · obtain ⟨c, hc, rfl⟩ := Option.map_eq_some_iff.1 h
      have := listGo_len r (left - s.length) c hc
      have h2 := Oct.num_length_le s.length
      have h3 : (Oct.text s).length = (Oct.num s.length).length + s.length := by unfold Oct.text; rw [List.length_append]
      rw [List.length_append, h3, List.length_cons]
      omega
theorem listE_len (L : List (List UInt8)) : (Oct.listE L).1.length ≤ 100000 := by
  unfold Oct.listE
  split
  · simp
  · next hl =>
    cases h : Oct.listGo 65536 L with
    | none => simp
    | some b =>
      have h1 := listGo_len L 65536 b h
      have h2 := Oct.num_length_le L.length
      simp only [List.length_append]
      omega
theorem Tx.body_len (t : Tx) : t.bodyE.1.length ≤ 100000 := by
  unfold Tx.bodyE
  split
  · exact listE_len _
  · simp
theorem Tx.text_len (t : Tx) : t.textE.1.length ≤ 100000 := by
  unfold Tx.textE
  split
  · exact listE_len _
  · simp
end Go.Proofs.YtlapmdgkcidhnaaDoor

/- ---- TxSigns ---- -/
/- tx.Name, Sign, Hand, Signed. -/
/- tx.Sign, Hand. -/
namespace Go.Proofs.YtlapmdgkcidhnaaDoor
open Go.RowKit
set_option linter.unusedVariables false
set_option linter.unusedSimpArgs false

theorem splice_all {xs l : List Value} (h : l.length = xs.length) : xs.take 0 ++ (l ++ xs.drop (0 + l.length)) = l := by
  rw [List.take_zero, List.nil_append, List.drop_of_length_le (by omega), List.append_nil]
theorem row_two (w : World) (A B : Array Value) (t1 t2 : TypeId) : Row ((w.alloc (.cells A t1)).alloc (.cells B t2)) (w.heap.size + 1) t2 B.toList ∧ Below w.heap.size w ((w.alloc (.cells A t1)).alloc (.cells B t2)) ∧ Row ((w.alloc (.cells A t1)).alloc (.cells B t2)) w.heap.size t1 A.toList := by
  have h := Row.new (w.alloc (.cells A t1)) t2 B.toList
  rw [show ∀ (W : World) (o : Obj), (W.alloc o).heap.size = W.heap.size + 1 from fun W o => by simp] at h
  exact ⟨h, ((Below.refl w.heap.size w).alloc (Nat.le_refl _) _).alloc (by simp) _, (Row.new w t1 A.toList).kept (grownBy_alloc _ _ none) (by simp)⟩
namespace Tx
/-- signed by its author -/
def sign (t : Tx) : Tx := { t with tag := (Seal.tag t.frm 1 t.bodyE.1).1 }
def signE (t : Tx) : Tx × Int := if t.bodyE.2 = 0 then (t.sign, (Seal.tag t.frm 1 t.bodyE.1).2) else (none, t.bodyE.2)
theorem sign_ok {t : Tx} (h : t.Ok) : t.sign.Ok := ⟨h.bY, Seal.tag_len _ _ _, h.data, h.frm, h.nonce, h.fee, h.to, h.round, h.turn⟩
end Tx

end Go.Proofs.YtlapmdgkcidhnaaDoor
namespace Go.Proofs.YtlapmdgkcidhnaaDoor
open Go.RowKit
set_option linter.unusedVariables false
set_option linter.unusedSimpArgs false

theorem tag_err0 (who dom : Int) (b : List UInt8) (h0 : 0 ≤ who) (h1 : who ≤ 63) (h2 : 1 ≤ dom) (h3 : dom ≤ 4) : (Seal.tag who dom b).2 = 0 := by
  unfold Seal.tag
  rw [if_neg (by omega), if_neg (by omega)]
def Tx.pairV (x : Tx × Int) : Value := .tuple #[x.1.v, .int .i64 x.2]
end Go.Proofs.YtlapmdgkcidhnaaDoor

/- ---- TxReads ---- -/
/- tx.Read: its mathematics; list, whole. -/
/- tx.readBody. -/
/- tx.readBody: the walk. -/
namespace Go.Proofs.YtlapmdgkcidhnaaDoor
open Go.RowKit
set_option linter.unusedVariables false
set_option linter.unusedSimpArgs false

namespace Tx
/-- a list that is all of a text -/
def listAll (s : List UInt8) : Option (List (List UInt8)) := if (Oct.rdList s 0).2.2 = 0 ∧ (Oct.rdList s 0).2.1 = s.length then some (Oct.rdList s 0).1 else Option.none
/-- a number that is all of a text -/
def numAll (s : List UInt8) : Option Int := if (Oct.rdNum s 0).2.2 = 0 ∧ (Oct.rdNum s 0).2.1 = s.length then some (Oct.rdNum s 0).1 else Option.none
theorem listAll_listE {L : List (List UInt8)} {b : List UInt8} (h : Oct.listE L = (b, 0)) : listAll b = some L := by
  have := Oct.rdList_list [] [] L b h
  simp only [List.nil_append, List.append_nil, List.length_nil, Int.natCast_zero] at this
  unfold listAll
  rw [this]
  simp
theorem numAll_num {n : Nat} (h : n < 2 ^ 63) : numAll (Oct.num n) = some (n : Int) := by
  have := Oct.rdNum_num [] [] n h
  simp only [List.nil_append, List.append_nil, List.length_nil, Int.natCast_zero] at this
  unfold numAll
  rw [this]
  simp
end Tx

end Go.Proofs.YtlapmdgkcidhnaaDoor
namespace Go.Proofs.YtlapmdgkcidhnaaDoor
open Go.RowKit
set_option linter.unusedVariables false
set_option linter.unusedSimpArgs false

namespace Tx
/-- the i-th number of a body put in its place -/
def put (t : Tx) (i : Nat) (n : Int) : Tx :=
  if i = 0 then { t with frm := n } else if i = 1 then { t with nonce := n } else if i = 2 then { t with fee := n } else if i = 3 then { t with to := n } else if i = 5 then { t with round := n } else if i = 6 then { t with turn := n } else t
def fill (t : Tx) : Nat → List (List UInt8) → Option Tx
  | _, [] => some t
  | i, s :: r => if i = 4 then fill t (i + 1) r else match numAll s with
    | Option.none => Option.none
    | some n => fill (put t i n) (i + 1) r
end Tx
end Go.Proofs.YtlapmdgkcidhnaaDoor
namespace Go.Proofs.YtlapmdgkcidhnaaDoor
open Go.RowKit
set_option linter.unusedVariables false
set_option linter.unusedSimpArgs false

end Go.Proofs.YtlapmdgkcidhnaaDoor

/- ---- NoA ---- -/
/- notes: number, account, fields. -/
/- notes: numbers. -/
/- notes: itemMayBe. -/
namespace Go.Proofs.YtlapmdgkcidhnaaDoor
open Go.RowKit
set_option linter.unusedVariables false
set_option linter.unusedSimpArgs false

theorem naccount_any (n : Int) (w : World) :
    Calls Tryd.prog 109 #[.int .i64 n] w fun e w' => e = .returned (.bool (Tx.acct n)) ∧ w = w' := by
  unfold Tx.acct
  by_cases h : 0 ≤ n
  · have hd : decide (0 ≤ n) = true := by simpa using h
    have Hd := Lib.hid hd
    by_cases h2 : n ≤ 63
    · have hd2 : decide (n ≤ 63) = true := by simpa using h2
      have h3 : n < 64 := by omega
      have Hd2 := Lib.hid hd2
      clear hd hd2
      go_enter Tryd.func109, Tryd.ntmps109
      go_wp2
      go_ret
      exact ⟨by first | rfl | (rw [Hd.out, Hd2.out]; rfl) | (rw [Hd2.out]; rfl) | (rw [Hd.out, Hd2.out]; simp [h3]), rfl⟩
    · have hd2 : decide (n ≤ 63) = false := by simpa using h2
      have h3 : ¬ n < 64 := by omega
      have Hd2 := Lib.hid hd2
      clear hd hd2
      go_enter Tryd.func109, Tryd.ntmps109
      go_wp2
      go_ret
      exact ⟨by first | rfl | (rw [Hd.out, Hd2.out]; rfl) | (rw [Hd2.out]; rfl) | (rw [Hd.out, Hd2.out]; simp [h3]), rfl⟩
  · have hd : decide (0 ≤ n) = false := by simpa using h
    have Hd := Lib.hid hd
    clear hd
    go_enter Tryd.func109, Tryd.ntmps109
    go_wp2
    go_ret
    exact ⟨by rw [Hd.out]; rfl, rfl⟩
theorem nnumber_any (n : Int) (w : World) :
    Calls Tryd.prog 110 #[.int .i64 n] w fun e w' => e = .returned (.bool (Tx.num n)) ∧ w = w' := by
  unfold Tx.num
  by_cases h : 0 ≤ n
  · have hd : decide (0 ≤ n) = true := by simpa using h
    have Hd := Lib.hid hd
    clear hd
    go_enter Tryd.func110, Tryd.ntmps110
    go_wp2
    go_ret
    exact ⟨by rw [Hd.out]; rfl, rfl⟩
  · have hd : decide (0 ≤ n) = false := by simpa using h
    have Hd := Lib.hid hd
    clear hd
    go_enter Tryd.func110, Tryd.ntmps110
    go_wp2
    go_ret
    exact ⟨by rw [Hd.out]; rfl, rfl⟩
end Go.Proofs.YtlapmdgkcidhnaaDoor
namespace Go.Proofs.YtlapmdgkcidhnaaDoor
open Go.RowKit
set_option linter.unusedVariables false
set_option linter.unusedSimpArgs false

theorem row_apart {w w1 : World} {base nb n : Nat} {e t : TypeId} {size : Nat} {v : Value} {xs ys : List Value} (h : Row w nb t ys) (hlt : nb < base) (hown : w.ownsRow base e size v n xs) (hg : w.grownBy w1 v.ownBlock) : Row w1 nb t ys :=
  h.kept hg (fun hh => by have := (hown.lt nb hh.symm).1; omega)
theorem below_row {w w1 w2 : World} {base n : Nat} {e : TypeId} {size : Nat} {v : Value} {xs : List Value} (hb : Below base w w1) (hs : base ≤ w1.heap.size) (hown : w1.ownsRow base e size v n xs) (hg : w1.grownBy w2 v.ownBlock) : Below base w w2 :=
  hb.grown hg hs (fun k hk => (hown.lt k hk).1)
set_option maxRecDepth 20000 in
set_option maxHeartbeats 400000 in
theorem numbers_any (ns : List Int) (c : Nat) (hns : ∀ n ∈ ns, 0 ≤ n ∧ n ≤ 9223372036854775807) (w : World) (nb : Nat) (hN : Row w nb 3 (Is ns)) (hlen : ns.length ≤ 900) :
    Calls Tryd.prog 113 #[.slice (some ⟨nb, 0, none⟩) ns.length c] w fun e w' => ∃ v, e = .returned v ∧ w'.ownsRow w.heap.size 9 1 v ns.length ((ns.map fun n => Oct.num n.toNat).map S) ∧ Below w.heap.size w w' := by
  obtain ⟨i0, hi, h2⟩ := Option.map_eq_some_iff.1 str_info5
  simp only [Prod.mk.injEq] at h2
  obtain ⟨hz, hs, hby⟩ := h2
  have Hi := Lib.hid hi
  have Hz := Lib.hid hz
  have Hs := Lib.hid hs
  have Hby := Lib.hid hby
  have HN := Lib.hid hN
  have Hns := Lib.hid hns
  have hnb := hN.lt
  obtain ⟨m, hm⟩ : ∃ m, m = ns.length := ⟨_, rfl⟩
  rw [← hm] at hlen ⊢
  have Hm := Lib.hid hm
  clear hi hz hs hby hN hns hm
  go_enter Tryd.func113, Tryd.ntmps113
  go_wp2_with (with_reducible show wpList _ _ _ (⟨_, .makeSlice _ _ _, _, _, _, _⟩ :: _) _ _
               refine wpList_make_own w rfl _ _ 133 rfl w.heap.size 9 i0 (.string ByteArray.empty) 1 Tryd.underlying133 Hi.out Hz.out Hs.out .i64 .i64 ((m : Int) + 2) (m + 2) rfl rfl (by omega) (by rw [Hby.out]; omega) (by unfold maxLen; omega) (Nat.le_refl _) ?_
               intro w1 hown1 hg1
               have Hown1 := Lib.hid hown1
               have HN1 := Lib.hid (HN.out.kept hg1 (by simp))
               have Hb1 := Lib.hid ((Below.refl w.heap.size w).grown hg1 (Nat.le_refl _) (fun k hk => by cases hk))
               clear hown1 hg1)
  go_loopw [3, 14] (fun v i wr => ∃ k : Nat, k ≤ m ∧ i = .int .i64 k ∧ wr.ownsRow w.heap.size 9 1 v k (((ns.take k).map fun n => Oct.num n.toNat).map S) ∧ Row wr nb 3 (Is ns) ∧ Below w.heap.size w wr) (fun _ i _ => m - (intOf i).toNat)
  case atStart => exact ⟨0, Nat.zero_le _, rfl, by simpa using Hown1.out, HN1.out, Hb1.out⟩
  case round =>
    obtain ⟨k, hk, rfl, hown, hNr, hbr⟩ := hrel
    have HNr := Lib.hid hNr
    have Hbr := Lib.hid hbr
    have Hown := Lib.hid hown
    clear hNr hbr hown Hown1 HN1 Hb1 HN
    by_cases hlt : k < m
    · have hki : (k : Int) < (m : Int) := by omega
      have hkn : k < ns.length := by rw [← Hm.out]; exact hlt
      have cn := HNr.out.num k hkn
      obtain ⟨x, hx⟩ : ∃ x, x = ns.getD k 0 := ⟨_, rfl⟩
      have hxn : ns[k] = x := by rw [hx]; simp [List.getD, hkn]
      have hxb := Hns.out x (by rw [← hxn]; exact List.getElem_mem hkn)
      have htk : ((ns.take (k + 1)).map fun n => Oct.num n.toNat).map S = ((ns.take k).map fun n => Oct.num n.toNat).map S ++ [S (Oct.num x.toNat)] := by
        rw [List.take_succ_eq_append_getElem hkn, List.map_append, List.map_append, hxn]; rfl
      rw [← hx] at cn
      have Htk := Lib.hid htk
      generalize ((ns.take k).map fun n => Oct.num n.toNat).map S = K at *
      clear htk hx hxn hkn
      go_wp2_with fail
      refine (number_ok x _ hxb.1 hxb.2).mono ?_
      rintro _ w1 ⟨rfl, hb1⟩
      have hg1 := grownBy_of_below hb1 none
      have hown1 := Hown.out.kept hg1 (by cases u3.ownBlock <;> simp)
      have hN1 := HNr.out.kept hg1 (by simp)
      have hb1' := two_below' Hbr.out hb1
      have hown2 := hown1.alloc (.cells #[S (Oct.num x.toNat)] 9)
      have hN2 := hN1.kept (grownBy_alloc w1 (.cells #[S (Oct.num x.toNat)] 9) none) (by simp)
      have hb2 : Below w.heap.size w (w1.alloc (.cells #[S (Oct.num x.toNat)] 9)) := hb1'.alloc hb1'.size _
      have hsz2 : w.heap.size ≤ (w1.alloc (.cells #[S (Oct.num x.toNat)] 9)).heap.size := hb2.size
      have hk63 : k + 1 ≤ maxLen := by unfold maxLen; omega
      have hk48 : ((k + 1) + (k + 1) / 4 + 192) * 16 ≤ 281474976710656 := by omega
      have Hown2 := Lib.hid hown2
      have HN2 := Lib.hid hN2
      have Hb2 := Lib.hid hb2
      clear hb1 hg1 hown1 hN1 hb1' hown2 hN2 hb2 Hown HNr Hbr cn
      go_wp2_with (at_builtin; refine wpList_append_own_wide _ rfl (.tmp 23) (.tmp 25) 133 rfl w.heap.size 9 i0 (.string ByteArray.empty) 1 16 Tryd.underlying133 Hi.out Hz.out Hs.out Hby.out rfl (by decide) _ _ _ rfl Hown2.out ⟨w1.heap.size, 0, none⟩ 1 1 [S (Oct.num x.toNat)] rfl rfl (one_text _ _ _) (one_textc _) hk63 hk48 hsz2 ?_
                   intro v' w3 hown3 hgrow3 _
                   obtain ⟨g, cap, rfl⟩ := ownsRow_succ hown3
                   have HN3 := Lib.hid (row_apart HN2.out hnb Hown2.out hgrow3)
                   have Hb3 := Lib.hid (below_row Hb2.out hsz2 Hown2.out hgrow3)
                   have Hown3 := Lib.hid hown3
                   clear hown3 hgrow3)
      refine ⟨⟨k + 1, hlt, by go_num, by rw [Htk.out]; exact Hown3.out, HN3.out, Hb3.out⟩, by simp [intOf]; omega⟩
    · have hki : (m : Int) ≤ (k : Int) := by omega
      have ekm : k = m := by omega
      subst ekm
      have hown := Hown.out
      rw [List.take_of_length_le (by rw [← Hm.out]; omega)] at hown
      have Hown' := Lib.hid hown
      clear hown
      go_wp2_with fail
      go_ret
      exact ⟨_, rfl, Hown'.out, Hbr.out⟩
end Go.Proofs.YtlapmdgkcidhnaaDoor
namespace Go.Proofs.YtlapmdgkcidhnaaDoor
open Go.RowKit
set_option linter.unusedVariables false
set_option linter.unusedSimpArgs false

def Item.v (kd who n : Int) (s : ByteArray) : Value := .agg #[.int .i64 kd, .int .i64 who, .int .i64 n, .string s]
/-- which items there may be -/
def Item.ok (kd who n : Int) (s : ByteArray) : Bool :=
  if (kd == 1) = true ∨ (kd == 3) = true then decide (0 ≤ who ∧ who ≤ 64 ∧ (n == 0) = true ∧ (s.size : Int) ≤ 65472)
  else if (kd == 2) = true ∧ (who == 0) = true ∧ Tx.num n = true then s.toList.isEmpty else false
end Go.Proofs.YtlapmdgkcidhnaaDoor

/- ---- NoMath ---- -/
/- notes, as plain data: items, bids, receipts, batches; their bytes, and what bytes are read as. -/
namespace Go.Proofs.YtlapmdgkcidhnaaDoor
open Go.RowKit
set_option linter.unusedVariables false
set_option linter.unusedSimpArgs false

namespace No
abbrev T8 := List UInt8
/-- the first n texts of a list as numbers -/
def raw : Nat → List T8 → Option (List Int)
  | 0, _ => some []
  | _ + 1, [] => none
  | n + 1, s :: r => match Tx.numAll s with
    | none => none
    | some x => (raw n r).map (x :: ·)
theorem raw_of : ∀ (ns : List Int) (l : List T8), (∀ x ∈ ns, 0 ≤ x ∧ x ≤ 9223372036854775807) → raw ns.length (ns.map (fun x => Oct.num x.toNat) ++ l) = some ns
  | [], l, _ => rfl
  | x :: ns, l, h => by
    have hx := h x (by simp)
    have e : Tx.numAll (Oct.num x.toNat) = some x := by
      rw [Tx.numAll_num (by omega)]
      simp only [Option.some.injEq]
      omega
    simp only [List.length_cons, List.map_cons, List.cons_append, raw, e]
    rw [raw_of ns l (fun y hy => h y (by simp [hy]))]
    rfl
theorem data_eq (d : ByteArray) : (⟨d.data.toList.toArray⟩ : ByteArray) = d := by cases d; rfl
theorem empty_iff (s : ByteArray) : s.toList.isEmpty = true ↔ s.data.toList = [] := by
  rw [← decide_eq_emptyBytes, decide_eq_true_eq]
  constructor
  · rintro rfl; rfl
  · intro h
    have : s.data = #[] := Array.toList_inj.1 h
    cases s
    simp only at this
    subst this
    rfl
theorem num_iff {x : Int} : Tx.num x = true ↔ 0 ≤ x ∧ x ≤ 1099511627776 := by unfold Tx.num; simp
theorem acct_iff {x : Int} : Tx.acct x = true ↔ 0 ≤ x ∧ x ≤ 63 := by unfold Tx.acct; simp
end No

/-- an item -/
structure It where
  kind : Int
  who : Int
  n : Int
  text : ByteArray
namespace It
def v (i : It) : Value := .agg #[.int .i64 i.kind, .int .i64 i.who, .int .i64 i.n, .string i.text]
def ok (i : It) : Bool := Item.ok i.kind i.who i.n i.text
def zero : It := ⟨0, 0, 0, ByteArray.empty⟩
def fields (i : It) : List No.T8 := [Oct.num i.kind.toNat, Oct.num i.who.toNat, Oct.num i.n.toNat, i.text.data.toList]
def textE (i : It) : No.T8 × Int := if i.ok = true then Oct.listE i.fields else ([], 2)
def of (ns : List Int) (rest : List No.T8) : Option It :=
  match ns, rest with
  | [a, b, c], [t] => if (It.mk a b c ⟨t.toArray⟩).ok = true then some ⟨a, b, c, ⟨t.toArray⟩⟩ else none
  | _, _ => none
/-- what bytes are read as -/
def read (s : No.T8) : Option It := (Tx.listAll s).bind fun l => (No.raw 3 l).bind fun ns => of ns (l.drop 3)
theorem ok_iff (i : It) : i.ok = true ↔ (((i.kind = 1 ∨ i.kind = 3) ∧ 0 ≤ i.who ∧ i.who ≤ 64 ∧ i.n = 0 ∧ (i.text.size : Int) ≤ 65472) ∨ (i.kind = 2 ∧ i.who = 0 ∧ 0 ≤ i.n ∧ i.n ≤ 1099511627776 ∧ i.text.data.toList = [])) := by
  unfold ok Item.ok
  split
  · next h =>
    simp only [beq_iff_eq] at h
    simp only [beq_iff_eq, decide_eq_true_eq]
    constructor
    · intro hh; exact .inl ⟨h, hh⟩
    · rintro (⟨_, hh⟩ | ⟨hh, _⟩)
      · exact hh
      · omega
  · next h =>
    simp only [beq_iff_eq] at h
    split
    · next h2 =>
      simp only [beq_iff_eq, No.num_iff] at h2
      constructor
      · intro hh
        refine .inr ⟨h2.1, h2.2.1, h2.2.2.1, h2.2.2.2, ?_⟩
        exact (No.empty_iff _).1 hh
      · rintro (⟨hh, _⟩ | ⟨_, _, _, _, hh⟩)
        · exact absurd hh h
        · exact (No.empty_iff _).2 hh
    · next h2 =>
      simp only [beq_iff_eq, No.num_iff] at h2
      constructor
      · intro hh; cases hh
      · rintro (⟨hh, _⟩ | ⟨h3, h4, h5, h6, _⟩)
        · exact absurd hh h
        · exact absurd ⟨h3, h4, h5, h6⟩ h2
theorem ok_num {i : It} (h : i.ok = true) : Tx.num i.kind = true ∧ Tx.num i.who = true ∧ Tx.num i.n = true := by
  rw [ok_iff] at h
  rw [No.num_iff, No.num_iff, No.num_iff]
  omega
theorem read_text {i : It} {b : No.T8} (h : i.textE = (b, 0)) : read b = some i := by
  unfold textE at h
  split at h
  · next hk =>
    obtain ⟨h1, h2, h3⟩ := ok_num hk
    rw [No.num_iff] at h1 h2 h3
    unfold read
    rw [Tx.listAll_listE h]
    have := No.raw_of [i.kind, i.who, i.n] [i.text.data.toList] (by intro x hx; simp at hx; rcases hx with rfl | rfl | rfl <;> omega)
    simp only [List.length_cons, List.length_nil, List.map_cons, List.map_nil, List.cons_append, List.nil_append] at this
    simp only [Option.bind_some, fields, this, List.drop_succ_cons, List.drop_zero, of, No.data_eq]
    rw [if_pos hk]
  · simp at h
end It

/-- a bid -/
structure Bd where
  round : Int
  who : Int
  amount : Int
  salt : Int
  tag : List UInt8
namespace Bd
def cells (b : Bd) : List Value := [.int .i64 b.round, .int .i64 b.who, .int .i64 b.amount, .int .i64 b.salt] ++ (bRow b.tag).toList
def v (b : Bd) : Value := .agg b.cells.toArray
def ok (b : Bd) : Bool := Tx.acct b.who && (Tx.num b.round && (Tx.num b.amount && Tx.num b.salt))
def zero : Bd := ⟨0, 0, 0, 0, Tx.zero⟩
def numsL (b : Bd) : List Int := [b.round, b.who, b.amount, b.salt]
def body (b : Bd) : No.T8 := (Oct.listE (b.numsL.map fun x => Oct.num x.toNat)).1
def fields (b : Bd) : List No.T8 := (b.numsL.map fun x => Oct.num x.toNat) ++ [b.tag]
def textE (b : Bd) : No.T8 × Int := if b.ok = true then Oct.listE b.fields else ([], 2)
def of (ns : List Int) (rest : List No.T8) : Option Bd :=
  match ns, rest with
  | [a, b, c, d], [t] => if t.length = 32 ∧ (Bd.mk a b c d t).ok = true then some ⟨a, b, c, d, t⟩ else none
  | _, _ => none
def read (s : No.T8) : Option Bd := (Tx.listAll s).bind fun l => (No.raw 4 l).bind fun ns => of ns (l.drop 4)
def sign (b : Bd) : Bd := { b with tag := (Seal.tag b.who 3 b.body).1 }
def signE (b : Bd) : Bd × Int := if b.ok = true then (b.sign, 0) else (zero, 2)
def check (b : Bd) : Int := if b.ok = true then Seal.check2 b.who 3 b.body b.tag else 2
structure Fits (b : Bd) : Prop where
  tag : b.tag.length = 32
  round : Tx.fits b.round
  who : Tx.fits b.who
  amount : Tx.fits b.amount
  salt : Tx.fits b.salt
theorem ok_iff (b : Bd) : b.ok = true ↔ (0 ≤ b.who ∧ b.who ≤ 63) ∧ (0 ≤ b.round ∧ b.round ≤ 1099511627776) ∧ (0 ≤ b.amount ∧ b.amount ≤ 1099511627776) ∧ (0 ≤ b.salt ∧ b.salt ≤ 1099511627776) := by
  unfold ok
  simp only [Bool.and_eq_true, No.num_iff, No.acct_iff]
theorem ok_nums {b : Bd} (h : b.ok = true) : ∀ x ∈ b.numsL, 0 ≤ x ∧ x ≤ 9223372036854775807 := by
  rw [ok_iff] at h
  intro x hx
  simp [numsL] at hx
  rcases hx with rfl | rfl | rfl | rfl <;> omega
theorem read_text {b : Bd} {s : No.T8} (ht : b.tag.length = 32) (h : b.textE = (s, 0)) : read s = some b := by
  unfold textE at h
  split at h
  · next hk =>
    unfold read
    rw [Tx.listAll_listE h]
    have := No.raw_of b.numsL [b.tag] (ok_nums hk)
    simp only [Option.bind_some, fields]
    rw [show (4 : Nat) = b.numsL.length from rfl, this]
    simp only [Option.bind_some]
    rw [List.drop_left' (by simp)]
    simp only [numsL, of]
    rw [if_pos ⟨ht, hk⟩]
  · simp at h
end Bd

/-- a receipt -/
structure Rp where
  index : Int
  kind : Int
  time : Int
  body : ByteArray
  prev : List UInt8
  hash : List UInt8
namespace Rp
def cells (r : Rp) : List Value := [.int .i64 r.index, .int .i64 r.kind, .int .i64 r.time, .string r.body] ++ ((bRow r.prev).toList ++ (bRow r.hash).toList)
def v (r : Rp) : Value := .agg r.cells.toArray
def ok (r : Rp) : Bool := ((r.kind == 1) || (r.kind == 2)) && (Tx.num r.index && (Tx.num r.time && decide ((r.body.size : Int) ≤ 656)))
def zero : Rp := ⟨0, 0, 0, ByteArray.empty, Tx.zero, Tx.zero⟩
def numsL (r : Rp) : List Int := [r.index, r.kind, r.time]
def texts (r : Rp) : List No.T8 := (r.numsL.map fun x => Oct.num x.toNat) ++ [r.body.data.toList]
/-- the hash that it is to have -/
def link (r : Rp) : List UInt8 := Sha.sum (r.prev ++ (Oct.listE r.texts).1)
def fields (r : Rp) : List No.T8 := r.texts ++ [r.prev, r.hash]
def textE (r : Rp) : No.T8 × Int := if r.ok = true then (if r.hash = r.link then Oct.listE r.fields else ([], 7)) else ([], 2)
def of (ns : List Int) (rest : List No.T8) : Option Rp :=
  match ns, rest with
  | [a, b, c], [t, p, h] => if (p.length = 32 ∧ h.length = 32) ∧ (Rp.mk a b c ⟨t.toArray⟩ p h).ok = true ∧ h = (Rp.mk a b c ⟨t.toArray⟩ p h).link then some ⟨a, b, c, ⟨t.toArray⟩, p, h⟩ else none
  | _, _ => none
def read (s : No.T8) : Option Rp := (Tx.listAll s).bind fun l => (No.raw 3 l).bind fun ns => of ns (l.drop 3)
structure Fits (r : Rp) : Prop where
  prev : r.prev.length = 32
  hash : r.hash.length = 32
  body : r.body.size ≤ 140737488351232
  index : Tx.fits r.index
  kind : Tx.fits r.kind
  time : Tx.fits r.time
theorem ok_iff (r : Rp) : r.ok = true ↔ (r.kind = 1 ∨ r.kind = 2) ∧ (0 ≤ r.index ∧ r.index ≤ 1099511627776) ∧ (0 ≤ r.time ∧ r.time ≤ 1099511627776) ∧ (r.body.size : Int) ≤ 656 := by
  unfold ok
  simp only [Bool.and_eq_true, Bool.or_eq_true, No.num_iff, beq_iff_eq, decide_eq_true_eq]
theorem ok_nums {r : Rp} (h : r.ok = true) : ∀ x ∈ r.numsL, 0 ≤ x ∧ x ≤ 9223372036854775807 := by
  rw [ok_iff] at h
  intro x hx
  simp [numsL] at hx
  rcases hx with rfl | rfl | rfl <;> omega
theorem ok_num {r : Rp} (h : r.ok = true) : Tx.num r.index = true ∧ Tx.num r.kind = true ∧ Tx.num r.time = true := by
  rw [ok_iff] at h
  rw [No.num_iff, No.num_iff, No.num_iff]
  omega
theorem link_len (r : Rp) : r.link.length = 32 := Sha.sum_len _
theorem read_text {r : Rp} {s : No.T8} (hp : r.prev.length = 32) (h : r.textE = (s, 0)) : read s = some r := by
  unfold textE at h
  split at h
  · next hk =>
    split at h
    · next hh =>
      unfold read
      rw [Tx.listAll_listE h]
      have := No.raw_of r.numsL [r.body.data.toList, r.prev, r.hash] (ok_nums hk)
      have e : r.fields = r.numsL.map (fun x => Oct.num x.toNat) ++ [r.body.data.toList, r.prev, r.hash] := by unfold fields texts; simp
      simp only [Option.bind_some]
      rw [e, show (3 : Nat) = r.numsL.length from rfl, this]
      simp only [Option.bind_some]
      rw [List.drop_left' (by simp)]
      simp only [numsL, of, No.data_eq]
      rw [if_pos ⟨⟨hp, by rw [hh]; exact link_len r⟩, hk, hh⟩]
    · simp at h
  · simp at h
end Rp

/-- a batch's part: is it the inbox's, its text -/
abbrev Pt := Bool × List UInt8
namespace Pt
def ok (p : Pt) : Bool := decide (p.2.length ≤ 656) && !(p.1 && !p.2.isEmpty)
def lay (p : Pt) : No.T8 := if p.1 = true then [2] else 1 :: p.2
def of (s : No.T8) : Option Pt := if s = [2] then some (true, []) else match s with
  | c :: r => if c = 1 then some (false, r) else none
  | [] => none
theorem of_lay {p : Pt} (h : Pt.ok p = true) : of (lay p) = some p := by
  obtain ⟨d, t⟩ := p
  cases d
  · unfold lay of
    simp
  · unfold ok at h
    simp at h
    unfold lay of
    simp [h.2]
def all : List No.T8 → Option (List Pt)
  | [] => some []
  | s :: r => match of s with
    | none => none
    | some p => (all r).map (p :: ·)
theorem all_lay : ∀ {l : List Pt}, l.all ok = true → all (l.map lay) = some l
  | [], _ => rfl
  | p :: l, h => by
    simp only [List.all_cons, Bool.and_eq_true] at h
    simp only [List.map_cons, all, of_lay h.1, all_lay h.2, Option.map_some]
end Pt
/-- a batch -/
structure Bt where
  seq : Int
  first : Int
  before : Int
  parts : List Pt
namespace Bt
def ok (b : Bt) : Bool := (Tx.num b.seq && (Tx.num b.first && Tx.num b.before)) && (decide (b.parts.length ≤ 512) && b.parts.all Pt.ok)
def zero : Bt := ⟨0, 0, 0, []⟩
def numsL (b : Bt) : List Int := [b.seq, b.first, b.before]
def fields (b : Bt) : List No.T8 := (b.numsL.map fun x => Oct.num x.toNat) ++ b.parts.map Pt.lay
def textE (b : Bt) : No.T8 × Int := if b.ok = true then Oct.listE b.fields else ([], 2)
def of (ns : List Int) (rest : List No.T8) : Option Bt :=
  match ns, Pt.all rest with
  | [a, b, c], some ps => if (Bt.mk a b c ps).ok = true then some ⟨a, b, c, ps⟩ else none
  | _, _ => none
def read (s : No.T8) : Option Bt := (Tx.listAll s).bind fun l => (No.raw 3 l).bind fun ns => of ns (l.drop 3)
theorem ok_iff (b : Bt) : b.ok = true ↔ ((0 ≤ b.seq ∧ b.seq ≤ 1099511627776) ∧ (0 ≤ b.first ∧ b.first ≤ 1099511627776) ∧ (0 ≤ b.before ∧ b.before ≤ 1099511627776)) ∧ b.parts.length ≤ 512 ∧ b.parts.all Pt.ok = true := by
  unfold ok
  simp only [Bool.and_eq_true, No.num_iff, decide_eq_true_eq]
theorem ok_nums {b : Bt} (h : b.ok = true) : ∀ x ∈ b.numsL, 0 ≤ x ∧ x ≤ 9223372036854775807 := by
  rw [ok_iff] at h
  intro x hx
  simp [numsL] at hx
  rcases hx with rfl | rfl | rfl <;> omega
theorem read_text {b : Bt} {s : No.T8} (h : b.textE = (s, 0)) : read s = some b := by
  unfold textE at h
  split at h
  · next hk =>
    unfold read
    rw [Tx.listAll_listE h]
    have := No.raw_of b.numsL (b.parts.map Pt.lay) (ok_nums hk)
    simp only [Option.bind_some, fields]
    rw [show (3 : Nat) = b.numsL.length from rfl, this]
    simp only [Option.bind_some]
    rw [List.drop_left' (by simp)]
    have hp := Pt.all_lay ((ok_iff b).1 hk).2.2
    simp only [numsL, of, hp]
    rw [if_pos hk]
  · simp at h
end Bt
end Go.Proofs.YtlapmdgkcidhnaaDoor

/- ---- NoH ---- -/
/- notes: read. -/
/- What is held over a drawn region: a row, and all that was there. -/
namespace Go.Proofs.YtlapmdgkcidhnaaDoor
open Go.RowKit
set_option linter.unusedVariables false
set_option linter.unusedSimpArgs false

namespace No
end No
end Go.Proofs.YtlapmdgkcidhnaaDoor
namespace Go.Proofs.YtlapmdgkcidhnaaDoor
open Go.RowKit
set_option linter.unusedVariables false
set_option linter.unusedSimpArgs false

/-- a block as it was, and all below w0 -/
def RowIn (w0 W : World) (g : Nat) (T : TypeId) (C : List Value) : Prop := Row W g T C ∧ Below w0.heap.size w0 W
theorem RowIn.step {w0 W W' : World} {g : Nat} {T : TypeId} {C : List Value} (h : RowIn w0 W g T C) (hb : Below W.heap.size W W') : RowIn w0 W' g T C :=
  ⟨h.1.kept (grownBy_of_below hb none) (by simp), two_below' h.2 hb⟩
theorem RowIn.grown {w0 W W' : World} {g : Nat} {T : TypeId} {C : List Value} {r : Option Nat} (h : RowIn w0 W g T C) (hg : W.grownBy W' r) (hr : ∀ k, r = some k → w0.heap.size ≤ k) (hne : some g ≠ r) : RowIn w0 W' g T C :=
  ⟨h.1.kept hg hne, h.2.grown hg h.2.size hr⟩
theorem RowIn.drew {w0 W : World} {g : Nat} {T : TypeId} {C : List Value} (h : RowIn w0 W g T C) : RowIn w0 W.drew g T C := h.step (Below.refl _ _).drew
theorem RowIn.size {w0 W : World} {g : Nat} {T : TypeId} {C : List Value} (h : RowIn w0 W g T C) : w0.heap.size ≤ W.heap.size := h.2.size
/-- behind a call that makes memory, ahead of which a value was boxed -/
theorem rowIn_call {w w1 : World} {T : TypeId} {C : List Value} (h : Below (w.alloc (.cells C.toArray T)).heap.size (w.alloc (.cells C.toArray T)) w1) : RowIn w w1 w.heap.size T C :=
  ⟨(Row.new w T C).kept (grownBy_of_below h none) (by simp), tx_below (grownBy_of_below h none)⟩
theorem row_news {W : World} {g : Nat} {T : TypeId} {xs : List Value} (h : Row W g T xs) : ∀ j u, xs[j]? = some u → W.cell? ((⟨g, 0, none⟩ : Addr).add j) = some u := by
  intro j u hj
  obtain ⟨hlt, he⟩ := List.getElem?_eq_some_iff.1 hj
  have e : (⟨g, 0, none⟩ : Addr).add j = ⟨g, j, none⟩ := by unfold Addr.add; split <;> simp_all
  rw [e, h.cell j hlt, he]
theorem own_keeps {w0 W W' : World} {base n : Nat} {v : Value} {xs : List Value} {g : Nat} {T : TypeId} {C : List Value} (h : RowIn w0 W g T C) (hT : T ≠ 9) (hown : W.ownsRow base 9 1 v n xs) (hb : w0.heap.size ≤ base) (hg : W.grownBy W' v.ownBlock) : RowIn w0 W' g T C :=
  h.grown hg (fun k hk => Nat.le_trans hb (hown.lt k hk).1) (apart_of h.1 hT hown)
theorem list_owned (L : List (List UInt8)) {base k : Nat} {v : Value} {W : World} {xs : List Value} (hx : xs = L.map S) (h : W.ownsRow base 9 1 v (k + 1) xs) (hk : k + 1 = L.length) :
    Calls Tryd.prog 80 #[v] W fun e w' => e = .returned (.tuple #[S (Oct.listE L).1, .int .i64 (Oct.listE L).2]) ∧ Below W.heap.size W w' := by
  subst hx
  obtain ⟨g, cap, rfl⟩ := ownsRow_succ h
  exact list_own L base g (k + 1) cap W h hk
end Go.Proofs.YtlapmdgkcidhnaaDoor

/- ---- NoI ---- -/
/- notes: WriteItem. -/
/- notes: hashes. -/
namespace Go.Proofs.YtlapmdgkcidhnaaDoor
open Go.RowKit
set_option linter.unusedVariables false
set_option linter.unusedSimpArgs false

namespace It
def cells (i : It) : List Value := [.int .i64 i.kind, .int .i64 i.who, .int .i64 i.n, .string i.text]
end It
/-- texts behind numbers: an owned row, appended to -/
theorem str5 : ∃ i0 : TypeInfo, Tryd.prog.info? 9 = some i0 ∧ i0.zero = some (.string ByteArray.empty) ∧ i0.size = 1 ∧ i0.bytes = 16 := by
  obtain ⟨i0, hi, h2⟩ := Option.map_eq_some_iff.1 str_info5
  simp only [Prod.mk.injEq] at h2
  exact ⟨i0, hi, h2.1, h2.2.1, h2.2.2⟩
end Go.Proofs.YtlapmdgkcidhnaaDoor
namespace Go.Proofs.YtlapmdgkcidhnaaDoor
open Go.RowKit
set_option linter.unusedVariables false
set_option linter.unusedSimpArgs false

namespace No
end No
end Go.Proofs.YtlapmdgkcidhnaaDoor

/- ---- TxRef ---- -/
/- The reference of layer 4: number, Body. -/
namespace Go.Proofs.YtlapmdgkcidhnaaDoor
open Go.RowKit
set_option linter.unusedVariables false
set_option linter.unusedSimpArgs false

/-- the reference's List over texts of the call's own -/
theorem rlist_own (L : List (List UInt8)) (base g k cap : Nat) (W : World) (h : W.ownsRow base 9 1 (.slice (some ⟨g, 0, none⟩) k cap) k (L.map S)) (hk : k = L.length) :
    Calls Tryd.prog 106 #[.slice (some ⟨g, 0, none⟩) k cap] W fun e w' => e = .returned (.tuple #[S (Oct.listE L).1, .int .i64 (Oct.listE L).2]) ∧ Below W.heap.size W w' := by
  subst hk
  obtain ⟨A, c, hA, hT⟩ := texts_own h
  obtain ⟨rfl, rfl⟩ : some (⟨g, 0, none⟩ : Addr) = A ∧ cap = c := by simpa using hA
  exact refList_any _ _ L W hT
theorem own_lit (w : World) (base k : Nat) (L : List (List UInt8)) (hk : k = L.length) (hb : base ≤ w.heap.size) (hl : k ≤ 1000) : (w.alloc (.cells (L.map S).toArray 9)).ownsRow base 9 1 (.slice (some ⟨w.heap.size, 0, none⟩) k k) k (L.map S) := by
  subst hk
  refine ⟨by simp, .inr ⟨w.heap.size, L.length, (L.map S).toArray, rfl, hb, heap_alloc_new w _, Nat.le_refl _, by unfold maxLen; omega, by simp, by simp [List.take_of_length_le]⟩⟩
/-- what the drawn statements of Body count on -/
def BodyIn (w0 W : World) (g : Nat) (C : List Value) : Prop := Row W g 74 C ∧ Below w0.heap.size w0 W
theorem BodyIn.step {w0 W W' : World} {g : Nat} {C : List Value} (h : BodyIn w0 W g C) (hb : Below W.heap.size W W') : BodyIn w0 W' g C :=
  ⟨h.1.kept (grownBy_of_below hb none) (by simp), two_below' h.2 hb⟩
end Go.Proofs.YtlapmdgkcidhnaaDoor

/- ---- TxRead4 ---- -/
/- tx.Read. -/
namespace Go.Proofs.YtlapmdgkcidhnaaDoor
open Go.RowKit
set_option linter.unusedVariables false
set_option linter.unusedSimpArgs false

namespace Tx
end Tx
theorem bytes_below (w : World) (e : TypeId) (s : ByteArray) : Below w.heap.size w (Lib.bytesWorld w e s) :=
  ⟨rfl, rfl, rfl, by rw [Lib.bytesWorld_size]; omega, fun k hk => Lib.bytesWorld_at_old w e s k hk⟩
/-- a text of 32 bytes as a new row -/
theorem conv32 (W : World) (x : List UInt8) (hx : x.length = 32) : ∃ cp Wc, (convert 9 129 (S x)).run Tryd.prog W = .ok (.slice (some ⟨W.heap.size, 0, none⟩) 32 cp) Wc ∧ W.grownBy Wc none ∧ Wc.rangeAt W.heap.size 0 (bRow x).toList := by
  have h := Lib.run_convert_string_bytes (P := Tryd.prog) W 9 129 5 ⟨x.toArray⟩ Tryd.underlying9 Tryd.underlying129 Tryd.underlying5
  have hs : (⟨x.toArray⟩ : ByteArray).size = 32 := hx
  rw [hs] at h
  refine ⟨_, _, h, grownBy_of_below (bytes_below W 5 ⟨x.toArray⟩) none, ?_⟩
  intro j v hv
  rw [bRow_yRow x hx] at hv
  unfold yRow at hv
  simp only [List.getElem?_map] at hv
  obtain ⟨b, hb, rfl⟩ := Option.map_eq_some_iff.1 hv
  obtain ⟨hj, hb'⟩ := List.getElem?_eq_some_iff.1 hb
  rw [Nat.zero_add, Lib.bytesWorld_cell W 5 ⟨x.toArray⟩ j (by rw [hs, ← hx]; exact hj)]
  simp [hb]
end Go.Proofs.YtlapmdgkcidhnaaDoor
