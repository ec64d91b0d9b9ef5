/- What later texts need of the earlier layers. -/
import Derived.Test.YtjeooegkfjlejaaDoorEarO
import Derived.Test.YtjeooegkfjlejaaDoorEarS
import Derived.Test.YtjeooegkfjlejaaDoorEarT
import Derived.Test.YtjeooegkfjlejaaDoorEarC
import Derived.Deep.RegionLaw
import Derived.Deep.DeepAppendWide
import Derived.RangeFuncBox
import Derived.Deep.RegionHeld3
import Derived.Laws.ResultCell
import Derived.Laws.Closers25
import Derived.Deep.Onto
import Derived.Laws.CopyOwn
import Derived.Lib.BufferWrite
/- ---- EarA ---- -/
/- What later texts need of the earlier layers. -/
/- ---- TxCheck ---- -/
/- tx.Check and the reference's Check. -/
namespace Go.Proofs.YtjeooegkfjlejaaDoor
open Go.RowKit
set_option linter.unusedVariables false
set_option linter.unusedSimpArgs false

theorem tx_below {w w1 : World} {o : Obj} (h : (w.alloc o).grownBy w1 none) : Below w.heap.size w w1 := ((Below.refl w.heap.size w).alloc (Nat.le_refl _) o).grown h (by simp) (fun k hk => by cases hk)
theorem hash_built : Tryd.prog.built 42 [] = some (bRow Tx.zero) := by kernel_rfl
end Go.Proofs.YtjeooegkfjlejaaDoor

/- ---- OwnStep ---- -/
/- append onto a slice of the call's own, as one step of a region that draws its order. -/
namespace Go.Proofs.YtjeooegkfjlejaaDoor
open Go.RowKit
set_option linter.unusedVariables false
set_option linter.unusedSimpArgs false

end Go.Proofs.YtjeooegkfjlejaaDoor

/- ---- TxBodies ---- -/
/- tx.Body: its closure lay, and Body. -/
/- tx.Body. -/
namespace Go.Proofs.YtjeooegkfjlejaaDoor
open Go.RowKit
set_option linter.unusedVariables false
set_option linter.unusedSimpArgs false

theorem apart_of {w : World} {base B n : Nat} {t : TypeId} {v : Value} {xs ys : List Value} (hv : Row w B t ys) (ht : t ≠ 9) (hown : w.ownsRow base 9 1 v n xs) : some B ≠ v.ownBlock := by
  intro e
  rcases hown.2 with ⟨rfl, _⟩ | ⟨g, cap, cur, rfl, hg, hh, _⟩
  · simp [Value.ownBlock] at e
  · simp only [Value.ownBlock, Option.some.injEq] at e
    subst e
    unfold Row at hv
    rw [hh] at hv
    simp at hv
    exact ht hv.2.symm
theorem number_ok (n : Int) (w : World) (h0 : 0 ≤ n) (h1 : n ≤ 9223372036854775807) :
    Calls Tryd.prog 57 #[.int .i64 n] w fun e w' => e = .returned (.tuple #[S (Oct.num n.toNat), .int .i64 0]) ∧ Below w.heap.size w w' := by
  have := Number_any n w h1
  unfold Oct.numE at this
  rw [if_neg (by omega)] at this
  exact this
theorem str_info5 : (Tryd.prog.info? 9).map (fun i => (i.zero, i.size, i.bytes)) = some (some (.string ByteArray.empty), 1, 16) := by kernel_rfl
theorem one_text (w : World) (t : TypeId) (s : List UInt8) : ∀ j u, [S s][j]? = some u → (w.alloc (.cells #[S s] t)).cell? ((⟨w.heap.size, 0, none⟩ : Addr).add j) = some u := by
  intro j u hj
  match j, hj with
  | 0, hj =>
    simp at hj
    subst hj
    simp [Addr.add]
theorem one_textc (s : List UInt8) : ∀ u ∈ [S s], u.oneCell' = true := by
  intro u hu
  simp at hu
  subst hu
  rfl
end Go.Proofs.YtjeooegkfjlejaaDoor
namespace Go.Proofs.YtjeooegkfjlejaaDoor
open Go.RowKit
set_option linter.unusedVariables false
set_option linter.unusedSimpArgs false

namespace Tx
def lays (t : Tx) : List (List UInt8) := [Oct.num t.frm.toNat, Oct.num t.nonce.toNat, Oct.num t.fee.toNat, Oct.num t.to.toNat]
def fields (t : Tx) : List (List UInt8) := (t.lays ++ [t.data.data.toList]) ++ (if t.lane = true then [Oct.num t.round.toNat, Oct.num t.turn.toNat] else [])
def bodyE (t : Tx) : List UInt8 × Int := if t.err = 0 then Oct.listE t.fields else ([], t.err)
end Tx
theorem below_own {w0 W W' : World} {r : Option Nat} (h : Below w0.heap.size w0 W) (hg : W.grownBy W' r) (hr : ∀ k, r = some k → w0.heap.size ≤ k) : Below w0.heap.size w0 W' := h.grown hg h.size hr
/-- octets.List over texts of the call's own -/
theorem list_own (L : List (List UInt8)) (base g k cap : Nat) (W : World) (h : W.ownsRow base 9 1 (.slice (some ⟨g, 0, none⟩) k cap) k (L.map S)) (hk : k = L.length) :
    Calls Tryd.prog 59 #[.slice (some ⟨g, 0, none⟩) k cap] W fun e w' => e = .returned (.tuple #[S (Oct.listE L).1, .int .i64 (Oct.listE L).2]) ∧ Below W.heap.size W w' := by
  subst hk
  obtain ⟨A, c, hA, hT⟩ := texts_own h
  obtain ⟨rfl, rfl⟩ : some (⟨g, 0, none⟩ : Addr) = A ∧ cap = c := by simpa using hA
  exact List_any _ _ L W hT
end Go.Proofs.YtjeooegkfjlejaaDoor

/- ---- TxText ---- -/
/- tx.Text. -/
namespace Go.Proofs.YtjeooegkfjlejaaDoor
open Go.RowKit
set_option linter.unusedVariables false
set_option linter.unusedSimpArgs false

namespace Tx
def outer (t : Tx) (b : List UInt8) : List (List UInt8) := if t.lane = true then [b, t.tag, t.bY] else [b, t.tag]
def textE (t : Tx) : List UInt8 × Int := if t.bodyE.2 = 0 then Oct.listE (t.outer t.bodyE.1) else ([], t.bodyE.2)
end Tx
theorem two_below' {w w1 w2 : World} (h1 : Below w.heap.size w w1) (h2 : Below w1.heap.size w1 w2) : Below w.heap.size w w2 := h1.grown (grownBy_of_below h2 none) h1.size (fun k hk => by cases hk)
end Go.Proofs.YtjeooegkfjlejaaDoor

/- ---- TxRow ---- -/
/- Rows loaded and stored, whole or in the middle of a block; a result that lies in a block. -/
namespace Go.Proofs.YtjeooegkfjlejaaDoor
open Go.RowKit
set_option linter.unusedVariables false
set_option linter.unusedSimpArgs false

theorem row_setCells {g : Nat} {T : TypeId} : ∀ (l : List Value) (off : Nat) (w : World) (xs : List Value), Row w g T xs → off + l.length ≤ xs.length →
    Row (w.setCells g off l) g T (xs.take off ++ (l ++ xs.drop (off + l.length))) ∧ w.grownBy (w.setCells g off l) (some g)
  | [], off, w, xs, h, hl => by
    refine ⟨?_, grownBy_refl _ _⟩
    simp only [List.nil_append, List.length_nil, Nat.add_zero, List.take_append_drop]
    exact h
  | v :: l, off, w, xs, h, hl => by
    simp only [List.length_cons] at hl
    obtain ⟨h1, h2⟩ := row_setCells l (off + 1) (w.setCell ⟨g, off, none⟩ v) (xs.set off v) (h.set off v (by omega)) (by rw [List.length_set]; omega)
    refine ⟨?_, (grownBy_set w g off v).trans h2⟩
    have e1 : (xs.set off v).take (off + 1) = xs.take off ++ [v] := by
      rw [List.take_succ_eq_append_getElem (by rw [List.length_set]; omega), List.take_set_of_le (Nat.le_refl _)]
      simp
    have e2 : (xs.set off v).drop (off + 1 + l.length) = xs.drop (off + 1 + l.length) := by rw [List.drop_set_of_lt (by omega)]
    rw [e1, e2, List.append_assoc] at h1
    simp only [List.length_cons]
    rw [show off + (l.length + 1) = off + 1 + l.length by omega]
    exact h1
/-- a value of many cells stored into a block's middle -/
theorem wpList_store_at {P : Program} {ops : Array Oper} {rest : List Oper} {op : Oper} {a : Act} {w : World} {Q : Exit → Act → World → Prop} (hgd : op.guard = none) (ty : TypeId) (x y : Operand) (ho : op.op = .store ty x y)
    (g off : Nat) (l xs : List Value) (T : TypeId) (hx : a.eval x = .pointer (some ⟨g, off, none⟩)) (hy : a.eval y = .agg l.toArray) (hg : Row w g T xs) (hoff : off + l.length ≤ xs.length)
    (hi : (P.info? ty).map (·.size) = some l.length) (h1 : ∀ v ∈ l, v.oneCell' = true)
    (h : ∀ w', Row w' g T (xs.take off ++ (l ++ xs.drop (off + l.length))) → w.grownBy w' (some g) → wpList P ops Q rest (a.put op.dst undef) w') : wpList P ops Q (op :: rest) a w := by
  obtain ⟨r1, r2⟩ := row_setCells l off w xs hg hoff
  exact wpList_store_mid hgd ty x y ho g off l.toArray hx hy (fun j hj => ⟨by
    have hj' : j < l.length := by simpa using hj
    rw [hg.cell (off + j) (by omega)]; rfl, hg.free _⟩) (by simpa using hi) (all_oneCell_toArray h1) (h _ r1 r2)
theorem results_rowL {P : Program} {fn : Func} {p u : Tmp} {ty : TypeId} (h : fn.results = #[.cell p ty, .tmp u]) (tmps : Array Value) (w : World) (g : Nat) (T : TypeId) (xs : List Value) (d : TypeDesc)
    (hp : tmps.getD p undef = .pointer (some ⟨g, 0, none⟩)) (hg : Row w g T xs)
    (hu : P.underlying ty = some d) (hd : (match d with | .struct _ | .array _ _ => true | _ => false) = true) (hi : (P.info? ty).map (·.size) = some xs.toArray.size) (x : Value) (hx : tmps.getD u undef = x) :
    (results fn tmps).run P w = .ok (.tuple #[.agg xs.toArray, x]) w := by
  rw [results_cell_tmp h, hp]
  have hl := run_loadVar_row w g T ty xs.toArray (0, 0) d hg hu hd hi
  have ha : (asAddr (.pointer (some ⟨g, 0, none⟩))).run P w = .ok ⟨g, 0, none⟩ w := rfl
  rw [ha]
  simp only [Result.andThen, hl, hx]
theorem row_range {w : World} {g : Nat} {T : TypeId} {xs : List Value} (h : Row w g T xs) : w.rangeAt g 0 xs := by
  intro j v hv
  obtain ⟨hlt, he⟩ := List.getElem?_eq_some_iff.1 hv
  rw [Nat.zero_add, h.cell j hlt, he]
theorem hash_one (R : List UInt8) (h : R.length = 32) : ∀ v ∈ (bRow R).toList, v.oneCell' = true := by
  rw [bRow_yRow R h]
  unfold yRow
  intro v hv
  simp at hv
  obtain ⟨b, _, rfl⟩ := hv
  rfl
theorem Tx.cells_one {t : Tx} (h : t.Ok) : ∀ v ∈ t.cells, v.oneCell' = true := by
  intro v hv
  unfold Tx.cells Tx.head at hv
  rcases List.mem_append.1 hv with h1 | h1
  · simp at h1
    rcases h1 with rfl | rfl | rfl | rfl | rfl | rfl | rfl | rfl <;> rfl
  · rcases List.mem_append.1 h1 with h2 | h2
    · exact hash_one _ h.bY v h2
    · exact hash_one _ h.tag v h2
theorem hash_zv (w : World) : (zeroValue 42).run Tryd.prog w = .ok (.agg (bRow Tx.zero)) w := by kernel_rfl
/-- a list's bytes are few -/
theorem listGo_len : ∀ (L : List (List UInt8)) (left : Nat) (b : List UInt8), Oct.listGo left L = some b → b.length ≤ left + 9 * L.length
  | [], left, b, h => by
    simp only [Oct.listGo, Option.some.injEq] at h
    subst h
    simp
  | s :: r, left, b, h => by
    unfold Oct.listGo at h
    split at h
    · cases h
    · obtain ⟨c, hc, rfl⟩ := Option.map_eq_some_iff.1 h
      have := listGo_len r (left - s.length) c hc
      have h2 := Oct.num_length_le s.length
      have h3 : (Oct.text s).length = (Oct.num s.length).length + s.length := by unfold Oct.text; rw [List.length_append]
      rw [List.length_append, h3, List.length_cons]
      omega
theorem listE_len (L : List (List UInt8)) : (Oct.listE L).1.length ≤ 100000 := by
  unfold Oct.listE
  split
  · simp
  · next hl =>
    cases h : Oct.listGo 65536 L with
    | none => simp
    | some b =>
      have h1 := listGo_len L 65536 b h
      have h2 := Oct.num_length_le L.length
      simp only [List.length_append]
      omega
end Go.Proofs.YtjeooegkfjlejaaDoor

/- ---- TxSigns ---- -/
/- tx.Name, Sign, Hand, Signed. -/
/- tx.Sign, Hand. -/
namespace Go.Proofs.YtjeooegkfjlejaaDoor
open Go.RowKit
set_option linter.unusedVariables false
set_option linter.unusedSimpArgs false

theorem splice_all {xs l : List Value} (h : l.length = xs.length) : xs.take 0 ++ (l ++ xs.drop (0 + l.length)) = l := by
  rw [List.take_zero, List.nil_append, List.drop_of_length_le (by omega), List.append_nil]
theorem row_two (w : World) (A B : Array Value) (t1 t2 : TypeId) : Row ((w.alloc (.cells A t1)).alloc (.cells B t2)) (w.heap.size + 1) t2 B.toList ∧ Below w.heap.size w ((w.alloc (.cells A t1)).alloc (.cells B t2)) ∧ Row ((w.alloc (.cells A t1)).alloc (.cells B t2)) w.heap.size t1 A.toList := by
  have h := Row.new (w.alloc (.cells A t1)) t2 B.toList
  rw [show ∀ (W : World) (o : Obj), (W.alloc o).heap.size = W.heap.size + 1 from fun W o => by simp] at h
  exact ⟨h, ((Below.refl w.heap.size w).alloc (Nat.le_refl _) _).alloc (by simp) _, (Row.new w t1 A.toList).kept (grownBy_alloc _ _ none) (by simp)⟩
namespace Tx
end Tx

end Go.Proofs.YtjeooegkfjlejaaDoor
namespace Go.Proofs.YtjeooegkfjlejaaDoor
open Go.RowKit
set_option linter.unusedVariables false
set_option linter.unusedSimpArgs false

end Go.Proofs.YtjeooegkfjlejaaDoor

/- ---- TxReads ---- -/
/- tx.Read: its mathematics; list, whole. -/
/- tx.readBody. -/
/- tx.readBody: the walk. -/
namespace Go.Proofs.YtjeooegkfjlejaaDoor
open Go.RowKit
set_option linter.unusedVariables false
set_option linter.unusedSimpArgs false

namespace Tx
end Tx

end Go.Proofs.YtjeooegkfjlejaaDoor
namespace Go.Proofs.YtjeooegkfjlejaaDoor
open Go.RowKit
set_option linter.unusedVariables false
set_option linter.unusedSimpArgs false

namespace Tx
/-- the i-th number of a body put in its place -/
def put (t : Tx) (i : Nat) (n : Int) : Tx :=
  if i = 0 then { t with frm := n } else if i = 1 then { t with nonce := n } else if i = 2 then { t with fee := n } else if i = 3 then { t with to := n } else if i = 5 then { t with round := n } else if i = 6 then { t with turn := n } else t
end Tx
end Go.Proofs.YtjeooegkfjlejaaDoor
namespace Go.Proofs.YtjeooegkfjlejaaDoor
open Go.RowKit
set_option linter.unusedVariables false
set_option linter.unusedSimpArgs false

end Go.Proofs.YtjeooegkfjlejaaDoor

/- ---- NoA ---- -/
/- notes: number, account, fields. -/
/- notes: numbers. -/
/- notes: itemMayBe. -/
namespace Go.Proofs.YtjeooegkfjlejaaDoor
open Go.RowKit
set_option linter.unusedVariables false
set_option linter.unusedSimpArgs false

theorem nnumber_any (n : Int) (w : World) :
    Calls Tryd.prog 85 #[.int .i64 n] w fun e w' => e = .returned (.bool (Tx.num n)) ∧ w = w' := by
  unfold Tx.num
  by_cases h : 0 ≤ n
  · have hd : decide (0 ≤ n) = true := by simpa using h
    have Hd := Lib.hid hd
    clear hd
    go_enter Tryd.func85, Tryd.ntmps85
    go_wp2
    go_ret
    exact ⟨by rw [Hd.out]; rfl, rfl⟩
  · have hd : decide (0 ≤ n) = false := by simpa using h
    have Hd := Lib.hid hd
    clear hd
    go_enter Tryd.func85, Tryd.ntmps85
    go_wp2
    go_ret
    exact ⟨by rw [Hd.out]; rfl, rfl⟩
end Go.Proofs.YtjeooegkfjlejaaDoor
namespace Go.Proofs.YtjeooegkfjlejaaDoor
open Go.RowKit
set_option linter.unusedVariables false
set_option linter.unusedSimpArgs false

theorem row_apart {w w1 : World} {base nb n : Nat} {e t : TypeId} {size : Nat} {v : Value} {xs ys : List Value} (h : Row w nb t ys) (hlt : nb < base) (hown : w.ownsRow base e size v n xs) (hg : w.grownBy w1 v.ownBlock) : Row w1 nb t ys :=
  h.kept hg (fun hh => by have := (hown.lt nb hh.symm).1; omega)
theorem below_row {w w1 w2 : World} {base n : Nat} {e : TypeId} {size : Nat} {v : Value} {xs : List Value} (hb : Below base w w1) (hs : base ≤ w1.heap.size) (hown : w1.ownsRow base e size v n xs) (hg : w1.grownBy w2 v.ownBlock) : Below base w w2 :=
  hb.grown hg hs (fun k hk => (hown.lt k hk).1)
set_option maxRecDepth 20000 in
set_option maxHeartbeats 400000 in
theorem numbers_any (ns : List Int) (c : Nat) (hns : ∀ n ∈ ns, 0 ≤ n ∧ n ≤ 9223372036854775807) (w : World) (nb : Nat) (hN : Row w nb 3 (Is ns)) (hlen : ns.length ≤ 900) :
    Calls Tryd.prog 78 #[.slice (some ⟨nb, 0, none⟩) ns.length c] w fun e w' => ∃ v, e = .returned v ∧ w'.ownsRow w.heap.size 9 1 v ns.length ((ns.map fun n => Oct.num n.toNat).map S) ∧ Below w.heap.size w w' := by
  obtain ⟨i0, hi, h2⟩ := Option.map_eq_some_iff.1 str_info5
  simp only [Prod.mk.injEq] at h2
  obtain ⟨hz, hs, hby⟩ := h2
  have Hi := Lib.hid hi
  have Hz := Lib.hid hz
  have Hs := Lib.hid hs
  have Hby := Lib.hid hby
  have HN := Lib.hid hN
  have Hns := Lib.hid hns
  have hnb := hN.lt
  obtain ⟨m, hm⟩ : ∃ m, m = ns.length := ⟨_, rfl⟩
  rw [← hm] at hlen ⊢
  have Hm := Lib.hid hm
  clear hi hz hs hby hN hns hm
  go_enter Tryd.func78, Tryd.ntmps78
  go_wp2_with (with_reducible show wpList _ _ _ (⟨_, .makeSlice _ _ _, _, _, _, _⟩ :: _) _ _
               refine wpList_make_own w rfl _ _ 80 rfl w.heap.size 9 i0 (.string ByteArray.empty) 1 Tryd.underlying80 Hi.out Hz.out Hs.out .i64 .i64 ((m : Int) + 2) (m + 2) rfl rfl (by omega) (by rw [Hby.out]; omega) (by unfold maxLen; omega) (Nat.le_refl _) ?_
               intro w1 hown1 hg1
               have Hown1 := Lib.hid hown1
               have HN1 := Lib.hid (HN.out.kept hg1 (by simp))
               have Hb1 := Lib.hid ((Below.refl w.heap.size w).grown hg1 (Nat.le_refl _) (fun k hk => by cases hk))
               clear hown1 hg1)
  go_loopw [3, 14] (fun v i wr => ∃ k : Nat, k ≤ m ∧ i = .int .i64 k ∧ wr.ownsRow w.heap.size 9 1 v k (((ns.take k).map fun n => Oct.num n.toNat).map S) ∧ Row wr nb 3 (Is ns) ∧ Below w.heap.size w wr) (fun _ i _ => m - (intOf i).toNat)
  case atStart => exact ⟨0, Nat.zero_le _, rfl, by simpa using Hown1.out, HN1.out, Hb1.out⟩
  case round =>
    obtain ⟨k, hk, rfl, hown, hNr, hbr⟩ := hrel
    have HNr := Lib.hid hNr
    have Hbr := Lib.hid hbr
    have Hown := Lib.hid hown
    clear hNr hbr hown Hown1 HN1 Hb1 HN
    by_cases hlt : k < m
    · have hki : (k : Int) < (m : Int) := by omega
      have hkn : k < ns.length := by rw [← Hm.out]; exact hlt
      have cn := HNr.out.num k hkn
      obtain ⟨x, hx⟩ : ∃ x, x = ns.getD k 0 := ⟨_, rfl⟩
      have hxn : ns[k] = x := by rw [hx]; simp [List.getD, hkn]
      have hxb := Hns.out x (by rw [← hxn]; exact List.getElem_mem hkn)
      have htk : ((ns.take (k + 1)).map fun n => Oct.num n.toNat).map S = ((ns.take k).map fun n => Oct.num n.toNat).map S ++ [S (Oct.num x.toNat)] := by
        rw [List.take_succ_eq_append_getElem hkn, List.map_append, List.map_append, hxn]; rfl
      rw [← hx] at cn
      have Htk := Lib.hid htk
      generalize ((ns.take k).map fun n => Oct.num n.toNat).map S = K at *
      clear htk hx hxn hkn
      go_wp2_with fail
      refine (number_ok x _ hxb.1 hxb.2).mono ?_
      rintro _ w1 ⟨rfl, hb1⟩
      have hg1 := grownBy_of_below hb1 none
      have hown1 := Hown.out.kept hg1 (by cases u3.ownBlock <;> simp)
      have hN1 := HNr.out.kept hg1 (by simp)
      have hb1' := two_below' Hbr.out hb1
      have hown2 := hown1.alloc (.cells #[S (Oct.num x.toNat)] 9)
      have hN2 := hN1.kept (grownBy_alloc w1 (.cells #[S (Oct.num x.toNat)] 9) none) (by simp)
      have hb2 : Below w.heap.size w (w1.alloc (.cells #[S (Oct.num x.toNat)] 9)) := hb1'.alloc hb1'.size _
      have hsz2 : w.heap.size ≤ (w1.alloc (.cells #[S (Oct.num x.toNat)] 9)).heap.size := hb2.size
      have hk63 : k + 1 ≤ maxLen := by unfold maxLen; omega
      have hk48 : ((k + 1) + (k + 1) / 4 + 192) * 16 ≤ 281474976710656 := by omega
      have Hown2 := Lib.hid hown2
      have HN2 := Lib.hid hN2
      have Hb2 := Lib.hid hb2
      clear hb1 hg1 hown1 hN1 hb1' hown2 hN2 hb2 Hown HNr Hbr cn
      go_wp2_with (at_builtin; refine wpList_append_own_wide _ rfl (.tmp 23) (.tmp 25) 80 rfl w.heap.size 9 i0 (.string ByteArray.empty) 1 16 Tryd.underlying80 Hi.out Hz.out Hs.out Hby.out rfl (by decide) _ _ _ rfl Hown2.out ⟨w1.heap.size, 0, none⟩ 1 1 [S (Oct.num x.toNat)] rfl rfl (one_text _ _ _) (one_textc _) hk63 hk48 hsz2 ?_
                   intro v' w3 hown3 hgrow3 _
                   obtain ⟨g, cap, rfl⟩ := ownsRow_succ hown3
                   have HN3 := Lib.hid (row_apart HN2.out hnb Hown2.out hgrow3)
                   have Hb3 := Lib.hid (below_row Hb2.out hsz2 Hown2.out hgrow3)
                   have Hown3 := Lib.hid hown3
                   clear hown3 hgrow3)
      refine ⟨⟨k + 1, hlt, by go_num, by rw [Htk.out]; exact Hown3.out, HN3.out, Hb3.out⟩, by simp [intOf]; omega⟩
    · have hki : (m : Int) ≤ (k : Int) := by omega
      have ekm : k = m := by omega
      subst ekm
      have hown := Hown.out
      rw [List.take_of_length_le (by rw [← Hm.out]; omega)] at hown
      have Hown' := Lib.hid hown
      clear hown
      go_wp2_with fail
      go_ret
      exact ⟨_, rfl, Hown'.out, Hbr.out⟩
end Go.Proofs.YtjeooegkfjlejaaDoor
namespace Go.Proofs.YtjeooegkfjlejaaDoor
open Go.RowKit
set_option linter.unusedVariables false
set_option linter.unusedSimpArgs false

def Item.v (kd who n : Int) (s : ByteArray) : Value := .agg #[.int .i64 kd, .int .i64 who, .int .i64 n, .string s]
theorem item_a10 (kd who n : Int) (s : ByteArray) (w : World) (k1 : (kd == 1) = true) (b0 : ¬ 0 ≤ who) : Calls Tryd.prog 77 #[.agg #[.int .i64 kd, .int .i64 who, .int .i64 n, .string s]] w fun e w' => e = .returned (.bool false) ∧ Below w.heap.size w w' := by
  go_enter Tryd.func77, Tryd.ntmps77
  go_wp2_with fail
  go_ret
  exact ⟨by first | rfl | (simp; done) | (simp; omega), (Below.refl w.heap.size w).alloc (Nat.le_refl _) _⟩
theorem item_a11 (kd who n : Int) (s : ByteArray) (w : World) (k1 : (kd == 1) = true) (b0 : 0 ≤ who) (b1 : ¬ who ≤ 64) : Calls Tryd.prog 77 #[.agg #[.int .i64 kd, .int .i64 who, .int .i64 n, .string s]] w fun e w' => e = .returned (.bool false) ∧ Below w.heap.size w w' := by
  go_enter Tryd.func77, Tryd.ntmps77
  go_wp2_with fail
  go_ret
  exact ⟨by first | rfl | (simp; done) | (simp; omega), (Below.refl w.heap.size w).alloc (Nat.le_refl _) _⟩
theorem item_a12 (kd who n : Int) (s : ByteArray) (w : World) (k1 : (kd == 1) = true) (b0 : 0 ≤ who) (b1 : who ≤ 64) (n0 : (n == 0) = false) : Calls Tryd.prog 77 #[.agg #[.int .i64 kd, .int .i64 who, .int .i64 n, .string s]] w fun e w' => e = .returned (.bool false) ∧ Below w.heap.size w w' := by
  go_enter Tryd.func77, Tryd.ntmps77
  go_wp2_with fail
  go_ret
  exact ⟨by first | rfl | (simp; done) | (simp; omega), (Below.refl w.heap.size w).alloc (Nat.le_refl _) _⟩
theorem item_a13 (kd who n : Int) (s : ByteArray) (w : World) (k1 : (kd == 1) = true) (b0 : 0 ≤ who) (b1 : who ≤ 64) (n0 : (n == 0) = true) (t0 : ¬ (s.size : Int) ≤ 65472) : Calls Tryd.prog 77 #[.agg #[.int .i64 kd, .int .i64 who, .int .i64 n, .string s]] w fun e w' => e = .returned (.bool false) ∧ Below w.heap.size w w' := by
  go_enter Tryd.func77, Tryd.ntmps77
  go_wp2_with fail
  go_ret
  exact ⟨by first | rfl | (simp; done) | (simp; omega), (Below.refl w.heap.size w).alloc (Nat.le_refl _) _⟩
theorem item_a14 (kd who n : Int) (s : ByteArray) (w : World) (k1 : (kd == 1) = true) (b0 : 0 ≤ who) (b1 : who ≤ 64) (n0 : (n == 0) = true) (t0 : (s.size : Int) ≤ 65472) : Calls Tryd.prog 77 #[.agg #[.int .i64 kd, .int .i64 who, .int .i64 n, .string s]] w fun e w' => e = .returned (.bool true) ∧ Below w.heap.size w w' := by
  go_enter Tryd.func77, Tryd.ntmps77
  go_wp2_with fail
  go_ret
  exact ⟨by first | rfl | (simp; done) | (simp; omega), (Below.refl w.heap.size w).alloc (Nat.le_refl _) _⟩
theorem item_a30 (kd who n : Int) (s : ByteArray) (w : World) (k1 : (kd == 1) = false) (k3 : (kd == 3) = true) (b0 : ¬ 0 ≤ who) : Calls Tryd.prog 77 #[.agg #[.int .i64 kd, .int .i64 who, .int .i64 n, .string s]] w fun e w' => e = .returned (.bool false) ∧ Below w.heap.size w w' := by
  go_enter Tryd.func77, Tryd.ntmps77
  go_wp2_with fail
  go_ret
  exact ⟨by first | rfl | (simp; done) | (simp; omega), (Below.refl w.heap.size w).alloc (Nat.le_refl _) _⟩
theorem item_a31 (kd who n : Int) (s : ByteArray) (w : World) (k1 : (kd == 1) = false) (k3 : (kd == 3) = true) (b0 : 0 ≤ who) (b1 : ¬ who ≤ 64) : Calls Tryd.prog 77 #[.agg #[.int .i64 kd, .int .i64 who, .int .i64 n, .string s]] w fun e w' => e = .returned (.bool false) ∧ Below w.heap.size w w' := by
  go_enter Tryd.func77, Tryd.ntmps77
  go_wp2_with fail
  go_ret
  exact ⟨by first | rfl | (simp; done) | (simp; omega), (Below.refl w.heap.size w).alloc (Nat.le_refl _) _⟩
theorem item_a32 (kd who n : Int) (s : ByteArray) (w : World) (k1 : (kd == 1) = false) (k3 : (kd == 3) = true) (b0 : 0 ≤ who) (b1 : who ≤ 64) (n0 : (n == 0) = false) : Calls Tryd.prog 77 #[.agg #[.int .i64 kd, .int .i64 who, .int .i64 n, .string s]] w fun e w' => e = .returned (.bool false) ∧ Below w.heap.size w w' := by
  go_enter Tryd.func77, Tryd.ntmps77
  go_wp2_with fail
  go_ret
  exact ⟨by first | rfl | (simp; done) | (simp; omega), (Below.refl w.heap.size w).alloc (Nat.le_refl _) _⟩
theorem item_a33 (kd who n : Int) (s : ByteArray) (w : World) (k1 : (kd == 1) = false) (k3 : (kd == 3) = true) (b0 : 0 ≤ who) (b1 : who ≤ 64) (n0 : (n == 0) = true) (t0 : ¬ (s.size : Int) ≤ 65472) : Calls Tryd.prog 77 #[.agg #[.int .i64 kd, .int .i64 who, .int .i64 n, .string s]] w fun e w' => e = .returned (.bool false) ∧ Below w.heap.size w w' := by
  go_enter Tryd.func77, Tryd.ntmps77
  go_wp2_with fail
  go_ret
  exact ⟨by first | rfl | (simp; done) | (simp; omega), (Below.refl w.heap.size w).alloc (Nat.le_refl _) _⟩
theorem item_a34 (kd who n : Int) (s : ByteArray) (w : World) (k1 : (kd == 1) = false) (k3 : (kd == 3) = true) (b0 : 0 ≤ who) (b1 : who ≤ 64) (n0 : (n == 0) = true) (t0 : (s.size : Int) ≤ 65472) : Calls Tryd.prog 77 #[.agg #[.int .i64 kd, .int .i64 who, .int .i64 n, .string s]] w fun e w' => e = .returned (.bool true) ∧ Below w.heap.size w w' := by
  go_enter Tryd.func77, Tryd.ntmps77
  go_wp2_with fail
  go_ret
  exact ⟨by first | rfl | (simp; done) | (simp; omega), (Below.refl w.heap.size w).alloc (Nat.le_refl _) _⟩
theorem item_d (kd who n : Int) (s : ByteArray) (w : World) (k1 : (kd == 1) = false) (k3 : (kd == 3) = false) (k2 : (kd == 2) = false) : Calls Tryd.prog 77 #[.agg #[.int .i64 kd, .int .i64 who, .int .i64 n, .string s]] w fun e w' => e = .returned (.bool false) ∧ Below w.heap.size w w' := by
  go_enter Tryd.func77, Tryd.ntmps77
  go_wp2_with fail
  go_ret
  exact ⟨by first | rfl | (simp; done), (Below.refl w.heap.size w).alloc (Nat.le_refl _) _⟩
theorem item_c0 (kd who n : Int) (s : ByteArray) (w : World) (k1 : (kd == 1) = false) (k3 : (kd == 3) = false) (k2 : (kd == 2) = true) (b0 : (who == 0) = false) : Calls Tryd.prog 77 #[.agg #[.int .i64 kd, .int .i64 who, .int .i64 n, .string s]] w fun e w' => e = .returned (.bool false) ∧ Below w.heap.size w w' := by
  go_enter Tryd.func77, Tryd.ntmps77
  go_wp2_with fail
  go_ret
  exact ⟨by first | rfl | (simp; done), (Below.refl w.heap.size w).alloc (Nat.le_refl _) _⟩
theorem item_c1 (kd who n : Int) (s : ByteArray) (w : World) (k1 : (kd == 1) = false) (k3 : (kd == 3) = false) (k2 : (kd == 2) = true) (b0 : (who == 0) = true) (nn : Tx.num n = false) : Calls Tryd.prog 77 #[.agg #[.int .i64 kd, .int .i64 who, .int .i64 n, .string s]] w fun e w' => e = .returned (.bool false) ∧ Below w.heap.size w w' := by
  have NN := fun W => nnumber_any n W
  rw [nn] at NN
  clear nn
  go_enter Tryd.func77, Tryd.ntmps77
  go_wp2_with fail
  refine (NN _).mono ?_
  rintro _ w1 ⟨rfl, rfl⟩
  go_wp2_with fail
  go_ret
  exact ⟨by first | rfl | (simp; done), (Below.refl w.heap.size w).alloc (Nat.le_refl _) _⟩
theorem item_c2 (kd who n : Int) (s : ByteArray) (w : World) (k1 : (kd == 1) = false) (k3 : (kd == 3) = false) (k2 : (kd == 2) = true) (b0 : (who == 0) = true) (nn : Tx.num n = true) : Calls Tryd.prog 77 #[.agg #[.int .i64 kd, .int .i64 who, .int .i64 n, .string s]] w fun e w' => e = .returned (.bool s.toList.isEmpty) ∧ Below w.heap.size w w' := by
  have NN := fun W => nnumber_any n W
  rw [nn] at NN
  clear nn
  go_enter Tryd.func77, Tryd.ntmps77
  go_wp2_with fail
  refine (NN _).mono ?_
  rintro _ w1 ⟨rfl, rfl⟩
  go_wp2_with fail
  go_ret
  exact ⟨by first | rfl | (simp; done), (Below.refl w.heap.size w).alloc (Nat.le_refl _) _⟩
/-- which items there may be -/
def Item.ok (kd who n : Int) (s : ByteArray) : Bool :=
  if (kd == 1) = true ∨ (kd == 3) = true then decide (0 ≤ who ∧ who ≤ 64 ∧ (n == 0) = true ∧ (s.size : Int) ≤ 65472)
  else if (kd == 2) = true ∧ (who == 0) = true ∧ Tx.num n = true then s.toList.isEmpty else false
theorem itemMayBe_any (kd who n : Int) (s : ByteArray) (w : World) : Calls Tryd.prog 77 #[.agg #[.int .i64 kd, .int .i64 who, .int .i64 n, .string s]] w fun e w' => e = .returned (.bool (Item.ok kd who n s)) ∧ Below w.heap.size w w' := by
  unfold Item.ok
  rcases Bool.eq_false_or_eq_true (kd == 1) with k1 | k1
  · rw [if_pos (.inl k1)]
    by_cases b0 : 0 ≤ who
    · by_cases b1 : who ≤ 64
      · rcases Bool.eq_false_or_eq_true (n == 0) with n0 | n0
        · by_cases t0 : (s.size : Int) ≤ 65472
          · rw [decide_eq_true ⟨b0, b1, n0, t0⟩]; exact item_a14 kd who n s w k1 b0 b1 n0 t0
          · rw [decide_eq_false (fun h => t0 h.2.2.2)]; exact item_a13 kd who n s w k1 b0 b1 n0 t0
        · rw [decide_eq_false (fun h => by rw [n0] at h; exact absurd h.2.2.1 (by simp))]; exact item_a12 kd who n s w k1 b0 b1 n0
      · rw [decide_eq_false (fun h => b1 h.2.1)]; exact item_a11 kd who n s w k1 b0 b1
    · rw [decide_eq_false (fun h => b0 h.1)]; exact item_a10 kd who n s w k1 b0
  rcases Bool.eq_false_or_eq_true (kd == 3) with k3 | k3
  · rw [if_pos (.inr k3)]
    by_cases b0 : 0 ≤ who
    · by_cases b1 : who ≤ 64
      · rcases Bool.eq_false_or_eq_true (n == 0) with n0 | n0
        · by_cases t0 : (s.size : Int) ≤ 65472
          · rw [decide_eq_true ⟨b0, b1, n0, t0⟩]; exact item_a34 kd who n s w k1 k3 b0 b1 n0 t0
          · rw [decide_eq_false (fun h => t0 h.2.2.2)]; exact item_a33 kd who n s w k1 k3 b0 b1 n0 t0
        · rw [decide_eq_false (fun h => by rw [n0] at h; exact absurd h.2.2.1 (by simp))]; exact item_a32 kd who n s w k1 k3 b0 b1 n0
      · rw [decide_eq_false (fun h => b1 h.2.1)]; exact item_a31 kd who n s w k1 k3 b0 b1
    · rw [decide_eq_false (fun h => b0 h.1)]; exact item_a30 kd who n s w k1 k3 b0
  rw [if_neg (by simp [k1, k3])]
  rcases Bool.eq_false_or_eq_true (kd == 2) with k2 | k2
  · rcases Bool.eq_false_or_eq_true (who == 0) with b0 | b0
    · rcases Bool.eq_false_or_eq_true (Tx.num n) with nn | nn
      · rw [if_pos ⟨k2, b0, nn⟩]; exact item_c2 kd who n s w k1 k3 k2 b0 nn
      · rw [if_neg (by simp [nn])]; exact item_c1 kd who n s w k1 k3 k2 b0 nn
    · rw [if_neg (by simp [b0])]; exact item_c0 kd who n s w k1 k3 k2 b0
  · rw [if_neg (by simp [k2])]; exact item_d kd who n s w k1 k3 k2
end Go.Proofs.YtjeooegkfjlejaaDoor

/- ---- NoMath ---- -/
/- notes, as plain data: items, bids, receipts, batches; their bytes, and what bytes are read as. -/
namespace Go.Proofs.YtjeooegkfjlejaaDoor
open Go.RowKit
set_option linter.unusedVariables false
set_option linter.unusedSimpArgs false

namespace No
abbrev T8 := List UInt8
theorem empty_iff (s : ByteArray) : s.toList.isEmpty = true ↔ s.data.toList = [] := by
  rw [← decide_eq_emptyBytes, decide_eq_true_eq]
  constructor
  · rintro rfl; rfl
  · intro h
    have : s.data = #[] := Array.toList_inj.1 h
    cases s
    simp only at this
    subst this
    rfl
theorem num_iff {x : Int} : Tx.num x = true ↔ 0 ≤ x ∧ x ≤ 1099511627776 := by unfold Tx.num; simp
theorem acct_iff {x : Int} : Tx.acct x = true ↔ 0 ≤ x ∧ x ≤ 63 := by unfold Tx.acct; simp
end No

/-- an item -/
structure It where
  kind : Int
  who : Int
  n : Int
  text : ByteArray
namespace It
def v (i : It) : Value := .agg #[.int .i64 i.kind, .int .i64 i.who, .int .i64 i.n, .string i.text]
def ok (i : It) : Bool := Item.ok i.kind i.who i.n i.text
def zero : It := ⟨0, 0, 0, ByteArray.empty⟩
def fields (i : It) : List No.T8 := [Oct.num i.kind.toNat, Oct.num i.who.toNat, Oct.num i.n.toNat, i.text.data.toList]
def textE (i : It) : No.T8 × Int := if i.ok = true then Oct.listE i.fields else ([], 2)
def of (ns : List Int) (rest : List No.T8) : Option It :=
  match ns, rest with
  | [a, b, c], [t] => if (It.mk a b c ⟨t.toArray⟩).ok = true then some ⟨a, b, c, ⟨t.toArray⟩⟩ else none
  | _, _ => none
theorem ok_iff (i : It) : i.ok = true ↔ (((i.kind = 1 ∨ i.kind = 3) ∧ 0 ≤ i.who ∧ i.who ≤ 64 ∧ i.n = 0 ∧ (i.text.size : Int) ≤ 65472) ∨ (i.kind = 2 ∧ i.who = 0 ∧ 0 ≤ i.n ∧ i.n ≤ 1099511627776 ∧ i.text.data.toList = [])) := by
  unfold ok Item.ok
  split
  · next h =>
    simp only [beq_iff_eq] at h
    simp only [beq_iff_eq, decide_eq_true_eq]
    constructor
    · intro hh; exact .inl ⟨h, hh⟩
    · rintro (⟨_, hh⟩ | ⟨hh, _⟩)
      · exact hh
      · omega
  · next h =>
    simp only [beq_iff_eq] at h
    split
    · next h2 =>
      simp only [beq_iff_eq, No.num_iff] at h2
      constructor
      · intro hh
        refine .inr ⟨h2.1, h2.2.1, h2.2.2.1, h2.2.2.2, ?_⟩
        exact (No.empty_iff _).1 hh
      · rintro (⟨hh, _⟩ | ⟨_, _, _, _, hh⟩)
        · exact absurd hh h
        · exact (No.empty_iff _).2 hh
    · next h2 =>
      simp only [beq_iff_eq, No.num_iff] at h2
      constructor
      · intro hh; cases hh
      · rintro (⟨hh, _⟩ | ⟨h3, h4, h5, h6, _⟩)
        · exact absurd hh h
        · exact absurd ⟨h3, h4, h5, h6⟩ h2
theorem ok_num {i : It} (h : i.ok = true) : Tx.num i.kind = true ∧ Tx.num i.who = true ∧ Tx.num i.n = true := by
  rw [ok_iff] at h
  rw [No.num_iff, No.num_iff, No.num_iff]
  omega
end It

/-- a bid -/
structure Bd where
  round : Int
  who : Int
  amount : Int
  salt : Int
  tag : List UInt8
namespace Bd
def cells (b : Bd) : List Value := [.int .i64 b.round, .int .i64 b.who, .int .i64 b.amount, .int .i64 b.salt] ++ (bRow b.tag).toList
def v (b : Bd) : Value := .agg b.cells.toArray
def ok (b : Bd) : Bool := Tx.acct b.who && (Tx.num b.round && (Tx.num b.amount && Tx.num b.salt))
def zero : Bd := ⟨0, 0, 0, 0, Tx.zero⟩
def numsL (b : Bd) : List Int := [b.round, b.who, b.amount, b.salt]
def body (b : Bd) : No.T8 := (Oct.listE (b.numsL.map fun x => Oct.num x.toNat)).1
def fields (b : Bd) : List No.T8 := (b.numsL.map fun x => Oct.num x.toNat) ++ [b.tag]
def textE (b : Bd) : No.T8 × Int := if b.ok = true then Oct.listE b.fields else ([], 2)
def of (ns : List Int) (rest : List No.T8) : Option Bd :=
  match ns, rest with
  | [a, b, c, d], [t] => if t.length = 32 ∧ (Bd.mk a b c d t).ok = true then some ⟨a, b, c, d, t⟩ else none
  | _, _ => none
theorem ok_iff (b : Bd) : b.ok = true ↔ (0 ≤ b.who ∧ b.who ≤ 63) ∧ (0 ≤ b.round ∧ b.round ≤ 1099511627776) ∧ (0 ≤ b.amount ∧ b.amount ≤ 1099511627776) ∧ (0 ≤ b.salt ∧ b.salt ≤ 1099511627776) := by
  unfold ok
  simp only [Bool.and_eq_true, No.num_iff, No.acct_iff]
end Bd

/-- a receipt -/
structure Rp where
  index : Int
  kind : Int
  time : Int
  body : ByteArray
  prev : List UInt8
  hash : List UInt8
namespace Rp
def cells (r : Rp) : List Value := [.int .i64 r.index, .int .i64 r.kind, .int .i64 r.time, .string r.body] ++ ((bRow r.prev).toList ++ (bRow r.hash).toList)
def v (r : Rp) : Value := .agg r.cells.toArray
def ok (r : Rp) : Bool := ((r.kind == 1) || (r.kind == 2)) && (Tx.num r.index && (Tx.num r.time && decide ((r.body.size : Int) ≤ 656)))
def zero : Rp := ⟨0, 0, 0, ByteArray.empty, Tx.zero, Tx.zero⟩
def numsL (r : Rp) : List Int := [r.index, r.kind, r.time]
def texts (r : Rp) : List No.T8 := (r.numsL.map fun x => Oct.num x.toNat) ++ [r.body.data.toList]
/-- the hash that it is to have -/
def link (r : Rp) : List UInt8 := Sha.sum (r.prev ++ (Oct.listE r.texts).1)
def fields (r : Rp) : List No.T8 := r.texts ++ [r.prev, r.hash]
def textE (r : Rp) : No.T8 × Int := if r.ok = true then (if r.hash = r.link then Oct.listE r.fields else ([], 7)) else ([], 2)
def of (ns : List Int) (rest : List No.T8) : Option Rp :=
  match ns, rest with
  | [a, b, c], [t, p, h] => if (p.length = 32 ∧ h.length = 32) ∧ (Rp.mk a b c ⟨t.toArray⟩ p h).ok = true ∧ h = (Rp.mk a b c ⟨t.toArray⟩ p h).link then some ⟨a, b, c, ⟨t.toArray⟩, p, h⟩ else none
  | _, _ => none
theorem ok_iff (r : Rp) : r.ok = true ↔ (r.kind = 1 ∨ r.kind = 2) ∧ (0 ≤ r.index ∧ r.index ≤ 1099511627776) ∧ (0 ≤ r.time ∧ r.time ≤ 1099511627776) ∧ (r.body.size : Int) ≤ 656 := by
  unfold ok
  simp only [Bool.and_eq_true, Bool.or_eq_true, No.num_iff, beq_iff_eq, decide_eq_true_eq]
theorem ok_num {r : Rp} (h : r.ok = true) : Tx.num r.index = true ∧ Tx.num r.kind = true ∧ Tx.num r.time = true := by
  rw [ok_iff] at h
  rw [No.num_iff, No.num_iff, No.num_iff]
  omega
end Rp

/-- a batch's part: is it the inbox's, its text -/
abbrev Pt := Bool × List UInt8
namespace Pt
def ok (p : Pt) : Bool := decide (p.2.length ≤ 656) && !(p.1 && !p.2.isEmpty)
def lay (p : Pt) : No.T8 := if p.1 = true then [2] else 1 :: p.2
def of (s : No.T8) : Option Pt := if s = [2] then some (true, []) else match s with
  | c :: r => if c = 1 then some (false, r) else none
  | [] => none
def all : List No.T8 → Option (List Pt)
  | [] => some []
  | s :: r => match of s with
    | none => none
    | some p => (all r).map (p :: ·)
end Pt
/-- a batch -/
structure Bt where
  seq : Int
  first : Int
  before : Int
  parts : List Pt
namespace Bt
def ok (b : Bt) : Bool := (Tx.num b.seq && (Tx.num b.first && Tx.num b.before)) && (decide (b.parts.length ≤ 512) && b.parts.all Pt.ok)
def zero : Bt := ⟨0, 0, 0, []⟩
def numsL (b : Bt) : List Int := [b.seq, b.first, b.before]
def fields (b : Bt) : List No.T8 := (b.numsL.map fun x => Oct.num x.toNat) ++ b.parts.map Pt.lay
def textE (b : Bt) : No.T8 × Int := if b.ok = true then Oct.listE b.fields else ([], 2)
def of (ns : List Int) (rest : List No.T8) : Option Bt :=
  match ns, Pt.all rest with
  | [a, b, c], some ps => if (Bt.mk a b c ps).ok = true then some ⟨a, b, c, ps⟩ else none
  | _, _ => none
theorem ok_iff (b : Bt) : b.ok = true ↔ ((0 ≤ b.seq ∧ b.seq ≤ 1099511627776) ∧ (0 ≤ b.first ∧ b.first ≤ 1099511627776) ∧ (0 ≤ b.before ∧ b.before ≤ 1099511627776)) ∧ b.parts.length ≤ 512 ∧ b.parts.all Pt.ok = true := by
  unfold ok
  simp only [Bool.and_eq_true, No.num_iff, decide_eq_true_eq]
end Bt
end Go.Proofs.YtjeooegkfjlejaaDoor

/- ---- NoH ---- -/
/- notes: read. -/
/- What is held over a drawn region: a row, and all that was there. -/
namespace Go.Proofs.YtjeooegkfjlejaaDoor
open Go.RowKit
set_option linter.unusedVariables false
set_option linter.unusedSimpArgs false

namespace No
end No
end Go.Proofs.YtjeooegkfjlejaaDoor
namespace Go.Proofs.YtjeooegkfjlejaaDoor
open Go.RowKit
set_option linter.unusedVariables false
set_option linter.unusedSimpArgs false

/-- a block as it was, and all below w0 -/
def RowIn (w0 W : World) (g : Nat) (T : TypeId) (C : List Value) : Prop := Row W g T C ∧ Below w0.heap.size w0 W
theorem RowIn.step {w0 W W' : World} {g : Nat} {T : TypeId} {C : List Value} (h : RowIn w0 W g T C) (hb : Below W.heap.size W W') : RowIn w0 W' g T C :=
  ⟨h.1.kept (grownBy_of_below hb none) (by simp), two_below' h.2 hb⟩
theorem RowIn.grown {w0 W W' : World} {g : Nat} {T : TypeId} {C : List Value} {r : Option Nat} (h : RowIn w0 W g T C) (hg : W.grownBy W' r) (hr : ∀ k, r = some k → w0.heap.size ≤ k) (hne : some g ≠ r) : RowIn w0 W' g T C :=
  ⟨h.1.kept hg hne, h.2.grown hg h.2.size hr⟩
theorem RowIn.drew {w0 W : World} {g : Nat} {T : TypeId} {C : List Value} (h : RowIn w0 W g T C) : RowIn w0 W.drew g T C := h.step (Below.refl _ _).drew
theorem RowIn.size {w0 W : World} {g : Nat} {T : TypeId} {C : List Value} (h : RowIn w0 W g T C) : w0.heap.size ≤ W.heap.size := h.2.size
/-- behind a call that makes memory, ahead of which a value was boxed -/
theorem rowIn_call {w w1 : World} {T : TypeId} {C : List Value} (h : Below (w.alloc (.cells C.toArray T)).heap.size (w.alloc (.cells C.toArray T)) w1) : RowIn w w1 w.heap.size T C :=
  ⟨(Row.new w T C).kept (grownBy_of_below h none) (by simp), tx_below (grownBy_of_below h none)⟩
theorem row_news {W : World} {g : Nat} {T : TypeId} {xs : List Value} (h : Row W g T xs) : ∀ j u, xs[j]? = some u → W.cell? ((⟨g, 0, none⟩ : Addr).add j) = some u := by
  intro j u hj
  obtain ⟨hlt, he⟩ := List.getElem?_eq_some_iff.1 hj
  have e : (⟨g, 0, none⟩ : Addr).add j = ⟨g, j, none⟩ := by unfold Addr.add; split <;> simp_all
  rw [e, h.cell j hlt, he]
theorem own_keeps {w0 W W' : World} {base n : Nat} {v : Value} {xs : List Value} {g : Nat} {T : TypeId} {C : List Value} (h : RowIn w0 W g T C) (hT : T ≠ 9) (hown : W.ownsRow base 9 1 v n xs) (hb : w0.heap.size ≤ base) (hg : W.grownBy W' v.ownBlock) : RowIn w0 W' g T C :=
  h.grown hg (fun k hk => Nat.le_trans hb (hown.lt k hk).1) (apart_of h.1 hT hown)
theorem list_owned (L : List (List UInt8)) {base k : Nat} {v : Value} {W : World} {xs : List Value} (hx : xs = L.map S) (h : W.ownsRow base 9 1 v (k + 1) xs) (hk : k + 1 = L.length) :
    Calls Tryd.prog 59 #[v] W fun e w' => e = .returned (.tuple #[S (Oct.listE L).1, .int .i64 (Oct.listE L).2]) ∧ Below W.heap.size W w' := by
  subst hx
  obtain ⟨g, cap, rfl⟩ := ownsRow_succ h
  exact list_own L base g (k + 1) cap W h hk
end Go.Proofs.YtjeooegkfjlejaaDoor

/- ---- NoI ---- -/
/- notes: WriteItem. -/
/- notes: hashes. -/
namespace Go.Proofs.YtjeooegkfjlejaaDoor
open Go.RowKit
set_option linter.unusedVariables false
set_option linter.unusedSimpArgs false

namespace It
def cells (i : It) : List Value := [.int .i64 i.kind, .int .i64 i.who, .int .i64 i.n, .string i.text]
end It
/-- texts behind numbers: an owned row, appended to -/
theorem str5 : ∃ i0 : TypeInfo, Tryd.prog.info? 9 = some i0 ∧ i0.zero = some (.string ByteArray.empty) ∧ i0.size = 1 ∧ i0.bytes = 16 := by
  obtain ⟨i0, hi, h2⟩ := Option.map_eq_some_iff.1 str_info5
  simp only [Prod.mk.injEq] at h2
  exact ⟨i0, hi, h2.1, h2.2.1, h2.2.2⟩
set_option maxRecDepth 20000 in
theorem writeItem_no (i : It) (w : World) (h : i.ok = false) :
    Calls Tryd.prog 58 #[.agg i.cells.toArray] w fun e w' => e = .returned (.tuple #[S [], .int .i64 2]) ∧ Below w.heap.size w w' := by
  have MB := fun W => itemMayBe_any i.kind i.who i.n i.text W
  unfold It.ok at h
  rw [h] at MB
  have HMB := Lib.hid MB
  clear MB h
  unfold It.cells
  go_enter Tryd.func58, Tryd.ntmps58
  go_wp2_with fail
  refine (HMB.out _).mono ?_
  rintro _ w1 ⟨rfl, hb1⟩
  have Hb1 := Lib.hid (tx_below (grownBy_of_below hb1 none))
  clear hb1
  go_wp2_with fail
  go_ret2
  exact ⟨rfl, Hb1.out⟩
set_option maxRecDepth 20000 in
set_option maxHeartbeats 1600000 in
theorem writeItem_ok (i : It) (w : World) (h : i.ok = true) :
    Calls Tryd.prog 58 #[.agg i.cells.toArray] w fun e w' => e = .returned (.tuple #[S (Oct.listE i.fields).1, .int .i64 (Oct.listE i.fields).2]) ∧ Below w.heap.size w w' := by
  obtain ⟨i0, hi, hz, hs, hby⟩ := str5
  have Hi := Lib.hid hi
  have Hz := Lib.hid hz
  have Hs := Lib.hid hs
  have Hby := Lib.hid hby
  have hn := It.ok_num h
  simp only [No.num_iff] at hn
  have MB := fun W => itemMayBe_any i.kind i.who i.n i.text W
  unfold It.ok at h
  rw [h] at MB
  have HMB := Lib.hid MB
  have NB : Hid (∀ (W : World) (nb : Nat), Row W nb 3 (Is [i.kind, i.who, i.n]) → Calls Tryd.prog 78 #[.slice (some ⟨nb, 0, none⟩) 3 3] W fun e w' => ∃ v, e = .returned v ∧ w'.ownsRow W.heap.size 9 1 v 3 ([Oct.num i.kind.toNat, Oct.num i.who.toNat, Oct.num i.n.toNat].map S) ∧ Below W.heap.size W w') := fun W nb hN =>
    numbers_any [i.kind, i.who, i.n] 3 (by intro x hx; simp at hx; rcases hx with rfl | rfl | rfl <;> omega) W nb hN (by simp)
  have hff : [Oct.num i.kind.toNat, Oct.num i.who.toNat, Oct.num i.n.toNat].map S ++ [Value.string i.text] = i.fields.map S := rfl
  have Hff := Lib.hid hff
  have hfl : 3 = i.fields.length - 1 := rfl
  have hfl4 : 3 + 1 = i.fields.length := rfl
  have Hfl := Lib.hid hfl4
  unfold It.cells
  generalize i.fields = L at *
  generalize [Oct.num i.kind.toNat, Oct.num i.who.toNat, Oct.num i.n.toNat].map S = NS at *
  generalize i.kind = kd at *
  generalize i.who = who at *
  generalize i.n = n at *
  generalize i.text = tx at *
  clear hi hz hs hby hn MB h hff hfl hfl4
  go_enter Tryd.func58, Tryd.ntmps58
  go_wp2_with fail
  refine (HMB.out _).mono ?_
  rintro _ w1 ⟨rfl, hb1⟩
  have hS0 : RowIn w w1.drew w.heap.size 98 [.int .i64 kd, .int .i64 who, .int .i64 n, .string tx] := (rowIn_call hb1).drew
  have HS0 := Lib.hid hS0
  clear hb1 hS0
  go_wp2_with fail
  refine wp_region_held_drew (S := fun w' => RowIn w w' w.heap.size 98 [.int .i64 kd, .int .i64 who, .int .i64 n, .string tx]) (by kernel_rfl) (HS0.out) (fun hHeld => ?_)
  generalize w1.drew = w9 at *
  refine wpAnyH_take (i := 0) (v := .pointer (some ⟨w.heap.size, 0, none⟩)) rfl (by kernel_rfl) (by kernel_rfl) (by kernel_rfl) (fun _ _ _ h => h) (Or.inl ⟨by rfl, fun w' hSw => by go_simp⟩) hHeld ?_
  try simp only [Act.put, List.getElem_toArray, List.getElem_cons_succ, List.getElem_cons_zero, List.setIfInBounds_toArray, List.set_cons_zero, List.set_cons_succ]
  refine wpAnyH_take (i := 1) (v := .int .i64 kd) rfl (by kernel_rfl) (by kernel_rfl) (by kernel_rfl) (fun _ _ _ h => h) (Or.inl ⟨by rfl, fun w' hSw => by have hq := hSw; have hc := hq.1.cell 0 (by simp); go_simp⟩) hHeld ?_
  try simp only [Act.put, List.getElem_toArray, List.getElem_cons_succ, List.getElem_cons_zero, List.setIfInBounds_toArray, List.set_cons_zero, List.set_cons_succ]
  refine wpAnyH_take (i := 2) (v := .pointer (some ⟨w.heap.size, 1, none⟩)) rfl (by kernel_rfl) (by kernel_rfl) (by kernel_rfl) (fun _ _ _ h => h) (Or.inl ⟨by rfl, fun w' hSw => by go_simp⟩) hHeld ?_
  try simp only [Act.put, List.getElem_toArray, List.getElem_cons_succ, List.getElem_cons_zero, List.setIfInBounds_toArray, List.set_cons_zero, List.set_cons_succ]
  refine wpAnyH_take (i := 3) (v := .int .i64 who) rfl (by kernel_rfl) (by kernel_rfl) (by kernel_rfl) (fun _ _ _ h => h) (Or.inl ⟨by rfl, fun w' hSw => by have hq := hSw; have hc := hq.1.cell 1 (by simp); go_simp⟩) hHeld ?_
  try simp only [Act.put, List.getElem_toArray, List.getElem_cons_succ, List.getElem_cons_zero, List.setIfInBounds_toArray, List.set_cons_zero, List.set_cons_succ]
  refine wpAnyH_take (i := 4) (v := .pointer (some ⟨w.heap.size, 2, none⟩)) rfl (by kernel_rfl) (by kernel_rfl) (by kernel_rfl) (fun _ _ _ h => h) (Or.inl ⟨by rfl, fun w' hSw => by go_simp⟩) hHeld ?_
  try simp only [Act.put, List.getElem_toArray, List.getElem_cons_succ, List.getElem_cons_zero, List.setIfInBounds_toArray, List.set_cons_zero, List.set_cons_succ]
  refine wpAnyH_take (i := 5) (v := .int .i64 n) rfl (by kernel_rfl) (by kernel_rfl) (by kernel_rfl) (fun _ _ _ h => h) (Or.inl ⟨by rfl, fun w' hSw => by have hq := hSw; have hc := hq.1.cell 2 (by simp); go_simp⟩) hHeld ?_
  try simp only [Act.put, List.getElem_toArray, List.getElem_cons_succ, List.getElem_cons_zero, List.setIfInBounds_toArray, List.set_cons_zero, List.set_cons_succ]
  refine wpAnyH_take (i := 8) (v := .pointer (some ⟨w.heap.size, 3, none⟩)) rfl (by kernel_rfl) (by kernel_rfl) (by kernel_rfl) (fun _ _ _ h => h) (Or.inl ⟨by rfl, fun w' hSw => by go_simp⟩) hHeld ?_
  try simp only [Act.put, List.getElem_toArray, List.getElem_cons_succ, List.getElem_cons_zero, List.setIfInBounds_toArray, List.set_cons_zero, List.set_cons_succ]
  refine wpAnyH_take (i := 9) (v := .string tx) rfl (by kernel_rfl) (by kernel_rfl) (by kernel_rfl) (fun _ _ _ h => h) (Or.inl ⟨by rfl, fun w' hSw => by have hq := hSw; have hc := hq.1.cell 3 (by simp); go_simp⟩) hHeld ?_
  try simp only [Act.put, List.getElem_toArray, List.getElem_cons_succ, List.getElem_cons_zero, List.setIfInBounds_toArray, List.set_cons_zero, List.set_cons_succ]
  refine wpAnyH_ready (rs := [6, 10]) (by kernel_rfl) (by simp) (AllReadyH.cons rfl (fun K1 hK1 => ?_) (AllReadyH.cons rfl (fun K1 hK1 => ?_) AllReadyH.nil))
  · skip
    try simp only [Act.put, List.getElem_toArray, List.getElem_cons_succ, List.getElem_cons_zero, List.setIfInBounds_toArray, List.set_cons_zero, List.set_cons_succ]
    go_simp
    have hd2 := (Below.refl w9.heap.size w9).alloc (Nat.le_refl _) (.cells #[.int .i64 kd, .int .i64 who, .int .i64 n] 3)
    have r1 : Row (w9.alloc (.cells #[.int .i64 kd, .int .i64 who, .int .i64 n] 3)) w9.heap.size 3 (Is [kd, who, n]) := Row.new w9 3 (Is [kd, who, n])
    have hHeld2 := hHeld.step hd2
    generalize w9.alloc (.cells #[.int .i64 kd, .int .i64 who, .int .i64 n] 3) = wb1 at *
    obtain ⟨gb3, gb3e⟩ : ∃ gb3, gb3 = w9.heap.size := ⟨_, rfl⟩
    rw [← gb3e] at r1 ⊢
    refine hK1.out _ _ (hHeld2) (fun hHeld => ?_)
    clear hK1 K1
    try simp only [Act.put, List.getElem_toArray, List.getElem_cons_succ, List.getElem_cons_zero, List.setIfInBounds_toArray, List.set_cons_zero, List.set_cons_succ]
    clear hHeld2 gb3e
    refine wpAnyH_ready (rs := [7, 10]) (by kernel_rfl) (by simp) (AllReadyH.cons rfl (fun K1 hK1 => ?_) (AllReadyH.cons rfl (fun K1 hK1 => ?_) AllReadyH.nil))
    · skip
      try simp only [Act.put, List.getElem_toArray, List.getElem_cons_succ, List.getElem_cons_zero, List.setIfInBounds_toArray, List.set_cons_zero, List.set_cons_succ]
      go_simp
      refine Calls.mono (NB.out _ _ r1) ?_
      rintro e wn4 ⟨vN, rfl, hown, hn5⟩
      have hown := hown.mono hHeld.size
      clear r1
      refine hK1.out _ _ (hHeld.step hn5) (fun hHeld => ?_)
      clear hK1 K1
      try simp only [Act.put, List.getElem_toArray, List.getElem_cons_succ, List.getElem_cons_zero, List.setIfInBounds_toArray, List.set_cons_zero, List.set_cons_succ]
      refine wpAnyH_ready (rs := [10]) (by kernel_rfl) (by simp) (AllReadyH.cons rfl (fun K1 hK1 => ?_) AllReadyH.nil)
      try simp only [Act.put, List.getElem_toArray, List.getElem_cons_succ, List.getElem_cons_zero, List.setIfInBounds_toArray, List.set_cons_zero, List.set_cons_succ]
      go_simp
      have hd7 := (Below.refl wn4.heap.size wn4).alloc (Nat.le_refl _) (.cells #[.string tx] 9)
      have r2 : Row (wn4.alloc (.cells #[.string tx] 9)) wn4.heap.size 9 ([.string tx]) := Row.new wn4 9 ([.string tx])
      have hown := own_below hown hd7
      have hHeld2 := hHeld.step hd7
      generalize wn4.alloc (.cells #[.string tx] 9) = wb6 at *
      obtain ⟨gb8, gb8e⟩ : ∃ gb8, gb8 = wn4.heap.size := ⟨_, rfl⟩
      rw [← gb8e] at r2 ⊢
      refine hK1.out _ _ (hHeld2) (fun hHeld => ?_)
      clear hK1 K1
      try simp only [Act.put, List.getElem_toArray, List.getElem_cons_succ, List.getElem_cons_zero, List.setIfInBounds_toArray, List.set_cons_zero, List.set_cons_succ]
      clear hHeld2 gb8e
      refine wpAnyH_ready (rs := [11]) (by kernel_rfl) (by simp) (AllReadyH.cons rfl (fun K1 hK1 => ?_) AllReadyH.nil)
      try simp only [Act.put, List.getElem_toArray, List.getElem_cons_succ, List.getElem_cons_zero, List.setIfInBounds_toArray, List.set_cons_zero, List.set_cons_succ]
      rw [if_pos (by rfl)]
      refine wp_append_own_wide wb6 _ _ 80 rfl w.heap.size 9 i0 (.string ByteArray.empty) 1 16 Tryd.underlying80 Hi.out Hz.out Hs.out Hby.out rfl (by decide) vN 3 NS rfl hown ⟨gb8, 0, none⟩ 1 1 [.string tx] rfl rfl (row_news r2) (by intro u hu; simp at hu; first | (subst hu; rfl) | (rcases hu with rfl | rfl <;> rfl)) (by unfold maxLen; omega) (by omega) hHeld.size fun vP wp9 hownP hgrow _ => ?_
      have hHeld2 := own_keeps hHeld (by decide) hown (Nat.le_refl _) hgrow
      clear hown r2 hgrow
      refine hK1.out _ _ (hHeld2) (fun hHeld => ?_)
      clear hK1 K1
      try simp only [Act.put, List.getElem_toArray, List.getElem_cons_succ, List.getElem_cons_zero, List.setIfInBounds_toArray, List.set_cons_zero, List.set_cons_succ]
      refine wpAnyH_ready (rs := [12]) (by kernel_rfl) (by simp) (AllReadyH.cons rfl (fun K1 hK1 => ?_) AllReadyH.nil)
      try simp only [Act.put, List.getElem_toArray, List.getElem_cons_succ, List.getElem_cons_zero, List.setIfInBounds_toArray, List.set_cons_zero, List.set_cons_succ]
      go_simp
      refine Calls.mono (list_owned L Hff.out hownP Hfl.out) ?_
      rintro e wl10 ⟨rfl, hl11⟩
      refine hK1.out _ _ (hHeld.step hl11) (fun hHeld => ?_)
      clear hK1 K1
      try simp only [Act.put, List.getElem_toArray, List.getElem_cons_succ, List.getElem_cons_zero, List.setIfInBounds_toArray, List.set_cons_zero, List.set_cons_succ]
      refine wpAnyH_take (i := 13) (v := S (Oct.listE L).1) rfl (by kernel_rfl) (by kernel_rfl) (by kernel_rfl) (fun _ _ _ h => h) (Or.inl ⟨by rfl, fun w' hSw => by go_simp⟩) hHeld ?_
      try simp only [Act.put, List.getElem_toArray, List.getElem_cons_succ, List.getElem_cons_zero, List.setIfInBounds_toArray, List.set_cons_zero, List.set_cons_succ]
      refine wpAnyH_take (i := 14) (v := .int .i64 (Oct.listE L).2) rfl (by kernel_rfl) (by kernel_rfl) (by kernel_rfl) (fun _ _ _ h => h) (Or.inl ⟨by rfl, fun w' hSw => by go_simp⟩) hHeld ?_
      try simp only [Act.put, List.getElem_toArray, List.getElem_cons_succ, List.getElem_cons_zero, List.setIfInBounds_toArray, List.set_cons_zero, List.set_cons_succ]
      refine wpAnyH_take (i := 15) (v := S (Oct.listE L).1) rfl (by kernel_rfl) (by kernel_rfl) (by kernel_rfl) (fun _ _ _ h => h) (Or.inl ⟨by rfl, fun w' hSw => by go_simp⟩) hHeld ?_
      try simp only [Act.put, List.getElem_toArray, List.getElem_cons_succ, List.getElem_cons_zero, List.setIfInBounds_toArray, List.set_cons_zero, List.set_cons_succ]
      refine wpAnyH_take (i := 16) (v := .int .i64 (Oct.listE L).2) rfl (by kernel_rfl) (by kernel_rfl) (by kernel_rfl) (fun _ _ _ h => h) (Or.inl ⟨by rfl, fun w' hSw => by go_simp⟩) hHeld ?_
      try simp only [Act.put, List.getElem_toArray, List.getElem_cons_succ, List.getElem_cons_zero, List.setIfInBounds_toArray, List.set_cons_zero, List.set_cons_succ]
      refine wpAnyH_done (by kernel_rfl) ?_ _
      have Hbe := Lib.hid hHeld.2
      clear hHeld
      go_wp2_with fail
      go_ret2
      exact ⟨rfl, Hbe.out⟩
    · skip
      try simp only [Act.put, List.getElem_toArray, List.getElem_cons_succ, List.getElem_cons_zero, List.setIfInBounds_toArray, List.set_cons_zero, List.set_cons_succ]
      go_simp
      have hd13 := (Below.refl wb1.heap.size wb1).alloc (Nat.le_refl _) (.cells #[.string tx] 9)
      have r2 : Row (wb1.alloc (.cells #[.string tx] 9)) wb1.heap.size 9 ([.string tx]) := Row.new wb1 9 ([.string tx])
      have r1 := r1.kept (grownBy_of_below hd13 none) (by simp)
      have hHeld2 := hHeld.step hd13
      generalize wb1.alloc (.cells #[.string tx] 9) = wb12 at *
      obtain ⟨gb14, gb14e⟩ : ∃ gb14, gb14 = wb1.heap.size := ⟨_, rfl⟩
      rw [← gb14e] at r2 ⊢
      refine hK1.out _ _ (hHeld2) (fun hHeld => ?_)
      clear hK1 K1
      try simp only [Act.put, List.getElem_toArray, List.getElem_cons_succ, List.getElem_cons_zero, List.setIfInBounds_toArray, List.set_cons_zero, List.set_cons_succ]
      clear hHeld2 gb14e
      refine wpAnyH_ready (rs := [7]) (by kernel_rfl) (by simp) (AllReadyH.cons rfl (fun K1 hK1 => ?_) AllReadyH.nil)
      try simp only [Act.put, List.getElem_toArray, List.getElem_cons_succ, List.getElem_cons_zero, List.setIfInBounds_toArray, List.set_cons_zero, List.set_cons_succ]
      go_simp
      refine Calls.mono (NB.out _ _ r1) ?_
      rintro e wn15 ⟨vN, rfl, hown, hn16⟩
      have hown := hown.mono hHeld.size
      clear r1
      have r2 := r2.kept (grownBy_of_below hn16 none) (by simp)
      refine hK1.out _ _ (hHeld.step hn16) (fun hHeld => ?_)
      clear hK1 K1
      try simp only [Act.put, List.getElem_toArray, List.getElem_cons_succ, List.getElem_cons_zero, List.setIfInBounds_toArray, List.set_cons_zero, List.set_cons_succ]
      refine wpAnyH_ready (rs := [11]) (by kernel_rfl) (by simp) (AllReadyH.cons rfl (fun K1 hK1 => ?_) AllReadyH.nil)
      try simp only [Act.put, List.getElem_toArray, List.getElem_cons_succ, List.getElem_cons_zero, List.setIfInBounds_toArray, List.set_cons_zero, List.set_cons_succ]
      rw [if_pos (by rfl)]
      refine wp_append_own_wide wn15 _ _ 80 rfl w.heap.size 9 i0 (.string ByteArray.empty) 1 16 Tryd.underlying80 Hi.out Hz.out Hs.out Hby.out rfl (by decide) vN 3 NS rfl hown ⟨gb14, 0, none⟩ 1 1 [.string tx] rfl rfl (row_news r2) (by intro u hu; simp at hu; first | (subst hu; rfl) | (rcases hu with rfl | rfl <;> rfl)) (by unfold maxLen; omega) (by omega) hHeld.size fun vP wp17 hownP hgrow _ => ?_
      have hHeld2 := own_keeps hHeld (by decide) hown (Nat.le_refl _) hgrow
      clear hown r2 hgrow
      refine hK1.out _ _ (hHeld2) (fun hHeld => ?_)
      clear hK1 K1
      try simp only [Act.put, List.getElem_toArray, List.getElem_cons_succ, List.getElem_cons_zero, List.setIfInBounds_toArray, List.set_cons_zero, List.set_cons_succ]
      refine wpAnyH_ready (rs := [12]) (by kernel_rfl) (by simp) (AllReadyH.cons rfl (fun K1 hK1 => ?_) AllReadyH.nil)
      try simp only [Act.put, List.getElem_toArray, List.getElem_cons_succ, List.getElem_cons_zero, List.setIfInBounds_toArray, List.set_cons_zero, List.set_cons_succ]
      go_simp
      refine Calls.mono (list_owned L Hff.out hownP Hfl.out) ?_
      rintro e wl18 ⟨rfl, hl19⟩
      refine hK1.out _ _ (hHeld.step hl19) (fun hHeld => ?_)
      clear hK1 K1
      try simp only [Act.put, List.getElem_toArray, List.getElem_cons_succ, List.getElem_cons_zero, List.setIfInBounds_toArray, List.set_cons_zero, List.set_cons_succ]
      refine wpAnyH_take (i := 13) (v := S (Oct.listE L).1) rfl (by kernel_rfl) (by kernel_rfl) (by kernel_rfl) (fun _ _ _ h => h) (Or.inl ⟨by rfl, fun w' hSw => by go_simp⟩) hHeld ?_
      try simp only [Act.put, List.getElem_toArray, List.getElem_cons_succ, List.getElem_cons_zero, List.setIfInBounds_toArray, List.set_cons_zero, List.set_cons_succ]
      refine wpAnyH_take (i := 14) (v := .int .i64 (Oct.listE L).2) rfl (by kernel_rfl) (by kernel_rfl) (by kernel_rfl) (fun _ _ _ h => h) (Or.inl ⟨by rfl, fun w' hSw => by go_simp⟩) hHeld ?_
      try simp only [Act.put, List.getElem_toArray, List.getElem_cons_succ, List.getElem_cons_zero, List.setIfInBounds_toArray, List.set_cons_zero, List.set_cons_succ]
      refine wpAnyH_take (i := 15) (v := S (Oct.listE L).1) rfl (by kernel_rfl) (by kernel_rfl) (by kernel_rfl) (fun _ _ _ h => h) (Or.inl ⟨by rfl, fun w' hSw => by go_simp⟩) hHeld ?_
      try simp only [Act.put, List.getElem_toArray, List.getElem_cons_succ, List.getElem_cons_zero, List.setIfInBounds_toArray, List.set_cons_zero, List.set_cons_succ]
      refine wpAnyH_take (i := 16) (v := .int .i64 (Oct.listE L).2) rfl (by kernel_rfl) (by kernel_rfl) (by kernel_rfl) (fun _ _ _ h => h) (Or.inl ⟨by rfl, fun w' hSw => by go_simp⟩) hHeld ?_
      try simp only [Act.put, List.getElem_toArray, List.getElem_cons_succ, List.getElem_cons_zero, List.setIfInBounds_toArray, List.set_cons_zero, List.set_cons_succ]
      refine wpAnyH_done (by kernel_rfl) ?_ _
      have Hbe := Lib.hid hHeld.2
      clear hHeld
      go_wp2_with fail
      go_ret2
      exact ⟨rfl, Hbe.out⟩
  · skip
    try simp only [Act.put, List.getElem_toArray, List.getElem_cons_succ, List.getElem_cons_zero, List.setIfInBounds_toArray, List.set_cons_zero, List.set_cons_succ]
    go_simp
    have hd21 := (Below.refl w9.heap.size w9).alloc (Nat.le_refl _) (.cells #[.string tx] 9)
    have r2 : Row (w9.alloc (.cells #[.string tx] 9)) w9.heap.size 9 ([.string tx]) := Row.new w9 9 ([.string tx])
    have hHeld2 := hHeld.step hd21
    generalize w9.alloc (.cells #[.string tx] 9) = wb20 at *
    obtain ⟨gb22, gb22e⟩ : ∃ gb22, gb22 = w9.heap.size := ⟨_, rfl⟩
    rw [← gb22e] at r2 ⊢
    refine hK1.out _ _ (hHeld2) (fun hHeld => ?_)
    clear hK1 K1
    try simp only [Act.put, List.getElem_toArray, List.getElem_cons_succ, List.getElem_cons_zero, List.setIfInBounds_toArray, List.set_cons_zero, List.set_cons_succ]
    clear hHeld2 gb22e
    refine wpAnyH_ready (rs := [6]) (by kernel_rfl) (by simp) (AllReadyH.cons rfl (fun K1 hK1 => ?_) AllReadyH.nil)
    try simp only [Act.put, List.getElem_toArray, List.getElem_cons_succ, List.getElem_cons_zero, List.setIfInBounds_toArray, List.set_cons_zero, List.set_cons_succ]
    go_simp
    have hd24 := (Below.refl wb20.heap.size wb20).alloc (Nat.le_refl _) (.cells #[.int .i64 kd, .int .i64 who, .int .i64 n] 3)
    have r1 : Row (wb20.alloc (.cells #[.int .i64 kd, .int .i64 who, .int .i64 n] 3)) wb20.heap.size 3 (Is [kd, who, n]) := Row.new wb20 3 (Is [kd, who, n])
    have r2 := r2.kept (grownBy_of_below hd24 none) (by simp)
    have hHeld2 := hHeld.step hd24
    generalize wb20.alloc (.cells #[.int .i64 kd, .int .i64 who, .int .i64 n] 3) = wb23 at *
    obtain ⟨gb25, gb25e⟩ : ∃ gb25, gb25 = wb20.heap.size := ⟨_, rfl⟩
    rw [← gb25e] at r1 ⊢
    refine hK1.out _ _ (hHeld2) (fun hHeld => ?_)
    clear hK1 K1
    try simp only [Act.put, List.getElem_toArray, List.getElem_cons_succ, List.getElem_cons_zero, List.setIfInBounds_toArray, List.set_cons_zero, List.set_cons_succ]
    clear hHeld2 gb25e
    refine wpAnyH_ready (rs := [7]) (by kernel_rfl) (by simp) (AllReadyH.cons rfl (fun K1 hK1 => ?_) AllReadyH.nil)
    try simp only [Act.put, List.getElem_toArray, List.getElem_cons_succ, List.getElem_cons_zero, List.setIfInBounds_toArray, List.set_cons_zero, List.set_cons_succ]
    go_simp
    refine Calls.mono (NB.out _ _ r1) ?_
    rintro e wn26 ⟨vN, rfl, hown, hn27⟩
    have hown := hown.mono hHeld.size
    clear r1
    have r2 := r2.kept (grownBy_of_below hn27 none) (by simp)
    refine hK1.out _ _ (hHeld.step hn27) (fun hHeld => ?_)
    clear hK1 K1
    try simp only [Act.put, List.getElem_toArray, List.getElem_cons_succ, List.getElem_cons_zero, List.setIfInBounds_toArray, List.set_cons_zero, List.set_cons_succ]
    refine wpAnyH_ready (rs := [11]) (by kernel_rfl) (by simp) (AllReadyH.cons rfl (fun K1 hK1 => ?_) AllReadyH.nil)
    try simp only [Act.put, List.getElem_toArray, List.getElem_cons_succ, List.getElem_cons_zero, List.setIfInBounds_toArray, List.set_cons_zero, List.set_cons_succ]
    rw [if_pos (by rfl)]
    refine wp_append_own_wide wn26 _ _ 80 rfl w.heap.size 9 i0 (.string ByteArray.empty) 1 16 Tryd.underlying80 Hi.out Hz.out Hs.out Hby.out rfl (by decide) vN 3 NS rfl hown ⟨gb22, 0, none⟩ 1 1 [.string tx] rfl rfl (row_news r2) (by intro u hu; simp at hu; first | (subst hu; rfl) | (rcases hu with rfl | rfl <;> rfl)) (by unfold maxLen; omega) (by omega) hHeld.size fun vP wp28 hownP hgrow _ => ?_
    have hHeld2 := own_keeps hHeld (by decide) hown (Nat.le_refl _) hgrow
    clear hown r2 hgrow
    refine hK1.out _ _ (hHeld2) (fun hHeld => ?_)
    clear hK1 K1
    try simp only [Act.put, List.getElem_toArray, List.getElem_cons_succ, List.getElem_cons_zero, List.setIfInBounds_toArray, List.set_cons_zero, List.set_cons_succ]
    refine wpAnyH_ready (rs := [12]) (by kernel_rfl) (by simp) (AllReadyH.cons rfl (fun K1 hK1 => ?_) AllReadyH.nil)
    try simp only [Act.put, List.getElem_toArray, List.getElem_cons_succ, List.getElem_cons_zero, List.setIfInBounds_toArray, List.set_cons_zero, List.set_cons_succ]
    go_simp
    refine Calls.mono (list_owned L Hff.out hownP Hfl.out) ?_
    rintro e wl29 ⟨rfl, hl30⟩
    refine hK1.out _ _ (hHeld.step hl30) (fun hHeld => ?_)
    clear hK1 K1
    try simp only [Act.put, List.getElem_toArray, List.getElem_cons_succ, List.getElem_cons_zero, List.setIfInBounds_toArray, List.set_cons_zero, List.set_cons_succ]
    refine wpAnyH_take (i := 13) (v := S (Oct.listE L).1) rfl (by kernel_rfl) (by kernel_rfl) (by kernel_rfl) (fun _ _ _ h => h) (Or.inl ⟨by rfl, fun w' hSw => by go_simp⟩) hHeld ?_
    try simp only [Act.put, List.getElem_toArray, List.getElem_cons_succ, List.getElem_cons_zero, List.setIfInBounds_toArray, List.set_cons_zero, List.set_cons_succ]
    refine wpAnyH_take (i := 14) (v := .int .i64 (Oct.listE L).2) rfl (by kernel_rfl) (by kernel_rfl) (by kernel_rfl) (fun _ _ _ h => h) (Or.inl ⟨by rfl, fun w' hSw => by go_simp⟩) hHeld ?_
    try simp only [Act.put, List.getElem_toArray, List.getElem_cons_succ, List.getElem_cons_zero, List.setIfInBounds_toArray, List.set_cons_zero, List.set_cons_succ]
    refine wpAnyH_take (i := 15) (v := S (Oct.listE L).1) rfl (by kernel_rfl) (by kernel_rfl) (by kernel_rfl) (fun _ _ _ h => h) (Or.inl ⟨by rfl, fun w' hSw => by go_simp⟩) hHeld ?_
    try simp only [Act.put, List.getElem_toArray, List.getElem_cons_succ, List.getElem_cons_zero, List.setIfInBounds_toArray, List.set_cons_zero, List.set_cons_succ]
    refine wpAnyH_take (i := 16) (v := .int .i64 (Oct.listE L).2) rfl (by kernel_rfl) (by kernel_rfl) (by kernel_rfl) (fun _ _ _ h => h) (Or.inl ⟨by rfl, fun w' hSw => by go_simp⟩) hHeld ?_
    try simp only [Act.put, List.getElem_toArray, List.getElem_cons_succ, List.getElem_cons_zero, List.setIfInBounds_toArray, List.set_cons_zero, List.set_cons_succ]
    refine wpAnyH_done (by kernel_rfl) ?_ _
    have Hbe := Lib.hid hHeld.2
    clear hHeld
    go_wp2_with fail
    go_ret2
    exact ⟨rfl, Hbe.out⟩
theorem writeItem_any (i : It) (w : World) :
    Calls Tryd.prog 58 #[i.v] w fun e w' => e = .returned (two i.textE.1 i.textE.2) ∧ Below w.heap.size w w' := by
  unfold It.textE
  rcases Bool.eq_false_or_eq_true i.ok with h | h
  · rw [if_pos h]; exact writeItem_ok i w h
  · rw [if_neg (by rw [h]; simp)]; exact writeItem_no i w h
end Go.Proofs.YtjeooegkfjlejaaDoor
namespace Go.Proofs.YtjeooegkfjlejaaDoor
open Go.RowKit
set_option linter.unusedVariables false
set_option linter.unusedSimpArgs false

namespace No
end No
end Go.Proofs.YtjeooegkfjlejaaDoor

/- ---- TxRef ---- -/
/- The reference of layer 4: number, Body. -/
namespace Go.Proofs.YtjeooegkfjlejaaDoor
open Go.RowKit
set_option linter.unusedVariables false
set_option linter.unusedSimpArgs false

/-- the reference's List over texts of the call's own -/
theorem rlist_own (L : List (List UInt8)) (base g k cap : Nat) (W : World) (h : W.ownsRow base 9 1 (.slice (some ⟨g, 0, none⟩) k cap) k (L.map S)) (hk : k = L.length) :
    Calls Tryd.prog 45 #[.slice (some ⟨g, 0, none⟩) k cap] W fun e w' => e = .returned (.tuple #[S (Oct.listE L).1, .int .i64 (Oct.listE L).2]) ∧ Below W.heap.size W w' := by
  subst hk
  obtain ⟨A, c, hA, hT⟩ := texts_own h
  obtain ⟨rfl, rfl⟩ : some (⟨g, 0, none⟩ : Addr) = A ∧ cap = c := by simpa using hA
  exact refList_any _ _ L W hT
end Go.Proofs.YtjeooegkfjlejaaDoor
