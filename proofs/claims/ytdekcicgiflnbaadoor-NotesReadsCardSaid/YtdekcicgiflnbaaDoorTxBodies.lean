/- tx.Body: its closure lay, and Body. -/
/- tx.Body. -/
import Derived.Test.YtdekcicgiflnbaaDoorTxCheck
import Derived.Test.YtdekcicgiflnbaaDoorOwnStep
namespace Go.Proofs.YtdekcicgiflnbaaDoor
open Go.RowKit
set_option linter.unusedVariables false
set_option linter.unusedSimpArgs false

/-- the variable in block B holds a slice of texts of the call's own -/
def VarT (w : World) (base B : Nat) (L : List (List UInt8)) : Prop :=
  ∃ v, Row w B 73 [v] ∧ w.ownsRow base 9 1 v L.length (L.map S)
theorem apart_of {w : World} {base B n : Nat} {t : TypeId} {v : Value} {xs ys : List Value} (hv : Row w B t ys) (ht : t ≠ 9) (hown : w.ownsRow base 9 1 v n xs) : some B ≠ v.ownBlock := by
  intro e
  rcases hown.2 with ⟨rfl, _⟩ | ⟨g, cap, cur, rfl, hg, hh, _⟩
  · simp [Value.ownBlock] at e
  · simp only [Value.ownBlock, Option.some.injEq] at e
    subst e
    unfold Row at hv
    rw [hh] at hv
    simp at hv
    exact ht hv.2.symm
theorem number_ok (n : Int) (w : World) (h0 : 0 ≤ n) (h1 : n ≤ 9223372036854775807) :
    Calls Tryd.prog 55 #[.int .i64 n] w fun e w' => e = .returned (.tuple #[S (Oct.num n.toNat), .int .i64 0]) ∧ Below w.heap.size w w' := by
  have := Number_any n w h1
  unfold Oct.numE at this
  rw [if_neg (by omega)] at this
  exact this
/-- a text put behind those of the variable -/
theorem varT_push {w w1 : World} {base B nb : Nat} {L : List (List UInt8)} {v v' : Value} {s : List UInt8} {Q : List Value} {tq : TypeId} (hv : Row w B 73 [v]) (hown : w.ownsRow base 9 1 v L.length (L.map S))
    (hown' : w1.ownsRow base 9 1 v' (L.length + 1) (L.map S ++ [S s])) (hgrow : w.grownBy w1 v.ownBlock) (hB : base ≤ B) :
    w1.cell? ⟨B, 0, none⟩ = some v ∧ w1.frozen? ⟨B, 0, none⟩ = false ∧ VarT (w1.setCell ⟨B, 0, none⟩ v') base B (L ++ [s]) ∧ (∀ a, Below base a w → Below base a (w1.setCell ⟨B, 0, none⟩ v')) := by
  have hv1 := hv.kept hgrow (apart_of hv (by decide) hown)
  have hv1c := hv1.cell 0 (by simp)
  refine ⟨hv1c, hv1.free 0, ⟨v', hv1.set 0 v' (by simp), ?_⟩, fun a ha => ?_⟩
  · have := ownsRow_setCell_other hown' (fun e => apart_of hv1 (by decide) hown' e.symm) (a := ⟨B, 0, none⟩) v'
    simpa using this
  · exact (ha.grown hgrow (by have := ha.size; have := hv.lt; omega) (fun k hk => (hown.lt k hk).1)).setCell hB _
theorem nums_kept {w w1 : World} {base B nb : Nat} {L : List (List UInt8)} {v v' : Value} {ns : List Int} (hv : Row w B 73 [v]) (hown : w.ownsRow base 9 1 v L.length (L.map S)) (hgrow : w.grownBy w1 v.ownBlock) (hN : Row w nb 3 (Is ns)) :
    Row (w1.setCell ⟨B, 0, none⟩ v') nb 3 (Is ns) := by
  have hne : nb ≠ B := by
    rintro rfl
    unfold Row at hv hN
    rw [hv] at hN
    simp at hN
  exact (hN.kept hgrow (apart_of hN (by decide) hown)).kept (grownBy_set w1 B 0 v') (by simpa using hne)
theorem str_info5 : (Tryd.prog.info? 9).map (fun i => (i.zero, i.size, i.bytes)) = some (some (.string ByteArray.empty), 1, 16) := by kernel_rfl
theorem one_text (w : World) (t : TypeId) (s : List UInt8) : ∀ j u, [S s][j]? = some u → (w.alloc (.cells #[S s] t)).cell? ((⟨w.heap.size, 0, none⟩ : Addr).add j) = some u := by
  intro j u hj
  match j, hj with
  | 0, hj =>
    simp at hj
    subst hj
    simp [Addr.add]
theorem one_textc (s : List UInt8) : ∀ u ∈ [S s], u.oneCell' = true := by
  intro u hu
  simp at hu
  subst hu
  rfl

set_option maxRecDepth 20000 in
set_option maxHeartbeats 400000 in
theorem lay_any (ns : List Int) (c : Nat) (hns : ∀ n ∈ ns, 0 ≤ n ∧ n ≤ 9223372036854775807) (w : World) (base B nb : Nat) (L : List (List UInt8)) (hV : VarT w base B L) (hB : base ≤ B) (hN : Row w nb 3 (Is ns)) (hlen : L.length + ns.length ≤ 1000) :
    Calls Tryd.prog 54 #[.slice (some ⟨nb, 0, none⟩) ns.length c, .pointer (some ⟨B, 0, none⟩)] w fun e w' => e = .returned (.tuple #[]) ∧ VarT w' base B (L ++ ns.map fun n => Oct.num n.toNat) ∧ Below base w w' := by
  obtain ⟨i0, hi, h2⟩ := Option.map_eq_some_iff.1 str_info5
  simp only [Prod.mk.injEq] at h2
  obtain ⟨hz, hs, hby⟩ := h2
  have Hi := Lib.hid hi
  have Hz := Lib.hid hz
  have Hs := Lib.hid hs
  have Hby := Lib.hid hby
  have HV := Lib.hid hV
  have HN := Lib.hid hN
  have Hns := Lib.hid hns
  have hBw : base ≤ w.heap.size := by obtain ⟨v, h, _⟩ := hV; have := h.lt; omega
  obtain ⟨m, hm⟩ : ∃ m, m = ns.length := ⟨_, rfl⟩
  rw [← hm] at hlen ⊢
  have Hm := Lib.hid hm
  clear hi hz hs hby hV hN hns hm
  go_enter Tryd.func54, Tryd.ntmps54
  go_wp2_with fail
  go_loopw [9] (fun i wr => ∃ k : Nat, k ≤ m ∧ i = .int .i64 k ∧ VarT wr base B (L ++ (ns.take k).map fun n => Oct.num n.toNat) ∧ Row wr nb 3 (Is ns) ∧ Below base w wr) (fun i _ => m - (intOf i).toNat)
  case atStart => exact ⟨0, Nat.zero_le _, rfl, by simpa using HV.out, HN.out, Below.refl _ _⟩
  case round =>
    obtain ⟨k, hk, rfl, hVr, hNr, hbr⟩ := hrel
    obtain ⟨v, hv, hown⟩ := hVr
    have HNr := Lib.hid hNr
    have Hbr := Lib.hid hbr
    have Hv := Lib.hid hv
    have Hown := Lib.hid hown
    clear hNr hbr hv hown
    by_cases hlt : k < m
    · have hki : (k : Int) < (m : Int) := by omega
      have hkn : k < ns.length := by rw [← Hm.out]; exact hlt
      have cn := HNr.out.num k hkn
      obtain ⟨x, hx⟩ : ∃ x, x = ns.getD k 0 := ⟨_, rfl⟩
      have hxn : ns[k] = x := by rw [hx]; simp [List.getD, hkn]
      have hxb := Hns.out x (by rw [← hxn]; exact List.getElem_mem hkn)
      have htk : (L ++ (ns.take (k + 1)).map fun n => Oct.num n.toNat) = (L ++ (ns.take k).map fun n => Oct.num n.toNat) ++ [Oct.num x.toNat] := by
        rw [List.take_succ_eq_append_getElem hkn, List.map_append, List.append_assoc, hxn]; rfl
      rw [← hx] at cn
      have Htk := Lib.hid htk
      have hLl : (L ++ (ns.take k).map fun n => Oct.num n.toNat).length ≤ 1000 := by
        rw [List.length_append, List.length_map, List.length_take]; omega
      generalize (L ++ (ns.take k).map fun n => Oct.num n.toNat) = K at *
      clear htk hx hxn hkn
      go_wp2_with fail
      refine (number_ok x _ hxb.1 hxb.2).mono ?_
      rintro _ w1 ⟨rfl, hb1⟩
      have hg1 := grownBy_of_below hb1 none
      have hv1 := Hv.out.kept hg1 (by simp)
      have hown1 := Hown.out.kept hg1 (by cases v.ownBlock <;> simp)
      have hN1 := HNr.out.kept hg1 (by simp)
      have hb1' : Below base w w1 := Hbr.out.grown hg1 (Nat.le_trans hBw Hbr.out.size) (fun k hk => by cases hk)
      have hv2 := hv1.kept (grownBy_alloc w1 (.cells #[S (Oct.num x.toNat)] 9) none) (by simp)
      have hown2 := hown1.alloc (.cells #[S (Oct.num x.toNat)] 9)
      have hN2 := hN1.kept (grownBy_alloc w1 (.cells #[S (Oct.num x.toNat)] 9) none) (by simp)
      have hb2 : Below base w (w1.alloc (.cells #[S (Oct.num x.toNat)] 9)) := hb1'.alloc (Nat.le_trans hBw hb1'.size) _
      have cv := hv1.cell 0 (by simp)
      have hlt1 := hv1.lt
      simp only [List.getElem_cons_zero] at cv
      have hsz2 : base ≤ (w1.alloc (.cells #[S (Oct.num x.toNat)] 9)).heap.size := Nat.le_trans hBw hb2.size
      have hk63 : K.length + 1 ≤ maxLen := by unfold maxLen; omega
      have hk48 : ((K.length + 1) + (K.length + 1) / 4 + 192) * 16 ≤ 281474976710656 := by omega
      have Hv2 := Lib.hid hv2
      have Hown2 := Lib.hid hown2
      have HN2 := Lib.hid hN2
      have Hb2 := Lib.hid hb2
      clear hb1 hg1 hv1 hown1 hN1 hb1' hv2 hown2 hN2 hb2 Hv Hown HNr Hbr cn
      go_wp2_with (at_builtin; refine wpList_append_own_wide _ rfl (.tmp 18) (.tmp 20) 73 rfl base 9 i0 (.string ByteArray.empty) 1 16 Tryd.underlying73 Hi.out Hz.out Hs.out Hby.out rfl (by decide) _ _ _ rfl Hown2.out ⟨w1.heap.size, 0, none⟩ 1 1 [S (Oct.num x.toNat)] rfl rfl (one_text _ _ _) (one_textc _) hk63 hk48 hsz2 ?_
                   intro v' w3 hown3 hgrow3 _
                   obtain ⟨g, cap, rfl⟩ := ownsRow_succ hown3
                   obtain ⟨cB, fB, hV3, hb3⟩ := varT_push (nb := nb) (Q := []) (tq := 0) Hv2.out Hown2.out hown3 hgrow3 hB
                   have hN3 := nums_kept (v' := .slice (some ⟨g, 0, none⟩) (K.length + 1) cap) Hv2.out Hown2.out hgrow3 HN2.out
                   have HV3 := Lib.hid hV3
                   have Hb3 := Lib.hid (hb3 w Hb2.out)
                   have HN3 := Lib.hid hN3
                   clear hown3 hgrow3 hV3 hb3 hN3 cv)
      refine ⟨⟨k + 1, hlt, by go_num, by rw [Htk.out]; exact HV3.out, HN3.out, Hb3.out⟩, by simp [intOf]; omega⟩
    · have hki : (m : Int) ≤ (k : Int) := by omega
      have ekm : k = m := by omega
      have hfin : VarT wr base B (L ++ ns.map fun n => Oct.num n.toNat) := by
        refine ⟨v, Hv.out, ?_⟩
        have h := Hown.out
        rw [show ns.take k = ns by rw [ekm, Hm.out, List.take_length]] at h
        exact h
      have Hfin := Lib.hid hfin
      clear hfin ekm
      go_wp2_with fail
      go_end0
      exact ⟨rfl, Hfin.out, Hbr.out⟩
end Go.Proofs.YtdekcicgiflnbaaDoor
namespace Go.Proofs.YtdekcicgiflnbaaDoor
open Go.RowKit
set_option linter.unusedVariables false
set_option linter.unusedSimpArgs false

namespace Tx
def lays (t : Tx) : List (List UInt8) := [Oct.num t.frm.toNat, Oct.num t.nonce.toNat, Oct.num t.fee.toNat, Oct.num t.to.toNat]
def fields (t : Tx) : List (List UInt8) := (t.lays ++ [t.data.data.toList]) ++ (if t.lane = true then [Oct.num t.round.toNat, Oct.num t.turn.toNat] else [])
def bodyE (t : Tx) : List UInt8 × Int := if t.err = 0 then Oct.listE t.fields else ([], t.err)
theorem err_ok {t : Tx} (h : t.err = 0) : (0 ≤ t.frm ∧ t.frm ≤ 63) ∧ (0 ≤ t.nonce ∧ t.nonce ≤ 1099511627776) ∧ (0 ≤ t.fee ∧ t.fee ≤ 1099511627776) ∧ (0 ≤ t.to ∧ t.to ≤ 63) ∧ (t.lane = true → (0 ≤ t.round ∧ t.round ≤ 1099511627776) ∧ (0 ≤ t.turn ∧ t.turn ≤ 1099511627776)) ∧ (t.lane = false → t.round = 0 ∧ t.turn = 0 ∧ t.bY = zero) ∧ t.data.size ≤ 256 := by
  unfold err at h
  split at h
  · omega
  next h1 =>
  split at h
  · omega
  next h2 =>
  split at h
  · omega
  next h3 =>
  split at h
  · omega
  next h4 =>
  simp only [not_or, Bool.not_eq_false, not_and, acct, num, plain, Bool.and_eq_true, decide_eq_true_eq] at h1 h2 h3
  refine ⟨h1.1, h2.1, h2.2, h1.2, fun hl => ?_, fun hl => ?_, by omega⟩
  · have := h3.1 hl
    exact this
  · exact h3.2 hl
end Tx
theorem row_under {w w' : World} {base g : Nat} {t : TypeId} {xs : List Value} (h : Row w g t xs) (hb : Below base w w') (hlt : g < base) : Row w' g t xs := (hb.block g hlt).trans h
theorem below_own {w0 W W' : World} {r : Option Nat} (h : Below w0.heap.size w0 W) (hg : W.grownBy W' r) (hr : ∀ k, r = some k → w0.heap.size ≤ k) : Below w0.heap.size w0 W' := h.grown hg h.size hr
theorem below_set {w0 W : World} {g i : Nat} {v : Value} (h : Below w0.heap.size w0 W) (hg : w0.heap.size ≤ g) : Below w0.heap.size w0 (W.setCell ⟨g, i, none⟩ v) :=
  h.grown (grownBy_set W g i v) h.size (fun k hk => by cases hk; exact hg)
/-- octets.List over texts of the call's own -/
theorem list_own (L : List (List UInt8)) (base g k cap : Nat) (W : World) (h : W.ownsRow base 9 1 (.slice (some ⟨g, 0, none⟩) k cap) k (L.map S)) (hk : k = L.length) :
    Calls Tryd.prog 56 #[.slice (some ⟨g, 0, none⟩) k cap] W fun e w' => e = .returned (.tuple #[S (Oct.listE L).1, .int .i64 (Oct.listE L).2]) ∧ Below W.heap.size W w' := by
  subst hk
  obtain ⟨A, c, hA, hT⟩ := texts_own h
  obtain ⟨rfl, rfl⟩ : some (⟨g, 0, none⟩ : Addr) = A ∧ cap = c := by simpa using hA
  exact List_any _ _ L W hT
theorem own_push {w w1 : World} {base B : Nat} {L : List (List UInt8)} {v v' : Value} {s : List UInt8} (hv : Row w B 73 [v]) (hown : w.ownsRow base 9 1 v L.length (L.map S))
    (hown' : w1.ownsRow base 9 1 v' (L.length + 1) (L.map S ++ [S s])) (hgrow : w.grownBy w1 v.ownBlock) : (w1.setCell ⟨B, 0, none⟩ v').ownsRow base 9 1 v' (L.length + 1) ((L ++ [s]).map S) := by
  have hv1 := hv.kept hgrow (apart_of hv (by decide) hown)
  have := ownsRow_setCell_other hown' (fun e => apart_of hv1 (by decide) hown' e.symm) (a := ⟨B, 0, none⟩) v'
  simpa using this
/-- ints in a block, as a slice literal lays them -/
theorem built4 (a b c d : Int) : ([.int .i64 a, .int .i64 b, .int .i64 c, .int .i64 d] : List Value) = Is [a, b, c, d] := rfl

set_option maxRecDepth 20000 in
theorem body_no (t : Tx) (ht : t.Ok) (w : World) (he : t.err ≠ 0) :
    Calls Tryd.prog 14 #[t.v] w fun e w' => e = .returned (two (t.bodyE).1 (t.bodyE).2) ∧ Below w.heap.size w w' := by
  unfold Tx.bodyE
  rw [if_neg he]
  have hrng := tx_range (Row.new w 25 t.cells)
  have hlen := Tx.cells_length ht
  have CH : Hid (∀ W, Calls Tryd.prog 21 #[.agg t.cells.toArray] W fun e w' => e = .returned (.int .i64 t.err) ∧ Below W.heap.size W w') := fun W => check4_any t ht W
  have hne : (t.err != 0) = true := by simpa using he
  show Calls _ _ #[.agg t.cells.toArray] _ _
  generalize t.cells = C at *
  generalize t.err = er at *
  have HL := Lib.hid hlen
  have Hrng := Lib.hid hrng
  clear hlen hrng he ht
  go_enter Tryd.func14, Tryd.ntmps14
  go_wp2_with (with_reducible show wpList _ _ _ (⟨_, .load 25 _, _, _, _, _⟩ :: _) _ _; refine wpList_load_tx rfl 25 (.tmp 1) rfl w.heap.size 0 rfl C _ Hrng.out Tryd.underlying25 rfl (by rw [tx_info, HL.out]) ?_)
  refine (CH.out _).mono ?_
  rintro _ w1 ⟨rfl, hb1⟩
  have Hb1 := Lib.hid (tx_below (grownBy_of_below hb1 none))
  clear hb1
  go_wp2_with fail
  go_ret2
  exact ⟨rfl, Hb1.out⟩

set_option maxRecDepth 20000 in
set_option maxHeartbeats 800000 in
theorem body_ok (t : Tx) (ht : t.Ok) (w : World) (he : t.err = 0) :
    Calls Tryd.prog 14 #[t.v] w fun e w' => e = .returned (two (t.bodyE).1 (t.bodyE).2) ∧ Below w.heap.size w w' := by
  have hB : t.bodyE = Oct.listE t.fields := by unfold Tx.bodyE; rw [if_pos he]
  rw [hB]
  obtain ⟨i0, hi, h2⟩ := Option.map_eq_some_iff.1 str_info5
  simp only [Prod.mk.injEq] at h2
  obtain ⟨hz, hs, hby⟩ := h2
  have Hi := Lib.hid hi
  have Hz := Lib.hid hz
  have Hs := Lib.hid hs
  have Hby := Lib.hid hby
  obtain ⟨k1, k2, k3, k4, k5, k6, k7⟩ := Tx.err_ok he
  have hrow0 := Row.new w 25 t.cells
  have hrng := tx_range hrow0
  have hlen := Tx.cells_length ht
  have CH : Hid (∀ W, Calls Tryd.prog 21 #[.agg t.cells.toArray] W fun e w' => e = .returned (.int .i64 0) ∧ Below W.heap.size W w') := fun W => by
    have := check4_any t ht W
    rw [he] at this
    exact this
  have BX : Hid (∀ (W : World) (g : Nat) (T : TypeId), Row W g T t.cells → W.cell? ⟨g, 0, none⟩ = some (.int .i64 t.frm) ∧ W.cell? ⟨g, 1, none⟩ = some (.int .i64 t.nonce) ∧ W.cell? ⟨g, 2, none⟩ = some (.int .i64 t.fee) ∧ W.cell? ⟨g, 3, none⟩ = some (.int .i64 t.to) ∧
    W.cell? ⟨g, 4, none⟩ = some (.string t.data) ∧ W.cell? ⟨g, 5, none⟩ = some (.bool t.lane) ∧ W.cell? ⟨g, 6, none⟩ = some (.int .i64 t.round) ∧ W.cell? ⟨g, 7, none⟩ = some (.int .i64 t.turn)) := fun W g T h => tx_box ht h
  have L1 : Hid (∀ (W : World) (B nb : Nat), VarT W B B [] → Row W nb 3 (Is [t.frm, t.nonce, t.fee, t.to]) → Calls Tryd.prog 54 #[.slice (some ⟨nb, 0, none⟩) 4 4, .pointer (some ⟨B, 0, none⟩)] W fun e w' => e = .returned (.tuple #[]) ∧ VarT w' B B t.lays ∧ Below B W w') := fun W B nb hV hN => by
    have := lay_any [t.frm, t.nonce, t.fee, t.to] 4 (by intro n hn; simp at hn; rcases hn with rfl | rfl | rfl | rfl <;> omega) W B B nb [] hV (Nat.le_refl _) hN (by simp)
    exact this
  have L2 : Hid (∀ (W : World) (B nb : Nat), VarT W B B (t.lays ++ [t.data.data.toList]) → t.lane = true → Row W nb 3 (Is [t.round, t.turn]) → Calls Tryd.prog 54 #[.slice (some ⟨nb, 0, none⟩) 2 2, .pointer (some ⟨B, 0, none⟩)] W fun e w' => e = .returned (.tuple #[]) ∧ VarT w' B B t.fields ∧ Below B W w') := fun W B nb hV hl hN => by
    have hb := k5 hl
    have := lay_any [t.round, t.turn] 2 (by intro n hn; simp at hn; rcases hn with rfl | rfl <;> omega) W B B nb (t.lays ++ [t.data.data.toList]) hV (Nat.le_refl _) hN (by simp [Tx.lays])
    unfold Tx.fields
    rw [if_pos hl]
    exact this
  have hfl : t.lane = false → t.fields = t.lays ++ [t.data.data.toList] := by
    intro h
    unfold Tx.fields
    rw [if_neg (by rw [h]; simp), List.append_nil]
  have Hfl := Lib.hid hfl
  have hmf : ∀ (fn : Fn) (first cap : Array Value) (w : World), (Instr.makeFunc fn first cap).run Tryd.prog w = .ok (.func fn first cap) w := fun _ _ _ _ => rfl
  have hS : S t.data.data.toList = .string t.data := rfl
  have hl5 : t.lays.length = 4 := rfl
  show Calls _ _ #[.agg t.cells.toArray] _ _
  generalize hLy : t.lays = Ly at *
  generalize t.cells = C at *
  have HL := Lib.hid hlen
  have Hrng := Lib.hid hrng
  have Hrow0 := Lib.hid hrow0
  have HSd := Lib.hid hS
  have Hl5 := Lib.hid hl5
  clear hi hz hs hby hrow0 hlen hrng hfl hB he ht k1 k2 k3 k4 k5 k6 k7 hLy hS hl5
  go_enter Tryd.func14, Tryd.ntmps14
  go_wp2_with (with_reducible show wpList _ _ _ (⟨_, .load 25 _, _, _, _, _⟩ :: _) _ _; refine wpList_load_tx rfl 25 (.tmp 1) rfl w.heap.size 0 rfl C _ Hrng.out Tryd.underlying25 rfl (by rw [tx_info, HL.out]) ?_)
  refine (CH.out _).mono ?_
  rintro _ w1 ⟨rfl, hb1⟩
  have hg1 := grownBy_of_below hb1 none
  have hr1 := Hrow0.out.kept hg1 (by simp)
  obtain ⟨c0, c1, c2, c3, c4, c5, c6, c7⟩ := BX.out _ _ _ hr1
  have hlt1 := hr1.lt
  have Hb1 := Lib.hid (tx_below hg1)
  have Hr1 := Lib.hid hr1
  clear hb1 hg1 hr1 Hrng
  go_wp2_with fail
  have hV0 : VarT ((w1.alloc (.cells #[.slice none 0 0] 73)).alloc (.cells #[.int .i64 t.frm, .int .i64 t.nonce, .int .i64 t.fee, .int .i64 t.to] 3)) w1.heap.size w1.heap.size [] :=
    ⟨.slice none 0 0, (Row.new w1 _ [.slice none 0 0]).kept (grownBy_alloc _ _ none) (by simp), World.ownsRow_nil _ _ _ _⟩
  have hN0 : Row ((w1.alloc (.cells #[.slice none 0 0] 73)).alloc (.cells #[.int .i64 t.frm, .int .i64 t.nonce, .int .i64 t.fee, .int .i64 t.to] 3)) (w1.heap.size + 1) 3 (Is [t.frm, t.nonce, t.fee, t.to]) := by
    have h := Row.new (w1.alloc (.cells #[.slice none 0 0] 73)) 3 (Is [t.frm, t.nonce, t.fee, t.to])
    rw [show ∀ (W : World) (o : Obj), (W.alloc o).heap.size = W.heap.size + 1 from fun W o => by simp] at h
    exact h
  have hR0 : Row ((w1.alloc (.cells #[.slice none 0 0] 73)).alloc (.cells #[.int .i64 t.frm, .int .i64 t.nonce, .int .i64 t.fee, .int .i64 t.to] 3)) w.heap.size 25 C :=
    (Hr1.out.kept (grownBy_alloc _ _ none) (by simp)).kept (grownBy_alloc _ _ none) (by simp)
  have hB0 : Below w.heap.size w ((w1.alloc (.cells #[.slice none 0 0] 73)).alloc (.cells #[.int .i64 t.frm, .int .i64 t.nonce, .int .i64 t.fee, .int .i64 t.to] 3)) :=
    (Hb1.out.alloc Hb1.out.size _).alloc (by have := Hb1.out.size; simp; omega) _
  refine (L1.out _ _ _ hV0 hN0).mono ?_
  rintro _ w3 ⟨rfl, hV3, hb3⟩
  have hr3 := row_under hR0 hb3 hlt1
  have hbt3 : Below w.heap.size w w3 := hB0.trans (hb3.mono (by omega))
  obtain ⟨v3, hv3, ho3⟩ := hV3
  have cv3 := hv3.cell 0 (by simp)
  simp only [List.getElem_cons_zero] at cv3
  obtain ⟨d0, d1, d2, d3, d4, d5, d6, d7⟩ := BX.out _ _ _ hr3
  have hlt3 := hv3.lt
  have hv3a := hv3.kept (grownBy_alloc w3 (.cells #[S t.data.data.toList] 9) none) (by simp)
  have ho3a := ho3.alloc (.cells #[S t.data.data.toList] 9)
  have hb3a : Below w.heap.size w (w3.alloc (.cells #[S t.data.data.toList] 9)) := hbt3.alloc hbt3.size _
  have hr3a := hr3.kept (grownBy_alloc w3 (.cells #[S t.data.data.toList] 9) none) (by simp)
  have hz3 : w1.heap.size ≤ (w3.alloc (.cells #[S t.data.data.toList] 9)).heap.size := by simp; omega
  have Hv3a := Lib.hid hv3a
  have Ho3a := Lib.hid ho3a
  have Hb3a := Lib.hid hb3a
  have Hr3a := Lib.hid hr3a
  have hk63 : Ly.length + 1 ≤ maxLen := by have := Hl5.out; unfold maxLen; omega
  have hk48 : ((Ly.length + 1) + (Ly.length + 1) / 4 + 192) * 16 ≤ 281474976710656 := by have := Hl5.out; omega
  clear hV0 hN0 hR0 hB0 hb3 hr3 hbt3 hv3 ho3 hv3a ho3a hb3a hr3a c0 c1 c2 c3 c4 c5 c6 c7 d0 d1 d2 d3 d5 d6 d7 Hb1 Hr1
  rcases Bool.eq_false_or_eq_true t.lane with hl | hl
  · have Hlane := Lib.hid hl
    go_wp2_with (at_builtin; refine wpList_append_own_wide _ rfl (.tmp 24) (.tmp 27) 73 rfl w1.heap.size 9 i0 (.string ByteArray.empty) 1 16 Tryd.underlying73 Hi.out Hz.out Hs.out Hby.out rfl (by decide) v3 Ly.length (Ly.map S) rfl Ho3a.out ⟨w3.heap.size, 0, none⟩ 1 1 [S t.data.data.toList] rfl rfl (one_text _ _ _) (one_textc _) hk63 hk48 hz3 ?_
                 intro v' w4 hown4 hgrow4 _
                 obtain ⟨g, cap, rfl⟩ := ownsRow_succ hown4
                 obtain ⟨cB, fB, hV4, hb4⟩ := varT_push (nb := 0) (Q := []) (tq := 0) Hv3a.out Ho3a.out hown4 hgrow4 (Nat.le_refl _)
                 have hr4 : Row (w4.setCell ⟨w1.heap.size, 0, none⟩ (.slice (some ⟨g, 0, none⟩) (Ly.length + 1) cap)) w.heap.size 25 C := (Hr3a.out.kept hgrow4 (apart_of Hr3a.out (by decide) Ho3a.out)).kept (grownBy_set w4 w1.heap.size 0 _) (by simp; omega)
                 have hbt4 : Below w.heap.size w (w4.setCell ⟨w1.heap.size, 0, none⟩ (.slice (some ⟨g, 0, none⟩) (Ly.length + 1) cap)) := below_set (below_own Hb3a.out hgrow4 (fun k hk => by have := (Ho3a.out.lt k hk).1; omega)) (by omega)
                 obtain ⟨e0, e1, e2, e3, e4, e5, e6, e7⟩ := BX.out _ _ _ (Hr3a.out.kept hgrow4 (apart_of Hr3a.out (by decide) Ho3a.out))
                 have ho4 := own_push Hv3a.out Ho3a.out hown4 hgrow4
                 have Ho4 := Lib.hid ho4
                 have HV4 := Lib.hid hV4
                 have Hr4 := Lib.hid hr4
                 have Hbt4 := Lib.hid hbt4
                 clear ho4 hown4 hgrow4 hV4 hb4 hr4 hbt4 cv3 d4)
    have hN4 : Row ((w4.setCell ⟨w1.heap.size, 0, none⟩ (.slice (some ⟨g, 0, none⟩) (Ly.length + 1) cap)).alloc (.cells #[.int .i64 t.round, .int .i64 t.turn] 3)) w4.heap.size 3 (Is [t.round, t.turn]) := by
      have h := Row.new (w4.setCell ⟨w1.heap.size, 0, none⟩ (.slice (some ⟨g, 0, none⟩) (Ly.length + 1) cap)) 3 (Is [t.round, t.turn])
      rw [show (w4.setCell ⟨w1.heap.size, 0, none⟩ (.slice (some ⟨g, 0, none⟩) (Ly.length + 1) cap)).heap.size = w4.heap.size by simp [World.setCell]] at h
      exact h
    have hV4 : VarT ((w4.setCell ⟨w1.heap.size, 0, none⟩ (.slice (some ⟨g, 0, none⟩) (Ly.length + 1) cap)).alloc (.cells #[.int .i64 t.round, .int .i64 t.turn] 3)) w1.heap.size w1.heap.size (Ly ++ [t.data.data.toList]) := by
      obtain ⟨v, h1, h2⟩ := HV4.out
      exact ⟨v, h1.kept (grownBy_alloc _ _ none) (by simp), h2.alloc _⟩
    refine (L2.out _ _ _ hV4 Hlane.out hN4).mono ?_
    rintro _ w5 ⟨rfl, hV5, hb5⟩
    have hbt5 : Below w.heap.size w w5 := (Hbt4.out.alloc Hbt4.out.size _).trans (hb5.mono (by omega))
    obtain ⟨v5, hv5, ho5⟩ := hV5
    have hf7 : t.fields.length = 7 := by unfold Tx.fields; rw [if_pos Hlane.out]; rfl
    rw [hf7] at ho5
    obtain ⟨g5, cap5, rfl⟩ := ownsRow_succ ho5
    have cv5 := hv5.cell 0 (by simp)
    simp only [List.getElem_cons_zero] at cv5
    have Ho5 := Lib.hid ho5
    have Hbt5 := Lib.hid hbt5
    have Hf7 := Lib.hid hf7
    clear hV4 hN4 hb5 hbt5 hv5 ho5 e0 e1 e2 e3 e4 e5 e6 e7 cB fB hf7
    go_wp2_with fail
    refine (list_own t.fields _ _ _ _ _ Ho5.out Hf7.out.symm).mono ?_
    rintro _ w6 ⟨rfl, hb6⟩
    have hb6' : Below w.heap.size w w6 := Hbt5.out.grown (grownBy_of_below hb6 none) Hbt5.out.size (fun k hk => by cases hk)
    have Hb6 := Lib.hid hb6'
    clear hb6 hb6' cv5
    go_wp2_with fail
    go_ret2
    exact ⟨rfl, Hb6.out⟩
  · have Hlane := Lib.hid hl
    go_wp2_with (at_builtin; refine wpList_append_own_wide _ rfl (.tmp 24) (.tmp 27) 73 rfl w1.heap.size 9 i0 (.string ByteArray.empty) 1 16 Tryd.underlying73 Hi.out Hz.out Hs.out Hby.out rfl (by decide) v3 Ly.length (Ly.map S) rfl Ho3a.out ⟨w3.heap.size, 0, none⟩ 1 1 [S t.data.data.toList] rfl rfl (one_text _ _ _) (one_textc _) hk63 hk48 hz3 ?_
                 intro v' w4 hown4 hgrow4 _
                 obtain ⟨g, cap, rfl⟩ := ownsRow_succ hown4
                 obtain ⟨cB, fB, hV4, hb4⟩ := varT_push (nb := 0) (Q := []) (tq := 0) Hv3a.out Ho3a.out hown4 hgrow4 (Nat.le_refl _)
                 have hr4 : Row (w4.setCell ⟨w1.heap.size, 0, none⟩ (.slice (some ⟨g, 0, none⟩) (Ly.length + 1) cap)) w.heap.size 25 C := (Hr3a.out.kept hgrow4 (apart_of Hr3a.out (by decide) Ho3a.out)).kept (grownBy_set w4 w1.heap.size 0 _) (by simp; omega)
                 have hbt4 : Below w.heap.size w (w4.setCell ⟨w1.heap.size, 0, none⟩ (.slice (some ⟨g, 0, none⟩) (Ly.length + 1) cap)) := below_set (below_own Hb3a.out hgrow4 (fun k hk => by have := (Ho3a.out.lt k hk).1; omega)) (by omega)
                 obtain ⟨e0, e1, e2, e3, e4, e5, e6, e7⟩ := BX.out _ _ _ (Hr3a.out.kept hgrow4 (apart_of Hr3a.out (by decide) Ho3a.out))
                 have ho4 := own_push Hv3a.out Ho3a.out hown4 hgrow4
                 have Ho4 := Lib.hid ho4
                 have HV4 := Lib.hid hV4
                 have Hr4 := Lib.hid hr4
                 have Hbt4 := Lib.hid hbt4
                 clear ho4 hown4 hgrow4 hV4 hb4 hr4 hbt4 cv3 d4)
    refine (list_own (Ly ++ [t.data.data.toList]) _ _ _ _ _ Ho4.out (by simp)).mono ?_
    rintro _ w6 ⟨rfl, hb6⟩
    have hb6' : Below w.heap.size w w6 := Hbt4.out.grown (grownBy_of_below hb6 none) Hbt4.out.size (fun k hk => by cases hk)
    have Hb6 := Lib.hid hb6'
    clear hb6 hb6' e0 e1 e2 e3 e4 e5 e6 e7 cB fB
    go_wp2_with fail
    go_ret2
    rw [Hfl.out Hlane.out]
    exact ⟨rfl, Hb6.out⟩
theorem body_any (t : Tx) (ht : t.Ok) (w : World) :
    Calls Tryd.prog 14 #[t.v] w fun e w' => e = .returned (two (t.bodyE).1 (t.bodyE).2) ∧ Below w.heap.size w w' := by
  by_cases he : t.err = 0
  · exact body_ok t ht w he
  · exact body_no t ht w he
end Go.Proofs.YtdekcicgiflnbaaDoor
