/- The reference of layer 4: number, Body. -/
import Derived.Test.YtdekcicgiflnbaaDoorTxRow
import Derived.Test.YtdekcicgiflnbaaDoorMOctB
namespace Go.Proofs.YtdekcicgiflnbaaDoor
open Go.RowKit
set_option linter.unusedVariables false
set_option linter.unusedSimpArgs false

theorem rnumber_any (n : Int) (w : World) (h0 : 0 ≤ n) (h1 : n ≤ 9223372036854775807) :
    Calls Tryd.prog 57 #[.int .i64 n] w fun e w' => e = .returned (S (Oct.num n.toNat)) ∧ Below w.heap.size w w' := by
  have RN : Hid (∀ W, Calls Tryd.prog 96 #[.int .i64 n] W fun e w' => e = .returned (.tuple #[S (Oct.num n.toNat), .int .i64 0]) ∧ Below W.heap.size W w') := fun W => by
    have := refNumber_any n W h1
    unfold Oct.numE at this
    rw [if_neg (by omega)] at this
    exact this
  go_enter Tryd.func57, Tryd.ntmps57
  go_wp2_with fail
  refine (RN.out _).mono ?_
  rintro _ w1 ⟨rfl, hb1⟩
  have Hb1 := Lib.hid hb1
  clear hb1
  go_wp2_with fail
  go_ret
  exact ⟨rfl, Hb1.out⟩
/-- the reference's List over texts of the call's own -/
theorem rlist_own (L : List (List UInt8)) (base g k cap : Nat) (W : World) (h : W.ownsRow base 9 1 (.slice (some ⟨g, 0, none⟩) k cap) k (L.map S)) (hk : k = L.length) :
    Calls Tryd.prog 58 #[.slice (some ⟨g, 0, none⟩) k cap] W fun e w' => e = .returned (.tuple #[S (Oct.listE L).1, .int .i64 (Oct.listE L).2]) ∧ Below W.heap.size W w' := by
  subst hk
  obtain ⟨A, c, hA, hT⟩ := texts_own h
  obtain ⟨rfl, rfl⟩ : some (⟨g, 0, none⟩ : Addr) = A ∧ cap = c := by simpa using hA
  exact refList_any _ _ L W hT
theorem own_lit (w : World) (base k : Nat) (L : List (List UInt8)) (hk : k = L.length) (hb : base ≤ w.heap.size) (hl : k ≤ 1000) : (w.alloc (.cells (L.map S).toArray 9)).ownsRow base 9 1 (.slice (some ⟨w.heap.size, 0, none⟩) k k) k (L.map S) := by
  subst hk
  refine ⟨by simp, .inr ⟨w.heap.size, L.length, (L.map S).toArray, rfl, hb, heap_alloc_new w _, Nat.le_refl _, by unfold maxLen; omega, by simp, by simp [List.take_of_length_le]⟩⟩
/-- what the drawn statements of Body count on -/
def BodyIn (w0 W : World) (g : Nat) (C : List Value) : Prop := Row W g 25 C ∧ Below w0.heap.size w0 W
theorem BodyIn.step {w0 W W' : World} {g : Nat} {C : List Value} (h : BodyIn w0 W g C) (hb : Below W.heap.size W W') : BodyIn w0 W' g C :=
  ⟨h.1.kept (grownBy_of_below hb none) (by simp), two_below' h.2 hb⟩
theorem body_cells {t : Tx} (ht : t.Ok) {w0 W : World} {g : Nat} (h : BodyIn w0 W g t.cells) : BodyIn w0 W g t.cells ∧ W.cell? ⟨g, 0, none⟩ = some (.int .i64 t.frm) ∧ W.cell? ⟨g, 1, none⟩ = some (.int .i64 t.nonce) ∧ W.cell? ⟨g, 2, none⟩ = some (.int .i64 t.fee) ∧ W.cell? ⟨g, 3, none⟩ = some (.int .i64 t.to) ∧
    W.cell? ⟨g, 4, none⟩ = some (.string t.data) ∧ W.cell? ⟨g, 5, none⟩ = some (.bool t.lane) ∧ W.cell? ⟨g, 6, none⟩ = some (.int .i64 t.round) ∧ W.cell? ⟨g, 7, none⟩ = some (.int .i64 t.turn) := ⟨h, tx_box ht h.1⟩

theorem BodyIn.grow {w0 W W' : World} {g k : Nat} {C : List Value} (h : BodyIn w0 W g C) (hg : W.grownBy W' (some k)) (h1 : w0.heap.size ≤ k) (h2 : g ≠ k) : BodyIn w0 W' g C :=
  ⟨h.1.kept hg (by simpa using h2), h.2.grown hg h.2.size (fun j hj => by cases hj; exact h1)⟩
theorem own_chain {W0 W1 W2 : World} {base size n : Nat} {e : TypeId} {v : Value} {xs : List Value} (h : W0.ownsRow base e size v n xs) (h1 : Below W0.heap.size W0 W1) (h2 : Below W1.heap.size W1 W2) : W2.ownsRow base e size v n xs :=
  (h.kept (grownBy_of_below h1 none) (by cases v.ownBlock <;> simp)).kept (grownBy_of_below h2 none) (by cases v.ownBlock <;> simp)
theorem base_chain {W0 W1 W2 : World} {base : Nat} (h0 : base ≤ W0.heap.size) (h1 : Below W0.heap.size W0 W1) (h2 : Below W1.heap.size W1 W2) (o : Obj) : base ≤ (W2.alloc o).heap.size := by
  have a := h1.size
  have b := h2.size
  simp
  omega
theorem two_texts (w : World) (t : TypeId) (a b : List UInt8) : ∀ j u, [S a, S b][j]? = some u → (w.alloc (.cells #[S a, S b] t)).cell? ((⟨w.heap.size, 0, none⟩ : Addr).add j) = some u := by
  intro j u hj
  match j, hj with
  | 0, hj => simp at hj; subst hj; simp [Addr.add]
  | 1, hj => simp at hj; subst hj; simp [Addr.add]
theorem two_textc (a b : List UInt8) : ∀ u ∈ [S a, S b], u.oneCell' = true := by
  intro u hu
  simp at hu
  rcases hu with rfl | rfl <;> rfl
set_option maxRecDepth 20000 in
theorem rbody_no (t : Tx) (ht : t.Ok) (w : World) (he : t.err ≠ 0) :
    Calls Tryd.prog 15 #[t.v] w fun e w' => e = .returned (.tuple #[S t.bodyE.1, .int .i64 t.bodyE.2]) ∧ Below w.heap.size w w' := by
  unfold Tx.bodyE
  rw [if_neg he]
  have hrng := tx_range (Row.new w 25 t.cells)
  have hlen := Tx.cells_length ht
  have CH : Hid (∀ W, Calls Tryd.prog 22 #[.agg t.cells.toArray] W fun e w' => e = .returned (.int .i64 t.err) ∧ Below W.heap.size W w') := fun W => rcheck4_any t ht W
  have hne : (t.err != 0) = true := by simpa using he
  show Calls _ _ #[.agg t.cells.toArray] _ _
  generalize t.cells = C at *
  generalize t.err = er at *
  have HL := Lib.hid hlen
  have Hrng := Lib.hid hrng
  clear hlen hrng he ht
  go_enter Tryd.func15, Tryd.ntmps15
  go_wp2_with (with_reducible show wpList _ _ _ (⟨_, .load 25 _, _, _, _, _⟩ :: _) _ _; refine wpList_load_tx rfl 25 (.tmp 1) rfl w.heap.size 0 rfl C _ Hrng.out Tryd.underlying25 rfl (by rw [tx_info, HL.out]) ?_)
  refine (CH.out _).mono ?_
  rintro _ w1 ⟨rfl, hb1⟩
  have Hb1 := Lib.hid (tx_below (grownBy_of_below hb1 none))
  clear hb1
  go_wp2_with fail
  go_ret2
  exact ⟨rfl, Hb1.out⟩

set_option maxRecDepth 20000 in
set_option maxHeartbeats 1600000 in
theorem rbody_ok (t : Tx) (ht : t.Ok) (w : World) (he : t.err = 0) :
    Calls Tryd.prog 15 #[t.v] w fun e w' => e = .returned (.tuple #[S t.bodyE.1, .int .i64 t.bodyE.2]) ∧ Below w.heap.size w w' := by
  have hB : t.bodyE = Oct.listE t.fields := by unfold Tx.bodyE; rw [if_pos he]
  rw [hB]
  obtain ⟨i0, hi, h2⟩ := Option.map_eq_some_iff.1 str_info5
  simp only [Prod.mk.injEq] at h2
  obtain ⟨hz, hs, hby⟩ := h2
  have Hi := Lib.hid hi
  have Hz := Lib.hid hz
  have Hs := Lib.hid hs
  have Hby := Lib.hid hby
  obtain ⟨k1, k2, k3, k4, k5, k6, k7⟩ := Tx.err_ok he
  have hrow0 := Row.new w 25 t.cells
  have hrng := tx_range hrow0
  have hlen := Tx.cells_length ht
  have CH : Hid (∀ W, Calls Tryd.prog 22 #[.agg t.cells.toArray] W fun e w' => e = .returned (.int .i64 0) ∧ Below W.heap.size W w') := fun W => by
    have := rcheck4_any t ht W
    rw [he] at this
    exact this
  have BX : Hid (∀ {w0 W : World} {g : Nat}, BodyIn w0 W g t.cells → BodyIn w0 W g t.cells ∧ W.cell? ⟨g, 0, none⟩ = some (.int .i64 t.frm) ∧ W.cell? ⟨g, 1, none⟩ = some (.int .i64 t.nonce) ∧ W.cell? ⟨g, 2, none⟩ = some (.int .i64 t.fee) ∧ W.cell? ⟨g, 3, none⟩ = some (.int .i64 t.to) ∧
    W.cell? ⟨g, 4, none⟩ = some (.string t.data) ∧ W.cell? ⟨g, 5, none⟩ = some (.bool t.lane) ∧ W.cell? ⟨g, 6, none⟩ = some (.int .i64 t.round) ∧ W.cell? ⟨g, 7, none⟩ = some (.int .i64 t.turn)) := fun h => body_cells ht h
  have N1 := Lib.hid (fun W => rnumber_any t.frm W k1.1 (by omega))
  have N2 := Lib.hid (fun W => rnumber_any t.nonce W k2.1 (by omega))
  have N3 := Lib.hid (fun W => rnumber_any t.fee W k3.1 (by omega))
  have N4 := Lib.hid (fun W => rnumber_any t.to W k4.1 (by omega))
  have N6 := Lib.hid (fun (hl : t.lane = true) W => rnumber_any t.round W (k5 hl).1.1 (by have := (k5 hl).1; omega))
  have N7 := Lib.hid (fun (hl : t.lane = true) W => rnumber_any t.turn W (k5 hl).2.1 (by have := (k5 hl).2; omega))
  have hfl : t.lane = false → t.fields = t.lays ++ [t.data.data.toList] := by
    intro h
    unfold Tx.fields
    rw [if_neg (by rw [h]; simp), List.append_nil]
  have hfy : t.lane = true → t.fields = (t.lays ++ [t.data.data.toList]) ++ [Oct.num t.round.toNat, Oct.num t.turn.toNat] := by
    intro h
    unfold Tx.fields
    rw [if_pos h]
  have Hfl := Lib.hid hfl
  have Hfy := Lib.hid hfy
  have hly : t.lays = [Oct.num t.frm.toNat, Oct.num t.nonce.toNat, Oct.num t.fee.toNat, Oct.num t.to.toNat] := rfl
  have Hly := Lib.hid hly
  show Calls _ _ #[.agg t.cells.toArray] _ _
  generalize t.lays = Ly at *
  generalize t.cells = C at *
  generalize hn1 : Oct.num t.frm.toNat = m1 at *
  generalize hn2 : Oct.num t.nonce.toNat = m2 at *
  generalize hn3 : Oct.num t.fee.toNat = m3 at *
  generalize hn4 : Oct.num t.to.toNat = m4 at *
  generalize hn6 : Oct.num t.round.toNat = m6 at *
  generalize hn7 : Oct.num t.turn.toNat = m7 at *
  have HL := Lib.hid hlen
  have Hrng := Lib.hid hrng
  have Hrow0 := Lib.hid hrow0
  clear hi hz hs hby hrow0 hlen hrng hfl hfy hly hB he ht k1 k2 k3 k4 k5 k6 k7 hn1 hn2 hn3 hn4 hn6 hn7
  rcases Bool.eq_false_or_eq_true t.lane with hl | hl
  · have Hlane := Lib.hid hl
    go_enter Tryd.func15, Tryd.ntmps15
    go_wp2_with (with_reducible show wpList _ _ _ (⟨_, .load 25 _, _, _, _, _⟩ :: _) _ _; refine wpList_load_tx rfl 25 (.tmp 1) rfl w.heap.size 0 rfl C _ Hrng.out Tryd.underlying25 rfl (by rw [tx_info, HL.out]) ?_)
    refine (CH.out _).mono ?_
    rintro _ w1 ⟨rfl, hb1⟩
    have hg1 := grownBy_of_below hb1 none
    have hS0 := BX.out (show BodyIn w w1.drew w.heap.size C from ⟨(Hrow0.out.kept hg1 (by simp)).kept (grownBy_drew _ none) (by simp), (tx_below hg1).drew⟩)
    have HS0 := Lib.hid hS0
    clear hb1 hg1 hS0
    go_wp2_with fail
    have hS0 := HS0.out
    go_region_held3 (fun W => BodyIn w W w.heap.size C ∧ W.cell? ⟨w.heap.size, 0, none⟩ = some (.int .i64 t.frm) ∧ W.cell? ⟨w.heap.size, 1, none⟩ = some (.int .i64 t.nonce) ∧ W.cell? ⟨w.heap.size, 2, none⟩ = some (.int .i64 t.fee) ∧ W.cell? ⟨w.heap.size, 3, none⟩ = some (.int .i64 t.to) ∧
        W.cell? ⟨w.heap.size, 4, none⟩ = some (.string t.data) ∧ W.cell? ⟨w.heap.size, 5, none⟩ = some (.bool t.lane) ∧ W.cell? ⟨w.heap.size, 6, none⟩ = some (.int .i64 t.round) ∧ W.cell? ⟨w.heap.size, 7, none⟩ = some (.int .i64 t.turn))
      (first | assumption | exact hS0 | (exact BX.out (BodyIn.step (And.left (by assumption)) (by assumption))) | (exact BX.out (BodyIn.step (And.left (by assumption)) ((Below.refl _ _).alloc (Nat.le_refl _) _))))
      (first
        | (go_at_call 57; with_reducible refine Calls.mono (N1.out _) ?_; rintro e w' ⟨rfl, hb⟩)
        | (go_at_call 57; with_reducible refine Calls.mono (N2.out _) ?_; rintro e w' ⟨rfl, hb⟩)
        | (go_at_call 57; with_reducible refine Calls.mono (N3.out _) ?_; rintro e w' ⟨rfl, hb⟩)
        | (go_at_call 57; with_reducible refine Calls.mono (N4.out _) ?_; rintro e w' ⟨rfl, hb⟩))
    rename_i hHeld
    have hin := hHeld.1
    have c5 := hHeld.2.2.2.2.2.2.1
    have hsz : w.heap.size ≤ w'.heap.size := by have := hin.2.size; have h2 := hin.1.lt; simp at this h2; omega
    have hlt : w.heap.size < w'.heap.size + 1 := by have h2 := hin.1.lt; simpa using h2
    have hgne : w.heap.size ≠ w'.heap.size := fun e => by
      have h1 := hin.1
      unfold Row at h1
      rw [e, heap_alloc_new w' _] at h1
      simp at h1
    have hown := own_lit w' w.heap.size 5 [m1, m2, m3, m4, t.data.data.toList] rfl hsz (by decide)
    have Hin := Lib.hid hin
    have Hown := Lib.hid hown
    clear hHeld hin hown HS0 hS0 hb
    generalize hWe : w'.alloc (.cells #[S m1, S m2, S m3, S m4, .string t.data] 9) = W5 at *
    have Hown5 : Hid (W5.ownsRow w.heap.size 9 1 (.slice (some ⟨w'.heap.size, 0, none⟩) 5 5) 5 ([m1, m2, m3, m4, t.data.data.toList].map S)) := by rw [← hWe]; exact Hown
    clear hWe Hown
    generalize w'.heap.size = g5 at *
    have hS0 := BX.out (show BodyIn w W5.drew w.heap.size C from ⟨Hin.out.1.kept (grownBy_drew _ none) (by simp), Hin.out.2.drew⟩)
    have Hownd : Hid (W5.drew.ownsRow w.heap.size 9 1 (.slice (some ⟨g5, 0, none⟩) 5 5) 5 ([m1, m2, m3, m4, t.data.data.toList].map S)) := Lib.hid Hown5.out.drew
    have HS0 := Lib.hid hS0
    have hsz5 : w.heap.size ≤ W5.drew.heap.size := hS0.1.2.size
    have hl63 : 5 + 2 ≤ maxLen := by unfold maxLen; omega
    clear hS0
    go_wp2_with fail
    have hS0 := HS0.out
    go_region_held3 (fun W => BodyIn w W w.heap.size C ∧ W.cell? ⟨w.heap.size, 0, none⟩ = some (.int .i64 t.frm) ∧ W.cell? ⟨w.heap.size, 1, none⟩ = some (.int .i64 t.nonce) ∧ W.cell? ⟨w.heap.size, 2, none⟩ = some (.int .i64 t.fee) ∧ W.cell? ⟨w.heap.size, 3, none⟩ = some (.int .i64 t.to) ∧ W.cell? ⟨w.heap.size, 4, none⟩ = some (.string t.data) ∧ W.cell? ⟨w.heap.size, 5, none⟩ = some (.bool t.lane) ∧ W.cell? ⟨w.heap.size, 6, none⟩ = some (.int .i64 t.round) ∧ W.cell? ⟨w.heap.size, 7, none⟩ = some (.int .i64 t.turn))
      (first | assumption | exact hS0 | (exact BX.out (BodyIn.step (And.left (by assumption)) (by assumption))) | (exact BX.out (BodyIn.step (And.left (by assumption)) ((Below.refl _ _).alloc (Nat.le_refl _) _))) | (exact BX.out (BodyIn.grow (And.left (by assumption)) (by assumption) hsz hgne)))
      (first
        | (go_at_call 57; with_reducible refine Calls.mono (N6.out Hlane.out _) ?_; rintro e w' ⟨rfl, hb⟩)
        | (go_at_call 57; with_reducible refine Calls.mono (N7.out Hlane.out _) ?_; rintro e w' ⟨rfl, hb⟩)
        | (refine step_append_own rfl (.tmp 28) (.tmp 35) 73 rfl w.heap.size 9 i0 (.string ByteArray.empty) 1 16 Tryd.underlying73 Hi.out Hz.out Hs.out Hby.out rfl (by decide) (.slice (some ⟨g5, 0, none⟩) 5 5) 5 ([m1, m2, m3, m4, t.data.data.toList].map S) (by rfl) ((own_chain Hownd.out (by assumption) (by assumption)).alloc _) _ 2 2 [S m6, S m7] (by rfl) rfl (two_texts _ _ _ _) (two_textc _ _) (by decide) hl63 (by decide) (base_chain hsz5 (by assumption) (by assumption) _) ?_; intro g cap w7 hown7 hgrow7))
    rename_i hHeld
    have hb7 := hHeld.1.2
    have hown8 : w7.ownsRow w.heap.size 9 1 (.slice (some ⟨g, 0, none⟩) 7 cap) 7 (t.fields.map S) := by
      rw [Hfy.out Hlane.out, Hly.out]
      exact hown7
    have hf7 : 7 = t.fields.length := by rw [Hfy.out Hlane.out, Hly.out]; rfl
    have Hb7 := Lib.hid hb7
    have Hown8 := Lib.hid hown8
    have Hf7 := Lib.hid hf7
    clear hHeld hb7 hown8 hf7 hown7 hgrow7 hb HS0 hS0 c5
    go_wp2_with fail
    refine (rlist_own t.fields _ _ _ _ _ Hown8.out Hf7.out).mono ?_
    rintro _ w8 ⟨rfl, hb8⟩
    have Hb8 := Lib.hid (two_below' Hb7.out hb8)
    clear hb8
    go_wp2_with fail
    go_ret2
    exact ⟨rfl, Hb8.out⟩
  · have Hlane := Lib.hid hl
    go_enter Tryd.func15, Tryd.ntmps15
    go_wp2_with (with_reducible show wpList _ _ _ (⟨_, .load 25 _, _, _, _, _⟩ :: _) _ _; refine wpList_load_tx rfl 25 (.tmp 1) rfl w.heap.size 0 rfl C _ Hrng.out Tryd.underlying25 rfl (by rw [tx_info, HL.out]) ?_)
    refine (CH.out _).mono ?_
    rintro _ w1 ⟨rfl, hb1⟩
    have hg1 := grownBy_of_below hb1 none
    have hS0 := BX.out (show BodyIn w w1.drew w.heap.size C from ⟨(Hrow0.out.kept hg1 (by simp)).kept (grownBy_drew _ none) (by simp), (tx_below hg1).drew⟩)
    have HS0 := Lib.hid hS0
    clear hb1 hg1 hS0
    go_wp2_with fail
    have hS0 := HS0.out
    go_region_held3 (fun W => BodyIn w W w.heap.size C ∧ W.cell? ⟨w.heap.size, 0, none⟩ = some (.int .i64 t.frm) ∧ W.cell? ⟨w.heap.size, 1, none⟩ = some (.int .i64 t.nonce) ∧ W.cell? ⟨w.heap.size, 2, none⟩ = some (.int .i64 t.fee) ∧ W.cell? ⟨w.heap.size, 3, none⟩ = some (.int .i64 t.to) ∧
        W.cell? ⟨w.heap.size, 4, none⟩ = some (.string t.data) ∧ W.cell? ⟨w.heap.size, 5, none⟩ = some (.bool t.lane) ∧ W.cell? ⟨w.heap.size, 6, none⟩ = some (.int .i64 t.round) ∧ W.cell? ⟨w.heap.size, 7, none⟩ = some (.int .i64 t.turn))
      (first | assumption | exact hS0 | (exact BX.out (BodyIn.step (And.left (by assumption)) (by assumption))) | (exact BX.out (BodyIn.step (And.left (by assumption)) ((Below.refl _ _).alloc (Nat.le_refl _) _))))
      (first
        | (go_at_call 57; with_reducible refine Calls.mono (N1.out _) ?_; rintro e w' ⟨rfl, hb⟩)
        | (go_at_call 57; with_reducible refine Calls.mono (N2.out _) ?_; rintro e w' ⟨rfl, hb⟩)
        | (go_at_call 57; with_reducible refine Calls.mono (N3.out _) ?_; rintro e w' ⟨rfl, hb⟩)
        | (go_at_call 57; with_reducible refine Calls.mono (N4.out _) ?_; rintro e w' ⟨rfl, hb⟩))
    rename_i hHeld
    have hin := hHeld.1
    have c5 := hHeld.2.2.2.2.2.2.1
    have hsz : w.heap.size ≤ w'.heap.size := by have := hin.2.size; have h2 := hin.1.lt; simp at this h2; omega
    have hlt : w.heap.size < w'.heap.size + 1 := by have h2 := hin.1.lt; simpa using h2
    have hgne : w.heap.size ≠ w'.heap.size := fun e => by
      have h1 := hin.1
      unfold Row at h1
      rw [e, heap_alloc_new w' _] at h1
      simp at h1
    have hown := own_lit w' w.heap.size 5 [m1, m2, m3, m4, t.data.data.toList] rfl hsz (by decide)
    have Hin := Lib.hid hin
    have Hown := Lib.hid hown
    clear hHeld hin hown HS0 hS0 hb
    generalize hWe : w'.alloc (.cells #[S m1, S m2, S m3, S m4, .string t.data] 9) = W5 at *
    have Hown5 : Hid (W5.ownsRow w.heap.size 9 1 (.slice (some ⟨w'.heap.size, 0, none⟩) 5 5) 5 ([m1, m2, m3, m4, t.data.data.toList].map S)) := by rw [← hWe]; exact Hown
    clear hWe Hown
    generalize w'.heap.size = g5 at *
    have hown8 : W5.ownsRow w.heap.size 9 1 (.slice (some ⟨g5, 0, none⟩) 5 5) 5 (t.fields.map S) := by
      rw [Hfl.out Hlane.out, Hly.out]
      exact Hown5.out
    have hf7 : 5 = t.fields.length := by rw [Hfl.out Hlane.out, Hly.out]; rfl
    have Hown8 := Lib.hid hown8
    have Hf7 := Lib.hid hf7
    clear hown8 hf7 hgne
    go_wp2_with fail
    refine (rlist_own t.fields _ _ _ _ _ Hown8.out Hf7.out).mono ?_
    rintro _ w8 ⟨rfl, hb8⟩
    have Hb8 := Lib.hid (two_below' Hin.out.2 hb8)
    clear hb8
    go_wp2_with fail
    go_ret2
    exact ⟨rfl, Hb8.out⟩
theorem rbody_any (t : Tx) (ht : t.Ok) (w : World) :
    Calls Tryd.prog 15 #[t.v] w fun e w' => e = .returned (.tuple #[S t.bodyE.1, .int .i64 t.bodyE.2]) ∧ Below w.heap.size w w' := by
  by_cases he : t.err = 0
  · exact rbody_ok t ht w he
  · exact rbody_no t ht w he
end Go.Proofs.YtdekcicgiflnbaaDoor
