/- A law's argument that is a bid, a receipt, an item or a batch, opened. -/
import Derived.Test.YtdekcicgiflnbaaDoorTxOpen
import Derived.Test.YtdekcicgiflnbaaDoorNoG
import Derived.Deep.Slices
import Derived.Lib.SmallJoins
namespace Go.Proofs.YtdekcicgiflnbaaDoor
open Go.ChangeShapes Go.WideShapes Go.ChangeAt Go.RowKit Go.Joins Go.Deep
set_option linter.unusedVariables false
set_option linter.unusedSimpArgs false
set_option maxRecDepth 100000

theorem five_cells {a0 a1 a2 a3 : Value} {s : List Value} : ∀ (l : List Value), l.length = 36 → (l.drop 0).take 1 = [a0] → (l.drop 1).take 1 = [a1] → (l.drop 2).take 1 = [a2] → (l.drop 3).take 1 = [a3] →
    (l.drop 4).take 32 = s → l = [a0, a1, a2, a3] ++ s
  | x0 :: x1 :: x2 :: x3 :: r, hl, h0, h1, h2, h3, h4 => by
    have hr : r.length = 32 := by simpa using hl
    simp at h0 h1 h2 h3 h4
    rw [List.take_of_length_le (by omega)] at h4
    rw [h0, h1, h2, h3, h4]; rfl
  | [], hl, _, _, _, _, _ => by simp at hl
  | [_], hl, _, _, _, _, _ => by simp at hl
  | [_, _], hl, _, _, _, _, _ => by simp at hl
  | [_, _, _], hl, _, _, _, _, _ => by simp at hl
theorem six_cells {a0 a1 a2 a3 : Value} {s t : List Value} : ∀ (l : List Value), l.length = 68 → (l.drop 0).take 1 = [a0] → (l.drop 1).take 1 = [a1] → (l.drop 2).take 1 = [a2] → (l.drop 3).take 1 = [a3] →
    (l.drop 4).take 32 = s → (l.drop 36).take 32 = t → l = [a0, a1, a2, a3] ++ (s ++ t)
  | x0 :: x1 :: x2 :: x3 :: r, hl, h0, h1, h2, h3, h4, h5 => by
    have hr : r.length = 64 := by simpa using hl
    simp at h0 h1 h2 h3 h4 h5
    rw [List.take_of_length_le (by simp; omega)] at h5
    rw [h0, h1, h2, h3, ← h4, ← h5, List.take_append_drop]; rfl
  | [], hl, _, _, _, _, _, _ => by simp at hl
  | [_], hl, _, _, _, _, _, _ => by simp at hl
  | [_, _], hl, _, _, _, _, _, _ => by simp at hl
  | [_, _, _], hl, _, _, _, _, _, _ => by simp at hl
theorem four_cells {a b c e : Value} : ∀ (l : List Value), l.length = 4 → (l.drop 0).take 1 = [a] → (l.drop 1).take 1 = [b] → (l.drop 2).take 1 = [c] → (l.drop 3).take 1 = [e] → l = [a, b, c, e]
  | [x, y, z, u], _, h0, h1, h2, h3 => by
    simp at h0 h1 h2 h3
    rw [h0, h1, h2, h3]
  | [], hl, _, _, _, _ => by simp at hl
  | [_], hl, _, _, _, _ => by simp at hl
  | [_, _], hl, _, _, _, _ => by simp at hl
  | [_, _, _], hl, _, _, _, _ => by simp at hl
  | _ :: _ :: _ :: _ :: _ :: _, hl, _, _, _, _ => by simp at hl
theorem two_cells {a b : Value} : ∀ (l : List Value), l.length = 2 → (l.drop 0).take 1 = [a] → (l.drop 1).take 1 = [b] → l = [a, b]
  | [x, y], _, h0, h1 => by
    simp at h0 h1
    rw [h0, h1]
  | [], hl, _, _ => by simp at hl
  | [_], hl, _, _ => by simp at hl
  | _ :: _ :: _ :: _, hl, _, _ => by simp at hl

section
variable {H : Type} {enc : TypeId × Value → H} {w : World} {base : Nat} {spare : Nat → Bool} {held : Bool} {fuel : Nat}
theorem cellsI : Tryd.prog.cellsOf 3 = 1 := by kernel_rfl
theorem cellsS : Tryd.prog.cellsOf 9 = 1 := by kernel_rfl
theorem cellsB : Tryd.prog.cellsOf 4 = 1 := by kernel_rfl
theorem cellsH : Tryd.prog.cellsOf 23 = 32 := by kernel_rfl
theorem bid_cells {cs : List Value} {x : DataW H × List MemPlace} (hcs : cs.length = 36) (h : DataW.trod enc Tryd.prog w base spare held fuel 41 cs = some x) :
    ∃ b : Bd, b.Fits ∧ cs = b.cells := by
  obtain ⟨xs, n, _, hx, _, hlen, hg⟩ := DataW.trod_struct Tryd.underlying41 h
  have h0 : DataW.trod enc Tryd.prog w base spare held n 3 ((cs.drop 0).take (Tryd.prog.cellsOf 3)) = xs[0]? := hg 0 _ rfl
  have h1 : DataW.trod enc Tryd.prog w base spare held n 3 ((cs.drop 1).take (Tryd.prog.cellsOf 3)) = xs[1]? := hg 1 _ rfl
  have h2 : DataW.trod enc Tryd.prog w base spare held n 3 ((cs.drop 2).take (Tryd.prog.cellsOf 3)) = xs[2]? := hg 2 _ rfl
  have h3 : DataW.trod enc Tryd.prog w base spare held n 3 ((cs.drop 3).take (Tryd.prog.cellsOf 3)) = xs[3]? := hg 3 _ rfl
  have h4 : DataW.trod enc Tryd.prog w base spare held n 23 ((cs.drop 4).take (Tryd.prog.cellsOf 23)) = xs[4]? := hg 4 _ rfl
  rw [cellsI] at h0 h1 h2 h3
  rw [cellsH] at h4
  match xs, hlen with
  | [y0, y1, y2, y3, y4], _ =>
    obtain ⟨n0, e0, f0, w0⟩ := DataW.trod_int Tryd.underlying3 h0
    obtain ⟨n1, e1, f1, w1⟩ := DataW.trod_int Tryd.underlying3 h1
    obtain ⟨n2, e2, f2, w2⟩ := DataW.trod_int Tryd.underlying3 h2
    obtain ⟨n3, e3, f3, w3⟩ := DataW.trod_int Tryd.underlying3 h3
    obtain ⟨R, hR, e4, _⟩ := hash_cells h4
    exact ⟨⟨n0, n1, n2, n3, R⟩, ⟨hR, bounds_i64 w0, bounds_i64 w1, bounds_i64 w2, bounds_i64 w3⟩, five_cells cs hcs e0 e1 e2 e3 e4⟩
theorem rcpt_cells {cs : List Value} {x : DataW H × List MemPlace} (hcs : cs.length = 68) (h : DataW.trod enc Tryd.prog w base spare held fuel 48 cs = some x)
    (hwt : ∀ n ∈ x.1.weights Tryd.prog 48, n ≤ reachBytes) :
    ∃ r : Rp, r.Fits ∧ cs = r.cells := by
  obtain ⟨xs, n, _, hx, _, hlen, hg⟩ := DataW.trod_struct Tryd.underlying48 h
  have h0 : DataW.trod enc Tryd.prog w base spare held n 3 ((cs.drop 0).take (Tryd.prog.cellsOf 3)) = xs[0]? := hg 0 _ rfl
  have h1 : DataW.trod enc Tryd.prog w base spare held n 3 ((cs.drop 1).take (Tryd.prog.cellsOf 3)) = xs[1]? := hg 1 _ rfl
  have h2 : DataW.trod enc Tryd.prog w base spare held n 3 ((cs.drop 2).take (Tryd.prog.cellsOf 3)) = xs[2]? := hg 2 _ rfl
  have h3 : DataW.trod enc Tryd.prog w base spare held n 9 ((cs.drop 3).take (Tryd.prog.cellsOf 9)) = xs[3]? := hg 3 _ rfl
  have h4 : DataW.trod enc Tryd.prog w base spare held n 23 ((cs.drop 4).take (Tryd.prog.cellsOf 23)) = xs[4]? := hg 4 _ rfl
  have h5 : DataW.trod enc Tryd.prog w base spare held n 23 ((cs.drop 36).take (Tryd.prog.cellsOf 23)) = xs[5]? := hg 5 _ rfl
  rw [cellsI] at h0 h1 h2
  rw [cellsS] at h3
  rw [cellsH] at h4 h5
  match xs, hlen with
  | [y0, y1, y2, y3, y4, y5], _ =>
    obtain ⟨n0, e0, f0, w0⟩ := DataW.trod_int Tryd.underlying3 h0
    obtain ⟨n1, e1, f1, w1⟩ := DataW.trod_int Tryd.underlying3 h1
    obtain ⟨n2, e2, f2, w2⟩ := DataW.trod_int Tryd.underlying3 h2
    obtain ⟨s, e3, f3, _⟩ := DataW.trod_string Tryd.underlying9 h3
    obtain ⟨R, hR, e4, _⟩ := hash_cells h4
    obtain ⟨Q, hQ, e5, _⟩ := hash_cells h5
    have hde : x.1 = .agg [y0.1, y1.1, y2.1, y3.1, y4.1, y5.1] := by rw [hx]; rfl
    have hss : s.size ≤ 140737488351232 := by
      have h6 := hwt s.data.toList.length (by
        rw [hde, f3]
        unfold DataW.weights
        rw [Tryd.underlying48]
        exact DataW.weights_mem_each (j := 3) (t := 9) (d := .lit (.string s.data.toList)) rfl rfl _ (by simp [DataW.weights]))
      have h7 : reachBytes = 140737488351232 := by decide
      have h8 : s.data.toList.length = s.size := rfl
      omega
    exact ⟨⟨n0, n1, n2, s, R, Q⟩, ⟨hR, hQ, hss, bounds_i64 w0, bounds_i64 w1, bounds_i64 w2⟩, six_cells cs hcs e0 e1 e2 e3 e4 e5⟩
theorem item_cells {cs : List Value} {x : DataW H × List MemPlace} (hcs : cs.length = 4) (h : DataW.trod enc Tryd.prog w base spare held fuel 59 cs = some x) :
    ∃ i : It, cs = [.int .i64 i.kind, .int .i64 i.who, .int .i64 i.n, .string i.text] := by
  obtain ⟨xs, n, _, hx, _, hlen, hg⟩ := DataW.trod_struct Tryd.underlying59 h
  have h0 : DataW.trod enc Tryd.prog w base spare held n 3 ((cs.drop 0).take (Tryd.prog.cellsOf 3)) = xs[0]? := hg 0 _ rfl
  have h1 : DataW.trod enc Tryd.prog w base spare held n 3 ((cs.drop 1).take (Tryd.prog.cellsOf 3)) = xs[1]? := hg 1 _ rfl
  have h2 : DataW.trod enc Tryd.prog w base spare held n 3 ((cs.drop 2).take (Tryd.prog.cellsOf 3)) = xs[2]? := hg 2 _ rfl
  have h3 : DataW.trod enc Tryd.prog w base spare held n 9 ((cs.drop 3).take (Tryd.prog.cellsOf 9)) = xs[3]? := hg 3 _ rfl
  rw [cellsI] at h0 h1 h2
  rw [cellsS] at h3
  match xs, hlen with
  | [y0, y1, y2, y3], _ =>
    obtain ⟨n0, e0, f0, w0⟩ := DataW.trod_int Tryd.underlying3 h0
    obtain ⟨n1, e1, f1, w1⟩ := DataW.trod_int Tryd.underlying3 h1
    obtain ⟨n2, e2, f2, w2⟩ := DataW.trod_int Tryd.underlying3 h2
    obtain ⟨s, e3, f3, _⟩ := DataW.trod_string Tryd.underlying9 h3
    exact ⟨⟨n0, n1, n2, s⟩, four_cells cs hcs e0 e1 e2 e3⟩
theorem weights_one {H : Type} {P : Program} {e : TypeId} : ∀ {l : List (DataW H)} {d : DataW H}, d ∈ l → ∀ n ∈ d.weights P e, n ∈ DataW.weightsAll P e l
  | x :: l, d, hd, n, hn => by
    unfold DataW.weightsAll
    rcases List.mem_cons.1 hd with rfl | h
    · exact List.mem_append_left _ hn
    · exact List.mem_append_right _ (weights_one h n hn)
/-- parts that a slice reads as -/
theorem parts_cells {W : World} {A : Option Addr} {n cap : Nat} {d : DataW H} {ps : List MemPlace} (h : DataW.trod enc Tryd.prog W 0 (fun _ => true) true fuel 53 [.slice A n cap] = some (d, ps))
    (hwt : ∀ n ∈ d.weights Tryd.prog 53, n ≤ reachBytes) :
    ∃ P : List Pt, P.length = n ∧ PartsAt W W.heap.size A P ∧ (∀ p ∈ P, p.2.length ≤ 140737488351232) ∧ n ≤ 9223372036854775807 ∧ n ≤ cap := by
  have hC : Tryd.prog.cellsOf 98 = 2 := by kernel_rfl
  rcases open_slice Tryd.underlying53 h with ⟨hcs, hx⟩ | ⟨a, len, cap', m, n', D, Pl, hcs, _, hlc, hcm, hm, hx, hi⟩
  · have hcs' : Value.slice A n cap = .slice none 0 0 := by injection hcs
    injection hcs' with _ e2 e3
    exact ⟨[], by rw [e2]; rfl, fun hne => absurd rfl hne, by simp, by omega, by omega⟩
  · have hcs' : Value.slice A n cap = .slice (some a) len cap' := by injection hcs
    injection hcs' with e1 e2 e3
    subst e1 e2 e3
    rw [if_pos rfl] at hm
    subst hm
    obtain ⟨rfl, _⟩ := Prod.mk.inj hx
    have hel : ∀ i, i < m → ∃ p : Pt, W.cell? (a.add (i * 2)) = some (.bool p.1) ∧ W.cell? ((a.add (i * 2)).add 1) = some (S p.2) ∧ (i < n → p.2.length ≤ 140737488351232) := by
      intro i him
      obtain ⟨cs', hc, ht⟩ := hi i him
      rw [hC] at hc
      obtain ⟨_, hcl, hat⟩ := World.cells?_some hc
      obtain ⟨xs, k, _, hx3, _, hlen3, hg⟩ := DataW.trod_struct Tryd.underlying98 ht
      match xs, hlen3 with
      | [y0, y1], _ =>
        have h0 : DataW.trod enc Tryd.prog W 0 (fun _ => true) true k 4 ((cs'.drop 0).take (Tryd.prog.cellsOf 4)) = some y0 := hg 0 _ rfl
        have h1 : DataW.trod enc Tryd.prog W 0 (fun _ => true) true k 9 ((cs'.drop 1).take (Tryd.prog.cellsOf 9)) = some y1 := hg 1 _ rfl
        rw [cellsB] at h0
        rw [cellsS] at h1
        obtain ⟨b, e0, _⟩ := DataW.trod_bool Tryd.underlying4 h0
        obtain ⟨s, e1, f1, _⟩ := DataW.trod_string Tryd.underlying9 h1
        have hDi : D i = .agg [y0.1, y1.1] := (Prod.mk.inj hx3).1
        have hss : i < n → s.data.toList.length ≤ 140737488351232 := by
          intro hin
          have hmem : D i ∈ (List.range n).map D := List.mem_map.2 ⟨i, List.mem_range.2 hin, rfl⟩
          have h6 := hwt s.data.toList.length (by
            simp only [DataW.weights, Tryd.underlying53]
            refine List.mem_cons_of_mem _ (List.mem_append_left _ (weights_one hmem _ ?_))
            rw [hDi, f1]
            unfold DataW.weights
            rw [Tryd.underlying98]
            exact DataW.weights_mem_each (j := 1) (t := 9) (d := .lit (.string s.data.toList)) rfl rfl _ (by simp [DataW.weights]))
          have h7 : reachBytes = 140737488351232 := by decide
          omega
        have hcs2 := two_cells cs' hcl e0 e1
        subst hcs2
        have q0 := hat 0 (by omega)
        have q1 := hat 1 (by omega)
        refine ⟨(b, s.data.toList), ?_, q1, hss⟩
        have ez : (a.add (i * 2)).add 0 = a.add (i * 2) := by simp [Addr.add]
        rw [ez] at q0
        exact q0
    have hch : ∃ f : Nat → Pt, ∀ i, i < m → W.cell? (a.add (i * 2)) = some (.bool (f i).1) ∧ W.cell? ((a.add (i * 2)).add 1) = some (S (f i).2) ∧ (i < n → (f i).2.length ≤ 140737488351232) := by
      refine ⟨fun i => if h : i < m then (hel i h).choose else (false, []), fun i h => ?_⟩
      simp only [dif_pos h]
      exact (hel i h).choose_spec
    obtain ⟨f, hfi⟩ := hch
    have hmax : m ≤ 9223372036854775807 := by
      have := hcm; unfold maxLen at this; omega
    refine ⟨(List.range n).map f, by simp, fun hne => ?_, fun p hp => ?_, by omega, by omega⟩
    case refine_2 =>
      obtain ⟨i, hi1, rfl⟩ := List.mem_map.1 hp
      have hi2 : i < n := List.mem_range.1 hi1
      exact (hfi i (by omega)).2.2 hi2
    have hpos : 0 < n := by
      rcases Nat.eq_zero_or_pos n with h0 | h0
      · subst h0; simp at hne
      · exact h0
    have hc0 := (hfi 0 (by omega)).1
    have ez : a.add (0 * 2) = a := by simp [Addr.add]
    rw [ez] at hc0
    have hsp := World.cell?_spot hc0
    have hblt := World.block_lt_of_cell? W a hc0
    obtain ⟨b, off, sp⟩ := a
    subst hsp
    have hadd : ∀ k i, (⟨b, k, none⟩ : Addr).add i = ⟨b, k + i, none⟩ := fun k i => by unfold Addr.add; split <;> simp_all
    refine ⟨b, off, rfl, hblt, fun i hil => ?_⟩
    have hil' : i < n := by simpa using hil
    have := hfi i (by omega)
    simp only [hadd] at this
    simpa using And.intro this.1 this.2.1
theorem batch_cells {W : World} {cs : List Value} {x : DataW H × List MemPlace} (hcs : cs.length = 4) (h : DataW.trod enc Tryd.prog W 0 (fun _ => true) true fuel 55 cs = some x)
    (hwt : ∀ n ∈ x.1.weights Tryd.prog 55, n ≤ reachBytes) :
    ∃ (b : Bt) (A : Option Addr) (cap : Nat), b.Fits ∧ cs = b.cells A cap ∧ PartsAt W W.heap.size A b.parts ∧ b.parts.length ≤ 9223372036854775807 ∧ b.parts.length ≤ cap := by
  obtain ⟨xs, n, _, hx, _, hlen, hg⟩ := DataW.trod_struct Tryd.underlying55 h
  have h0 : DataW.trod enc Tryd.prog W 0 (fun _ => true) true n 3 ((cs.drop 0).take (Tryd.prog.cellsOf 3)) = xs[0]? := hg 0 _ rfl
  have h1 : DataW.trod enc Tryd.prog W 0 (fun _ => true) true n 3 ((cs.drop 1).take (Tryd.prog.cellsOf 3)) = xs[1]? := hg 1 _ rfl
  have h2 : DataW.trod enc Tryd.prog W 0 (fun _ => true) true n 3 ((cs.drop 2).take (Tryd.prog.cellsOf 3)) = xs[2]? := hg 2 _ rfl
  have h3 : DataW.trod enc Tryd.prog W 0 (fun _ => true) true n 53 ((cs.drop 3).take (Tryd.prog.cellsOf 53)) = xs[3]? := hg 3 _ rfl
  have cellsP : Tryd.prog.cellsOf 53 = 1 := by kernel_rfl
  rw [cellsI] at h0 h1 h2
  rw [cellsP] at h3
  match xs, hlen with
  | [y0, y1, y2, y3], _ =>
    obtain ⟨n0, e0, f0, w0⟩ := DataW.trod_int Tryd.underlying3 h0
    obtain ⟨n1, e1, f1, w1⟩ := DataW.trod_int Tryd.underlying3 h1
    obtain ⟨n2, e2, f2, w2⟩ := DataW.trod_int Tryd.underlying3 h2
    have e3 : ∃ A k c, (cs.drop 3).take 1 = [.slice A k c] := by
      rcases open_slice Tryd.underlying53 h3 with ⟨e, _⟩ | ⟨_, _, _, _, _, _, _, e, _⟩
      · exact ⟨_, _, _, e⟩
      · exact ⟨_, _, _, e⟩
    obtain ⟨A, k, c, e3⟩ := e3
    rw [e3] at h3
    have hde : x.1 = .agg [y0.1, y1.1, y2.1, y3.1] := by rw [hx]; rfl
    obtain ⟨P, hl, hP, hp5, h6, h7⟩ := parts_cells (d := y3.1) (ps := y3.2) h3 (fun n hn => hwt n (by
      rw [hde]
      unfold DataW.weights
      rw [Tryd.underlying55]
      exact DataW.weights_mem_each (j := 3) (t := 53) (d := y3.1) rfl rfl n hn))
    subst hl
    exact ⟨⟨n0, n1, n2, P⟩, A, c, ⟨bounds_i64 w0, bounds_i64 w1, bounds_i64 w2, hp5⟩, four_cells cs hcs e0 e1 e2 e3, hP, h6, h7⟩
end
section
variable {H : Type} {enc : TypeId × Value → H} {W : World} {r : Reach} {b0 : Nat} {v : Value} {d : DataW H} {ps : List MemPlace} {ts : List TypeId} {ds : List (DataW H)} {j : Nat}
/-- a bid by value -/
theorem open_bid (hv : Value.okWide Tryd.prog W r b0 41 v) (h : DataW.Trod enc Tryd.prog W 0 (fun _ => true) true 41 v d ps) :
    ∃ b : Bd, b.Fits ∧ v = b.v := by
  obtain ⟨cs, rfl, hcz⟩ := okWide_struct Tryd.underlying41 hv
  obtain ⟨fuel, hf⟩ := h
  have hc : Tryd.prog.cellsOf 41 = 36 := by kernel_rfl
  obtain ⟨b, h1, h2⟩ := bid_cells (cs := cs.toList) (by rw [Array.length_toList, hcz, hc]) hf
  exact ⟨b, h1, by show Value.agg cs = .agg _; rw [← h2]⟩
/-- a receipt by value -/
theorem open_rcpt (hv : Value.okWide Tryd.prog W r b0 48 v) (h : DataW.Trod enc Tryd.prog W 0 (fun _ => true) true 48 v d ps)
    (hsz : (DataW.weightsEach Tryd.prog ts ds).all (· ≤ reachBytes) = true) (ht : ts[j]? = some 48) (hd : ds[j]? = some d) :
    ∃ x : Rp, x.Fits ∧ v = x.v := by
  have hwt : ∀ n ∈ d.weights Tryd.prog 48, n ≤ reachBytes := fun n hn => by
    have := List.all_eq_true.1 hsz _ (DataW.weights_mem_each ht hd n hn)
    simpa using this
  obtain ⟨cs, rfl, hcz⟩ := okWide_struct Tryd.underlying48 hv
  obtain ⟨fuel, hf⟩ := h
  have hc : Tryd.prog.cellsOf 48 = 68 := by kernel_rfl
  obtain ⟨b, h1, h2⟩ := rcpt_cells (cs := cs.toList) (by rw [Array.length_toList, hcz, hc]) hf hwt
  exact ⟨b, h1, by show Value.agg cs = .agg _; rw [← h2]⟩
/-- an item by value -/
theorem open_item (hv : Value.okWide Tryd.prog W r b0 59 v) (h : DataW.Trod enc Tryd.prog W 0 (fun _ => true) true 59 v d ps) :
    ∃ i : It, v = i.v := by
  obtain ⟨cs, rfl, hcz⟩ := okWide_struct Tryd.underlying59 hv
  obtain ⟨fuel, hf⟩ := h
  have hc : Tryd.prog.cellsOf 59 = 4 := by kernel_rfl
  obtain ⟨i, h2⟩ := item_cells (cs := cs.toList) (by rw [Array.length_toList, hcz, hc]) hf
  refine ⟨i, ?_⟩
  show Value.agg cs = .agg _
  congr 1
  exact Array.toList_inj.1 h2
/-- a batch by value -/
theorem open_batch (hv : Value.okWide Tryd.prog W r b0 55 v) (h : DataW.Trod enc Tryd.prog W 0 (fun _ => true) true 55 v d ps)
    (hsz : (DataW.weightsEach Tryd.prog ts ds).all (· ≤ reachBytes) = true) (ht : ts[j]? = some 55) (hd : ds[j]? = some d) :
    ∃ (b : Bt) (A : Option Addr) (cap : Nat), b.Fits ∧ v = .agg (b.cells A cap).toArray ∧ PartsAt W W.heap.size A b.parts ∧ b.parts.length ≤ 9223372036854775807 ∧ b.parts.length ≤ cap := by
  have hwt : ∀ n ∈ d.weights Tryd.prog 55, n ≤ reachBytes := fun n hn => by
    have := List.all_eq_true.1 hsz _ (DataW.weights_mem_each ht hd n hn)
    simpa using this
  obtain ⟨cs, rfl, hcz⟩ := okWide_struct Tryd.underlying55 hv
  obtain ⟨fuel, hf⟩ := h
  have hc : Tryd.prog.cellsOf 55 = 4 := by kernel_rfl
  obtain ⟨b, A, cap, h1, h2, h3, h4, h5⟩ := batch_cells (cs := cs.toList) (by rw [Array.length_toList, hcz, hc]) hf hwt
  exact ⟨b, A, cap, h1, by show Value.agg cs = .agg _; rw [← h2], h3, h4, h5⟩
end
end Go.Proofs.YtdekcicgiflnbaaDoor
