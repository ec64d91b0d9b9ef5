/- A law's argument that is a call, calls, numbers, opened. -/
import Derived.Test.YtfebknhggapljaaLawEnd
import Derived.Test.YtfebknhggapljaaDiskLaw1
import Derived.Deep.Slices
import Derived.Lib.SmallJoins
import Derived.SizedLaws
namespace Go.Proofs.Ytfebknhggapljaa
open Go.ChangeShapes Go.WideShapes Go.ChangeAt Go.RowKit Go.Joins Go.Deep
set_option linter.unusedVariables false
set_option linter.unusedSimpArgs false
set_option maxRecDepth 100000

theorem Sb_eq (s : ByteArray) : Sb s.data.toList = .string s := by
  show Value.string ⟨s.data.toList.toArray⟩ = .string s
  rw [Array.toArray_toList]
/-- a call with its numbers -/
structure Act9 where
  a : A9
  kA : Option Addr
  kc : Nat
  ks : List Int
def Act9.keep (x : Act9) : Value := .slice x.kA x.ks.length x.kc
def Act9.cells (x : Act9) : List Value := x.a.cells x.keep
def Act9.Fits (x : Act9) (W : World) : Prop := x.a.name.length ≤ 140737488351232 ∧ x.a.to.length ≤ 140737488351232 ∧ x.a.s.length ≤ 140737488351232 ∧ x.a.n ≤ 9223372036854775807 ∧ KeepV W x.keep x.ks
def Act9.v (x : Act9) : Value := x.a.v x.keep
theorem bounds_u8 {n : Int} (h : (Lit.int .u8 n).wf = true) : 0 ≤ n ∧ n ≤ 255 := by
  simp [Lit.wf, IntKind.min, IntKind.max, IntKind.signed, IntKind.bits] at h
  omega
theorem act_list {a0 a1 a2 a3 a4 a5 : Value} : ∀ (l : List Value), l.length = 6 → (l.drop 0).take 1 = [a0] → (l.drop 1).take 1 = [a1] → (l.drop 2).take 1 = [a2] → (l.drop 3).take 1 = [a3] → (l.drop 4).take 1 = [a4] → (l.drop 5).take 1 = [a5] → l = [a0, a1, a2, a3, a4, a5]
  | [x0, x1, x2, x3, x4, x5], _, h0, h1, h2, h3, h4, h5 => by
    simp at h0 h1 h2 h3 h4 h5
    rw [h0, h1, h2, h3, h4, h5]
  | [], hl, _, _, _, _, _, _ => by simp at hl
  | [_], hl, _, _, _, _, _, _ => by simp at hl
  | [_, _], hl, _, _, _, _, _, _ => by simp at hl
  | [_, _, _], hl, _, _, _, _, _, _ => by simp at hl
  | [_, _, _, _], hl, _, _, _, _, _, _ => by simp at hl
  | [_, _, _, _, _], hl, _, _, _, _, _, _ => by simp at hl
  | _ :: _ :: _ :: _ :: _ :: _ :: _ :: _, hl, _, _, _, _, _, _ => by simp at hl
theorem weights_one9 {H : Type} {P : Program} {e : TypeId} : ∀ {l : List (DataW H)} {d : DataW H}, d ∈ l → ∀ n ∈ d.weights P e, n ∈ DataW.weightsAll P e l
  | x :: l, d, hd, n, hn => by
    unfold DataW.weightsAll
    rcases List.mem_cons.1 hd with rfl | h
    · exact List.mem_append_left _ hn
    · exact List.mem_append_right _ (weights_one9 h n hn)
section
variable {H : Type} {enc : TypeId × Value → H} {fuel : Nat}
theorem cellsI : Try.prog.cellsOf 3 = 1 := by kernel_rfl
theorem cellsS : Try.prog.cellsOf 9 = 1 := by kernel_rfl
theorem cellsK : Try.prog.cellsOf 29 = 1 := by kernel_rfl
/-- numbers that a slice reads as -/
theorem keep_cells {W : World} {A : Option Addr} {n cap : Nat} {x : DataW H × List MemPlace} (h : DataW.trod enc Try.prog W 0 (fun _ => true) true fuel 29 [.slice A n cap] = some x) :
    ∃ ks : List Int, ks.length = n ∧ KeepV W (.slice A n cap) ks := by
  rcases open_slice Try.underlying29 h with ⟨hcs, hx⟩ | ⟨a, len, cap', m, n', D, Pl, hcs, _, hlc, hcm, hm, hx, hi⟩
  · have hcs' : Value.slice A n cap = .slice none 0 0 := by injection hcs
    injection hcs' with e1 e2 e3
    subst e1 e2 e3
    exact ⟨[], rfl, none, 0, rfl, fun hne => absurd rfl hne⟩
  · have hcs' : Value.slice A n cap = .slice (some a) len cap' := by injection hcs
    injection hcs' with e1 e2 e3
    subst e1 e2 e3
    rw [if_pos rfl] at hm
    subst hm
    have hel : ∀ i, i < m → ∃ k : Int, W.cell? (a.add (i * 1)) = some (.int .i64 k) := by
      intro i him
      obtain ⟨cs', hc, ht⟩ := hi i him
      rw [cellsI] at hc
      obtain ⟨_, hcl, hat⟩ := World.cells?_some hc
      obtain ⟨n0, e0, _, _⟩ := DataW.trod_int Try.underlying3 ht
      subst e0
      have q0 := hat 0 (by omega)
      have ez : (a.add (i * 1)).add 0 = a.add (i * 1) := by simp [Addr.add]
      rw [ez] at q0
      exact ⟨n0, q0⟩
    have hch : ∃ f : Nat → Int, ∀ i, i < m → W.cell? (a.add (i * 1)) = some (.int .i64 (f i)) := by
      refine ⟨fun i => if h : i < m then (hel i h).choose else 0, fun i h => ?_⟩
      simp only [dif_pos h]
      exact (hel i h).choose_spec
    obtain ⟨f, hfi⟩ := hch
    refine ⟨(List.range n).map f, by simp, some a, m, by simp, fun hne => ?_⟩
    have hpos : 0 < n := by
      rcases Nat.eq_zero_or_pos n with h0 | h0
      · subst h0; simp at hne
      · exact h0
    have hc0 := hfi 0 (by omega)
    have ez : a.add (0 * 1) = a := by simp [Addr.add]
    rw [ez] at hc0
    have hsp := World.cell?_spot hc0
    have hblt := World.block_lt_of_cell? W a hc0
    obtain ⟨b, off, sp⟩ := a
    subst hsp
    have hadd : ∀ k i, (⟨b, k, none⟩ : Addr).add i = ⟨b, k + i, none⟩ := fun k i => by unfold Addr.add; split <;> simp_all
    refine ⟨b, off, rfl, hblt, fun i hil => ?_⟩
    have hil' : i < n := by simpa using hil
    have := hfi i (by omega)
    simp only [hadd, Nat.mul_one] at this
    simpa using this
theorem act_cells {W : World} {cs : List Value} {x : DataW H × List MemPlace} (hcs : cs.length = 6) (h : DataW.trod enc Try.prog W 0 (fun _ => true) true fuel 31 cs = some x)
    (hwt : ∀ n ∈ x.1.weights Try.prog 31, n ≤ reachBytes) : ∃ y : Act9, y.Fits W ∧ cs = y.cells := by
  obtain ⟨xs, n, _, hx, _, hlen, hg⟩ := DataW.trod_struct Try.underlying31 h
  have h0 : DataW.trod enc Try.prog W 0 (fun _ => true) true n 3 ((cs.drop 0).take (Try.prog.cellsOf 3)) = xs[0]? := hg 0 _ rfl
  have h1 : DataW.trod enc Try.prog W 0 (fun _ => true) true n 9 ((cs.drop 1).take (Try.prog.cellsOf 9)) = xs[1]? := hg 1 _ rfl
  have h2 : DataW.trod enc Try.prog W 0 (fun _ => true) true n 9 ((cs.drop 2).take (Try.prog.cellsOf 9)) = xs[2]? := hg 2 _ rfl
  have h3 : DataW.trod enc Try.prog W 0 (fun _ => true) true n 9 ((cs.drop 3).take (Try.prog.cellsOf 9)) = xs[3]? := hg 3 _ rfl
  have h4 : DataW.trod enc Try.prog W 0 (fun _ => true) true n 3 ((cs.drop 4).take (Try.prog.cellsOf 3)) = xs[4]? := hg 4 _ rfl
  have h5 : DataW.trod enc Try.prog W 0 (fun _ => true) true n 29 ((cs.drop 5).take (Try.prog.cellsOf 29)) = xs[5]? := hg 5 _ rfl
  rw [cellsI] at h0 h4
  rw [cellsS] at h1 h2 h3
  rw [cellsK] at h5
  match xs, hlen with
  | [y0, y1, y2, y3, y4, y5], _ =>
    obtain ⟨n0, e0, f0, w0⟩ := DataW.trod_int Try.underlying3 h0
    obtain ⟨s1, e1, f1, _⟩ := DataW.trod_string Try.underlying9 h1
    obtain ⟨s2, e2, f2, _⟩ := DataW.trod_string Try.underlying9 h2
    obtain ⟨s3, e3, f3, _⟩ := DataW.trod_string Try.underlying9 h3
    obtain ⟨n4, e4, f4, w4⟩ := DataW.trod_int Try.underlying3 h4
    have e5 : ∃ A k c, (cs.drop 5).take 1 = [.slice A k c] := by
      rcases open_slice Try.underlying29 h5 with ⟨e, _⟩ | ⟨_, _, _, _, _, _, _, e, _⟩
      · exact ⟨_, _, _, e⟩
      · exact ⟨_, _, _, e⟩
    obtain ⟨A, k, c, e5⟩ := e5
    rw [e5] at h5
    obtain ⟨ks, hk, hK⟩ := keep_cells h5
    subst hk
    have hde : x.1 = .agg [y0.1, y1.1, y2.1, y3.1, y4.1, y5.1] := by rw [hx]; rfl
    have h7 : reachBytes = 140737488351232 := by decide
    have hs : ∀ (j : Nat) (s : ByteArray), ([3, 9, 9, 9, 3, 29] : List TypeId)[j]? = some 9 → [y0.1, y1.1, y2.1, y3.1, y4.1, y5.1][j]? = some (.lit (.string s.data.toList)) → s.data.toList.length ≤ 140737488351232 := fun j s h1 h2 => by
      have h6 := hwt s.data.toList.length (by
        rw [hde]
        unfold DataW.weights
        rw [Try.underlying31]
        exact DataW.weights_mem_each (j := j) (t := 9) (d := .lit (.string s.data.toList)) h1 h2 _ (by simp [DataW.weights]))
      omega
    refine ⟨⟨⟨n0, s1.data.toList, s2.data.toList, s3.data.toList, n4⟩, A, c, ks⟩, ⟨hs 1 s1 rfl (by simp [f1]), hs 2 s2 rfl (by simp [f2]), hs 3 s3 rfl (by simp [f3]), (bounds_i64 w4).2, hK⟩, ?_⟩
    show cs = [.int .i64 n0, Sb s1.data.toList, Sb s2.data.toList, Sb s3.data.toList, .int .i64 n4, .slice A ks.length c]
    rw [Sb_eq, Sb_eq, Sb_eq]
    exact act_list cs hcs e0 e1 e2 e3 e4 e5
end
section
variable {H : Type} {enc : TypeId × Value → H} {W : World} {r : Reach} {b0 : Nat} {v : Value} {d : DataW H} {ps : List MemPlace} {ts : List TypeId} {ds : List (DataW H)} {j : Nat}
theorem open_act (hv : Value.okWide Try.prog W r b0 31 v) (h : DataW.Trod enc Try.prog W 0 (fun _ => true) true 31 v d ps)
    (hsz : (DataW.weightsEach Try.prog ts ds).all (· ≤ reachBytes) = true) (ht : ts[j]? = some 31) (hd : ds[j]? = some d) : ∃ y : Act9, y.Fits W ∧ v = y.v := by
  have hs := Try.underlying31
  obtain ⟨cs, rfl, hcz⟩ := okWide_struct hs hv
  obtain ⟨fuel, hf⟩ := h
  have hc : Try.prog.cellsOf 31 = 6 := by kernel_rfl
  have hl : cs.toList.length = 6 := by rw [Array.length_toList, hcz, hc]
  obtain ⟨y, hy, hcs⟩ := act_cells hl hf (fun n hn => by
    have := List.all_eq_true.1 hsz _ (DataW.weights_mem_each ht hd n hn)
    simpa using this)
  refine ⟨y, hy, ?_⟩
  show Value.agg cs = .agg y.cells.toArray
  congr 1
  apply Array.toList_inj.1
  rw [hcs]
theorem open_ints (hv : Value.okWide Try.prog W r b0 29 v) (h : DataW.Trod enc Try.prog W 0 (fun _ => true) true 29 v d ps) : ∃ ks : List Int, KeepV W v ks := by
  obtain ⟨A, n, cap, rfl⟩ := okWide_slice Try.underlying29 hv
  obtain ⟨fuel, hf⟩ := h
  obtain ⟨ks, _, hK⟩ := keep_cells (by simpa [Value.cells] using hf)
  exact ⟨ks, hK⟩
/-- calls in memory -/
def ActsV (W : World) (v : Value) (l : List Act9) : Prop :=
  ∃ A c, v = .slice A l.length c ∧ (∀ x ∈ l, x.Fits W) ∧ (l ≠ [] → ∃ b off, A = some ⟨b, off, none⟩ ∧ b < W.heap.size ∧ ∀ i (h : i < l.length), ∀ q, q < 6 → W.cell? ⟨b, off + i * 6 + q, none⟩ = (l[i]).cells[q]?)
theorem open_acts (hv : Value.okWide Try.prog W r b0 22 v) (h : DataW.Trod enc Try.prog W 0 (fun _ => true) true 22 v d ps)
    (hsz : (DataW.weightsEach Try.prog ts ds).all (· ≤ reachBytes) = true) (ht : ts[j]? = some 22) (hd : ds[j]? = some d) : ∃ l : List Act9, ActsV W v l ∧ l.length ≤ 9223372036854775807 := by
  obtain ⟨A, n, cap, rfl⟩ := okWide_slice Try.underlying22 hv
  obtain ⟨fuel, hf⟩ := h
  have hC : Try.prog.cellsOf 31 = 6 := by kernel_rfl
  rcases open_slice Try.underlying22 hf with ⟨hcs, hx⟩ | ⟨a, len, cap', m, n', D, Pl, hcs, _, hlc, hcm, hm, hx, hi⟩
  · have hcs' : Value.slice A n cap = .slice none 0 0 := by simpa [Value.cells] using hcs
    rw [hcs']
    exact ⟨[], ⟨none, 0, rfl, fun x hx => (by cases hx), fun h => absurd rfl h⟩, by simp⟩
  · have hcs' : Value.slice A n cap = .slice (some a) len cap' := by simpa [Value.cells] using hcs
    injection hcs' with e1 e2 e3
    subst e1 e2 e3
    rw [if_pos rfl] at hm
    subst hm
    obtain ⟨rfl, _⟩ := Prod.mk.inj hx
    have hel : ∀ i, i < n → ∃ y : Act9, y.Fits W ∧ ∀ q, q < 6 → W.cell? ((a.add (i * 6)).add q) = y.cells[q]? := by
      intro i hin
      obtain ⟨cs', hc, ht2⟩ := hi i (by omega)
      rw [hC] at hc
      obtain ⟨_, hcl, hat⟩ := World.cells?_some hc
      have hmem : D i ∈ (List.range n).map D := List.mem_map.2 ⟨i, List.mem_range.2 hin, rfl⟩
      obtain ⟨y, hy, hcs⟩ := act_cells hcl ht2 (fun k hk => by
        have := List.all_eq_true.1 hsz _ (DataW.weights_mem_each ht hd k (by
          simp only [DataW.weights, Try.underlying22]
          exact List.mem_cons_of_mem _ (List.mem_append_left _ (weights_one9 hmem _ hk))))
        simpa using this)
      refine ⟨y, hy, fun q hq => ?_⟩
      have := hat q (by omega)
      rw [this, hcs]
    have hch : ∃ f : Nat → Act9, ∀ i, i < n → (f i).Fits W ∧ ∀ q, q < 6 → W.cell? ((a.add (i * 6)).add q) = (f i).cells[q]? := by
      refine ⟨fun i => if h : i < n then (hel i h).choose else ⟨⟨0, [], [], [], 0⟩, none, 0, []⟩, fun i h => ?_⟩
      simp only [dif_pos h]
      exact (hel i h).choose_spec
    obtain ⟨f, hfi⟩ := hch
    have hmax : m ≤ 9223372036854775807 := by
      have := hcm; unfold maxLen at this; omega
    refine ⟨(List.range n).map f, ⟨some a, m, by simp, fun x hx => ?_, fun hne => ?_⟩, by simp; omega⟩
    · obtain ⟨i, hi1, rfl⟩ := List.mem_map.1 hx
      exact (hfi i (List.mem_range.1 hi1)).1
    have hpos : 0 < n := by
      rcases Nat.eq_zero_or_pos n with h0 | h0
      · subst h0; simp at hne
      · exact h0
    have hc0 : W.cell? ((a.add (0 * 6)).add 0) = some (.int .i64 (f 0).a.kind) := (hfi 0 (by omega)).2 0 (by omega)
    have ez : (a.add (0 * 6)).add 0 = a := by simp [Addr.add]
    rw [ez] at hc0
    have hsp := World.cell?_spot hc0
    have hblt := World.block_lt_of_cell? W a hc0
    obtain ⟨b, off, sp⟩ := a
    subst hsp
    have hadd : ∀ k i, (⟨b, k, none⟩ : Addr).add i = ⟨b, k + i, none⟩ := fun k i => by unfold Addr.add; split <;> simp_all
    refine ⟨b, off, rfl, hblt, fun i hil q hq => ?_⟩
    have hil' : i < n := by simpa using hil
    have := (hfi i hil').2 q hq
    simp only [hadd] at this
    simpa using this
end
theorem diskNone_open (y : Act9) (W : World) (h : y.Fits W) : Calls Try.prog 7 #[y.v] W fun e w' => e = .returned (.bool true) ∧ Below W.heap.size W w' :=
  diskNone_any y.a y.kA y.ks.length y.kc W (by have := h.1; unfold maxLen; omega)
theorem diskArmed_open (n : Int) (s : ByteArray) (W : World) (hn : 0 ≤ n ∧ n ≤ 255) (hs : s.size ≤ 140737488351232) : Calls Try.prog 5 #[.int .u8 n, .string s] W fun e w' => e = .returned (.bool true) ∧ Below W.heap.size W w' := by
  have h := diskArmed_any n s.data.toList W hn.1 hn.2 (show s.data.size ≤ _ from hs)
  rw [Sb_eq] at h
  exact h
end Go.Proofs.Ytfebknhggapljaa
