/- A law's argument that is a list of numbers, opened. -/
/- A law's argument that is a list of calls, opened: JournalKeeps. -/
import Derived.Test.YtpphljdnnlfjhaaDoorLawEnd
import Derived.Test.YtpphljdnnlfjhaaDoorDiskCrash
import Derived.Deep.Slices
import Derived.Lib.SmallJoins
import Derived.SizedLaws
import Derived.Test.YtpphljdnnlfjhaaDoorJrText
import Derived.SliceStrings
namespace Go.Proofs.YtpphljdnnlfjhaaDoor
open Go.ChangeShapes Go.WideShapes Go.ChangeAt Go.RowKit Go.Joins Go.Deep
set_option linter.unusedVariables false
set_option linter.unusedSimpArgs false
set_option maxRecDepth 100000

theorem bounds_u8 {n : Int} (h : (Lit.int .u8 n).wf = true) : 0 ≤ n ∧ n ≤ 255 := by
  simp [Lit.wf, IntKind.min, IntKind.max, IntKind.signed, IntKind.bits] at h
  omega
section
variable {H : Type} {enc : TypeId × Value → H} {fuel : Nat}
theorem cellsI : Tryd.prog.cellsOf 3 = 1 := by kernel_rfl
/-- numbers that a slice reads as -/
theorem keep_cells {W : World} {A : Option Addr} {n cap : Nat} {x : DataW H × List MemPlace} (h : DataW.trod enc Tryd.prog W 0 (fun _ => true) true fuel 29 [.slice A n cap] = some x) :
    ∃ ks : List Int, ks.length = n ∧ KeepV W (.slice A n cap) ks := by
  rcases open_slice Tryd.underlying29 h with ⟨hcs, hx⟩ | ⟨a, len, cap', m, n', D, Pl, hcs, _, hlc, hcm, hm, hx, hi⟩
  · have hcs' : Value.slice A n cap = .slice none 0 0 := by injection hcs
    injection hcs' with e1 e2 e3
    subst e1 e2 e3
    exact ⟨[], rfl, none, 0, rfl, fun hne => absurd rfl hne⟩
  · have hcs' : Value.slice A n cap = .slice (some a) len cap' := by injection hcs
    injection hcs' with e1 e2 e3
    subst e1 e2 e3
    rw [if_pos rfl] at hm
    subst hm
    have hel : ∀ i, i < m → ∃ k : Int, W.cell? (a.add (i * 1)) = some (.int .i64 k) := by
      intro i him
      obtain ⟨cs', hc, ht⟩ := hi i him
      rw [cellsI] at hc
      obtain ⟨_, hcl, hat⟩ := World.cells?_some hc
      obtain ⟨n0, e0, _, _⟩ := DataW.trod_int Tryd.underlying3 ht
      subst e0
      have q0 := hat 0 (by omega)
      have ez : (a.add (i * 1)).add 0 = a.add (i * 1) := by simp [Addr.add]
      rw [ez] at q0
      exact ⟨n0, q0⟩
    have hch : ∃ f : Nat → Int, ∀ i, i < m → W.cell? (a.add (i * 1)) = some (.int .i64 (f i)) := by
      refine ⟨fun i => if h : i < m then (hel i h).choose else 0, fun i h => ?_⟩
      simp only [dif_pos h]
      exact (hel i h).choose_spec
    obtain ⟨f, hfi⟩ := hch
    refine ⟨(List.range n).map f, by simp, some a, m, by simp, fun hne => ?_⟩
    have hpos : 0 < n := by
      rcases Nat.eq_zero_or_pos n with h0 | h0
      · subst h0; simp at hne
      · exact h0
    have hc0 := hfi 0 (by omega)
    have ez : a.add (0 * 1) = a := by simp [Addr.add]
    rw [ez] at hc0
    have hsp := World.cell?_spot hc0
    have hblt := World.block_lt_of_cell? W a hc0
    obtain ⟨b, off, sp⟩ := a
    subst hsp
    have hadd : ∀ k i, (⟨b, k, none⟩ : Addr).add i = ⟨b, k + i, none⟩ := fun k i => by unfold Addr.add; split <;> simp_all
    refine ⟨b, off, rfl, hblt, fun i hil => ?_⟩
    have hil' : i < n := by simpa using hil
    have := hfi i (by omega)
    simp only [hadd, Nat.mul_one] at this
    simpa using this
end
section
variable {H : Type} {enc : TypeId × Value → H} {W : World} {r : Reach} {b0 : Nat} {v : Value} {d : DataW H} {ps : List MemPlace}
theorem open_ints (hv : Value.okWide Tryd.prog W r b0 29 v) (h : DataW.Trod enc Tryd.prog W 0 (fun _ => true) true 29 v d ps) : ∃ ks : List Int, KeepV W v ks := by
  obtain ⟨A, n, cap, rfl⟩ := okWide_slice Tryd.underlying29 hv
  obtain ⟨fuel, hf⟩ := h
  obtain ⟨ks, _, hK⟩ := keep_cells (by simpa [Value.cells] using hf)
  exact ⟨ks, hK⟩
end
theorem KeepV.below {w W : World} {v : Value} {ks : List Int} (h : KeepV w v ks) (hb : Below w.heap.size w W) : KeepV W v ks := by
  obtain ⟨A, c, e, hc⟩ := h
  refine ⟨A, c, e, fun hne => ?_⟩
  obtain ⟨b, off, rfl, hbl, hcs⟩ := hc hne
  exact ⟨b, off, rfl, Nat.lt_of_lt_of_le hbl hb.size, fun i hi => (hb.cell (p := ⟨b, off + i, none⟩) hbl).trans (hcs i hi)⟩
theorem KeepV.apart {w : World} {v : Value} {ks : List Int} (h : KeepV w v ks) {S : Nat → Prop} (hS : ∀ k, S k → w.heap.size ≤ k) : KeepA v S := by
  intro bb off n c e hp hk
  obtain ⟨A, c9, e9, hc⟩ := h
  rw [e] at e9
  injection e9 with e1 e2 e3
  obtain ⟨b9, o9, e4, hb9, _⟩ := hc (by intro h; rw [h] at e2; simp at e2; omega)
  rw [← e1] at e4
  injection e4 with e4
  injection e4 with e4
  subst e4
  have := hS _ hk
  omega
end Go.Proofs.YtpphljdnnlfjhaaDoor
namespace Go.Proofs.YtpphljdnnlfjhaaDoor
open Go.ChangeShapes Go.WideShapes Go.ChangeAt Go.RowKit Go.Joins Go.Deep
set_option linter.unusedVariables false
set_option linter.unusedSimpArgs false
set_option maxRecDepth 100000

/-- a slice value that reads as these texts -/
def TextsV (w : World) (v : Value) (l : List (List UInt8)) : Prop := ∃ A c, v = .slice A l.length c ∧ Texts w w.heap.size A l
structure Act10 where
  kind : Int
  s : List UInt8
  L : List (List UInt8)
  lv : Value
def Act10.Fits (x : Act10) (W : World) : Prop := x.s.length ≤ 140737488351232 ∧ TextsV W x.lv x.L ∧ x.L.length ≤ 1048576 ∧ ∀ r ∈ x.L, r.length ≤ 1048576
/-- calls in memory -/
def ActsJ (W : World) (v : Value) (l : List Act10) : Prop :=
  ∃ A c, v = .slice A l.length c ∧ (∀ x ∈ l, x.Fits W) ∧ (l ≠ [] → ∃ b off, A = some ⟨b, off, none⟩ ∧ b < W.heap.size ∧ ∀ i (h : i < l.length), W.cell? ⟨b, off + i * 5, none⟩ = some (.int .i64 l[i].kind) ∧ W.cell? ⟨b, off + i * 5 + 1, none⟩ = some (Sb l[i].s) ∧ W.cell? ⟨b, off + i * 5 + 2, none⟩ = some l[i].lv)
theorem bulk_mem {H : Type} {d : DataW H} : ∀ {l : List (DataW H)}, d ∈ l → Rows.uptoBulk d ≤ Rows.uptoBulkAll l
  | x :: l, hd => by
    unfold Rows.uptoBulkAll
    rcases List.mem_cons.1 hd with rfl | h
    · omega
    · have := bulk_mem h; omega
theorem bulk_pos {H : Type} (d : DataW H) : 1 ≤ Rows.uptoBulk d := by
  cases d with
  | lit x => cases x <;> simp [Rows.uptoBulk]
  | _ => simp [Rows.uptoBulk]
theorem bulk_len {H : Type} : ∀ l : List (DataW H), l.length ≤ Rows.uptoBulkAll l
  | [] => Nat.zero_le _
  | x :: l => by
    have h1 := bulk_pos x
    have h2 := bulk_len l
    simp only [List.length_cons, Rows.uptoBulkAll]
    omega
theorem bulk_texts {H : Type} (L : List (List UInt8)) : L.length ≤ Rows.uptoBulkAll (L.map fun l => (.lit (.string l) : DataW H)) := by
  induction L with
  | nil => simp
  | cons r L ih =>
    simp only [List.map_cons, Rows.uptoBulkAll, Rows.uptoBulk, List.length_cons]
    omega
theorem bulk_text {H : Type} {L : List (List UInt8)} {r : List UInt8} (h : r ∈ L) : r.length ≤ Rows.uptoBulkAll (L.map fun l => (.lit (.string l) : DataW H)) := by
  have := bulk_mem (d := (.lit (.string r) : DataW H)) ((List.mem_map (f := fun l => (.lit (.string l) : DataW H))).2 ⟨r, h, rfl⟩)
  simp only [Rows.uptoBulk] at this
  omega
section
variable {H : Type} {enc : TypeId × Value → H} {fuel : Nat}
theorem cellsS10 : Tryd.prog.cellsOf 9 = 1 := by kernel_rfl
theorem cellsL10 : Tryd.prog.cellsOf 22 = 1 := by kernel_rfl
/-- texts that a slice reads as -/
theorem texts_cells {W : World} {A : Option Addr} {n cap : Nat} {x : DataW H × List MemPlace} (h : DataW.trod enc Tryd.prog W 0 (fun _ => true) true fuel 22 [.slice A n cap] = some x) :
    ∃ L : List (List UInt8), L.length = n ∧ TextsV W (.slice A n cap) L ∧ L.length ≤ Rows.uptoBulk x.1 ∧ ∀ r ∈ L, r.length ≤ Rows.uptoBulk x.1 := by
  rcases open_strings Tryd.underlying22 Tryd.underlying9 (by kernel_rfl) h with ⟨hcs, hx⟩ | ⟨a, len, cap', ss, hcs, _, hl, hm, hz, hx, hcell, _⟩
  · have hcs' : Value.slice A n cap = .slice none 0 0 := by injection hcs
    injection hcs' with e1 e2 e3
    subst e1 e2 e3
    exact ⟨[], rfl, ⟨none, 0, rfl, fun hne => absurd rfl hne⟩, Nat.zero_le _, by simp⟩
  · have hcs' : Value.slice A n cap = .slice (some a) len cap' := by injection hcs
    injection hcs' with e1 e2 e3
    subst e1 e2 e3
    rw [if_pos rfl] at hz
    have hlen : ((ss.take n).map fun s => s.data.toList).length = n := by rw [List.length_map, List.length_take]; omega
    have hx1 : x.1 = .slice (((ss.take n).map fun s => s.data.toList).map fun l => .lit (.string l)) ((ss.drop n).map fun s => .lit (.string s.data.toList)) := by
      rw [(Prod.mk.inj hx).1, List.map_map]; rfl
    have hb : Rows.uptoBulkAll (((ss.take n).map fun s => s.data.toList).map fun l => (.lit (.string l) : DataW H)) ≤ Rows.uptoBulk x.1 := by
      rw [hx1]
      simp only [Rows.uptoBulk]
      omega
    refine ⟨(ss.take n).map fun s => s.data.toList, hlen, ⟨some a, cap, by rw [hlen], fun hne => ?_⟩, Nat.le_trans (bulk_texts _) hb, fun r hr => Nat.le_trans (bulk_text hr) hb⟩
    have hpos : 0 < n := by
      rcases Nat.eq_zero_or_pos n with h0 | h0
      · subst h0; simp at hne
      · exact h0
    have add_at : ∀ (b off i : Nat), (⟨b, off, none⟩ : Addr).add i = ⟨b, off + i, none⟩ := fun b off i => by unfold Addr.add; split <;> simp_all
    have hc0 := hcell 0 (by omega)
    have e0 : a.add 0 = a := by simp [Addr.add]
    rw [e0] at hc0
    have hsp := World.cell?_spot hc0
    have hblt := World.block_lt_of_cell? W a hc0
    obtain ⟨b, off, sp⟩ := a
    subst hsp
    refine ⟨b, off, rfl, hblt, fun i hi => ?_⟩
    rw [hlen] at hi
    have := hcell i (by omega)
    rw [add_at] at this
    rw [this]
    simp [List.getD, hi, show i < ss.length by omega]
theorem act10_cells {W : World} {cs : List Value} {x : DataW H × List MemPlace} (hcs : cs.length = 5) (h : DataW.trod enc Tryd.prog W 0 (fun _ => true) true fuel 38 cs = some x)
    (hbk : Rows.uptoBulk x.1 ≤ 1048576) : ∃ y : Act10, y.Fits W ∧ cs[0]? = some (.int .i64 y.kind) ∧ cs[1]? = some (Sb y.s) ∧ cs[2]? = some y.lv := by
  obtain ⟨xs, n, _, hx, _, hlen, hg⟩ := DataW.trod_struct Tryd.underlying38 h
  have h0 : DataW.trod enc Tryd.prog W 0 (fun _ => true) true n 3 ((cs.drop 0).take (Tryd.prog.cellsOf 3)) = xs[0]? := hg 0 _ rfl
  have h1 : DataW.trod enc Tryd.prog W 0 (fun _ => true) true n 9 ((cs.drop 1).take (Tryd.prog.cellsOf 9)) = xs[1]? := hg 1 _ rfl
  have h2 : DataW.trod enc Tryd.prog W 0 (fun _ => true) true n 22 ((cs.drop 2).take (Tryd.prog.cellsOf 22)) = xs[2]? := hg 2 _ rfl
  rw [cellsI] at h0
  rw [cellsS10] at h1
  rw [cellsL10] at h2
  match xs, hlen with
  | [y0, y1, y2, y3, y4], _ =>
    obtain ⟨n0, e0, f0, w0⟩ := DataW.trod_int Tryd.underlying3 h0
    obtain ⟨s1, e1, f1, _⟩ := DataW.trod_string Tryd.underlying9 h1
    have e2 : ∃ A k c, (cs.drop 2).take 1 = [.slice A k c] := by
      rcases open_slice Tryd.underlying22 h2 with ⟨e, _⟩ | ⟨_, _, _, _, _, _, _, e, _⟩
      · exact ⟨_, _, _, e⟩
      · exact ⟨_, _, _, e⟩
    obtain ⟨A, k, c, e2⟩ := e2
    rw [e2] at h2
    obtain ⟨L, hk, hL, hb1, hb2⟩ := texts_cells h2
    subst hk
    have hde : x.1 = .agg [y0.1, y1.1, y2.1, y3.1, y4.1] := by rw [hx]; rfl
    have hbk2 : Rows.uptoBulk y2.1 ≤ 1048576 := by
      rw [hde] at hbk
      simp only [Rows.uptoBulk, Rows.uptoBulkAll] at hbk
      omega
    have hbk1 : Rows.uptoBulk y1.1 ≤ 1048576 := by
      rw [hde] at hbk
      simp only [Rows.uptoBulk, Rows.uptoBulkAll] at hbk
      omega
    have hs : s1.data.toList.length ≤ 1048576 := by
      have hy : y1.1 = .lit (.string s1.data.toList) := by
        have h9 : y1 = (.lit (.string s1.data.toList), []) := by simpa using f1
        rw [h9]
      rw [hy] at hbk1
      simp only [Rows.uptoBulk] at hbk1
      omega
    refine ⟨⟨n0, s1.data.toList, L, .slice A L.length c⟩, ⟨by show s1.data.toList.length ≤ _; omega, hL, Nat.le_trans hb1 hbk2, fun r hr => Nat.le_trans (hb2 r hr) hbk2⟩, ?_, ?_, ?_⟩
    · match cs, hcs with
      | [c0, c1, c2, c3, c4], _ => simp at e0; simp [e0]
    · match cs, hcs with
      | [c0, c1, c2, c3, c4], _ =>
        simp at e1
        show some c1 = some (Value.string ⟨s1.data.toList.toArray⟩)
        rw [e1, Array.toArray_toList]
    · match cs, hcs with
      | [c0, c1, c2, c3, c4], _ => simp at e2; simp [e2]
end
section
variable {H : Type} {enc : TypeId × Value → H} {W : World} {r : Reach} {b0 : Nat} {v : Value} {d : DataW H} {ps : List MemPlace}
theorem open_acts10 (hv : Value.okWide Tryd.prog W r b0 28 v) (h : DataW.Trod enc Tryd.prog W 0 (fun _ => true) true 28 v d ps)
    (hbk : Rows.uptoBulk d ≤ 1048576) : ∃ l : List Act10, ActsJ W v l ∧ l.length ≤ 9223372036854775806 := by
  obtain ⟨A, n, cap, rfl⟩ := okWide_slice Tryd.underlying28 hv
  obtain ⟨fuel, hf⟩ := h
  have hC : Tryd.prog.cellsOf 38 = 5 := by kernel_rfl
  rcases open_slice Tryd.underlying28 hf with ⟨hcs, hx⟩ | ⟨a, len, cap', m, n', D, Pl, hcs, _, hlc, hcm, hm, hx, hi⟩
  · have hcs' : Value.slice A n cap = .slice none 0 0 := by simpa [Value.cells] using hcs
    rw [hcs']
    exact ⟨[], ⟨none, 0, rfl, fun x hx => (by cases hx), fun h => absurd rfl h⟩, by simp⟩
  · have hcs' : Value.slice A n cap = .slice (some a) len cap' := by simpa [Value.cells] using hcs
    injection hcs' with e1 e2 e3
    subst e1 e2 e3
    rw [if_pos rfl] at hm
    subst hm
    obtain ⟨rfl, _⟩ := Prod.mk.inj hx
    have hel : ∀ i, i < n → ∃ y : Act10, y.Fits W ∧ W.cell? ((a.add (i * 5)).add 0) = some (.int .i64 y.kind) ∧ W.cell? ((a.add (i * 5)).add 1) = some (Sb y.s) ∧ W.cell? ((a.add (i * 5)).add 2) = some y.lv := by
      intro i hin
      obtain ⟨cs', hc, ht2⟩ := hi i (by omega)
      rw [hC] at hc
      obtain ⟨_, hcl, hat⟩ := World.cells?_some hc
      have hmem : D i ∈ (List.range n).map D := List.mem_map.2 ⟨i, List.mem_range.2 hin, rfl⟩
      obtain ⟨y, hy, h0, h1, h2⟩ := act10_cells hcl ht2 (by
        have := bulk_mem hmem
        simp only [Rows.uptoBulk] at hbk
        show Rows.uptoBulk (D i) ≤ _
        omega)
      refine ⟨y, hy, ?_, ?_, ?_⟩
      · rw [hat 0 (by omega), h0]
      · rw [hat 1 (by omega), h1]
      · rw [hat 2 (by omega), h2]
    have hch : ∃ f : Nat → Act10, ∀ i, i < n → (f i).Fits W ∧ W.cell? ((a.add (i * 5)).add 0) = some (.int .i64 (f i).kind) ∧ W.cell? ((a.add (i * 5)).add 1) = some (Sb (f i).s) ∧ W.cell? ((a.add (i * 5)).add 2) = some (f i).lv := by
      refine ⟨fun i => if h : i < n then (hel i h).choose else ⟨0, [], [], .slice none 0 0⟩, fun i h => ?_⟩
      simp only [dif_pos h]
      exact (hel i h).choose_spec
    obtain ⟨f, hfi⟩ := hch
    have hmax : n ≤ 1048576 := by
      have h1 := bulk_len ((List.range n).map D)
      simp only [Rows.uptoBulk] at hbk
      rw [List.length_map, List.length_range] at h1
      omega
    refine ⟨(List.range n).map f, ⟨some a, m, by simp, fun x hx => ?_, fun hne => ?_⟩, by simp; omega⟩
    · obtain ⟨i, hi1, rfl⟩ := List.mem_map.1 hx
      exact (hfi i (List.mem_range.1 hi1)).1
    have hpos : 0 < n := by
      rcases Nat.eq_zero_or_pos n with h0 | h0
      · subst h0; simp at hne
      · exact h0
    have hc0 := (hfi 0 (by omega)).2.1
    have ez : (a.add (0 * 5)).add 0 = a := by simp [Addr.add]
    rw [ez] at hc0
    have hsp := World.cell?_spot hc0
    have hblt := World.block_lt_of_cell? W a hc0
    obtain ⟨b, off, sp⟩ := a
    subst hsp
    have hadd : ∀ k i, (⟨b, k, none⟩ : Addr).add i = ⟨b, k + i, none⟩ := fun k i => by unfold Addr.add; split <;> simp_all
    refine ⟨b, off, rfl, hblt, fun i hil => ?_⟩
    have hil' : i < n := by simpa using hil
    have := (hfi i hil').2
    simp only [hadd, Nat.add_zero] at this
    simpa using this
end
end Go.Proofs.YtpphljdnnlfjhaaDoor
