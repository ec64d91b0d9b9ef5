/- A law's argument that is a list of receipts, a cut, or rules, opened. -/
import Derived.Test.YtncahgjmdeepeaaLawEnd
import Derived.Test.YtncahgjmdeepeaaCutRows
import Derived.Deep.Slices
import Derived.Lib.SmallJoins
import Derived.SizedLaws
namespace Go.Proofs.Ytncahgjmdeepeaa
open Go.ChangeShapes Go.WideShapes Go.ChangeAt Go.RowKit Go.Joins Go.Deep
set_option linter.unusedVariables false
set_option linter.unusedSimpArgs false

theorem one_of {v u : Value} (h : [v] = [u]) : v = u := by injection h
theorem open_rules {H : Type} {enc : TypeId × Value → H} {W : World} {r : Reach} {b0 : Nat} {v : Value} {d : DataW H} {ps : List MemPlace}
    (hv : Value.okWide Try.prog W r b0 24 v) (h : DataW.Trod enc Try.prog W 0 (fun _ => true) true 24 v d ps) :
    ∃ x : Cut.Rules, v = x.v := by
  obtain ⟨v0, v1, v2, v3, y0, y1, y2, y3, n, rfl, _, hp, h0, h1, h2, h3⟩ := open_agg4 Try.underlying24 (by kernel_rfl) (by kernel_rfl) hv h
  obtain ⟨n0, e0, f0, _⟩ := DataW.trod_int Try.underlying3 h0
  obtain ⟨n1, e1, f1, _⟩ := DataW.trod_int Try.underlying3 h1
  obtain ⟨n2, e2, f2, _⟩ := DataW.trod_int Try.underlying3 h2
  obtain ⟨n3, e3, f3, _⟩ := DataW.trod_int Try.underlying3 h3
  obtain rfl := one_of e0
  obtain rfl := one_of e1
  obtain rfl := one_of e2
  obtain rfl := one_of e3
  exact ⟨⟨n0, n1, n2, n3⟩, rfl⟩
theorem open_cut {H : Type} {enc : TypeId × Value → H} {W : World} {r : Reach} {b0 : Nat} {v : Value} {d : DataW H} {ps : List MemPlace}
    (hv : Value.okWide Try.prog W r b0 33 v) (h : DataW.Trod enc Try.prog W 0 (fun _ => true) true 33 v d ps) :
    ∃ a b c e : Int, v = .agg #[.int .i64 a, .int .i64 b, .int .i64 c, .int .i64 e] := by
  obtain ⟨v0, v1, v2, v3, y0, y1, y2, y3, n, rfl, _, hp, h0, h1, h2, h3⟩ := open_agg4 Try.underlying33 (by kernel_rfl) (by kernel_rfl) hv h
  obtain ⟨n0, e0, f0, _⟩ := DataW.trod_int Try.underlying3 h0
  obtain ⟨n1, e1, f1, _⟩ := DataW.trod_int Try.underlying3 h1
  obtain ⟨n2, e2, f2, _⟩ := DataW.trod_int Try.underlying3 h2
  obtain ⟨n3, e3, f3, _⟩ := DataW.trod_int Try.underlying3 h3
  obtain rfl := one_of e0
  obtain rfl := one_of e1
  obtain rfl := one_of e2
  obtain rfl := one_of e3
  exact ⟨n0, n1, n2, n3, rfl⟩

theorem hash_one {H : Type} {enc : TypeId × Value → H} {w : World} {base : Nat} {spare : Nat → Bool} {held : Bool} {fuel : Nat} {cs : List Value} {x : DataW H × List MemPlace} (h : DataW.trod enc Try.prog w base spare held fuel 42 cs = some x) :
    ∀ v ∈ cs, v.oneCell' = true := by
  obtain ⟨xs, m, _, hx, hlen, hxl, hi⟩ := DataW.trod_array Try.underlying42 h
  have hc : Try.prog.cellsOf 42 = 32 := by kernel_rfl
  have hc5 : Try.prog.cellsOf 5 = 1 := by kernel_rfl
  rw [hc] at hlen
  intro v hv
  obtain ⟨i, hi32, rfl⟩ := List.getElem_of_mem hv
  have h1 := hi i (by omega)
  rw [hc5, Nat.mul_one, List.drop_eq_getElem_cons (by omega)] at h1
  have hxi : xs[i]? = some (xs[i]'(by omega)) := List.getElem?_eq_getElem (by omega)
  rw [hxi] at h1
  obtain ⟨n, hn, hy, hw⟩ := DataW.trod_int Try.underlying5 h1
  have hcs : cs[i]'(by omega) = .int .u8 n := by
    rw [List.take_succ_cons, List.take_zero] at hn
    injection hn
  rw [hcs]
  rfl
theorem weights_all {H : Type} {P : Program} {e : TypeId} : ∀ {l : List (DataW H)} {d : DataW H}, d ∈ l → ∀ n ∈ d.weights P e, n ∈ DataW.weightsAll P e l
  | x :: l, d, hd, n, hn => by
    unfold DataW.weightsAll
    rcases List.mem_cons.1 hd with rfl | h
    · exact List.mem_append_left _ hn
    · exact List.mem_append_right _ (weights_all h n hn)
theorem six_of {a b c e : Value} {s t : List Value} : ∀ (l : List Value), l.length = 68 → (l.drop 0).take 1 = [a] → (l.drop 1).take 1 = [b] → (l.drop 2).take 1 = [c] → (l.drop 3).take 1 = [e] → (l.drop 4).take 32 = s → (l.drop 36).take 32 = t → l = [a, b, c, e] ++ (s ++ t)
  | x :: y :: z :: u :: r, hl, h0, h1, h2, h3, h4, h5 => by
    have hr : r.length = 64 := by simpa using hl
    simp at h0 h1 h2 h3 h4 h5
    rw [List.take_of_length_le (by simp; omega)] at h5
    rw [h0, h1, h2, h3, ← h4, ← h5, List.take_append_drop]; rfl
  | [], hl, _, _, _, _, _, _ => by simp at hl
  | [_], hl, _, _, _, _, _, _ => by simp at hl
  | [_, _], hl, _, _, _, _, _, _ => by simp at hl
  | [_, _, _], hl, _, _, _, _, _, _ => by simp at hl
theorem add_off (b off i : Nat) : (⟨b, off, none⟩ : Addr).add i = ⟨b, off + i, none⟩ := by unfold Addr.add; split <;> simp_all

theorem open_rcs {H : Type} {enc : TypeId × Value → H} {W : World} {r : Reach} {b0 : Nat} {v : Value} {d : DataW H} {ps : List MemPlace} {ts : List TypeId} {ds : List (DataW H)} {j : Nat}
    (hv : Value.okWide Try.prog W r b0 22 v) (h : DataW.Trod enc Try.prog W 0 (fun _ => true) true 22 v d ps)
    (hsz : (DataW.weightsEach Try.prog ts ds).all (· ≤ reachBytes) = true) (ht : ts[j]? = some 22) (hd : ds[j]? = some d) :
    ∃ (A : Option Addr) (c : Nat) (l : List Rc), v = .slice A l.length c ∧ RcsAt W A l ∧ l.length ≤ 8796093022208 ∧ l.length ≤ c ∧ c ≤ 9223372036854775807 := by
  have hw : ∀ n ∈ d.weights Try.prog 22, n ≤ reachBytes := fun n hn => by
    have := List.all_eq_true.1 hsz _ (DataW.weights_mem_each ht hd n hn)
    simpa using this
  obtain ⟨A, n, cap, rfl⟩ := okWide_slice Try.underlying22 hv
  obtain ⟨fuel, hf⟩ := h
  have hC : Try.prog.cellsOf 44 = 68 := by kernel_rfl
  have hI : Try.prog.cellsOf 3 = 1 := by kernel_rfl
  have hS : Try.prog.cellsOf 9 = 1 := by kernel_rfl
  have hH : Try.prog.cellsOf 42 = 32 := by kernel_rfl
  have hB : Try.prog.bytesOf 44 = 104 := by kernel_rfl
  rcases open_slice Try.underlying22 hf with ⟨hcs, hx⟩ | ⟨a, len, cap', m, n', D, Pl, hcs, _, hlc, hcm, hm, hx, hi⟩
  · have hcs' : Value.slice A n cap = .slice none 0 0 := by simpa [Value.cells] using hcs
    rw [hcs']
    exact ⟨none, 0, [], rfl, RcsAt.nil _ _, by simp, by simp, by simp⟩
  · have hcs' : Value.slice A n cap = .slice (some a) len cap' := by simpa [Value.cells] using hcs
    rw [hcs']
    rw [if_pos rfl] at hm
    subst hm
    obtain ⟨rfl, _⟩ := Prod.mk.inj hx
    have hlen : len ≤ 8796093022208 := by
      have := hw ((((List.range len).map D).length + ((List.range (m - len)).map fun j => D (len + j)).length) * 104) (by
        simp only [DataW.weights, Try.underlying22, hB]
        exact List.mem_cons_self)
      simp only [List.length_map, List.length_range] at this
      have h2 : reachBytes = 140737488351232 := by decide
      omega
    have hel : ∀ i, i < len → ∃ x : Rc, (∀ j v, (rcL x)[j]? = some v → W.cell? ((a.add (i * 68)).add j) = some v) ∧ RcOk x := by
      intro i hil
      obtain ⟨cs', hc, htr⟩ := hi i (by omega)
      rw [hC] at hc
      obtain ⟨_, hcl, hat⟩ := World.cells?_some hc
      obtain ⟨xs, k, _, hx3, _, hlen3, hg⟩ := DataW.trod_struct Try.underlying44 htr
      match xs, hlen3 with
      | [y0, y1, y2, y3, y4, y5], _ =>
        have h0 : DataW.trod enc Try.prog W 0 (fun _ => true) true k 3 ((cs'.drop 0).take (Try.prog.cellsOf 3)) = some y0 := hg 0 _ rfl
        have h1 : DataW.trod enc Try.prog W 0 (fun _ => true) true k 3 ((cs'.drop 1).take (Try.prog.cellsOf 3)) = some y1 := hg 1 _ rfl
        have h2 : DataW.trod enc Try.prog W 0 (fun _ => true) true k 3 ((cs'.drop 2).take (Try.prog.cellsOf 3)) = some y2 := hg 2 _ rfl
        have h3 : DataW.trod enc Try.prog W 0 (fun _ => true) true k 9 ((cs'.drop 3).take (Try.prog.cellsOf 9)) = some y3 := hg 3 _ rfl
        have h4 : DataW.trod enc Try.prog W 0 (fun _ => true) true k 42 ((cs'.drop 4).take (Try.prog.cellsOf 42)) = some y4 := hg 4 _ rfl
        have h5 : DataW.trod enc Try.prog W 0 (fun _ => true) true k 42 ((cs'.drop 36).take (Try.prog.cellsOf 42)) = some y5 := hg 5 _ rfl
        rw [hI] at h0 h1 h2
        rw [hS] at h3
        rw [hH] at h4 h5
        obtain ⟨n0, e0, f0, _⟩ := DataW.trod_int Try.underlying3 h0
        obtain ⟨n1, e1, f1, _⟩ := DataW.trod_int Try.underlying3 h1
        obtain ⟨n2, e2, f2, _⟩ := DataW.trod_int Try.underlying3 h2
        obtain ⟨s, e3, f3, _⟩ := DataW.trod_string Try.underlying9 h3
        have o4 := hash_one h4
        have o5 := hash_one h5
        have hcs6 := six_of cs' hcl e0 e1 e2 e3 rfl rfl
        have hDi : D i = .agg [y0.1, y1.1, y2.1, y3.1, y4.1, y5.1] := (Prod.mk.inj hx3).1
        have hss : s.size ≤ 140737488351232 := by
          have hmem : D i ∈ (List.range len).map D := List.mem_map.2 ⟨i, List.mem_range.2 hil, rfl⟩
          have h6 := hw s.data.toList.length (by
            simp only [DataW.weights, Try.underlying22]
            refine List.mem_cons_of_mem _ (List.mem_append_left _ (weights_all hmem _ ?_))
            rw [hDi, f0, f1, f2, f3]
            unfold DataW.weights
            rw [Try.underlying44]
            exact DataW.weights_mem_each (j := 3) (t := 9) (d := .lit (.string s.data.toList)) rfl rfl _ (by simp [DataW.weights]))
          have h7 : reachBytes = 140737488351232 := by decide
          have h8 : s.data.toList.length = s.size := by rw [Array.length_toList]; rfl
          omega
        refine ⟨⟨n0, n1, n2, s, (cs'.drop 4).take 32 ++ (cs'.drop 36).take 32⟩, fun j v hj => ?_, ?_, hss, ?_⟩
        · have hj' : cs'[j]? = some v := by
            have : rcL ⟨n0, n1, n2, s, (cs'.drop 4).take 32 ++ (cs'.drop 36).take 32⟩ = cs' := hcs6.symm
            rw [← this]; exact hj
          obtain ⟨hjl, hje⟩ := List.getElem?_eq_some_iff.1 hj'
          rw [hat j (by omega)]
          exact hj'
        · simp only [List.length_append, List.length_take, List.length_drop]; omega
        · intro v hv
          rcases List.mem_append.1 hv with h | h
          · exact o4 v h
          · exact o5 v h
    have hch : ∃ f : Nat → Rc, ∀ i, i < len → (∀ j v, (rcL (f i))[j]? = some v → W.cell? ((a.add (i * 68)).add j) = some v) ∧ RcOk (f i) := by
      refine ⟨fun i => if h : i < len then (hel i h).choose else ⟨0, 0, 0, ByteArray.empty, []⟩, fun i h => ?_⟩
      simp only [dif_pos h]
      exact (hel i h).choose_spec
    obtain ⟨f, hfi⟩ := hch
    have hmax : m ≤ 9223372036854775807 := by
      have := hcm; unfold maxLen at this; omega
    refine ⟨some a, m, (List.range len).map f, by simp, fun hne => ?_, by simp; omega, by simp; omega, hmax⟩
    have hpos : 0 < len := by
      rcases Nat.eq_zero_or_pos len with h0 | h0
      · subst h0; simp at hne
      · exact h0
    have hc0 := (hfi 0 hpos).1 0 _ rfl
    have ez : (a.add (0 * 68)).add 0 = a := by simp [Addr.add]
    rw [ez] at hc0
    have hsp := World.cell?_spot hc0
    have hblt := World.block_lt_of_cell? W a hc0
    obtain ⟨b, off, sp⟩ := a
    subst hsp
    refine ⟨b, off, rfl, hblt, fun i hil => ?_⟩
    have hil' : i < len := by simpa using hil
    have := hfi i hil'
    simp only [add_off] at this
    simp only [List.getElem_map, List.getElem_range]
    exact ⟨this.1, this.2⟩
end Go.Proofs.Ytncahgjmdeepeaa
