/- A law's argument that is a transaction, opened. -/
import Derived.Test.YtdekcicgiflnbaaDoorLawEnd
import Derived.Test.YtdekcicgiflnbaaDoorTxRow
import Derived.OpenShut
import Derived.SizedLaws
import Derived.Deep.MidRow
import Derived.ChangeArms
namespace Go.Proofs.YtdekcicgiflnbaaDoor
open Go.ChangeShapes Go.WideShapes Go.ChangeAt Go.RowKit
set_option linter.unusedVariables false
set_option linter.unusedSimpArgs false
set_option maxRecDepth 100000

section
variable {H : Type} {enc : TypeId × Value → H} {w : World} {base : Nat} {spare : Nat → Bool} {held : Bool} {fuel : Nat}
/-- the cells of a hash are 32 bytes -/
theorem hash_cells {cs : List Value} {x : DataW H × List MemPlace} (h : DataW.trod enc Tryd.prog w base spare held fuel 23 cs = some x) :
    ∃ R : List UInt8, R.length = 32 ∧ cs = (bRow R).toList ∧ x.2 = [] := by
  obtain ⟨xs, m, _, hx, hlen, hxl, hi⟩ := DataW.trod_array Tryd.underlying23 h
  have hc : Tryd.prog.cellsOf 23 = 32 := by kernel_rfl
  have hc5 : Tryd.prog.cellsOf 5 = 1 := by kernel_rfl
  rw [hc] at hlen
  have hb : ∀ i, i < 32 → ∃ b : UInt8, cs[i]? = some (.int .u8 (b.toNat : Int)) ∧ ∃ y, xs[i]? = some y ∧ y.2 = [] := by
    intro i hi32
    have h1 := hi i hi32
    rw [hc5, Nat.mul_one, List.drop_eq_getElem_cons (by omega)] at h1
    have hxi : xs[i]? = some (xs[i]'(by omega)) := List.getElem?_eq_getElem (by omega)
    rw [hxi] at h1
    obtain ⟨n, hn, hy, hw⟩ := DataW.trod_int Tryd.underlying5 h1
    have hcs : cs[i]'(by omega) = .int .u8 n := by
      rw [List.take_succ_cons, List.take_zero] at hn
      injection hn
    have hb8 := bounds_u8 hw
    refine ⟨UInt8.ofNat n.toNat, ?_, _, hxi, by rw [hy]⟩
    rw [List.getElem?_eq_getElem (by omega), hcs]
    congr 2
    rw [UInt8.toNat_ofNat']
    omega
  refine ⟨(List.range 32).map fun i => match cs[i]? with | some (Value.int IntKind.u8 n) => UInt8.ofNat n.toNat | _ => 0, by simp, ?_, ?_⟩
  · rw [bRow_yRow _ (by simp)]
    unfold yRow
    apply List.ext_getElem?
    intro i
    by_cases hi32 : i < 32
    · obtain ⟨b, hcb, _⟩ := hb i hi32
      rw [hcb]
      simp [hi32, hcb]
    · rw [List.getElem?_eq_none (by omega)]
      simp [hi32]
  · rw [hx]
    simp only [List.flatMap_eq_nil_iff]
    intro y hy
    obtain ⟨i, hi1, rfl⟩ := List.mem_iff_getElem.1 hy
    obtain ⟨_, _, y, h1, h2⟩ := hb i (by omega)
    rw [List.getElem?_eq_getElem hi1] at h1
    injection h1 with h1
    rw [h1]; exact h2
end
/-- a hash by value -/
theorem open_hash {H : Type} {enc : TypeId × Value → H} {W : World} {r : Reach} {b0 : Nat} {v : Value} {d : DataW H} {ps : List MemPlace}
    (hv : Value.okWide Tryd.prog W r b0 23 v) (h : DataW.Trod enc Tryd.prog W 0 (fun _ => true) true 23 v d ps) :
    ∃ R : List UInt8, R.length = 32 ∧ v = .agg (bRow R) ∧ ps = [] := by
  simp only [Value.okWide, Tryd.underlying23] at hv
  obtain ⟨cs, rfl, _⟩ := hv
  obtain ⟨fuel, hf⟩ := h
  obtain ⟨R, h1, h2, h3⟩ := hash_cells hf
  refine ⟨R, h1, ?_, h3⟩
  have : cs.toList = (bRow R).toList := h2
  rw [show cs = bRow R from Array.toList_inj.1 this]
theorem ten_cells {a0 a1 a2 a3 a4 a5 a6 a7 : Value} {s t : List Value} : ∀ (l : List Value), l.length = 72 → (l.drop 0).take 1 = [a0] → (l.drop 1).take 1 = [a1] → (l.drop 2).take 1 = [a2] → (l.drop 3).take 1 = [a3] → (l.drop 4).take 1 = [a4] → (l.drop 5).take 1 = [a5] → (l.drop 6).take 1 = [a6] → (l.drop 7).take 1 = [a7] →
    (l.drop 8).take 32 = s → (l.drop 40).take 32 = t → l = [a0, a1, a2, a3, a4, a5, a6, a7] ++ (s ++ t)
  | x0 :: x1 :: x2 :: x3 :: x4 :: x5 :: x6 :: x7 :: r, hl, h0, h1, h2, h3, h4, h5, h6, h7, h8, h9 => by
    have hr : r.length = 64 := by simpa using hl
    simp at h0 h1 h2 h3 h4 h5 h6 h7 h8 h9
    rw [List.take_of_length_le (by simp; omega)] at h9
    rw [h0, h1, h2, h3, h4, h5, h6, h7, ← h8, ← h9, List.take_append_drop]; rfl
  | [], hl, _, _, _, _, _, _, _, _, _, _ => by simp at hl
  | [_], hl, _, _, _, _, _, _, _, _, _, _ => by simp at hl
  | [_, _], hl, _, _, _, _, _, _, _, _, _, _ => by simp at hl
  | [_, _, _], hl, _, _, _, _, _, _, _, _, _, _ => by simp at hl
  | [_, _, _, _], hl, _, _, _, _, _, _, _, _, _, _ => by simp at hl
  | [_, _, _, _, _], hl, _, _, _, _, _, _, _, _, _, _ => by simp at hl
  | [_, _, _, _, _, _], hl, _, _, _, _, _, _, _, _, _, _ => by simp at hl
  | [_, _, _, _, _, _, _], hl, _, _, _, _, _, _, _, _, _, _ => by simp at hl
/-- a transaction by value -/
theorem open_tx {H : Type} {enc : TypeId × Value → H} {W : World} {r : Reach} {b0 : Nat} {v : Value} {d : DataW H} {ps : List MemPlace} {ts : List TypeId} {ds : List (DataW H)} {j : Nat}
    (hv : Value.okWide Tryd.prog W r b0 25 v) (h : DataW.Trod enc Tryd.prog W 0 (fun _ => true) true 25 v d ps)
    (hsz : (DataW.weightsEach Tryd.prog ts ds).all (· ≤ reachBytes) = true) (ht : ts[j]? = some 25) (hd : ds[j]? = some d) :
    ∃ t : Tx, t.Ok ∧ v = t.v := by
  have hs := Tryd.underlying25
  have hwt : ∀ n ∈ d.weights Tryd.prog 25, n ≤ reachBytes := fun n hn => by
    have := List.all_eq_true.1 hsz _ (DataW.weights_mem_each ht hd n hn)
    simpa using this
  obtain ⟨cs, rfl, hcz⟩ := okWide_struct hs hv
  obtain ⟨fuel, hf⟩ := h
  have hc : Tryd.prog.cellsOf 25 = 72 := by kernel_rfl
  obtain ⟨xs, n, _, hx, _, hlen, hg⟩ := DataW.trod_struct hs hf
  have hI : Tryd.prog.cellsOf 3 = 1 := by kernel_rfl
  have hS : Tryd.prog.cellsOf 9 = 1 := by kernel_rfl
  have hB : Tryd.prog.cellsOf 4 = 1 := by kernel_rfl
  have hH : Tryd.prog.cellsOf 23 = 32 := by kernel_rfl
  have h0 : DataW.trod enc Tryd.prog W 0 (fun _ => true) true n 3 ((cs.toList.drop 0).take (Tryd.prog.cellsOf 3)) = xs[0]? := hg 0 _ rfl
  have h1 : DataW.trod enc Tryd.prog W 0 (fun _ => true) true n 3 ((cs.toList.drop 1).take (Tryd.prog.cellsOf 3)) = xs[1]? := hg 1 _ rfl
  have h2 : DataW.trod enc Tryd.prog W 0 (fun _ => true) true n 3 ((cs.toList.drop 2).take (Tryd.prog.cellsOf 3)) = xs[2]? := hg 2 _ rfl
  have h3 : DataW.trod enc Tryd.prog W 0 (fun _ => true) true n 3 ((cs.toList.drop 3).take (Tryd.prog.cellsOf 3)) = xs[3]? := hg 3 _ rfl
  have h4 : DataW.trod enc Tryd.prog W 0 (fun _ => true) true n 9 ((cs.toList.drop 4).take (Tryd.prog.cellsOf 9)) = xs[4]? := hg 4 _ rfl
  have h5 : DataW.trod enc Tryd.prog W 0 (fun _ => true) true n 4 ((cs.toList.drop 5).take (Tryd.prog.cellsOf 4)) = xs[5]? := hg 5 _ rfl
  have h6 : DataW.trod enc Tryd.prog W 0 (fun _ => true) true n 3 ((cs.toList.drop 6).take (Tryd.prog.cellsOf 3)) = xs[6]? := hg 6 _ rfl
  have h7 : DataW.trod enc Tryd.prog W 0 (fun _ => true) true n 3 ((cs.toList.drop 7).take (Tryd.prog.cellsOf 3)) = xs[7]? := hg 7 _ rfl
  have h8 : DataW.trod enc Tryd.prog W 0 (fun _ => true) true n 23 ((cs.toList.drop 8).take (Tryd.prog.cellsOf 23)) = xs[8]? := hg 8 _ rfl
  have h9 : DataW.trod enc Tryd.prog W 0 (fun _ => true) true n 23 ((cs.toList.drop 40).take (Tryd.prog.cellsOf 23)) = xs[9]? := hg 9 _ rfl
  rw [hI] at h0 h1 h2 h3 h6 h7
  rw [hS] at h4
  rw [hB] at h5
  rw [hH] at h8 h9
  have hl72 : cs.toList.length = 72 := by rw [Array.length_toList, hcz, hc]
  match xs, hlen with
  | [y0, y1, y2, y3, y4, y5, y6, y7, y8, y9], _ =>
    obtain ⟨n0, e0, f0, w0⟩ := DataW.trod_int Tryd.underlying3 h0
    obtain ⟨n1, e1, f1, w1⟩ := DataW.trod_int Tryd.underlying3 h1
    obtain ⟨n2, e2, f2, w2⟩ := DataW.trod_int Tryd.underlying3 h2
    obtain ⟨n3, e3, f3, w3⟩ := DataW.trod_int Tryd.underlying3 h3
    obtain ⟨s, e4, f4, w4⟩ := DataW.trod_string Tryd.underlying9 h4
    obtain ⟨b, e5, f5⟩ := DataW.trod_bool Tryd.underlying4 h5
    obtain ⟨n6, e6, f6, w6⟩ := DataW.trod_int Tryd.underlying3 h6
    obtain ⟨n7, e7, f7, w7⟩ := DataW.trod_int Tryd.underlying3 h7
    obtain ⟨R, hR, e8, _⟩ := hash_cells h8
    obtain ⟨Q, hQ, e9, _⟩ := hash_cells h9
    have hde : d = .agg [y0.1, y1.1, y2.1, y3.1, y4.1, y5.1, y6.1, y7.1, y8.1, y9.1] := (Prod.mk.inj hx).1
    have hss : s.size ≤ 140737488351232 := by
      have h6 := hwt s.data.toList.length (by
        rw [hde, f4]
        unfold DataW.weights
        rw [Tryd.underlying25]
        exact DataW.weights_mem_each (j := 4) (t := 9) (d := .lit (.string s.data.toList)) rfl rfl _ (by simp [DataW.weights]))
      have h7 : reachBytes = 140737488351232 := by decide
      have h8 : s.data.toList.length = s.size := rfl
      omega
    refine ⟨⟨n0, n1, n2, n3, s, b, n6, n7, R, Q⟩, ⟨hR, hQ, hss, bounds_i64 w0, bounds_i64 w1, bounds_i64 w2, bounds_i64 w3, bounds_i64 w6, bounds_i64 w7⟩, ?_⟩
    have e := ten_cells cs.toList hl72 e0 e1 e2 e3 e4 e5 e6 e7 e8 e9
    show Value.agg cs = .agg _
    congr 1
    apply Array.toList_inj.1
    rw [e]
    rfl
end Go.Proofs.YtdekcicgiflnbaaDoor
