/- Arguments opened: a hash; who says what. -/
import Derived.Test.YtdifbndpgbdkbaaDoorLawEnd
import Derived.Test.YtdifbndpgbdkbaaDoorSealLaw1
import Derived.OpenShut
import Derived.SizedLaws
import Derived.Deep.MidRow
namespace Go.Proofs.YtdifbndpgbdkbaaDoor
open Go.ChangeShapes Go.WideShapes Go.ChangeAt Go.RowKit
set_option linter.unusedVariables false
set_option linter.unusedSimpArgs false

section
variable {H : Type} {enc : TypeId × Value → H} {w : World} {base : Nat} {spare : Nat → Bool} {held : Bool} {fuel : Nat}
/-- the cells of a hash are 32 bytes -/
theorem hash_cells {cs : List Value} {x : DataW H × List MemPlace} (h : DataW.trod enc Tryd.prog w base spare held fuel 24 cs = some x) :
    ∃ R : List UInt8, R.length = 32 ∧ cs = (bRow R).toList ∧ x.2 = [] := by
  obtain ⟨xs, m, _, hx, hlen, hxl, hi⟩ := DataW.trod_array Tryd.underlying24 h
  have hc : Tryd.prog.cellsOf 24 = 32 := by kernel_rfl
  have hc5 : Tryd.prog.cellsOf 5 = 1 := by kernel_rfl
  rw [hc] at hlen
  have hb : ∀ i, i < 32 → ∃ b : UInt8, cs[i]? = some (.int .u8 (b.toNat : Int)) ∧ ∃ y, xs[i]? = some y ∧ y.2 = [] := by
    intro i hi32
    have h1 := hi i hi32
    rw [hc5, Nat.mul_one, List.drop_eq_getElem_cons (by omega)] at h1
    have hxi : xs[i]? = some (xs[i]'(by omega)) := List.getElem?_eq_getElem (by omega)
    rw [hxi] at h1
    obtain ⟨n, hn, hy, hw⟩ := DataW.trod_int Tryd.underlying5 h1
    have hcs : cs[i]'(by omega) = .int .u8 n := by
      rw [List.take_succ_cons, List.take_zero] at hn
      injection hn
    have hb8 := bounds_u8 hw
    refine ⟨UInt8.ofNat n.toNat, ?_, _, hxi, by rw [hy]⟩
    rw [List.getElem?_eq_getElem (by omega), hcs]
    congr 2
    rw [UInt8.toNat_ofNat']
    omega
  refine ⟨(List.range 32).map fun i => match cs[i]? with | some (Value.int IntKind.u8 n) => UInt8.ofNat n.toNat | _ => 0, by simp, ?_, ?_⟩
  · rw [bRow_yRow _ (by simp)]
    unfold yRow
    apply List.ext_getElem?
    intro i
    by_cases hi32 : i < 32
    · obtain ⟨b, hcb, _⟩ := hb i hi32
      rw [hcb]
      simp [hi32, hcb]
    · rw [List.getElem?_eq_none (by omega)]
      simp [hi32]
  · rw [hx]
    simp only [List.flatMap_eq_nil_iff]
    intro y hy
    obtain ⟨i, hi1, rfl⟩ := List.mem_iff_getElem.1 hy
    obtain ⟨_, _, y, h1, h2⟩ := hb i (by omega)
    rw [List.getElem?_eq_getElem hi1] at h1
    injection h1 with h1
    rw [h1]; exact h2
end
/-- a hash by value -/
theorem open_hash {H : Type} {enc : TypeId × Value → H} {W : World} {r : Reach} {b0 : Nat} {v : Value} {d : DataW H} {ps : List MemPlace}
    (hv : Value.okWide Tryd.prog W r b0 24 v) (h : DataW.Trod enc Tryd.prog W 0 (fun _ => true) true 24 v d ps) :
    ∃ R : List UInt8, R.length = 32 ∧ v = .agg (bRow R) ∧ ps = [] := by
  simp only [Value.okWide, Tryd.underlying24] at hv
  obtain ⟨cs, rfl, _⟩ := hv
  obtain ⟨fuel, hf⟩ := h
  obtain ⟨R, h1, h2, h3⟩ := hash_cells hf
  refine ⟨R, h1, ?_, h3⟩
  have : cs.toList = (bRow R).toList := h2
  rw [show cs = bRow R from Array.toList_inj.1 this]
theorem four_cells {α : Type} {a b c : α} {t : List α} : ∀ (l : List α), l.length = 35 → (l.drop 0).take 1 = [a] → (l.drop 1).take 1 = [b] → (l.drop 2).take 1 = [c] → (l.drop 3).take 32 = t → l = [a, b, c] ++ t
  | x :: y :: z :: r, hl, h0, h1, h2, h3 => by
    have hr : r.length = 32 := by simpa using hl
    simp at h0 h1 h2 h3
    rw [List.take_of_length_le (by omega)] at h3
    rw [h0, h1, h2, h3]; rfl
  | [], hl, _, _, _, _ => by simp at hl
  | [_], hl, _, _, _, _ => by simp at hl
  | [_, _], hl, _, _, _, _ => by simp at hl
/-- who says what -/
def saidRow (who dom : Int) (body : ByteArray) (t : List UInt8) : Array Value := ([Value.int .i64 who, .int .i64 dom, .string body] ++ (bRow t).toList).toArray
theorem open_said {H : Type} {enc : TypeId × Value → H} {W : World} {r : Reach} {b0 : Nat} {v : Value} {d : DataW H} {ps : List MemPlace}
    (hv : Value.okWide Tryd.prog W r b0 52 v) (h : DataW.Trod enc Tryd.prog W 0 (fun _ => true) true 52 v d ps) :
    ∃ (who dom : Int) (body : ByteArray) (t : List UInt8) (x : DataW H), t.length = 32 ∧ v = .agg (saidRow who dom body t) ∧ d = .agg [.lit (.int .i64 who), .lit (.int .i64 dom), .lit (.string body.data.toList), x] ∧
      (Lit.int .i64 who).wf = true ∧ (Lit.int .i64 dom).wf = true := by
  have hs := Tryd.underlying52
  obtain ⟨cs, rfl, hsz⟩ := okWide_struct hs hv
  obtain ⟨fuel, hf⟩ := h
  have hc : Tryd.prog.cellsOf 52 = 35 := by kernel_rfl
  obtain ⟨xs, n, _, hx, _, hlen, hg⟩ := DataW.trod_struct hs hf
  have hc3 : Tryd.prog.cellsOf 3 = 1 := by kernel_rfl
  have hc9 : Tryd.prog.cellsOf 9 = 1 := by kernel_rfl
  have hch : Tryd.prog.cellsOf 24 = 32 := by kernel_rfl
  have h0 : DataW.trod enc Tryd.prog W 0 (fun _ => true) true n 3 ((cs.toList.drop 0).take (Tryd.prog.cellsOf 3)) = xs[0]? := hg 0 _ rfl
  have h1 : DataW.trod enc Tryd.prog W 0 (fun _ => true) true n 3 ((cs.toList.drop 1).take (Tryd.prog.cellsOf 3)) = xs[1]? := hg 1 _ rfl
  have h2 : DataW.trod enc Tryd.prog W 0 (fun _ => true) true n 9 ((cs.toList.drop 2).take (Tryd.prog.cellsOf 9)) = xs[2]? := hg 2 _ rfl
  have h3 : DataW.trod enc Tryd.prog W 0 (fun _ => true) true n 24 ((cs.toList.drop 3).take (Tryd.prog.cellsOf 24)) = xs[3]? := hg 3 _ rfl
  rw [hc3] at h0 h1
  rw [hc9] at h2
  rw [hch] at h3
  have hl35 : cs.toList.length = 35 := by rw [Array.length_toList, hsz, hc]
  match xs, hlen with
  | [y0, y1, y2, y3], _ =>
    obtain ⟨who, e0, rfl, w0⟩ := DataW.trod_int Tryd.underlying3 h0
    obtain ⟨dom, e1, rfl, w1⟩ := DataW.trod_int Tryd.underlying3 h1
    obtain ⟨body, e2, rfl, _⟩ := DataW.trod_string Tryd.underlying9 h2
    obtain ⟨t, ht, e3, _⟩ := hash_cells h3
    refine ⟨who, dom, body, t, y3.1, ht, ?_, (Prod.mk.inj hx).1, w0, w1⟩
    have e : cs.toList = [Value.int .i64 who, .int .i64 dom, .string body] ++ (bRow t).toList := four_cells cs.toList hl35 e0 e1 e2 e3
    unfold saidRow
    rw [← e]
/-- the text that is said is as long as may come in -/
theorem sized_said {H : Type} {ts : List TypeId} {ds : List (DataW H)} {j : Nat} {a b : Lit} {s : List UInt8} {x : DataW H} (h : (DataW.weightsEach Tryd.prog ts ds).all (· ≤ reachBytes) = true)
    (ht : ts[j]? = some 52) (hd : ds[j]? = some (.agg [.lit a, .lit b, .lit (.string s), x])) : s.length ≤ 140737488351232 := by
  have := List.all_eq_true.1 h _ (DataW.weights_mem_each ht hd s.length (by simp [DataW.weights, Tryd.underlying52, DataW.weightsEach]))
  have h2 : s.length ≤ reachBytes := by simpa using this
  exact h2
end Go.Proofs.YtdifbndpgbdkbaaDoor
