/- Two hashes compared. -/
import Derived.Test.YtdifbndpgbdkbaaDoorShaChain
import Derived.DeepKeys
namespace Go.Proofs.YtdifbndpgbdkbaaDoor
open Go.RowKit
set_option linter.unusedVariables false
set_option linter.unusedSimpArgs false

theorem mapM_some {α β : Type} (f : α → Option β) (g : α → β) : ∀ l : List α, (∀ i ∈ l, f i = some (g i)) → l.mapM f = some (l.map g)
  | [], _ => rfl
  | a :: l, h => by
    rw [List.mapM_cons, h a (by simp), mapM_some f g l (fun i hi => h i (by simp [hi]))]
    rfl
theorem lit_wf : ∀ n : Fin 256, (Lit.int .u8 (n.1 : Int)).wf = true := by decide +kernel
theorem flat_one {α β : Type} (f : α → β) : ∀ l : List α, (l.map fun i => [f i]).flatten = l.map f
  | [] => rfl
  | a :: l => by rw [List.map_cons, List.flatten_cons, flat_one f l]; rfl
theorem hash_lits (R : List UInt8) (hR : R.length = 32) : Tryd.prog.keyLits 2 24 (bRow R).toList = some (R.map fun b => Lit.int .u8 (b.toNat : Int)) := by
  have hc : Tryd.prog.cellsOf 24 = 32 := by kernel_rfl
  have hc5 : Tryd.prog.cellsOf 5 = 1 := by kernel_rfl
  have hz : (bRow R).toList.length = 32 := by rw [Array.length_toList, bRow_size _ (by omega)]
  unfold Program.keyLits
  simp only [Tryd.underlying24]
  rw [if_pos (hz.trans hc.symm), mapM_some _ (fun i => [Lit.int .u8 ((R.getD i 0).toNat : Int)]) (List.range 32) (fun i hi => ?_)]
  · simp only [Option.map_some]
    rw [flat_one]
    congr 1
    apply List.ext_getElem
    · simp [hR]
    · intro i h1 h2
      have : i < R.length := by simpa using h2
      simp [List.getD, this]
  · have hi' : i < 32 := by simpa using hi
    have e : ((bRow R).toList.drop (i * Tryd.prog.cellsOf 5)).take (Tryd.prog.cellsOf 5) = [.int .u8 ((R.getD i 0).toNat : Int)] := by
      rw [hc5, Nat.mul_one, bRow_yRow R hR]
      unfold yRow
      rw [List.drop_eq_getElem_cons (by simp; omega)]
      simp [List.getD, show i < R.length by omega]
    rw [e]
    unfold Program.keyLits
    simp only [Tryd.underlying5]
    rw [if_pos ⟨trivial, lit_wf ⟨(R.getD i 0).toNat, (R.getD i 0).toNat_lt⟩⟩]
/-- two hashes: equal just where their bytes are -/
theorem hash_eq (W : World) (R Q : List UInt8) (hR : R.length = 32) (hQ : Q.length = 32) :
    (Op.equalIn 10000 24 (.agg (bRow R)) (.agg (bRow Q))).run Tryd.prog W = .ok (decide (R = Q)) W := by
  have hk : Tryd.prog.keyTypeAt 2 24 = true := by kernel_rfl
  have hf : ∀ X : List UInt8, X.length = 32 → (Value.agg (bRow X)).formed Tryd.prog 24 = true := by
    intro X hX
    have hc : Tryd.prog.cellsOf 24 = 32 := by kernel_rfl
    have hs := bRow_size X (by omega)
    simp [Value.formed, Tryd.underlying24, hs, hc]
  obtain ⟨r, hr, hiff⟩ := run_equalIn_deep (P := Tryd.prog) 9998 2 24 hk W 2 2 (.agg (bRow R)) (.agg (bRow Q)) _ _ (hf R hR) (hf Q hQ) (hash_lits R hR) (hash_lits Q hQ)
  have hinj : (R.map fun b => Lit.int .u8 (b.toNat : Int)) = (Q.map fun b => Lit.int .u8 (b.toNat : Int)) ↔ R = Q := by
    constructor
    · intro h
      refine List.map_inj_right (fun x y hxy => ?_) |>.1 h
      have : (x.toNat : Int) = (y.toNat : Int) := by injection hxy
      exact UInt8.toNat_inj.1 (by omega)
    · intro h; rw [h]
  rw [hinj] at hiff
  have e : r = decide (R = Q) := by
    by_cases h : R = Q
    · rw [decide_eq_true h]; exact hiff.2 h
    · rw [decide_eq_false h]
      cases r
      · rfl
      · exact absurd (hiff.1 rfl) h
  rw [← e]
  exact hr
end Go.Proofs.YtdifbndpgbdkbaaDoor
