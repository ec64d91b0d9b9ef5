/- cavalcaderef02.Chain, Root: what they return. -/
import Derived.Test.YtdifbndpgbdkbaaDoorShaRefHalf
import Derived.Test.YtdifbndpgbdkbaaDoorShaCp
namespace Go.Proofs.YtdifbndpgbdkbaaDoor
open Go.RowKit
set_option linter.unusedVariables false
set_option linter.unusedSimpArgs false

/-- what the reference's Sum is to return (proved apart) -/
def RefSum : Prop := ∀ (s : ByteArray) (w : World), s.size ≤ 140737488355000 →
    Calls Tryd.prog 15 #[.string s] w fun e w' => e = .returned (.agg (bRow (Sha.sum s.data.toList))) ∧ Below w.heap.size w w'
set_option maxHeartbeats 1000000 in
set_option maxRecDepth 100000 in
theorem refChain_any (hRS : RefSum) (h : List UInt8) (s : ByteArray) (w : World) (hh : h.length = 32) (hs : s.size ≤ 140737488354900) :
    Calls Tryd.prog 17 #[.agg (bRow h), .string s] w fun e w' => e = .returned (.agg (bRow (Sha.sum (h ++ s.data.toList)))) ∧ Below w.heap.size w w' := by
  have HH := Lib.hid hh
  have hbig : ¬ (9223372036854775807 < h.length + s.size) := by omega
  have i24 : (Tryd.prog.info? 24).map (·.size) = some 32 := by kernel_rfl
  have I24 := Lib.hid i24
  clear hh i24
  go_enter Tryd.func17, Tryd.ntmps17
  have hz2 := bRow_size h (by rw [HH.out]; omega)
  have I24h := Lib.hid (I24.out.trans (congrArg some hz2.symm))
  have HRS := Lib.hid hRS
  clear hz2 hRS
  go_wp2_with (refine wpList_load_row rfl 24 (.tmp 2) rfl w.heap.size rfl 24 _ (0, 0) _ (heap_alloc2_old w _ _) Tryd.underlying24 rfl I24h.out ?_)
  refine calls_named ?_
  intro w1 hw1
  have hR : Holds w1 (w.heap.size + 1) (bRow []) := by rw [hw1]; exact Holds.new2 (by simp) rfl
  have hb1 : Below w.heap.size w w1 := by rw [hw1]; exact ((Below.refl _ _).alloc (Nat.le_refl _) _).alloc (by simp) _
  clear hw1
  refine (bytes_any h w1 HH.out).mono ?_
  rintro e w2 ⟨rfl, hb2⟩
  have HR := Lib.hid (hR.below hb2 hR.lt)
  have hb2 := hb1.trans (hb2.mono hb1.size)
  clear hR
  go_wp2_with fail
  have hsz : ((⟨h.toArray⟩ : ByteArray) ++ s).size = 32 + s.size := by rw [ByteArray.size_append, ← HH.out]; rfl
  have hdl : ((⟨h.toArray⟩ : ByteArray) ++ s).data.toList = h ++ s.data.toList := by rw [ByteArray.data_append]; simp
  refine (HRS.out _ w2 (by rw [hsz]; omega)).mono ?_
  rw [hdl]
  rintro e w3 ⟨rfl, hb3⟩
  have HR2 := Lib.hid (HR.out.below hb3 HR.out.lt)
  have hz := bRow_size (Sha.sum (h ++ s.data.toList)) (by rw [Sha.sum_len]; omega)
  have I24b := Lib.hid (I24.out.trans (congrArg some hz.symm))
  have Hold := Lib.hid ((bRow_size [] (by simp)).trans hz.symm)
  clear hz hsz hdl
  go_wp2_with (refine wpList_store_named rfl 24 (.tmp 4) (.tmp 9) rfl (w.heap.size + 1) (bRow (Sha.sum (h ++ s.data.toList))) rfl rfl _ HR2.out I24b.out Hold.out (bRow_one _) ?_; intro w5 hw5)
  obtain ⟨T5, hT5⟩ := (show Holds w5 (w.heap.size + 1) (bRow (Sha.sum (h ++ s.data.toList))) from by rw [hw5]; exact HR2.out.row _)
  exact bodyPost_ret (results_cell_row rfl _ _ (w.heap.size + 1) T5 _ (0, 0) _ rfl hT5 Tryd.underlying24 rfl I24b.out) rfl ⟨rfl, by rw [hw5]; exact below_setRow (hb2.trans (hb3.mono hb2.size)) (by omega) _⟩
end Go.Proofs.YtdifbndpgbdkbaaDoor
