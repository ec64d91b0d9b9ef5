/- digest.Chain, join: what they return. -/
import Derived.Test.YtdifbndpgbdkbaaDoorShaSum
namespace Go.Proofs.YtdifbndpgbdkbaaDoor
open Go.RowKit
set_option linter.unusedVariables false
set_option linter.unusedSimpArgs false

theorem bRow_yRow (h : List UInt8) (hh : h.length = 32) : bRow h = yRow h := by
  unfold bRow yRow
  rw [hh]
  simp
/-- the world of a call by a name -/
theorem calls_named {P : Program} {f : Nat} {a : Array Value} {w : World} {K : Ending → World → Prop} (h : ∀ w', w' = w → Calls P f a w' K) : Calls P f a w K := h _ rfl
/-- a hash's row as a text -/
theorem hash_text (W : World) (g : Nat) (h : List UInt8) (hh : h.length = 32) (hg : Holds W g (bRow h)) :
    (Go.convert 28 9 (.slice (some ⟨g, 0, none⟩) 32 32)).run Tryd.prog W = .ok (S h) W := by
  have := run_convert_bytes_arg (P := Tryd.prog) W 28 5 Tryd.underlying28 Tryd.underlying5 g 0 32 32 (h.map fun b => (b.toNat : Int)) (by rw [List.length_map, hh]) (fun i hi => by
    rw [Nat.zero_add, hg.cell i, bRow_yRow h hh]
    exact yRow_at h i (by omega)) 9 Tryd.underlying9
  rw [bytes_of_] at this
  exact this
set_option maxHeartbeats 1000000 in
set_option maxRecDepth 100000 in
theorem chain_any (h : List UInt8) (s : ByteArray) (w : World) (hT : Tab w) (hh : h.length = 32) (hs : s.size ≤ 1152921504606846900) :
    Calls Tryd.prog 16 #[.agg (bRow h), .string s] w fun e w' => e = .returned (.agg (bRow (Sha.sum (h ++ s.data.toList)))) ∧ Below w.heap.size w w' := by
  have HT := Lib.hid hT
  have hpos := hT.pos
  have HH := Lib.hid hh
  have hbig : ¬ (9223372036854775807 < h.length + s.size) := by omega
  have i24 : (Tryd.prog.info? 24).map (·.size) = some 32 := by kernel_rfl
  have I24 := Lib.hid i24
  clear hT hh i24
  go_enter Tryd.func16, Tryd.ntmps16
  go_wp2_with fail
  rw [hash_text _ _ h HH.out ((Holds.new _ _ _).alloc _)]
  go_wp2_with fail
  have hsz : ((⟨h.toArray⟩ : ByteArray) ++ s).size = 32 + s.size := by rw [ByteArray.size_append, ← HH.out]; rfl
  have hdl : ((⟨h.toArray⟩ : ByteArray) ++ s).data.toList = h ++ s.data.toList := by rw [ByteArray.data_append]; simp
  refine calls_named ?_
  intro w1 hw1
  have hR : Holds w1 (w.heap.size + 1) (bRow []) := by rw [hw1]; exact Holds.new2 (by simp) rfl
  have hb1 : Below w.heap.size w w1 := by rw [hw1]; exact ((Below.refl _ _).alloc (Nat.le_refl _) _).alloc (by simp) _
  have HR := Lib.hid hR
  clear hw1 hR
  refine (sum_any _ w1 (HT.out.below hb1 hpos) (by rw [hsz]; omega)).mono ?_
  rw [hdl]
  rintro e w2 ⟨rfl, hb2⟩
  have HR2 := Lib.hid (HR.out.below hb2 HR.out.lt)
  have hz := bRow_size (Sha.sum (h ++ s.data.toList)) (by rw [Sha.sum_len]; omega)
  have I24b := Lib.hid (I24.out.trans (congrArg some hz.symm))
  have Hold := Lib.hid ((bRow_size [] (by simp)).trans hz.symm)
  clear hz hsz hdl
  go_wp2_with (refine wpList_store_named rfl 24 (.tmp 4) (.tmp 9) rfl (w.heap.size + 1) (bRow (Sha.sum (h ++ s.data.toList))) rfl rfl _ HR2.out I24b.out Hold.out (bRow_one _) ?_; intro w5 hw5)
  obtain ⟨T5, hT5⟩ := (show Holds w5 (w.heap.size + 1) (bRow (Sha.sum (h ++ s.data.toList))) from by rw [hw5]; exact HR2.out.row _)
  exact bodyPost_ret (results_cell_row rfl _ _ (w.heap.size + 1) T5 _ (0, 0) _ rfl hT5 Tryd.underlying24 rfl I24b.out) rfl ⟨rfl, by rw [hw5]; exact below_setRow (hb1.trans (hb2.mono hb1.size)) (by omega) _⟩
set_option maxHeartbeats 1000000 in
set_option maxRecDepth 100000 in
theorem join_any (h k : List UInt8) (w : World) (hT : Tab w) (hh : h.length = 32) (hk : k.length = 32) :
    Calls Tryd.prog 44 #[.agg (bRow h), .agg (bRow k)] w fun e w' => e = .returned (.agg (bRow (Sha.sum (1 :: (h ++ k))))) ∧ Below w.heap.size w w' := by
  have HT := Lib.hid hT
  have hpos := hT.pos
  have HH := Lib.hid hh
  have HK := Lib.hid hk
  have hbig : ¬ (9223372036854775807 < 1 + h.length) := by omega
  have hbig2 : ¬ (9223372036854775807 < 1 + h.length + k.length) := by omega
  have i24 : (Tryd.prog.info? 24).map (·.size) = some 32 := by kernel_rfl
  have I24 := Lib.hid i24
  clear hT hh hk i24
  go_enter Tryd.func44, Tryd.ntmps44
  go_wp2_with fail
  refine region_tail 6 (by kernel_rfl) (by kernel_rfl) ?_
  intro w1 hw1
  have hR : Holds w1 (w.heap.size + 2) (bRow []) := by rw [hw1]; exact (Holds.new2 (by simp) rfl).drew
  have h1 : Holds w1 w.heap.size (bRow h) := by rw [hw1]; exact (((Holds.new _ _ _).alloc _).alloc _).drew
  have h2 : Holds w1 (w.heap.size + 1) (bRow k) := by rw [hw1]; exact ((Holds.new2 (by simp) rfl).alloc _).drew
  have hb1 : Below w.heap.size w w1 := by rw [hw1]; exact ((((Below.refl _ _).alloc (Nat.le_refl _) _).alloc (by simp) _).alloc (by simp; omega) _).drew
  clear hw1
  have hc1 := hash_text w1 w.heap.size h HH.out h1
  have hc2 := hash_text w1 (w.heap.size + 1) k HK.out h2
  have HR := Lib.hid hR
  clear hR h1 h2
  simp only [List.take_succ_cons, List.take_zero, List.drop_succ_cons, List.drop_zero]
  repeat still_step
  refine wpStill_nil ?_
  clear hc1 hc2
  go_wp2_with fail
  have hsz : ((⟨#[1]⟩ : ByteArray) ++ (⟨h.toArray⟩ : ByteArray) ++ (⟨k.toArray⟩ : ByteArray)).size = 65 := by
    rw [ByteArray.size_append, ByteArray.size_append]
    show 1 + h.length + k.length = 65
    rw [HH.out, HK.out]
  have hdl : ((⟨#[1]⟩ : ByteArray) ++ (⟨h.toArray⟩ : ByteArray) ++ (⟨k.toArray⟩ : ByteArray)).data.toList = 1 :: (h ++ k) := by rw [ByteArray.data_append, ByteArray.data_append]; simp
  refine (sum_any _ w1 (HT.out.below hb1 hpos) (by rw [hsz]; omega)).mono ?_
  rw [hdl]
  rintro e w2 ⟨rfl, hb2⟩
  have HR2 := Lib.hid (HR.out.below hb2 HR.out.lt)
  have hz := bRow_size (Sha.sum (1 :: (h ++ k))) (by rw [Sha.sum_len]; omega)
  have I24b := Lib.hid (I24.out.trans (congrArg some hz.symm))
  have Hold := Lib.hid ((bRow_size [] (by simp)).trans hz.symm)
  clear hz hsz hdl
  go_wp2_with (refine wpList_store_named rfl 24 (.tmp 4) (.tmp 11) rfl (w.heap.size + 2) (bRow (Sha.sum (1 :: (h ++ k)))) rfl rfl _ HR2.out I24b.out Hold.out (bRow_one _) ?_; intro w5 hw5)
  obtain ⟨T5, hT5⟩ := (show Holds w5 (w.heap.size + 2) (bRow (Sha.sum (1 :: (h ++ k)))) from by rw [hw5]; exact HR2.out.row _)
  exact bodyPost_ret (results_cell_row rfl _ _ (w.heap.size + 2) T5 _ (0, 0) _ rfl hT5 Tryd.underlying24 rfl I24b.out) rfl ⟨rfl, by rw [hw5]; exact below_setRow (hb1.trans (hb2.mono hb1.size)) (by omega) _⟩
end Go.Proofs.YtdifbndpgbdkbaaDoor
