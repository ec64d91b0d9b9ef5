/- digest.Sum: what it returns. -/
import Derived.Test.YtdifbndpgbdkbaaDoorShaPad
namespace Go.Proofs.YtdifbndpgbdkbaaDoor
open Go.RowKit
set_option linter.unusedVariables false
set_option linter.unusedSimpArgs false

namespace Sha
theorem runs_take (s : St) (l m : List UInt8) : ∀ n, 64 * n ≤ l.length → runs s (l ++ m) n = runs s l n
  | 0, _ => rfl
  | n + 1, h => by
    simp only [runs]
    rw [runs_take s l m n (by omega), List.drop_append_of_le_length (by omega), List.take_append_of_le_length (by rw [List.length_drop]; omega)]
theorem runs_app (s : St) (l m : List UInt8) (n : Nat) (h : l.length = 64 * n) : ∀ k, runs s (l ++ m) (n + k) = runs (runs s l n) m k
  | 0 => runs_take s l m n (by omega)
  | k + 1 => by
    rw [← Nat.add_assoc]
    simp only [runs]
    rw [runs_app s l m n h k, Nat.mul_add, ← h, ← List.drop_drop, List.drop_left]
end Sha
theorem padded_len (r : List UInt8) (n : Nat) (h : r.length < 64) : (padded r n).length = if r.length + 9 > 64 then 128 else 64 := by
  unfold padded
  simp only [List.length_append, List.length_cons, List.length_replicate, Sha.len8_len]
  split <;> omega
theorem pad_split (l : List UInt8) (n : Nat) (hn : n = l.length / 64) : Sha.pad l = l.take (64 * n) ++ padded (l.drop (64 * n)) l.length := by
  unfold Sha.pad padded
  have hl : (l.drop (64 * n)).length = l.length % 64 := by rw [List.length_drop]; omega
  have e : (if (l.drop (64 * n)).length + 9 > 64 then 128 else 64) - (l.drop (64 * n)).length - 9 = (119 - l.length % 64) % 64 := by
    rw [hl]; split <;> omega
  rw [e, ← List.append_assoc, List.take_append_drop]
/-- in two runs -/
theorem sum_split (l : List UInt8) (n k : Nat) (hn : n = l.length / 64) (hk : 64 * k = (padded (l.drop (64 * n)) l.length).length) :
    Sha.sum l = Sha.bytes (Sha.runs (Sha.runs Sha.start l n) (padded (l.drop (64 * n)) l.length) k) := by
  have h1 : (l.take (64 * n)).length = 64 * n := by rw [List.length_take]; omega
  have h2 : Sha.runs Sha.start l n = Sha.runs Sha.start (l.take (64 * n)) n := by
    conv => lhs; rw [← List.take_append_drop (64 * n) l]
    exact Sha.runs_take _ _ _ n (by omega)
  unfold Sha.sum
  rw [h2, ← Sha.runs_app _ _ _ n h1 k, pad_split l n hn]
  congr 2
  rw [List.length_append, h1, ← hk]
  omega
theorem extract_list (s : ByteArray) (k m : Nat) : s.extract k (k + m) = ⟨((s.data.toList.drop k).take m).toArray⟩ := by
  have h := ByteArray.extract_mk s.data.toList k (k + m)
  rw [Nat.add_sub_cancel_left] at h
  exact h
theorem cut_run {P : Program} (t : TypeId) (ht : P.underlying t = some .string) (s : ByteArray) (k m : Nat) (h : k + m ≤ s.size) (W : World) :
    (Instr.slice t (.string s) (some (.int .i64 (k : Int))) (some (.int .i64 ((k : Int) + (m : Int)))) none).run P W = .ok (S ((s.data.toList.drop k).take m)) W := by
  rw [run_slice_string W t s .i64 .i64 _ _ ht (by omega) (by omega) (by omega)]
  have e : ((k : Int) + (m : Int)).toNat = k + m := by omega
  rw [e, Int.toNat_natCast, extract_list]
/-- a drawn region whose head is still; the world by a name -/
theorem region_tail {P : Program} {id : Nat} {Q : Exit → Act → World → Prop} {a : Act} {w : World} {l : List Oper} (n : Nat) (hm : P.follows .mixedOrders = true) (hB : Region.lexTailB .any l.toArray n = true)
    (h : ∀ w', w' = w.drew → wpStill P l.toArray w' (fun a' => wpList P l.toArray Q (l.drop n) a' w') (l.take n) a) : (Code.region id l.toArray true).wp P Q a w :=
  wp_region_still_tail n hm hB (h _ rfl)
theorem st8_size2 (a b : Sha.St) : (st8 a).size = (st8 b).size := by unfold st8; rfl
theorem rest_run {P : Program} (t : TypeId) (ht : P.underlying t = some .string) (s : ByteArray) (k : Nat) (h : k ≤ s.size) (W : World) :
    (Instr.slice t (.string s) (some (.int .i64 (k : Int))) none none).run P W = .ok (S (s.data.toList.drop k)) W := by
  rw [run_slice_string_l W t s ht .i64 _ (by omega) (by omega), Int.toNat_natCast]
  have e : s.data.toList.length = s.size := rfl
  have h2 : k + (s.size - k) = s.size := by omega
  conv => lhs; rw [← h2]
  rw [extract_list, List.take_of_length_le (by rw [List.length_drop, e]; omega)]
/-- one block -/
theorem step_run (st : Sha.St) (s : ByteArray) (k : Nat) (w : World) (hT : Tab w) (hst : st.ok) (hs : 64 * (k + 1) ≤ s.size) :
    Calls Tryd.prog 34 #[.agg (st8 st), S ((s.data.toList.drop (64 * k)).take 64)] w fun e w' => e = .returned (.agg (st8 (Sha.step st ((s.data.toList.drop (64 * k)).take 64)))) ∧ Below w.heap.size w w' := by
  have e : s.data.toList.length = s.size := rfl
  refine step_any st _ w hT hst ?_
  show ((s.data.toList.drop (64 * k)).take 64).toArray.size = 64
  simp only [List.size_toArray, List.length_take, List.length_drop, e]
  omega
set_option maxHeartbeats 1000000 in
set_option maxRecDepth 100000 in
theorem sum_any (s : ByteArray) (w : World) (hT : Tab w) (hs : s.size ≤ 1152921504606846975) :
    Calls Tryd.prog 14 #[.string s] w fun e w' => e = .returned (.agg (bRow (Sha.sum s.data.toList))) ∧ Below w.heap.size w w' := by
  have HT := Lib.hid hT
  have hpos := hT.pos
  have i58 : (Tryd.prog.info? 58).map (·.size) = some 8 := by kernel_rfl
  have I58 := Lib.hid i58
  have i24 : (Tryd.prog.info? 24).map (·.size) = some 32 := by kernel_rfl
  have I24 := Lib.hid i24
  have hnn : (s.size : Int) ≤ 1152921504606846975 := by omega
  have hmod : (s.size : Int) - (s.size : Int) % 64 = ((64 * (s.size / 64) : Nat) : Int) := by omega
  clear i58 i24 hT
  go_enter Tryd.func14, Tryd.ntmps14
  go_wp2_with fail
  refine (start_any _).mono ?_
  rintro e w1 ⟨rfl, hb1⟩
  go_wp2_with (refine wpList_store_named rfl 58 (.tmp 3) (.tmp 8) rfl w1.heap.size _ rfl rfl (st8 ⟨0, 0, 0, 0, 0, 0, 0, 0⟩) (Holds.new2 rfl rfl) I58.out rfl (st8_one _) ?_; intro wA hwA; have HwA := Lib.hid hwA; clear hwA)
  have hwA := HwA.out
  have hB0 : Below w.heap.size w w1 := ((Below.refl _ _).alloc (Nat.le_refl _) _).trans (hb1.mono (by simp))
  have hlt1 : w.heap.size < w1.heap.size := by have := hb1.size; simp at this; omega
  have hBA : Below w.heap.size w wA := by rw [hwA]; exact below_setRow (hB0.alloc hB0.size _) hB0.size _
  have hR : Holds wA w.heap.size (bRow []) := by
    rw [hwA]
    exact (((Holds.new2 rfl rfl).below hb1 (by simp)).alloc _).rowFar (by omega) _
  have hN : Holds wA w1.heap.size (st8 Sha.start) := by
    rw [hwA]
    exact (Holds.new _ _ _).row _
  clear hwA HwA hb1 hB0
  generalize hg : w1.heap.size = g at *
  clear hg
  go_loopw [5] (fun i wr => ∃ k : Nat, k ≤ s.size / 64 ∧ i = .int .i64 (64 * (k : Int)) ∧ Holds wr w.heap.size (bRow []) ∧ Holds wr g (st8 (Sha.runs Sha.start s.data.toList k)) ∧ Below w.heap.size w wr) (fun i _ => s.size - (intOf i).toNat)
  case atStart => exact ⟨0, by omega, rfl, hR, hN, hBA⟩
  case round =>
    clear hR hN hBA
    obtain ⟨k, hk, rfl, hR, hN, hb⟩ := hrel
    have HR := Lib.hid hR
    have HN := Lib.hid hN
    clear hR hN
    by_cases hlt : k < s.size / 64
    · have hlt2 : (k : Int) < (s.size : Int) / 64 := by omega
      have hwr1 : IntKind.i64.wrap (64 * (k : Int) + 64) = 64 * (k : Int) + 64 := by rw [IntKind.wrap_i64]; omega
      go_wp2_with fail
      refine region_tail 6 (by kernel_rfl) (by kernel_rfl) ?_
      intro wd hwd
      have HR2 := Lib.hid (show Holds wd w.heap.size (bRow []) from by rw [hwd]; exact HR.out.drew)
      have HN2 := Lib.hid (show Holds wd g (st8 (Sha.runs Sha.start s.data.toList k)) from by rw [hwd]; exact HN.out.drew)
      have hbd : Below w.heap.size w wd := by rw [hwd]; exact hb.drew
      clear HR HN hb hwd
      obtain ⟨X, hX⟩ : ∃ X, X = Sha.runs Sha.start s.data.toList k := ⟨_, rfl⟩
      have HX := Lib.hid hX
      clear hX
      have c0 : wd.cell? ⟨g, 0, none⟩ = some (.int .u32 (X.a : Nat)) := by rw [HN2.out.cell 0, HX.out]; rfl
      have c1 : wd.cell? ⟨g, 1, none⟩ = some (.int .u32 (X.b : Nat)) := by rw [HN2.out.cell 1, HX.out]; rfl
      have c2 : wd.cell? ⟨g, 2, none⟩ = some (.int .u32 (X.c : Nat)) := by rw [HN2.out.cell 2, HX.out]; rfl
      have c3 : wd.cell? ⟨g, 3, none⟩ = some (.int .u32 (X.d : Nat)) := by rw [HN2.out.cell 3, HX.out]; rfl
      have c4 : wd.cell? ⟨g, 4, none⟩ = some (.int .u32 (X.e : Nat)) := by rw [HN2.out.cell 4, HX.out]; rfl
      have c5 : wd.cell? ⟨g, 5, none⟩ = some (.int .u32 (X.f : Nat)) := by rw [HN2.out.cell 5, HX.out]; rfl
      have c6 : wd.cell? ⟨g, 6, none⟩ = some (.int .u32 (X.g : Nat)) := by rw [HN2.out.cell 6, HX.out]; rfl
      have c7 : wd.cell? ⟨g, 7, none⟩ = some (.int .u32 (X.h : Nat)) := by rw [HN2.out.cell 7, HX.out]; rfl
      have hcut : (Instr.slice 9 (.string s) (some (.int .i64 (64 * (k : Int)))) (some (.int .i64 (64 * (k : Int) + 64))) none).run Tryd.prog wd = .ok (S ((s.data.toList.drop (64 * k)).take 64)) wd := by
        have := cut_run (P := Tryd.prog) 9 Tryd.underlying9 s (64 * k) 64 (by omega) wd
        rw [← this]; simp
      simp only [List.take_succ_cons, List.take_zero, List.drop_succ_cons, List.drop_zero]
      repeat still_step
      refine wpStill_nil ?_
      have HTd := Lib.hid (HT.out.below hbd hpos)
      have Hok := Lib.hid (show X.ok by rw [HX.out]; exact Sha.runs_ok _ Sha.start_ok k)
      clear c0 c1 c2 c3 c4 c5 c6 c7 hcut
      go_wp2_with fail
      refine (step_run X s k wd HTd.out Hok.out (by omega)).mono ?_
      rintro e w2 ⟨rfl, hb2⟩
      have hg2 := HN2.out.lt
      have hg1 := HR2.out.lt
      have HR3 := Lib.hid (HR2.out.below hb2 hg1)
      have HN3 := Lib.hid (HN2.out.below hb2 hg2)
      go_wp2_with (refine wpList_store_named rfl 58 (.tmp 3) (.tmp 26) rfl g _ rfl rfl _ HN3.out I58.out (st8_size2 _ _) (st8_one _) ?_; intro wE hwE; have HwE := Lib.hid hwE; clear hwE)
      have hwE := HwE.out
      refine ⟨⟨k + 1, by omega, by go_num, ?_, ?_, ?_⟩, by simp only [intOf]; omega⟩
      · rw [hwE]; exact HR3.out.rowFar (by omega) _
      · rw [hwE]
        have := HN3.out.row (st8 (Sha.step X (List.take 64 (List.drop (64 * k) s.data.toList))))
        rw [HX.out] at this
        rw [HX.out]
        exact this
      · rw [hwE]; exact below_setRow (hbd.trans (hb2.mono hbd.size)) (by omega) _
    · have ek : k = s.size / 64 := by omega
      subst ek
      clear hk hlt
      have hcut2 : ∀ W, (Instr.slice 9 (.string s) (some (.int .i64 (64 * ((s.size : Int) / 64)))) none none).run Tryd.prog W = .ok (S (s.data.toList.drop (64 * (s.size / 64)))) W := by
        intro W
        have := rest_run (P := Tryd.prog) 9 Tryd.underlying9 s (64 * (s.size / 64)) (by omega) W
        rw [← this]; simp
      obtain ⟨n, hn⟩ : ∃ n, n = s.size / 64 := ⟨_, rfl⟩
      have el : s.data.toList.length = s.size := rfl
      have hrl : (s.data.toList.drop (64 * n)).length < 64 := by rw [List.length_drop, el]; omega
      obtain ⟨E, hE⟩ : ∃ E : ByteArray, E = ⟨(padded (s.data.toList.drop (64 * n)) s.size).toArray⟩ := ⟨_, rfl⟩
      have hEl : E.data.toList = padded (s.data.toList.drop (64 * n)) s.size := by rw [hE]
      have hEz : E.size = (padded (s.data.toList.drop (64 * n)) s.size).length := by rw [hE]; rfl
      have hLl := padded_len (s.data.toList.drop (64 * n)) s.size hrl
      rw [← hEz] at hLl
      have hL2 : E.size ≤ 128 := by rw [hLl]; split <;> omega
      have hL3 : E.size % 64 = 0 := by rw [hLl]; split <;> rfl
      have hsum := sum_split s.data.toList n (E.size / 64) (by rw [el]; exact hn) (by rw [el, ← hEz]; omega)
      rw [el, ← hEl] at hsum
      have hpad := padded_any ⟨(s.data.toList.drop (64 * n)).toArray⟩ s.size wr hrl hs
      change Calls Tryd.prog 35 #[S (s.data.toList.drop (64 * n)), .int .i64 s.size] wr (fun e w' => e = .returned (.string ⟨(padded (s.data.toList.drop (64 * n)) s.size).toArray⟩) ∧ Below wr.heap.size wr w') at hpad
      rw [← hE] at hpad
      have Hpad := Lib.hid hpad
      have Hsum := Lib.hid hsum
      rw [← hn] at hcut2 HN
      clear hpad hsum hE hEl hEz hLl hrl el
      go_wp2_with fail
      rw [← hn]
      refine Hpad.out.mono ?_
      rintro e w2 ⟨rfl, hb2⟩
      have hR := HR.out.below hb2 HR.out.lt
      have hN := HN.out.below hb2 HN.out.lt
      have hb := hb.trans (hb2.mono hb.size)
      have HN := Lib.hid hN
      have HR := Lib.hid hR
      have Hcut2 := Lib.hid hcut2
      clear hcut2 hN hR
      go_wp2_with fail
      go_loopw [7] (fun i wr => ∃ k : Nat, k ≤ E.size / 64 ∧ i = .int .i64 (64 * (k : Int)) ∧ Holds wr w.heap.size (bRow []) ∧ Holds wr g (st8 (Sha.runs (Sha.runs Sha.start s.data.toList n) E.data.toList k)) ∧ Below w.heap.size w wr) (fun i _ => E.size - (intOf i).toNat)
      case atStart => exact ⟨0, by omega, rfl, HR.out, HN.out, hb⟩
      case round =>
        clear HR HN hb
        obtain ⟨k, hk, rfl, hR, hN, hb⟩ := hrel
        have HR := Lib.hid hR
        have HN := Lib.hid hN
        clear hR hN
        by_cases hlt : k < E.size / 64
        · have hlt2 : 64 * (k : Int) < (E.size : Int) := by omega
          have hwr1 : IntKind.i64.wrap (64 * (k : Int) + 64) = 64 * (k : Int) + 64 := by rw [IntKind.wrap_i64]; omega
          go_wp2_with fail
          refine region_tail 6 (by kernel_rfl) (by kernel_rfl) ?_
          intro wd hwd
          have HR2 := Lib.hid (show Holds wd w.heap.size (bRow []) from by rw [hwd]; exact HR.out.drew)
          have HN2 := Lib.hid (show Holds wd g (st8 (Sha.runs (Sha.runs Sha.start s.data.toList n) E.data.toList k)) from by rw [hwd]; exact HN.out.drew)
          have hbd : Below w.heap.size w wd := by rw [hwd]; exact hb.drew
          clear HR HN hb hwd
          obtain ⟨X, hX⟩ : ∃ X, X = Sha.runs (Sha.runs Sha.start s.data.toList n) E.data.toList k := ⟨_, rfl⟩
          have HX := Lib.hid hX
          clear hX
          have c0 : wd.cell? ⟨g, 0, none⟩ = some (.int .u32 (X.a : Nat)) := by rw [HN2.out.cell 0, HX.out]; rfl
          have c1 : wd.cell? ⟨g, 1, none⟩ = some (.int .u32 (X.b : Nat)) := by rw [HN2.out.cell 1, HX.out]; rfl
          have c2 : wd.cell? ⟨g, 2, none⟩ = some (.int .u32 (X.c : Nat)) := by rw [HN2.out.cell 2, HX.out]; rfl
          have c3 : wd.cell? ⟨g, 3, none⟩ = some (.int .u32 (X.d : Nat)) := by rw [HN2.out.cell 3, HX.out]; rfl
          have c4 : wd.cell? ⟨g, 4, none⟩ = some (.int .u32 (X.e : Nat)) := by rw [HN2.out.cell 4, HX.out]; rfl
          have c5 : wd.cell? ⟨g, 5, none⟩ = some (.int .u32 (X.f : Nat)) := by rw [HN2.out.cell 5, HX.out]; rfl
          have c6 : wd.cell? ⟨g, 6, none⟩ = some (.int .u32 (X.g : Nat)) := by rw [HN2.out.cell 6, HX.out]; rfl
          have c7 : wd.cell? ⟨g, 7, none⟩ = some (.int .u32 (X.h : Nat)) := by rw [HN2.out.cell 7, HX.out]; rfl
          have hcut : (Instr.slice 9 (.string E) (some (.int .i64 (64 * (k : Int)))) (some (.int .i64 (64 * (k : Int) + 64))) none).run Tryd.prog wd = .ok (S ((E.data.toList.drop (64 * k)).take 64)) wd := by
            have := cut_run (P := Tryd.prog) 9 Tryd.underlying9 E (64 * k) 64 (by omega) wd
            rw [← this]; simp
          simp only [List.take_succ_cons, List.take_zero, List.drop_succ_cons, List.drop_zero]
          repeat still_step
          refine wpStill_nil ?_
          have HTd := Lib.hid (HT.out.below hbd hpos)
          have Hok := Lib.hid (show X.ok by rw [HX.out]; exact Sha.runs_ok _ (Sha.runs_ok _ Sha.start_ok n) k)
          clear c0 c1 c2 c3 c4 c5 c6 c7 hcut
          go_wp2_with fail
          refine (step_run X E k wd HTd.out Hok.out (by omega)).mono ?_
          rintro e w2 ⟨rfl, hb2⟩
          have hg2 := HN2.out.lt
          have hg1 := HR2.out.lt
          have HR3 := Lib.hid (HR2.out.below hb2 hg1)
          have HN3 := Lib.hid (HN2.out.below hb2 hg2)
          go_wp2_with (refine wpList_store_named rfl 58 (.tmp 3) (.tmp 45) rfl g _ rfl rfl _ HN3.out I58.out (st8_size2 _ _) (st8_one _) ?_; intro wE hwE; have HwE := Lib.hid hwE; clear hwE)
          have hwE := HwE.out
          refine ⟨⟨k + 1, by omega, by go_num, ?_, ?_, ?_⟩, by simp only [intOf]; omega⟩
          · rw [hwE]; exact HR3.out.rowFar (by omega) _
          · rw [hwE]
            have := HN3.out.row (st8 (Sha.step X (List.take 64 (List.drop (64 * k) E.data.toList))))
            rw [HX.out] at this
            rw [HX.out]
            exact this
          · rw [hwE]; exact below_setRow (hbd.trans (hb2.mono hbd.size)) (by omega) _
        · have hlt2 : ¬ (64 * (k : Int) < (E.size : Int)) := by omega
          have ek : k = E.size / 64 := by omega
          rw [ek] at HN
          have hok := Sha.runs_ok E.data.toList (Sha.runs_ok s.data.toList Sha.start_ok n) (E.size / 64)
          obtain ⟨X, hX⟩ : ∃ X, X = Sha.runs (Sha.runs Sha.start s.data.toList n) E.data.toList (E.size / 64) := ⟨_, rfl⟩
          have hsum := Hsum.out
          rw [← hX] at HN hok hsum
          have HX := Lib.hid hsum
          clear hsum hX
          have Hok := Lib.hid hok
          obtain ⟨TN, hTN⟩ := HN.out
          have HTN := Lib.hid hTN
          clear hok hTN ek hlt hk
          go_wp2_with (refine wpList_load_row rfl 58 (.tmp 3) rfl g rfl TN _ (0, 0) _ HTN.out Tryd.underlying58 rfl I58.out ?_)
          refine (hash_any X wr Hok.out).mono ?_
          rintro e w3 ⟨rfl, hb3⟩
          have hR3 := HR.out.below hb3 HR.out.lt
          have HR3 := Lib.hid hR3
          have hz := bRow_size (Sha.bytes X) (by rw [Sha.bytes_len]; omega)
          have I24b := Lib.hid (I24.out.trans (congrArg some hz.symm))
          have Hold := Lib.hid ((bRow_size [] (by simp)).trans hz.symm)
          clear hR3 hz
          go_wp2_with (refine wpList_store_named rfl 24 (.tmp 2) (.tmp 47) rfl w.heap.size (bRow (Sha.bytes X)) rfl rfl _ HR3.out I24b.out Hold.out (bRow_one _) ?_; intro w5 hw5)
          obtain ⟨T5, hT5⟩ := (show Holds w5 w.heap.size (bRow (Sha.bytes X)) from by rw [hw5]; exact HR3.out.row _)
          exact bodyPost_ret (results_cell_row rfl _ _ w.heap.size T5 _ (0, 0) _ rfl hT5 Tryd.underlying24 rfl I24b.out) rfl ⟨by rw [HX.out], by rw [hw5]; exact below_setRow (hb.trans (hb3.mono hb.size)) (Nat.le_refl _) _⟩
end Go.Proofs.YtdifbndpgbdkbaaDoor
