/- Contracts of package digest: Sum, Chain, halves, roots. -/
import Derived.Test.YtdekcicgiflnbaaDoorMShaA
import Derived.Test.YtdekcicgiflnbaaDoorMOctA
import Derived.Laws.ResultCell
import Derived.DeepKeys
import Derived.Shelf.Small.Bits
import Derived.Deep.RegionHeld3
/- ---- ShaSum ---- -/
namespace Go.Proofs.YtdekcicgiflnbaaDoor
open Go.RowKit
set_option linter.unusedVariables false
set_option linter.unusedSimpArgs false

namespace Sha
theorem runs_take (s : St) (l m : List UInt8) : ∀ n, 64 * n ≤ l.length → runs s (l ++ m) n = runs s l n
  | 0, _ => rfl
  | n + 1, h => by
    simp only [runs]
    rw [runs_take s l m n (by omega), List.drop_append_of_le_length (by omega), List.take_append_of_le_length (by rw [List.length_drop]; omega)]
theorem runs_app (s : St) (l m : List UInt8) (n : Nat) (h : l.length = 64 * n) : ∀ k, runs s (l ++ m) (n + k) = runs (runs s l n) m k
  | 0 => runs_take s l m n (by omega)
  | k + 1 => by
    rw [← Nat.add_assoc]
    simp only [runs]
    rw [runs_app s l m n h k, Nat.mul_add, ← h, ← List.drop_drop, List.drop_left]
end Sha
theorem padded_len (r : List UInt8) (n : Nat) (h : r.length < 64) : (padded r n).length = if r.length + 9 > 64 then 128 else 64 := by
  unfold padded
  simp only [List.length_append, List.length_cons, List.length_replicate, Sha.len8_len]
  split <;> omega
theorem pad_split (l : List UInt8) (n : Nat) (hn : n = l.length / 64) : Sha.pad l = l.take (64 * n) ++ padded (l.drop (64 * n)) l.length := by
  unfold Sha.pad padded
  have hl : (l.drop (64 * n)).length = l.length % 64 := by rw [List.length_drop]; omega
  have e : (if (l.drop (64 * n)).length + 9 > 64 then 128 else 64) - (l.drop (64 * n)).length - 9 = (119 - l.length % 64) % 64 := by
    rw [hl]; split <;> omega
  rw [e, ← List.append_assoc, List.take_append_drop]
/-- in two runs -/
theorem sum_split (l : List UInt8) (n k : Nat) (hn : n = l.length / 64) (hk : 64 * k = (padded (l.drop (64 * n)) l.length).length) :
    Sha.sum l = Sha.bytes (Sha.runs (Sha.runs Sha.start l n) (padded (l.drop (64 * n)) l.length) k) := by
  have h1 : (l.take (64 * n)).length = 64 * n := by rw [List.length_take]; omega
  have h2 : Sha.runs Sha.start l n = Sha.runs Sha.start (l.take (64 * n)) n := by
    conv => lhs; rw [← List.take_append_drop (64 * n) l]
    exact Sha.runs_take _ _ _ n (by omega)
  unfold Sha.sum
  rw [h2, ← Sha.runs_app _ _ _ n h1 k, pad_split l n hn]
  congr 2
  rw [List.length_append, h1, ← hk]
  omega
/-- a drawn region whose head is still; the world by a name -/
theorem region_tail {P : Program} {id : Nat} {Q : Exit → Act → World → Prop} {a : Act} {w : World} {l : List Oper} (n : Nat) (hm : P.follows .mixedOrders = true) (hB : Region.lexTailB .any l.toArray n = true)
    (h : ∀ w', w' = w.drew → wpStill P l.toArray w' (fun a' => wpList P l.toArray Q (l.drop n) a' w') (l.take n) a) : (Code.region id l.toArray true).wp P Q a w :=
  wp_region_still_tail n hm hB (h _ rfl)
theorem st8_size2 (a b : Sha.St) : (st8 a).size = (st8 b).size := by unfold st8; rfl
theorem rest_run {P : Program} (t : TypeId) (ht : P.underlying t = some .string) (s : ByteArray) (k : Nat) (h : k ≤ s.size) (W : World) :
    (Instr.slice t (.string s) (some (.int .i64 (k : Int))) none none).run P W = .ok (S (s.data.toList.drop k)) W := by
  rw [run_slice_string_l W t s ht .i64 _ (by omega) (by omega), Int.toNat_natCast]
  have e : s.data.toList.length = s.size := rfl
  have h2 : k + (s.size - k) = s.size := by omega
  conv => lhs; rw [← h2]
  rw [extract_list, List.take_of_length_le (by rw [List.length_drop, e]; omega)]
set_option maxRecDepth 20000 in
/-- one block -/
theorem step_run (st : Sha.St) (s : ByteArray) (k : Nat) (w : World) (hT : Tab w) (hst : st.ok) (hs : 64 * (k + 1) ≤ s.size) :
    Calls Tryd.prog 99 #[.agg (st8 st), S ((s.data.toList.drop (64 * k)).take 64)] w fun e w' => e = .returned (.agg (st8 (Sha.step st ((s.data.toList.drop (64 * k)).take 64)))) ∧ Below w.heap.size w w' := by
  have e : s.data.toList.length = s.size := rfl
  refine step_any st _ w hT hst ?_
  show ((s.data.toList.drop (64 * k)).take 64).toArray.size = 64
  simp only [List.size_toArray, List.length_take, List.length_drop, e]
  omega
set_option maxHeartbeats 1000000 in
set_option maxRecDepth 100000 in
theorem sum_any (s : ByteArray) (w : World) (hT : Tab w) (hs : s.size ≤ 1152921504606846975) :
    Calls Tryd.prog 60 #[.string s] w fun e w' => e = .returned (.agg (bRow (Sha.sum s.data.toList))) ∧ Below w.heap.size w w' := by
  have HT := Lib.hid hT
  have hpos := hT.pos
  have i58 : (Tryd.prog.info? 115).map (·.size) = some 8 := by kernel_rfl
  have I58 := Lib.hid i58
  have i24 : (Tryd.prog.info? 23).map (·.size) = some 32 := by kernel_rfl
  have I24 := Lib.hid i24
  have hnn : (s.size : Int) ≤ 1152921504606846975 := by omega
  have hmod : (s.size : Int) - (s.size : Int) % 64 = ((64 * (s.size / 64) : Nat) : Int) := by omega
  clear i58 i24 hT
  go_enter Tryd.func60, Tryd.ntmps60
  go_wp2_with fail
  refine (start_any _).mono ?_
  rintro e w1 ⟨rfl, hb1⟩
  go_wp2_with (refine wpList_store_named rfl 115 (.tmp 3) (.tmp 8) rfl w1.heap.size _ rfl rfl (st8 ⟨0, 0, 0, 0, 0, 0, 0, 0⟩) (Holds.new2 rfl rfl) I58.out rfl (st8_one _) ?_; intro wA hwA; have HwA := Lib.hid hwA; clear hwA)
  have hwA := HwA.out
  have hB0 : Below w.heap.size w w1 := ((Below.refl _ _).alloc (Nat.le_refl _) _).trans (hb1.mono (by simp))
  have hlt1 : w.heap.size < w1.heap.size := by have := hb1.size; simp at this; omega
  have hBA : Below w.heap.size w wA := by rw [hwA]; exact below_setRow (hB0.alloc hB0.size _) hB0.size _
  have hR : Holds wA w.heap.size (bRow []) := by
    rw [hwA]
    exact (((Holds.new2 rfl rfl).below hb1 (by simp)).alloc _).rowFar (by omega) _
  have hN : Holds wA w1.heap.size (st8 Sha.start) := by
    rw [hwA]
    exact (Holds.new _ _ _).row _
  clear hwA HwA hb1 hB0
  generalize hg : w1.heap.size = g at *
  clear hg
  go_loopw [5] (fun i wr => ∃ k : Nat, k ≤ s.size / 64 ∧ i = .int .i64 (64 * (k : Int)) ∧ Holds wr w.heap.size (bRow []) ∧ Holds wr g (st8 (Sha.runs Sha.start s.data.toList k)) ∧ Below w.heap.size w wr) (fun i _ => s.size - (intOf i).toNat)
  case atStart => exact ⟨0, by omega, rfl, hR, hN, hBA⟩
  case round =>
    clear hR hN hBA
    obtain ⟨k, hk, rfl, hR, hN, hb⟩ := hrel
    have HR := Lib.hid hR
    have HN := Lib.hid hN
    clear hR hN
    by_cases hlt : k < s.size / 64
    · have hlt2 : (k : Int) < (s.size : Int) / 64 := by omega
      have hwr1 : IntKind.i64.wrap (64 * (k : Int) + 64) = 64 * (k : Int) + 64 := by rw [IntKind.wrap_i64]; omega
      go_wp2_with fail
      refine region_tail 6 (by kernel_rfl) (by kernel_rfl) ?_
      intro wd hwd
      have HR2 := Lib.hid (show Holds wd w.heap.size (bRow []) from by rw [hwd]; exact HR.out.drew)
      have HN2 := Lib.hid (show Holds wd g (st8 (Sha.runs Sha.start s.data.toList k)) from by rw [hwd]; exact HN.out.drew)
      have hbd : Below w.heap.size w wd := by rw [hwd]; exact hb.drew
      clear HR HN hb hwd
      obtain ⟨X, hX⟩ : ∃ X, X = Sha.runs Sha.start s.data.toList k := ⟨_, rfl⟩
      have HX := Lib.hid hX
      clear hX
      have c0 : wd.cell? ⟨g, 0, none⟩ = some (.int .u32 (X.a : Nat)) := by rw [HN2.out.cell 0, HX.out]; rfl
      have c1 : wd.cell? ⟨g, 1, none⟩ = some (.int .u32 (X.b : Nat)) := by rw [HN2.out.cell 1, HX.out]; rfl
      have c2 : wd.cell? ⟨g, 2, none⟩ = some (.int .u32 (X.c : Nat)) := by rw [HN2.out.cell 2, HX.out]; rfl
      have c3 : wd.cell? ⟨g, 3, none⟩ = some (.int .u32 (X.d : Nat)) := by rw [HN2.out.cell 3, HX.out]; rfl
      have c4 : wd.cell? ⟨g, 4, none⟩ = some (.int .u32 (X.e : Nat)) := by rw [HN2.out.cell 4, HX.out]; rfl
      have c5 : wd.cell? ⟨g, 5, none⟩ = some (.int .u32 (X.f : Nat)) := by rw [HN2.out.cell 5, HX.out]; rfl
      have c6 : wd.cell? ⟨g, 6, none⟩ = some (.int .u32 (X.g : Nat)) := by rw [HN2.out.cell 6, HX.out]; rfl
      have c7 : wd.cell? ⟨g, 7, none⟩ = some (.int .u32 (X.h : Nat)) := by rw [HN2.out.cell 7, HX.out]; rfl
      have hcut : (Instr.slice 9 (.string s) (some (.int .i64 (64 * (k : Int)))) (some (.int .i64 (64 * (k : Int) + 64))) none).run Tryd.prog wd = .ok (S ((s.data.toList.drop (64 * k)).take 64)) wd := by
        have := cut_run (P := Tryd.prog) 9 Tryd.underlying9 s (64 * k) 64 (by omega) wd
        rw [← this]; simp
      simp only [List.take_succ_cons, List.take_zero, List.drop_succ_cons, List.drop_zero]
      repeat still_step
      refine wpStill_nil ?_
      have HTd := Lib.hid (HT.out.below hbd hpos)
      have Hok := Lib.hid (show X.ok by rw [HX.out]; exact Sha.runs_ok _ Sha.start_ok k)
      clear c0 c1 c2 c3 c4 c5 c6 c7 hcut
      go_wp2_with fail
      refine (step_run X s k wd HTd.out Hok.out (by omega)).mono ?_
      rintro e w2 ⟨rfl, hb2⟩
      have hg2 := HN2.out.lt
      have hg1 := HR2.out.lt
      have HR3 := Lib.hid (HR2.out.below hb2 hg1)
      have HN3 := Lib.hid (HN2.out.below hb2 hg2)
      go_wp2_with (refine wpList_store_named rfl 115 (.tmp 3) (.tmp 26) rfl g _ rfl rfl _ HN3.out I58.out (st8_size2 _ _) (st8_one _) ?_; intro wE hwE; have HwE := Lib.hid hwE; clear hwE)
      have hwE := HwE.out
      refine ⟨⟨k + 1, by omega, by go_num, ?_, ?_, ?_⟩, by simp only [intOf]; omega⟩
      · rw [hwE]; exact HR3.out.rowFar (by omega) _
      · rw [hwE]
        have := HN3.out.row (st8 (Sha.step X (List.take 64 (List.drop (64 * k) s.data.toList))))
        rw [HX.out] at this
        rw [HX.out]
        exact this
      · rw [hwE]; exact below_setRow (hbd.trans (hb2.mono hbd.size)) (by omega) _
    · have ek : k = s.size / 64 := by omega
      subst ek
      clear hk hlt
      have hcut2 : ∀ W, (Instr.slice 9 (.string s) (some (.int .i64 (64 * ((s.size : Int) / 64)))) none none).run Tryd.prog W = .ok (S (s.data.toList.drop (64 * (s.size / 64)))) W := by
        intro W
        have := rest_run (P := Tryd.prog) 9 Tryd.underlying9 s (64 * (s.size / 64)) (by omega) W
        rw [← this]; simp
      obtain ⟨n, hn⟩ : ∃ n, n = s.size / 64 := ⟨_, rfl⟩
      have el : s.data.toList.length = s.size := rfl
      have hrl : (s.data.toList.drop (64 * n)).length < 64 := by rw [List.length_drop, el]; omega
      obtain ⟨E, hE⟩ : ∃ E : ByteArray, E = ⟨(padded (s.data.toList.drop (64 * n)) s.size).toArray⟩ := ⟨_, rfl⟩
      have hEl : E.data.toList = padded (s.data.toList.drop (64 * n)) s.size := by rw [hE]
      have hEz : E.size = (padded (s.data.toList.drop (64 * n)) s.size).length := by rw [hE]; rfl
      have hLl := padded_len (s.data.toList.drop (64 * n)) s.size hrl
      rw [← hEz] at hLl
      have hL2 : E.size ≤ 128 := by rw [hLl]; split <;> omega
      have hL3 : E.size % 64 = 0 := by rw [hLl]; split <;> rfl
      have hsum := sum_split s.data.toList n (E.size / 64) (by rw [el]; exact hn) (by rw [el, ← hEz]; omega)
      rw [el, ← hEl] at hsum
      have hpad := padded_any ⟨(s.data.toList.drop (64 * n)).toArray⟩ s.size wr hrl hs
      change Calls Tryd.prog 100 #[S (s.data.toList.drop (64 * n)), .int .i64 s.size] wr (fun e w' => e = .returned (.string ⟨(padded (s.data.toList.drop (64 * n)) s.size).toArray⟩) ∧ Below wr.heap.size wr w') at hpad
      rw [← hE] at hpad
      have Hpad := Lib.hid hpad
      have Hsum := Lib.hid hsum
      rw [← hn] at hcut2 HN
      clear hpad hsum hE hEl hEz hLl hrl el
      go_wp2_with fail
      rw [← hn]
      refine Hpad.out.mono ?_
      rintro e w2 ⟨rfl, hb2⟩
      have hR := HR.out.below hb2 HR.out.lt
      have hN := HN.out.below hb2 HN.out.lt
      have hb := hb.trans (hb2.mono hb.size)
      have HN := Lib.hid hN
      have HR := Lib.hid hR
      have Hcut2 := Lib.hid hcut2
      clear hcut2 hN hR
      go_wp2_with fail
      go_loopw [7] (fun i wr => ∃ k : Nat, k ≤ E.size / 64 ∧ i = .int .i64 (64 * (k : Int)) ∧ Holds wr w.heap.size (bRow []) ∧ Holds wr g (st8 (Sha.runs (Sha.runs Sha.start s.data.toList n) E.data.toList k)) ∧ Below w.heap.size w wr) (fun i _ => E.size - (intOf i).toNat)
      case atStart => exact ⟨0, by omega, rfl, HR.out, HN.out, hb⟩
      case round =>
        clear HR HN hb
        obtain ⟨k, hk, rfl, hR, hN, hb⟩ := hrel
        have HR := Lib.hid hR
        have HN := Lib.hid hN
        clear hR hN
        by_cases hlt : k < E.size / 64
        · have hlt2 : 64 * (k : Int) < (E.size : Int) := by omega
          have hwr1 : IntKind.i64.wrap (64 * (k : Int) + 64) = 64 * (k : Int) + 64 := by rw [IntKind.wrap_i64]; omega
          go_wp2_with fail
          refine region_tail 6 (by kernel_rfl) (by kernel_rfl) ?_
          intro wd hwd
          have HR2 := Lib.hid (show Holds wd w.heap.size (bRow []) from by rw [hwd]; exact HR.out.drew)
          have HN2 := Lib.hid (show Holds wd g (st8 (Sha.runs (Sha.runs Sha.start s.data.toList n) E.data.toList k)) from by rw [hwd]; exact HN.out.drew)
          have hbd : Below w.heap.size w wd := by rw [hwd]; exact hb.drew
          clear HR HN hb hwd
          obtain ⟨X, hX⟩ : ∃ X, X = Sha.runs (Sha.runs Sha.start s.data.toList n) E.data.toList k := ⟨_, rfl⟩
          have HX := Lib.hid hX
          clear hX
          have c0 : wd.cell? ⟨g, 0, none⟩ = some (.int .u32 (X.a : Nat)) := by rw [HN2.out.cell 0, HX.out]; rfl
          have c1 : wd.cell? ⟨g, 1, none⟩ = some (.int .u32 (X.b : Nat)) := by rw [HN2.out.cell 1, HX.out]; rfl
          have c2 : wd.cell? ⟨g, 2, none⟩ = some (.int .u32 (X.c : Nat)) := by rw [HN2.out.cell 2, HX.out]; rfl
          have c3 : wd.cell? ⟨g, 3, none⟩ = some (.int .u32 (X.d : Nat)) := by rw [HN2.out.cell 3, HX.out]; rfl
          have c4 : wd.cell? ⟨g, 4, none⟩ = some (.int .u32 (X.e : Nat)) := by rw [HN2.out.cell 4, HX.out]; rfl
          have c5 : wd.cell? ⟨g, 5, none⟩ = some (.int .u32 (X.f : Nat)) := by rw [HN2.out.cell 5, HX.out]; rfl
          have c6 : wd.cell? ⟨g, 6, none⟩ = some (.int .u32 (X.g : Nat)) := by rw [HN2.out.cell 6, HX.out]; rfl
          have c7 : wd.cell? ⟨g, 7, none⟩ = some (.int .u32 (X.h : Nat)) := by rw [HN2.out.cell 7, HX.out]; rfl
          have hcut : (Instr.slice 9 (.string E) (some (.int .i64 (64 * (k : Int)))) (some (.int .i64 (64 * (k : Int) + 64))) none).run Tryd.prog wd = .ok (S ((E.data.toList.drop (64 * k)).take 64)) wd := by
            have := cut_run (P := Tryd.prog) 9 Tryd.underlying9 E (64 * k) 64 (by omega) wd
            rw [← this]; simp
          simp only [List.take_succ_cons, List.take_zero, List.drop_succ_cons, List.drop_zero]
          repeat still_step
          refine wpStill_nil ?_
          have HTd := Lib.hid (HT.out.below hbd hpos)
          have Hok := Lib.hid (show X.ok by rw [HX.out]; exact Sha.runs_ok _ (Sha.runs_ok _ Sha.start_ok n) k)
          clear c0 c1 c2 c3 c4 c5 c6 c7 hcut
          go_wp2_with fail
          refine (step_run X E k wd HTd.out Hok.out (by omega)).mono ?_
          rintro e w2 ⟨rfl, hb2⟩
          have hg2 := HN2.out.lt
          have hg1 := HR2.out.lt
          have HR3 := Lib.hid (HR2.out.below hb2 hg1)
          have HN3 := Lib.hid (HN2.out.below hb2 hg2)
          go_wp2_with (refine wpList_store_named rfl 115 (.tmp 3) (.tmp 45) rfl g _ rfl rfl _ HN3.out I58.out (st8_size2 _ _) (st8_one _) ?_; intro wE hwE; have HwE := Lib.hid hwE; clear hwE)
          have hwE := HwE.out
          refine ⟨⟨k + 1, by omega, by go_num, ?_, ?_, ?_⟩, by simp only [intOf]; omega⟩
          · rw [hwE]; exact HR3.out.rowFar (by omega) _
          · rw [hwE]
            have := HN3.out.row (st8 (Sha.step X (List.take 64 (List.drop (64 * k) E.data.toList))))
            rw [HX.out] at this
            rw [HX.out]
            exact this
          · rw [hwE]; exact below_setRow (hbd.trans (hb2.mono hbd.size)) (by omega) _
        · have hlt2 : ¬ (64 * (k : Int) < (E.size : Int)) := by omega
          have ek : k = E.size / 64 := by omega
          rw [ek] at HN
          have hok := Sha.runs_ok E.data.toList (Sha.runs_ok s.data.toList Sha.start_ok n) (E.size / 64)
          obtain ⟨X, hX⟩ : ∃ X, X = Sha.runs (Sha.runs Sha.start s.data.toList n) E.data.toList (E.size / 64) := ⟨_, rfl⟩
          have hsum := Hsum.out
          rw [← hX] at HN hok hsum
          have HX := Lib.hid hsum
          clear hsum hX
          have Hok := Lib.hid hok
          obtain ⟨TN, hTN⟩ := HN.out
          have HTN := Lib.hid hTN
          clear hok hTN ek hlt hk
          go_wp2_with (refine wpList_load_row rfl 115 (.tmp 3) rfl g rfl TN _ (0, 0) _ HTN.out Tryd.underlying115 rfl I58.out ?_)
          refine (hash_any X wr Hok.out).mono ?_
          rintro e w3 ⟨rfl, hb3⟩
          have hR3 := HR.out.below hb3 HR.out.lt
          have HR3 := Lib.hid hR3
          have hz := bRow_size (Sha.bytes X) (by rw [Sha.bytes_len]; omega)
          have I24b := Lib.hid (I24.out.trans (congrArg some hz.symm))
          have Hold := Lib.hid ((bRow_size [] (by simp)).trans hz.symm)
          clear hR3 hz
          go_wp2_with (refine wpList_store_named rfl 23 (.tmp 2) (.tmp 47) rfl w.heap.size (bRow (Sha.bytes X)) rfl rfl _ HR3.out I24b.out Hold.out (bRow_one _) ?_; intro w5 hw5)
          obtain ⟨T5, hT5⟩ := (show Holds w5 w.heap.size (bRow (Sha.bytes X)) from by rw [hw5]; exact HR3.out.row _)
          exact bodyPost_ret (results_cell_row rfl _ _ w.heap.size T5 _ (0, 0) _ rfl hT5 Tryd.underlying23 rfl I24b.out) rfl ⟨by rw [HX.out], by rw [hw5]; exact below_setRow (hb.trans (hb3.mono hb.size)) (Nat.le_refl _) _⟩
end Go.Proofs.YtdekcicgiflnbaaDoor

/- ---- ShaChain ---- -/
namespace Go.Proofs.YtdekcicgiflnbaaDoor
open Go.RowKit
set_option linter.unusedVariables false
set_option linter.unusedSimpArgs false

theorem bRow_yRow (h : List UInt8) (hh : h.length = 32) : bRow h = yRow h := by
  unfold bRow yRow
  rw [hh]
  simp
/-- the world of a call by a name -/
theorem calls_named {P : Program} {f : Nat} {a : Array Value} {w : World} {K : Ending → World → Prop} (h : ∀ w', w' = w → Calls P f a w' K) : Calls P f a w K := h _ rfl
set_option maxRecDepth 20000 in
/-- a hash's row as a text -/
theorem hash_text (W : World) (g : Nat) (h : List UInt8) (hh : h.length = 32) (hg : Holds W g (bRow h)) :
    (Go.convert 81 9 (.slice (some ⟨g, 0, none⟩) 32 32)).run Tryd.prog W = .ok (S h) W := by
  have := run_convert_bytes_arg (P := Tryd.prog) W 81 5 Tryd.underlying81 Tryd.underlying5 g 0 32 32 (h.map fun b => (b.toNat : Int)) (by rw [List.length_map, hh]) (fun i hi => by
    rw [Nat.zero_add, hg.cell i, bRow_yRow h hh]
    exact yRow_at h i (by omega)) 9 Tryd.underlying9
  rw [bytes_of_] at this
  exact this
set_option maxHeartbeats 1000000 in
set_option maxRecDepth 100000 in
theorem chain_any (h : List UInt8) (s : ByteArray) (w : World) (hT : Tab w) (hh : h.length = 32) (hs : s.size ≤ 1152921504606846900) :
    Calls Tryd.prog 113 #[.agg (bRow h), .string s] w fun e w' => e = .returned (.agg (bRow (Sha.sum (h ++ s.data.toList)))) ∧ Below w.heap.size w w' := by
  have HT := Lib.hid hT
  have hpos := hT.pos
  have HH := Lib.hid hh
  have hbig : ¬ (9223372036854775807 < h.length + s.size) := by omega
  have i24 : (Tryd.prog.info? 23).map (·.size) = some 32 := by kernel_rfl
  have I24 := Lib.hid i24
  clear hT hh i24
  go_enter Tryd.func113, Tryd.ntmps113
  go_wp2_with fail
  rw [hash_text _ _ h HH.out ((Holds.new _ _ _).alloc _)]
  go_wp2_with fail
  have hsz : ((⟨h.toArray⟩ : ByteArray) ++ s).size = 32 + s.size := by rw [ByteArray.size_append, ← HH.out]; rfl
  have hdl : ((⟨h.toArray⟩ : ByteArray) ++ s).data.toList = h ++ s.data.toList := by rw [ByteArray.data_append]; simp
  refine calls_named ?_
  intro w1 hw1
  have hR : Holds w1 (w.heap.size + 1) (bRow []) := by rw [hw1]; exact Holds.new2 (by simp) rfl
  have hb1 : Below w.heap.size w w1 := by rw [hw1]; exact ((Below.refl _ _).alloc (Nat.le_refl _) _).alloc (by simp) _
  have HR := Lib.hid hR
  clear hw1 hR
  refine (sum_any _ w1 (HT.out.below hb1 hpos) (by rw [hsz]; omega)).mono ?_
  rw [hdl]
  rintro e w2 ⟨rfl, hb2⟩
  have HR2 := Lib.hid (HR.out.below hb2 HR.out.lt)
  have hz := bRow_size (Sha.sum (h ++ s.data.toList)) (by rw [Sha.sum_len]; omega)
  have I24b := Lib.hid (I24.out.trans (congrArg some hz.symm))
  have Hold := Lib.hid ((bRow_size [] (by simp)).trans hz.symm)
  clear hz hsz hdl
  go_wp2_with (refine wpList_store_named rfl 23 (.tmp 4) (.tmp 9) rfl (w.heap.size + 1) (bRow (Sha.sum (h ++ s.data.toList))) rfl rfl _ HR2.out I24b.out Hold.out (bRow_one _) ?_; intro w5 hw5)
  obtain ⟨T5, hT5⟩ := (show Holds w5 (w.heap.size + 1) (bRow (Sha.sum (h ++ s.data.toList))) from by rw [hw5]; exact HR2.out.row _)
  exact bodyPost_ret (results_cell_row rfl _ _ (w.heap.size + 1) T5 _ (0, 0) _ rfl hT5 Tryd.underlying23 rfl I24b.out) rfl ⟨rfl, by rw [hw5]; exact below_setRow (hb1.trans (hb2.mono hb1.size)) (by omega) _⟩
end Go.Proofs.YtdekcicgiflnbaaDoor

/- ---- SealMath ---- -/
namespace Go.Proofs.YtdekcicgiflnbaaDoor
set_option linter.unusedVariables false
set_option linter.unusedSimpArgs false
namespace Seal
/-- 32 bytes of nothing -/
def hz : List UInt8 := List.replicate 32 0
def keyL (who : Nat) : List UInt8 := Sha.sum ([107, 101, 121] ++ Oct.num who)
def key (who : Int) : List UInt8 × Int := if who < 0 ∨ 64 < who then (hz, 20) else (keyL who.toNat, 0)
def tagL (k : List UInt8) (dom : Nat) (body : List UInt8) : List UInt8 := Sha.sum (k ++ UInt8.ofNat dom :: body)
def tag (who dom : Int) (body : List UInt8) : List UInt8 × Int :=
  if who < 0 ∨ 64 < who then (hz, 20) else if dom < 1 ∨ 4 < dom then (hz, 2) else (tagL (keyL who.toNat) dom.toNat body, 0)
def check (who dom : Int) (body t : List UInt8) : Int :=
  if who < 0 ∨ 64 < who then 20 else if dom < 1 ∨ 4 < dom then 2 else if tagL (keyL who.toNat) dom.toNat body ≠ t then 21 else 0
theorem hz_len : hz.length = 32 := by simp [hz]
theorem keyL_len (who : Nat) : (keyL who).length = 32 := Sha.sum_len _
theorem tagL_len (k : List UInt8) (dom : Nat) (body : List UInt8) : (tagL k dom body).length = 32 := Sha.sum_len _
theorem key_len (who : Int) : (key who).1.length = 32 := by unfold key; split; exact hz_len; exact keyL_len _
theorem tag_len (who dom : Int) (body : List UInt8) : (tag who dom body).1.length = 32 := by
  unfold tag; split
  · exact hz_len
  · split
    · exact hz_len
    · exact tagL_len _ _ _
theorem num_zero : Oct.num 0 = [0] := by decide
theorem num_small (n : Nat) (h0 : 0 < n) (h1 : n ≤ 64) : Oct.num n = [1, UInt8.ofNat n] := by
  have e : Oct.bigs 8 n = [UInt8.ofNat n] := by
    simp only [Oct.bigs]
    rw [if_neg (by omega), if_pos (by omega), Nat.mod_eq_of_lt (by omega)]
    rfl
  unfold Oct.num
  rw [e]
  rfl
theorem keyL_zero : keyL 0 = Sha.sum [107, 101, 121, 0] := by unfold keyL; rw [num_zero]; rfl
theorem keyL_pos (n : Nat) (h0 : 0 < n) (h1 : n ≤ 64) : keyL n = Sha.sum [107, 101, 121, 1, UInt8.ofNat n] := by unfold keyL; rw [num_small n h0 h1]; rfl
end Seal
end Go.Proofs.YtdekcicgiflnbaaDoor

/- ---- SealNum ---- -/
namespace Go.Proofs.YtdekcicgiflnbaaDoor
open Go.RowKit
set_option linter.unusedVariables false
set_option linter.unusedSimpArgs false

set_option maxRecDepth 20000 in
set_option maxHeartbeats 400000 in
theorem Number_pos (n : Int) (w : World) (h0 : 0 ≤ n) (h1 : n ≤ 9223372036854775807) :
    Calls Tryd.prog 55 #[.int .i64 n] w fun e w' => e = .returned (.tuple #[S (Oct.num n.toNat), .int .i64 0]) ∧ Below w.heap.size w w' := by
  go_enter Tryd.func55, Tryd.ntmps55
  go_wp2_with fail
  refine (number_any n _ h0 h1).mono ?_
  rintro e w1 ⟨rfl, hb1⟩
  go_wp2_with fail
  go_ret2
  exact ⟨rfl, hb1⟩

theorem bRow_hz : bRow Seal.hz = bRow [] := by unfold bRow Seal.hz; rfl
/-- two results, the first of which lies in a block -/
theorem results_row_tmp {P : Program} {fn : Func} {p u : Tmp} {ty : TypeId} (h : fn.results = #[.cell p ty, .tmp u]) (tmps : Array Value) (w : World) (g : Nat) (cs : Array Value) (d : TypeDesc)
    (hp : tmps.getD p undef = .pointer (some ⟨g, 0, none⟩)) (hg : Holds w g cs)
    (hu : P.underlying ty = some d) (hd : (match d with | .struct _ | .array _ _ => true | _ => false) = true) (hi : (P.info? ty).map (·.size) = some cs.size) (x : Value) (hx : tmps.getD u undef = x) :
    (results fn tmps).run P w = .ok (.tuple #[.agg cs, x]) w := by
  obtain ⟨T, hg⟩ := hg
  rw [results_cell_tmp h, hp]
  have hl := run_loadVar_row w g T ty cs (0, 0) d hg hu hd hi
  have ha : (asAddr (.pointer (some ⟨g, 0, none⟩))).run P w = .ok ⟨g, 0, none⟩ w := rfl
  rw [ha]
  simp only [Result.andThen, hl, hx]
end Go.Proofs.YtdekcicgiflnbaaDoor

/- ---- HashEq ---- -/
namespace Go.Proofs.YtdekcicgiflnbaaDoor
open Go.RowKit
set_option linter.unusedVariables false
set_option linter.unusedSimpArgs false

theorem mapM_some {α β : Type} (f : α → Option β) (g : α → β) : ∀ l : List α, (∀ i ∈ l, f i = some (g i)) → l.mapM f = some (l.map g)
  | [], _ => rfl
  | a :: l, h => by
    rw [List.mapM_cons, h a (by simp), mapM_some f g l (fun i hi => h i (by simp [hi]))]
    rfl
theorem lit_wf : ∀ n : Fin 256, (Lit.int .u8 (n.1 : Int)).wf = true := by decide +kernel
theorem flat_one {α β : Type} (f : α → β) : ∀ l : List α, (l.map fun i => [f i]).flatten = l.map f
  | [] => rfl
  | a :: l => by rw [List.map_cons, List.flatten_cons, flat_one f l]; rfl
set_option maxRecDepth 20000 in
theorem hash_lits (R : List UInt8) (hR : R.length = 32) : Tryd.prog.keyLits 2 23 (bRow R).toList = some (R.map fun b => Lit.int .u8 (b.toNat : Int)) := by
  have hc : Tryd.prog.cellsOf 23 = 32 := by kernel_rfl
  have hc5 : Tryd.prog.cellsOf 5 = 1 := by kernel_rfl
  have hz : (bRow R).toList.length = 32 := by rw [Array.length_toList, bRow_size _ (by omega)]
  unfold Program.keyLits
  simp only [Tryd.underlying23]
  rw [if_pos (hz.trans hc.symm), mapM_some _ (fun i => [Lit.int .u8 ((R.getD i 0).toNat : Int)]) (List.range 32) (fun i hi => ?_)]
  · simp only [Option.map_some]
    rw [flat_one]
    congr 1
    apply List.ext_getElem
    · simp [hR]
    · intro i h1 h2
      have : i < R.length := by simpa using h2
      simp [List.getD, this]
  · have hi' : i < 32 := by simpa using hi
    have e : ((bRow R).toList.drop (i * Tryd.prog.cellsOf 5)).take (Tryd.prog.cellsOf 5) = [.int .u8 ((R.getD i 0).toNat : Int)] := by
      rw [hc5, Nat.mul_one, bRow_yRow R hR]
      unfold yRow
      rw [List.drop_eq_getElem_cons (by simp; omega)]
      simp [List.getD, show i < R.length by omega]
    rw [e]
    unfold Program.keyLits
    simp only [Tryd.underlying5]
    rw [if_pos ⟨trivial, lit_wf ⟨(R.getD i 0).toNat, (R.getD i 0).toNat_lt⟩⟩]
set_option maxRecDepth 20000 in
/-- two hashes: equal just where their bytes are -/
theorem hash_eq (W : World) (R Q : List UInt8) (hR : R.length = 32) (hQ : Q.length = 32) :
    (Op.equalIn 10000 23 (.agg (bRow R)) (.agg (bRow Q))).run Tryd.prog W = .ok (decide (R = Q)) W := by
  have hk : Tryd.prog.keyTypeAt 2 23 = true := by kernel_rfl
  have hf : ∀ X : List UInt8, X.length = 32 → (Value.agg (bRow X)).formed Tryd.prog 23 = true := by
    intro X hX
    have hc : Tryd.prog.cellsOf 23 = 32 := by kernel_rfl
    have hs := bRow_size X (by omega)
    simp [Value.formed, Tryd.underlying23, hs, hc]
  obtain ⟨r, hr, hiff⟩ := run_equalIn_deep (P := Tryd.prog) 9998 2 23 hk W 2 2 (.agg (bRow R)) (.agg (bRow Q)) _ _ (hf R hR) (hf Q hQ) (hash_lits R hR) (hash_lits Q hQ)
  have hinj : (R.map fun b => Lit.int .u8 (b.toNat : Int)) = (Q.map fun b => Lit.int .u8 (b.toNat : Int)) ↔ R = Q := by
    constructor
    · intro h
      refine List.map_inj_right (fun x y hxy => ?_) |>.1 h
      have : (x.toNat : Int) = (y.toNat : Int) := by injection hxy
      exact UInt8.toNat_inj.1 (by omega)
    · intro h; rw [h]
  rw [hinj] at hiff
  have e : r = decide (R = Q) := by
    by_cases h : R = Q
    · rw [decide_eq_true h]; exact hiff.2 h
    · rw [decide_eq_false h]
      cases r
      · rfl
      · exact absurd (hiff.1 rfl) h
  rw [← e]
  exact hr
end Go.Proofs.YtdekcicgiflnbaaDoor

/- ---- ShaHalf ---- -/
namespace Go.Proofs.YtdekcicgiflnbaaDoor
open Go.RowKit
set_option linter.unusedVariables false
set_option linter.unusedSimpArgs false

namespace Sha
/-- the greatest power of two below a number -/
def half (n : Nat) : Nat := 2 ^ Nat.log2 (n - 1)
theorem half_lt (n : Nat) (h : 2 ≤ n) : half n < n := by
  have := Nat.log2_self_le (n := n - 1) (by omega)
  unfold half; omega
theorem half_pos (n : Nat) : 0 < half n := Nat.two_pow_pos _
theorem half_ge (n : Nat) (h : 2 ≤ n) : n ≤ 2 * half n := by
  have := Nat.lt_log2_self (n := n - 1)
  rw [Nat.pow_succ] at this
  unfold half; omega
end Sha
theorem bitLen_log2 : ∀ k x : Nat, x < 2 ^ k → k ≤ 64 → 0 < x → Lib.bitLen x = Nat.log2 x + 1
  | 0, x, h, _, h0 => by simp at h; omega
  | k + 1, x, h, hk, h0 => by
    have hp : (2 : Nat) ^ (k + 1) ≤ 2 ^ 64 := Nat.pow_le_pow_right (by omega) hk
    rw [Lib.bitLen_half x (by omega) (by omega)]
    by_cases h2 : x < 2
    · have e : x = 1 := by omega
      subst e
      decide
    · rw [bitLen_log2 k (x / 2) (by rw [Nat.pow_succ] at h; omega) (by omega) (by omega)]
      conv => rhs; rw [Nat.log2_def, if_pos (by omega)]
      omega
end Go.Proofs.YtdekcicgiflnbaaDoor

/- ---- ShaRefHalf ---- -/
namespace Go.Proofs.YtdekcicgiflnbaaDoor
open Go.RowKit
set_option linter.unusedVariables false
set_option linter.unusedSimpArgs false

theorem half_unique (n j : Nat) (h2 : 2 ≤ n) (h : 2 ^ j < n) (h1 : n ≤ 2 * 2 ^ j) : Sha.half n = 2 ^ j := by
  unfold Sha.half
  have : Nat.log2 (n - 1) = j := (Nat.log2_eq_iff (by omega)).2 ⟨by omega, by rw [Nat.pow_succ]; omega⟩
  rw [this]
end Go.Proofs.YtdekcicgiflnbaaDoor

/- ---- ShaRoot ---- -/
namespace Go.Proofs.YtdekcicgiflnbaaDoor
open Go.RowKit
set_option linter.unusedVariables false
set_option linter.unusedSimpArgs false

namespace Sha
/-- a list's root, with fuel -/
def rootF : Nat → List (List UInt8) → List UInt8
  | 0, _ => []
  | f + 1, L => if L.length = 0 then sum [] else if L.length = 1 then sum (0 :: L.getD 0 []) else sum (1 :: (rootF f (L.take (half L.length)) ++ rootF f (L.drop (half L.length))))
def root (L : List (List UInt8)) : List UInt8 := rootF (L.length + 1) L
theorem rootF_any : ∀ f g L, L.length < f → L.length < g → rootF f L = rootF g L
  | 0, _, _, h, _ => by omega
  | _, 0, _, _, h => by omega
  | f + 1, g + 1, L, h1, h2 => by
    simp only [rootF]
    by_cases h0 : L.length = 0
    · rw [if_pos h0, if_pos h0]
    · by_cases h3 : L.length = 1
      · rw [if_neg h0, if_neg h0, if_pos h3, if_pos h3]
      · have hl := half_lt L.length (by omega)
        have hp := half_pos L.length
        rw [if_neg h0, if_neg h0, if_neg h3, if_neg h3, rootF_any f g (L.take (half L.length)) (by rw [List.length_take]; omega) (by rw [List.length_take]; omega),
          rootF_any f g (L.drop (half L.length)) (by rw [List.length_drop]; omega) (by rw [List.length_drop]; omega)]
theorem root_none : root [] = sum [] := rfl
theorem root_one (l : List UInt8) : root [l] = sum (0 :: l) := rfl
theorem root_more (L : List (List UInt8)) (h : 2 ≤ L.length) : root L = sum (1 :: (root (L.take (half L.length)) ++ root (L.drop (half L.length)))) := by
  have hl := half_lt L.length h
  have hp := half_pos L.length
  have e : root L = rootF (L.length + 1) L := rfl
  rw [e]
  simp only [rootF]
  rw [if_neg (by omega), if_neg (by omega)]
  unfold root
  rw [rootF_any L.length _ (L.take (half L.length)) (by rw [List.length_take]; omega) (Nat.lt_succ_self _), rootF_any L.length _ (L.drop (half L.length)) (by rw [List.length_drop]; omega) (Nat.lt_succ_self _)]
theorem root_len (L : List (List UInt8)) : (root L).length = 32 := by
  unfold root
  simp only [rootF]
  split
  · exact sum_len _
  · split <;> exact sum_len _
end Sha
/-- texts lie in memory from here on -/
def Lies (w : World) (B b off : Nat) (L : List (List UInt8)) : Prop := b < B ∧ ∀ i, i < L.length → w.cell? ⟨b, off + i, none⟩ = some (S (L.getD i []))
theorem Lies.take {w : World} {B b off : Nat} {L : List (List UInt8)} (h : Lies w B b off L) (k : Nat) : Lies w B b off (L.take k) :=
  ⟨h.1, fun i hi => by
    rw [List.length_take] at hi
    rw [h.2 i (by omega)]
    simp [List.getD, List.getElem?_take, show i < k by omega]⟩
theorem Lies.drop {w : World} {B b off : Nat} {L : List (List UInt8)} (h : Lies w B b off L) (k : Nat) : Lies w B b (off + k) (L.drop k) :=
  ⟨h.1, fun i hi => by
    rw [List.length_drop] at hi
    rw [Nat.add_assoc, h.2 (k + i) (by omega)]
    simp [List.getD, List.getElem?_drop]⟩
theorem Lies.below {w w' : World} {B C b off : Nat} {L : List (List UInt8)} (h : Lies w B b off L) (hb : Below C w w') (hC : B ≤ C) : Lies w' B b off L :=
  ⟨h.1, fun i hi => (hb.cell (p := ⟨b, off + i, none⟩) (by have := h.1; exact Nat.lt_of_lt_of_le this hC)).trans (h.2 i hi)⟩
theorem Lies.mono {w : World} {B C b off : Nat} {L : List (List UInt8)} (h : Lies w B b off L) (hC : B ≤ C) : Lies w C b off L := ⟨Nat.lt_of_lt_of_le h.1 hC, h.2⟩
/-- no text is too long -/
def Small (L : List (List UInt8)) : Prop := ∀ i, i < L.length → (L.getD i []).length ≤ 1152921504606846000
theorem Small.take {L : List (List UInt8)} (h : Small L) (k : Nat) : Small (L.take k) := fun i hi => by
  rw [List.length_take] at hi
  have := h i (by omega)
  simpa [List.getD, List.getElem?_take, show i < k by omega] using this
theorem Small.drop {L : List (List UInt8)} (h : Small L) (k : Nat) : Small (L.drop k) := fun i hi => by
  rw [List.length_drop] at hi
  have := h (k + i) (by omega)
  simpa [List.getD, List.getElem?_drop] using this

theorem Holds.cellsAt {b : Nat} : ∀ (vs old pre post : List Value) (w : World), old.length = vs.length → Holds w b (pre ++ (old ++ post)).toArray → Holds (w.setCells b pre.length vs) b (pre ++ (vs ++ post)).toArray
  | [], [], pre, post, w, _, h => h
  | v :: vs, x :: old, pre, post, w, hl, h => by
    have h1 := h.set_ pre.length v
    simp only [List.setIfInBounds_toArray] at h1
    rw [List.set_append_right _ _ (Nat.le_refl _), Nat.sub_self, List.cons_append, List.set_cons_zero] at h1
    have h2 := Holds.cellsAt vs old (pre ++ [v]) post _ (by simpa using hl) (by simpa using h1)
    simp only [List.length_append, List.length_singleton, List.append_assoc, List.singleton_append] at h2
    exact h2
  | [], _ :: _, _, _, _, hl, _ => by simp at hl
  | _ :: _, [], _, _, _, hl, _ => by simp at hl
theorem Holds.cells {w : World} {b : Nat} {cs V : Array Value} (h : Holds w b cs) (hs : cs.size = V.size) : Holds (w.setCells b 0 V.toList) b V := by
  have := Holds.cellsAt (b := b) V.toList cs.toList [] [] w (by simpa using hs) (by simpa using h)
  simpa using this
theorem Holds.there {w : World} {b n : Nat} {cs : Array Value} (h : Holds w b cs) (hs : n = cs.size) : w.there b 0 n := fun j hj => by
  rw [Nat.zero_add]
  refine ⟨?_, h.free j⟩
  rw [h.cell j, Array.getElem?_eq_getElem (by omega)]
  rfl
theorem below_cells {B b : Nat} {a : World} (hb : B ≤ b) : ∀ (vs : List Value) (o : Nat) (w : World), Below B a w → Below B a (w.setCells b o vs)
  | [], _, _, h => h
  | v :: vs, o, w, h => below_cells hb vs (o + 1) _ (h.setCell hb _)
/-- below stands what stood, the result's row lies -/
def Kept (w w' : World) : Prop := Below w.heap.size w w' ∧ ∃ cs, cs.size = 32 ∧ Holds w' w.heap.size cs
theorem kept_step {w w' w'' : World} {V : Array Value} (hb : Below w'.heap.size w' w'') (hV : V.size = 32) (h : Kept w w' ∧ w'.there w.heap.size 0 V.toList.length) : Kept w w'' ∧ w''.there w.heap.size 0 V.toList.length := by
  obtain ⟨⟨h1, cs, h2, h3⟩, _⟩ := h
  have h4 := h3.below hb h3.lt
  exact ⟨⟨h1.trans (hb.mono h1.size), cs, h2, h4⟩, h4.there (by simp [h2, hV])⟩
theorem kept_cells {w w' : World} {V : Array Value} (hV : V.size = 32) (h : Kept w w' ∧ w'.there w.heap.size 0 V.toList.length) :
    (Kept w (w'.setCells w.heap.size 0 V.toList) ∧ (w'.setCells w.heap.size 0 V.toList).there w.heap.size 0 V.toList.length) ∧ Holds (w'.setCells w.heap.size 0 V.toList) w.heap.size V := by
  obtain ⟨⟨h1, cs, h2, h3⟩, _⟩ := h
  have h4 := h3.cells (V := V) (h2.trans hV.symm)
  exact ⟨⟨⟨below_cells (Nat.le_refl _) _ _ _ h1, V, hV, h4⟩, h4.there (by simp)⟩, h4⟩
end Go.Proofs.YtdekcicgiflnbaaDoor
