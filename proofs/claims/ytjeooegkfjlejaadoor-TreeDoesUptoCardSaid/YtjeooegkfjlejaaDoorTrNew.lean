/- What later texts need of the earlier layers. -/
import Derived.Test.YtjeooegkfjlejaaDoorEarO
import Derived.Test.YtjeooegkfjlejaaDoorEarS
import Derived.Test.YtjeooegkfjlejaaDoorEarT
import Derived.Test.YtjeooegkfjlejaaDoorEarC
import Derived.Test.YtjeooegkfjlejaaDoorEarA
import Derived.Test.YtjeooegkfjlejaaDoorEarB
import Derived.Test.YtjeooegkfjlejaaDoorIbA
import Derived.Test.YtjeooegkfjlejaaDoorTrMath
import Derived.Test.YtjeooegkfjlejaaDoorTrHash
import Derived.Test.YtjeooegkfjlejaaDoorTrMem
import Derived.Test.YtjeooegkfjlejaaDoorTrLv
import Derived.Test.YtjeooegkfjlejaaDoorTrLink
import Derived.Test.YtjeooegkfjlejaaDoorTrBeh
import Derived.Test.YtjeooegkfjlejaaDoorTrCh
import Derived.Test.YtjeooegkfjlejaaDoorTrAt
/- ---- TrNew ---- -/
/- tree.New: what it returns. -/
namespace Go.Proofs.YtjeooegkfjlejaaDoor
open Go.RowKit
set_option linter.unusedVariables false
set_option linter.unusedSimpArgs false

namespace Tr
theorem first_may : may zeroB = true := by decide
theorem first_code : (hashE zeroB).2 = 0 := by
  obtain ⟨s, hs⟩ : ∃ s, Oct.listE (texts zeroB) = (s, 0) := listE_small _ (by decide) (by decide)
  rw [hashE_ok first_may hs]
/-- the first block -/
def first : Lk := (link zeroB).1
theorem first_right : hashE first.b = (first.hash, 0) := by
  show hashE zeroB = ((hashE zeroB).1, 0)
  rw [← first_code]
end Tr
theorem own_lv (w : World) (base : Nat) (x : Lv) (hx : x.Fits) (hb : base ≤ w.heap.size) : (w.alloc (.cells x.cells.toArray 86)).ownsRow base 86 67 (.slice (some ⟨w.heap.size, 0, none⟩) 1 1) 1 (Lv.flat [x]) := by
  have hl := Lv.cells_len hx
  have e : Lv.flat [x] = x.cells := by simp [Lv.flat]
  rw [e]
  exact ⟨hl, .inr ⟨w.heap.size, 1, x.cells.toArray, rfl, hb, heap_alloc_new w _, Nat.le_refl _, by decide, by simpa using hl, by rw [List.take_of_length_le (by rw [List.toList_toArray, hl]; exact Nat.le_refl _)]⟩⟩
theorem lk_info : (Tryd.prog.info? 86).map (fun i => (i.zero, i.size)) = some (some (.agg Lv.zero.cells.toArray), 67) := by kernel_rfl
/-- a new chain -/
def NewOut (w : World) (d : Int) (e : Ending) (w' : World) : Prop := ∃ (P : Nat) (x : Lv), e = .returned (.tuple #[.pointer (some ⟨P, 0, none⟩), .int .i64 0]) ∧ x.k = Tr.first ∧ ChAt w' w.heap.size P d 0 [x]
set_option maxRecDepth 20000 in
set_option maxHeartbeats 1600000 in
theorem new_no (d : Int) (w : World) (h : d < 0 ∨ 4096 < d) : Calls Tryd.prog 14 #[.int .i64 d] w fun e w' => e = .returned (.tuple #[.pointer none, .int .i64 2]) ∧ w = w' := by
  by_cases q : d < 0
  · have d0 : decide (d < 0) = true := by simpa using q
    clear h
    go_enter Tryd.func14, Tryd.ntmps14
    go_wp2_with fail
    go_ret2
    exact ⟨rfl, rfl⟩
  · have d0 : decide (d < 0) = false := by simpa using q
    have d1 : decide ((4096 : Int) < d) = true := by simp; omega
    clear h
    go_enter Tryd.func14, Tryd.ntmps14
    go_wp2_with fail
    go_ret2
    exact ⟨rfl, rfl⟩
set_option maxRecDepth 20000 in
set_option maxHeartbeats 1600000 in
theorem new_yes (d : Int) (w : World) (h0 : 0 ≤ d) (h1 : d ≤ 4096) (hT : Tab w) : Calls Tryd.prog 14 #[.int .i64 d] w fun e w' => NewOut w d e w' ∧ Below w.heap.size w w' := by
  have hz86 := lk_zv
  have d0 : decide (d < 0) = false := by simpa using h0
  have d1 : decide ((4096 : Int) < d) = false := by simpa using h1
  obtain ⟨i0, hi0, hz0⟩ := Option.map_eq_some_iff.1 lk_info
  simp only [Prod.mk.injEq] at hz0
  have Hi := Lib.hid hi0
  have Hz := Lib.hid hz0.1
  have Hsz := Lib.hid hz0.2
  have ML := Lib.hid (makeLink_any 0 0 Tx.zero none 0 [] Lv.zero rfl (by constructor <;> decide) (by constructor <;> decide) Lv.zero_fits Tr.zeroL_right w (SlIn.nil _ _) hT)
  have HF : Hid (∀ A c, Lv.Fits ⟨(Tr.link ⟨0, 0, Tx.zero, []⟩).1, A, c⟩) := Lib.hid (fun A c => ⟨rfl, Tr.hashE_len _, ⟨by show (-9223372036854775808 : Int) ≤ 0; decide, by show (0 : Int) ≤ 9223372036854775807; decide⟩, ⟨by show (-9223372036854775808 : Int) ≤ 0; decide, by show (0 : Int) ≤ 9223372036854775807; decide⟩⟩)
  have HC : Hid ((Tr.link ⟨0, 0, Tx.zero, []⟩).2 = 0) := Lib.hid Tr.first_code
  have HK : Hid ((Tr.link ⟨0, 0, Tx.zero, []⟩).1 = Tr.first) := Lib.hid rfl
  have HB0 := Lib.hid hd_built0
  generalize hq : Tr.link ⟨0, 0, Tx.zero, []⟩ = q at *
  have HIts : Hid (q.1.b.items = []) := Lib.hid (by rw [← hq]; rfl)
  have HZL := Lib.hid (Lv.cells_len Lv.zero_fits)
  have HLB := Lib.hid lk_built0
  generalize hhc : headC 0 0 Tx.zero = HCc at *
  clear hq hhc hi0 hz0 hT h0 h1
  go_enter Tryd.func14, Tryd.ntmps14
  go_wp2_with (first
  | ((with_reducible show wpList _ _ _ (⟨_, .build 84 _, _, _, _, _⟩ :: _) _ _); refine wpList_buildL rfl 84 [] rfl (some 13) rfl [] rfl HCc.toArray HB0.out ?_)
  | ((with_reducible show wpList _ _ _ (⟨_, .build 86 _, _, _, _, _⟩ :: _) _ _); refine wpList_buildL rfl 86 [] rfl (some 14) rfl [] rfl Lv.zero.cells.toArray HLB.out ?_))
  refine ML.out.mono ?_
  rintro _ w1 ⟨⟨A1, c1, rfl, ho1⟩, hb1⟩
  rw [HC.out]
  have HO1 := Lib.hid ho1
  have Hb1 := Lib.hid hb1
  have HF1 := Lib.hid (HF.out A1 c1)
  have HQL := Lib.hid (Lv.cells_len (HF.out A1 c1))
  have HQ1 := Lib.hid (Lv.cells_one (HF.out A1 c1))
  have HN1 := Lib.hid (Row.new w1 86 Lv.zero.cells)
  clear ho1 hb1
  obtain ⟨x, hx⟩ : ∃ x : Lv, x = ⟨q.1, A1, c1⟩ := ⟨_, rfl⟩
  rw [← hx] at HF1 HQL HQ1 ⊢
  have HX := Lib.hid hx
  clear hx
  have HOwn := Lib.hid (fun (W : World) (hW : w.heap.size ≤ W.heap.size) => own_lv W w.heap.size x HF1.out hW)
  generalize hxc : x.cells = C at *
  clear hxc
  go_wp2_with (first
  | ((with_reducible show wpList _ _ _ (⟨_, .load 86 _, _, _, _, _⟩ :: _) _ _); refine wpList_load_tx rfl 86 (.tmp 4) rfl w1.heap.size 0 rfl C _ (row_range HR2.out) Tryd.underlying86 rfl (by rw [link_size, HQL.out]) ?_)
  | (with_reducible show wpList _ _ _ (⟨_, .store 86 _ _, _, _, _, _⟩ :: _) _ _
     refine wpList_store_at rfl 86 (.tmp 4) (.tmp 16) rfl w1.heap.size 0 C _ _ rfl rfl HN1.out (by have := HZL.out; have := HQL.out; omega) (by rw [link_size, HQL.out]) HQ1.out ?_
     intro w2 hr2 hg2
     rw [splice_all (HQL.out.trans HZL.out.symm)] at hr2
     have HR2 := Lib.hid hr2
     have HO2 := Lib.hid ((HO1.out.alloc (.cells Lv.zero.cells.toArray 86)).kept hg2 (.inr (row_ne_own HN1.out (HO1.out.alloc (.cells Lv.zero.cells.toArray 86)) (by decide))))
     have Hb2 := Lib.hid (below_own (Hb1.out.alloc Hb1.out.size (.cells Lv.zero.cells.toArray 86)) hg2 (fun k hk => by cases hk; exact Hb1.out.size))
     clear hr2 hg2)
  | ((with_reducible show wpList _ _ _ (⟨_, .buildSlice 89 _ _, _, _, _, _⟩ :: _) _ _)
     refine wpList_buildSliceL rfl 89 86 1 [(0, .tmp 19)] rfl (some 20) rfl [(0, .agg C.toArray)] rfl C.toArray i0 (.agg Lv.zero.cells.toArray) 67 Tryd.underlying89 Hi.out Hz.out Hsz.out (by decide) (by decide) (fill_one 67 _ C HQL.out) ?_))
  go_ret2
  have hz2 := Hb2.out.size
  have hb3 := Hb2.out.alloc hz2 (.cells C.toArray 86)
  have hown := HOwn.out w2 hz2
  have hr4 := Row.new (w2.alloc (.cells C.toArray 86)) 91 [.int .i64 d, .int .i64 0, .slice (some ⟨w2.heap.size, 0, none⟩) 1 1]
  have hb4 := hb3.alloc hb3.size (.cells #[.int .i64 d, .int .i64 0, .slice (some ⟨w2.heap.size, 0, none⟩) 1 1] 91)
  rw [show (w2.alloc (.cells C.toArray 86)).heap.size = w2.heap.size + 1 by simp] at hr4
  refine ⟨⟨w2.heap.size + 1, x, rfl, by rw [HX.out]; exact HK.out, by omega, _, hr4, hown.alloc _, fun y hy => ?_⟩, hb4⟩
  rw [List.mem_singleton.1 hy]
  refine ⟨HF1.out, ?_, ?_⟩
  · rw [HX.out]
    exact (HO2.out.alloc _).alloc _
  · rw [HX.out]
    show q.1.b.items.length ≤ _
    rw [HIts.out]; simp
end Go.Proofs.YtjeooegkfjlejaaDoor
