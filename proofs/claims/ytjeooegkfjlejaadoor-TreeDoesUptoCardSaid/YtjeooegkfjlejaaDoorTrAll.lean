/- What later texts need of the earlier layers. -/
import Derived.Test.YtjeooegkfjlejaaDoorEarO
import Derived.Test.YtjeooegkfjlejaaDoorEarS
import Derived.Test.YtjeooegkfjlejaaDoorEarT
import Derived.Test.YtjeooegkfjlejaaDoorEarC
import Derived.Test.YtjeooegkfjlejaaDoorEarA
import Derived.Test.YtjeooegkfjlejaaDoorEarB
import Derived.Test.YtjeooegkfjlejaaDoorIbA
import Derived.Test.YtjeooegkfjlejaaDoorTrMath
import Derived.Test.YtjeooegkfjlejaaDoorTrHash
import Derived.Test.YtjeooegkfjlejaaDoorTrMem
import Derived.Test.YtjeooegkfjlejaaDoorTrLv
import Derived.Test.YtjeooegkfjlejaaDoorTrLink
import Derived.Test.YtjeooegkfjlejaaDoorTrBeh
import Derived.Test.YtjeooegkfjlejaaDoorTrCh
import Derived.Test.YtjeooegkfjlejaaDoorTrAt
import Derived.Test.YtjeooegkfjlejaaDoorTrNew
import Derived.Test.YtjeooegkfjlejaaDoorTrMine
import Derived.RangeFuncNested
import Derived.RangeFuncBound
import Derived.RangeFuncCalls
import Derived.RangeFuncLeaves
import Derived.Shelf.Abstract
import Derived.Shelf.RegionOpen
import Derived.WalkKit
import Derived.OwnWalkIn
import Derived.TacticsInMore
import Derived.LoopNIn
import Derived.LoopIn
import Derived.Maps.AppendAt
/- ---- TrAll ---- -/
/- (*tree.Chain).all and its closure: what a range over them sees. -/
namespace Go.Proofs.YtjeooegkfjlejaaDoor
open Go.RowKit Go.Shelf
set_option linter.unusedVariables false
set_option linter.unusedSimpArgs false
attribute [local go_sem] Oper.semAt_some

theorem wpListIn_load_row {F : Fence} {n : Nat} {P : Program} {ops : Array Oper} {rest : List Oper} {op : Oper} {a : Act} {w : World} {Q : Exit → Act → World → Prop} (hg : op.guard = none) (ty : TypeId) (x : Operand) (ho : op.op = .load ty x)
    (b o : Nat) (hx : a.eval x = .pointer (some ⟨b, o, none⟩)) (cs : List Value) (d : TypeDesc) (hc : w.rangeAt b o cs)
    (hu : P.underlying ty = some d) (hd : d.isRow = true) (hi : (P.info? ty).map (·.size) = some cs.length)
    (h : wpListIn F n P ops Q rest (a.put op.dst (.agg cs.toArray)) w) : wpListIn F n P ops Q (op :: rest) a w := by
  refine wpListIn_plain hg fun K hK => ?_
  unfold Oper.wpIn
  refine ⟨?_, ?_⟩
  · simp [Oper.about, ho]
  · rw [Oper.semAt_plain F _ _ (by rw [ho]; intro c hc'; cases hc')]
    unfold execOp
    simp only [ho, hx, Instr.loadAt, Instr.sureAddr, Sem.run_bind, Sem.run_pure, Result.andThen_ok, run_loadVar_mid w b o ty cs d hc hu hd hi]
    exact hK _ _ h
theorem wpListIn_store_row {F : Fence} {n : Nat} {P : Program} {ops : Array Oper} {rest : List Oper} {op : Oper} {a : Act} {w : World} {Q : Exit → Act → World → Prop} (hgd : op.guard = none) (ty : TypeId) (x y : Operand) (ho : op.op = .store ty x y)
    (g off : Nat) (l xs : List Value) (T : TypeId) (hx : a.eval x = .pointer (some ⟨g, off, none⟩)) (hy : a.eval y = .agg l.toArray) (hg : Row w g T xs) (hoff : off + l.length ≤ xs.length)
    (hi : (P.info? ty).map (·.size) = some l.length) (h1 : ∀ v ∈ l, v.oneCell' = true)
    (h : ∀ w', Row w' g T (xs.take off ++ (l ++ xs.drop (off + l.length))) → w.grownBy w' (some g) → wpListIn F n P ops Q rest (a.put op.dst undef) w') : wpListIn F n P ops Q (op :: rest) a w := by
  obtain ⟨r1, r2⟩ := row_setCells l off w xs hg hoff
  have ht : w.there g off l.toArray.size := fun j hj => ⟨by
    have hj' : j < l.length := by simpa using hj
    rw [hg.cell (off + j) (by omega)]; rfl, hg.free _⟩
  refine wpListIn_plain hgd fun K hK => ?_
  unfold Oper.wpIn
  refine ⟨?_, ?_⟩
  · simp [Oper.about, ho]
  · rw [Oper.semAt_plain F _ _ (by rw [ho]; intro c hc'; cases hc')]
    unfold execOp
    simp only [ho, hx, hy, Instr.storeAt, Instr.sureAddr, Sem.run_bind, Sem.run_pure, Result.andThen_ok, run_storeVar_mid w g off ty l.toArray ht (by simpa using hi) (all_oneCell_toArray h1)]
    exact hK _ _ (h _ r1 r2)
/-- c.all(): the receiver is boxed; the function value holds the box -/
theorem all_in (F : Fence) (n : Nat) (hf : F.fn 50) (hro : F.round = none) (p0 : Option Addr) (w : World) :
    CallsIn F n Tryd.prog 50 #[.pointer p0] w fun e w' => e = .returned (.func (.func 69) #[] #[.pointer (some ⟨w.heap.size, 0, none⟩)]) ∧ w' = w.alloc (.cells #[.pointer p0] 23) := by
  refine callsIn_of_wp Tryd.func50 rfl hf ?_ hro
  simp only [Tryd.ntmps50, List.size_toArray, List.length_cons, List.length_nil, Nat.reduceAdd, Nat.reduceSub, Array.replicate_succ, Array.replicate_zero, List.push_toArray, List.append_toArray, List.nil_append, List.cons_append]
  gi_wp2
  go_ret
  exact ⟨rfl, rfl⟩
set_option maxRecDepth 20000 in
set_option maxHeartbeats 3200000 in
/-- .. of a chain: its links in their order, for every body that keeps what lay below n₀ -/
theorem all1_in (F : Fence) (n : Nat) (hf : F.fn 69) (hro : F.round = none) (hn : 1 ≤ n) (l Bs n₀ P gl c : Nat) (ls : List Lv) (hfit : ∀ x ∈ ls, x.Fits) (hreach : ls.length ≤ 100000) (hgl : gl < n₀) (J Jx : Nat → World → Prop)
    (hY : ∀ k (hk : k < ls.length) W, J k W → YieldAt F (n - 1) Tryd.prog l #[.agg ls[k].cells.toArray] W fun e W' =>
      (e = .returned (.bool true) ∧ J (k + 1) W' ∧ Below n₀ W W') ∨ (e = .returned (.bool false) ∧ Jx (k + 1) W'))
    (W : World) (hn0 : n₀ ≤ W.heap.size) (hJa : ∀ pre A B, J pre A → A.grownBy B none → J pre B) (hBs : W.cell? ⟨Bs, 0, none⟩ = some (.pointer (some ⟨P, 0, none⟩))) (hP : W.cell? ⟨P, 2, none⟩ = some (.slice (some ⟨gl, 0, none⟩) ls.length c)) (hlc : ls.length ≤ c)
    (hat : ∀ i (hi : i < ls.length), W.rangeAt gl (i * 67) ls[i].cells) (h0 : J 0 W) :
    CallsIn F n Tryd.prog 69 #[.func (.yield l) #[] #[], .pointer (some ⟨Bs, 0, none⟩)] W fun e W' => (∃ v, e = .returned v) ∧
      (J ls.length W' ∨ (∃ k, k ≤ ls.length ∧ Jx k W')) := by
  have hz86 := lk_zv
  have HZL := Lib.hid (Lv.cells_len Lv.zero_fits)
  refine callsIn_of_wp Tryd.func69 rfl hf ?_ hro
  simp only [Tryd.ntmps69, List.size_toArray, List.length_cons, List.length_nil, Nat.reduceAdd, Nat.reduceSub, Array.replicate_succ, Array.replicate_zero, List.push_toArray, List.append_toArray, List.nil_append, List.cons_append]
  have HAt := Lib.hid hat
  have HFit := Lib.hid hfit
  have HJa := Lib.hid hJa
  clear hat hfit hJa
  obtain ⟨m, hm⟩ : ∃ m, m = ls.length := ⟨_, rfl⟩
  have HM := Lib.hid hm
  rw [← hm] at hP hreach hlc
  clear hm
  gi_wp2
  gi_loopw [12] (fun i wr => ∃ k : Nat, k ≤ m ∧ i = .int .i64 k ∧ J k wr ∧ Below n₀ W wr)
    (fun i _ => m - (intOf i).toNat)
  case atStart => exact ⟨0, Nat.zero_le _, rfl, h0, Below.refl _ _⟩
  case round =>
    obtain ⟨k, hk, rfl, hJs, hnx⟩ := hrel
    by_cases hlt : k < m
    · have hkm : k < ls.length := by rw [← HM.out]; exact hlt
      have HR : Hid (wr.rangeAt gl (k * 67) ls[k].cells) := Lib.hid (range_below (HAt.out k hkm) hnx hgl)
      have HL := Lib.hid (Lv.cells_len (HFit.out _ (List.getElem_mem hkm)))
      have H1 := Lib.hid (Lv.cells_one (HFit.out _ (List.getElem_mem hkm)))
      have hwz : W.heap.size ≤ wr.heap.size := hnx.size
      have hnew := Row.new wr 86 Lv.zero.cells
      have HNew := Lib.hid hnew
      have HJs := Lib.hid hJs
      have Hnx := Lib.hid hnx
      have HY : Hid (∀ w2, J k w2 → YieldAt F (n - 1) Tryd.prog l #[.agg ls[k].cells.toArray] w2 fun e W' =>
          (e = .returned (.bool true) ∧ J (k + 1) W' ∧ Below n₀ w2 W') ∨ (e = .returned (.bool false) ∧ Jx (k + 1) W')) := Lib.hid (hY k hkm)
      generalize ls[k].cells = C at *
      clear hnew hJs hnx hY
      gi_wp2_with (first
      | ((with_reducible show wpListIn _ _ _ _ _ (⟨_, .load 86 (.tmp 14), _, _, _, _⟩ :: _) _ _); refine wpListIn_load_row rfl 86 (.tmp 14) rfl gl (k * 67) rfl C _ HR.out Tryd.underlying86 rfl (by rw [link_size, HL.out]) ?_)
      | (with_reducible show wpListIn _ _ _ _ _ (⟨_, .store 86 _ _, _, _, _, _⟩ :: _) _ _
         refine wpListIn_store_row rfl 86 (.tmp 4) (.tmp 15) rfl wr.heap.size 0 C _ _ rfl rfl HNew.out (by have := HL.out; have := HZL.out; omega) (by rw [link_size, HL.out]) H1.out ?_
         intro w2 hr2 hg2
         rw [splice_all (HL.out.trans HZL.out.symm)] at hr2
         have hb2 := below_own ((Below.refl wr.heap.size wr).alloc (Nat.le_refl _) _) hg2 (fun k hk => by cases hk; exact Nat.le_refl _)
         obtain ⟨fn, tmps, assign, body, hy, hR⟩ := HY.out w2 (HJa.out _ _ _ HJs.out (grownBy_of_below hb2 none))
         have HR2 := Lib.hid hr2
         have Hb2 := Lib.hid hb2
         have HRd := Lib.hid hR
         clear hr2 hg2 hb2 hR)
      | ((with_reducible show wpListIn _ _ _ _ _ (⟨_, .load 86 (.tmp 4), _, _, _, _⟩ :: _) _ _); refine wpListIn_load_row rfl 86 (.tmp 4) rfl wr.heap.size 0 rfl C _ (row_range HR2.out) Tryd.underlying86 rfl (by rw [link_size, HL.out]) ?_))
      refine HRd.out.mono ?_
      rintro e W3 (⟨rfl, hJ3, hk3⟩ | ⟨rfl, hJx3⟩)
      · gi_wp2
        go_roundw
        case rel => exact ⟨k + 1, by omega, by simp, hJ3, (Hnx.out.trans (Hb2.out.mono (by omega))).trans hk3⟩
        case measure => simp [intOf]; omega
      · gi_wp2
        refine bodyPost_ret (results_none rfl _ _ _) rfl ?_
        exact ⟨⟨_, rfl⟩, .inr ⟨k + 1, by rw [← HM.out]; omega, hJx3⟩⟩
    · obtain rfl : k = m := by omega
      rw [HM.out] at hJs
      gi_wp2
      go_end0
      exact ⟨⟨_, rfl⟩, .inl hJs⟩
/-- what a range over c.all() sees: all links, or a part where a round has said 'no more' -/
theorem all_stops (F : Fence) (n : Nat) (hf : F.fn 69) (hro : F.round = none) (hn : 1 ≤ n) (Bs base P : Nat) (dp de : Int) (ls : List Lv) (hreach : ls.length ≤ 100000) (w : World) (n₀ : Nat) (hBs : Bs < w.heap.size) (hn₀ : n₀ ≤ w.heap.size)
    (hc : w.cell? ⟨Bs, 0, none⟩ = some (.pointer (some ⟨P, 0, none⟩))) (hch : ChAt w base P dp de ls) (hne : ls ≠ []) (hgn : ∀ A c, w.cell? ⟨P, 2, none⟩ = some (.slice (some A) ls.length c) → A.block < n₀) :
    SeqStopsK F n Tryd.prog 69 #[.pointer (some ⟨Bs, 0, none⟩)] (fun x : {x : Lv // x ∈ ls} => #[.agg x.1.cells.toArray]) (Below n₀) (fun ys => ys = ls.attach) (fun pre => pre <+: ls.attach) ls.length w := fun l J Jx W hW hJ _ hY h0 => by
  have hch2 := hch.below hW
  obtain ⟨A, c, q0, q1, q2, q3, q4, q5, q6⟩ := hch2.cells
  obtain ⟨gl, rfl, hg1, hg2, hlc, hat⟩ := q5.at_ hne rfl
  obtain ⟨A0, c0, _, _, p2, _⟩ := hch.cells
  have hgl : gl < n₀ := by
    have e := (hW.cell (p := ⟨P, 2, none⟩) (by obtain ⟨_, v, hr, _⟩ := hch; exact hr.lt)).trans p2
    rw [q2] at e
    simp only [Option.some.injEq, Value.slice.injEq] at e
    obtain ⟨rfl, _, rfl⟩ := e
    exact hgn _ _ p2
  refine (all1_in F n hf hro hn l Bs n₀ P gl c ls (fun x hx => (q5.2 x hx).1) hreach hgl (fun k => J (ls.attach.take k)) (fun k => Jx (ls.attach.take k)) ?_ W (Nat.le_trans hn₀ hW.size)
    (fun k A B h hg => hJ _ A B none h hg (by simp)) ((hW.cell (p := ⟨Bs, 0, none⟩) hBs).trans hc) q2 hlc hat (by simpa using h0)).mono ?_
  · intro k hk W1 h1
    have e : ls.attach.take k ++ [⟨ls[k], List.getElem_mem hk⟩] = ls.attach.take (k + 1) := by
      rw [List.take_add_one, List.getElem?_eq_getElem (by simpa using hk)]
      simp
    have := hY (ls.attach.take k) ⟨ls[k], List.getElem_mem hk⟩ W1 h1 (by rw [List.length_take, List.length_attach]; omega)
    rwa [e] at this
  · rintro e W' ⟨h1, h2 | ⟨k, hk, h2⟩⟩
    · exact ⟨h1, .inl ⟨_, rfl, by rwa [List.take_of_length_le (by simp)] at h2⟩⟩
    · exact ⟨h1, .inr ⟨_, List.take_prefix _ _, h2⟩⟩
end Go.Proofs.YtjeooegkfjlejaaDoor
