/- take: what stands at a place is taken out. -/
import Derived.Test.YtoicpidiejhjeaaPlDel
import Derived.Test.YtoicpidiejhjeaaNoBlocks
namespace Go.Proofs.Ytoicpidiejhjeaa
open Go.RowKit
set_option linter.unusedVariables false
set_option linter.unusedSimpArgs false
set_option maxRecDepth 100000

theorem wpList_store_sl {P : Program} {ops : Array Oper} {rest : List Oper} {op : Oper} {a : Act} {w : World} {Q : Exit → Act → World → Prop} (hgd : op.guard = none) (ty : TypeId) (x y : Operand) (ho : op.op = .store ty x y)
    (g i : Nat) (T : TypeId) (xs : List Value) (A : Option Addr) (n c : Nat) (hx : a.eval x = .pointer (some ⟨g, i, none⟩)) (hy : a.eval y = .slice A n c) (hg : Row w g T xs) (hi : i < xs.length) (hs : (P.info? ty).map (·.size) = some 1)
    (K : ∀ w', Row w' g T (xs.set i (.slice A n c)) → w.grownBy w' (some g) → wpList P ops Q rest (a.put op.dst undef) w') : wpList P ops Q (op :: rest) a w := by
  refine wpList_plain hgd fun _ hK => ?_
  have hc := hg.cell i hi
  have hf := hg.free i
  have e : (storeVar ty ⟨g, i, none⟩ (.slice A n c)).run P w = (storeVar ty ⟨g, i, none⟩ (.agg #[.slice A n c])).run P w := by simp [storeVar, Value.cells]
  have hr := run_storeVar_mid (P := P) w g i ty #[.slice A n c] (fun j hj => by
    have : j = 0 := by simp at hj; omega
    subst this
    exact ⟨by rw [Nat.add_zero, hc]; rfl, hf⟩) (by rw [hs]; rfl) (all_oneCell_toArray (cs := [.slice A n c]) (fun v hv => by simp only [List.mem_singleton] at hv; subst hv; rfl))
  obtain ⟨r1, r2⟩ := row_setCells [.slice A n c] i w xs hg (by simp; omega)
  unfold Oper.wp execOp
  simp only [ho, hx, hy, Instr.storeAt, Instr.sureAddr, Sem.run_bind, Sem.run_pure, Result.andThen_ok, e, hr]
  refine hK _ _ (K _ ?_ r2)
  have e2 : xs.take i ++ ([.slice A n c] ++ xs.drop (i + [Value.slice A n c].length)) = xs.set i (.slice A n c) := by
    rw [List.set_eq_take_append_cons_drop, if_pos hi]
    rfl
  rw [← e2]
  exact r1

theorem PAt.stepTo {T : TypeId} {w w' : World} {base B size : Nat} {v v' : Value} {l l' : List Wt} (h : PAt T w base B v size l) (hr : Row w' B T [.int .i64 size, v']) (ho : OwnL w' base 38 76 Wt.cells v' l') (hok : Pl.Ok size l') (hc : Chg (PS B v) w w') (hv : ∀ k, v'.ownBlock = some k → v.ownBlock = some k ∨ w.heap.size ≤ k) : PTo T w w' base B v size l' :=
  ⟨v', ⟨hr, ho, hok, h.size, h.lo⟩, hc, fun k hk => by
    rcases hk with rfl | hk
    · exact .inl (.inl rfl)
    · rcases hv k hk with q | q
      · exact .inl (.inr q)
      · exact .inr q⟩
set_option maxHeartbeats 3200000 in
theorem PAt.take {w : World} {base B size : Nat} {v : Value} {l : List Wt} (h : PAt 63 w base B v size l) (k : Nat) (hk : k < l.length) :
    Calls Try.prog 27 #[.pointer (some ⟨B, 0, none⟩), .int .i64 k] w fun e w' => e = .returned (.agg l[k].cells.toArray) ∧ PTo 63 w w' base B v size (l.eraseIdx k) := by
  obtain ⟨g, c, rfl, hbg, hg⟩ := h.own.ne (by intro e; rw [e] at hk; simp at hk)
  obtain ⟨m, hm⟩ : ∃ m, l.length = m + 1 := ⟨l.length - 1, by omega⟩
  have hn := h.n256
  have hat := h.own.at (Wt.lens h.wok) k hk
  have hX := h.wok _ (List.getElem_mem hk)
  have HC76 := Lib.hid (Wt.cells_len hX)
  have HC1 := Lib.hid (Wt.cells_one hX)
  have HZ76 := Lib.hid (Wt.cells_len Wt.none_ok)
  have hzv := wait_zv
  have hl := h.wok
  obtain ⟨CC, hCC⟩ : ∃ CC, l[k].cells = CC := ⟨_, rfl⟩
  rw [hCC] at hat HC76 HC1 ⊢
  have hBg : B ≠ g := h.own.ne_row h.row (by decide)
  have hgs : (g : Nat) < w.heap.size := hg
  have hBs := h.row.lt
  rw [hm] at h ⊢
  have HH := Lib.hid h
  have hcell1 : Hid (∀ W, Below w.heap.size w W → W.cell? ⟨B, 1, none⟩ = some (.slice (some ⟨g, 0, none⟩) (m + 1) c)) := Lib.hid (fun W hW => (h.below hW).c1)
  have HR : Hid (∀ W, Below w.heap.size w W → W.rangeAt g (k * 76) CC) := Lib.hid (fun W hW j u hu => (hW.cell (p := ⟨g, k * 76 + j, none⟩) hg).trans (hat j u hu))
  have HD : Hid (∀ W, Below w.heap.size w W → Calls Try.prog 39 #[.slice (some ⟨g, 0, none⟩) (m + 1) c, .int .i64 k, .int .i64 ((k : Int) + 1)] W fun e w' =>
      e = .returned (.slice (some ⟨g, 0, none⟩) m c) ∧ OwnL w' base 38 76 Wt.cells (.slice (some ⟨g, 0, none⟩) m c) (l.eraseIdx k) ∧ W.grownBy w' (some g)) := Lib.hid (fun W hW => delete_any m k (h.own.below hW) hl (by omega))
  have b1 : Blocks w (w.alloc (.cells Wt.none.cells.toArray 38)) [(w.heap.size, 38, Wt.none.cells)] := (Blocks.nil ((Below.refl w.heap.size w).alloc (Nat.le_refl _) _)).cons (Row.new w _ _)
  have r2 := Row.new (w.alloc (.cells Wt.none.cells.toArray 38)) 38 Wt.none.cells
  rw [show (w.alloc (.cells Wt.none.cells.toArray 38)).heap.size = w.heap.size + 1 by simp] at r2
  have HB2 := Lib.hid ((b1.alloc (.cells Wt.none.cells.toArray 38)).cons r2)
  have HB1 := Lib.hid b1
  clear b1 r2
  have HB2t : Hid (∀ w3, Row w3 (w.heap.size + 1) 38 CC → World.grownBy ((w.alloc (.cells Wt.none.cells.toArray 38)).alloc (.cells Wt.none.cells.toArray 38)) w3 (some (w.heap.size + 1)) → Blocks w w3 [(w.heap.size + 1, 38, CC), (w.heap.size, 38, Wt.none.cells)]) := Lib.hid (fun w3 hr hg3 => (HB2.out.tl.put hg3 (Nat.le_succ _) (fun x hx => by simp at hx; subst hx; show w.heap.size ≠ w.heap.size + 1; omega)).cons hr)
  have HK : Hid (k ≤ 256) := Lib.hid (by omega)
  have hki : (k : Int) < ((m : Int) + 1) := by omega
  have hk0 : (0 : Int) ≤ (k : Int) := by omega
  have ewk : IntKind.i64.wrap ((k : Int) + 1) = (k : Int) + 1 := IntWalk.i64_in _ (by omega)
  have c1 := hcell1.out w (Below.refl _ _)
  clear hCC
  clear hat hX hl hm hn hk hgs
  generalize Wt.none.cells = ZT at *
  generalize hCl : l.eraseIdx k = L' at *
  have HOk : Hid (Pl.Ok size L') := Lib.hid (by rw [← hCl]; exact HH.out.ok.sub (List.eraseIdx_sublist l k))
  clear hCl h
  generalize CC = C at *
  have d1 := hcell1.out _ HB2.out.1
  have d0 := hcell1.out _ HB1.out.1
  go_enter Try.func27, Try.ntmps27
  go_wp2_with (first
  | ((with_reducible show wpList _ _ _ (⟨_, .load 38 (.tmp 11), _, _, _, _⟩ :: _) _ _); refine wpList_load_tx rfl 38 (.tmp 11) rfl g (k * 76) (rfl) C _ (HR.out _ HB1.out.1) Try.underlying38 rfl (by rw [wait_info, HC76.out]) ?_)
  | (
     with_reducible show wpList _ _ _ (⟨_, .store 38 (.tmp 5) _, _, _, _, _⟩ :: _) _ _
     refine wpList_store_at rfl 38 (.tmp 5) (.tmp 12) rfl (w.heap.size + 1) 0 C ZT _ rfl rfl (HB2.out.hd) (by have := HZ76.out; have := HC76.out; omega) (by rw [wait_info, HC76.out]) HC1.out ?_
     intro w3 hr hg
     rw [splice_all (HC76.out.trans HZ76.out.symm)] at hr
     have HB3 := Lib.hid (HB2t.out w3 hr hg)
     have c1 := hcell1.out _ HB3.out.1
     clear hr hg))
  refine (HD.out _ HB3.out.1).mono ?_
  rintro _ w4 ⟨rfl, ho4, hg4⟩
  have HRB4 : Hid (Row w4 B 63 [.int .i64 size, .slice (some ⟨g, 0, none⟩) (m + 1) c]) := Lib.hid ((HH.out.below HB3.out.1).row.kept hg4 (by simpa using hBg))
  have HQ4 : Hid (Row w4 (w.heap.size + 1) 38 C) := Lib.hid (HB3.out.hd.kept hg4 (by simp; omega))
  have HS4 : Hid (Row w4 w.heap.size 38 ZT) := Lib.hid (HB3.out.tl.hd.kept hg4 (by simp; omega))
  have HC4 : Hid (Chg (PS B (.slice (some ⟨g, 0, none⟩) (m + 1) c)) w w4) := Lib.hid ((Chg.of_below HB3.out.1).trans (Chg.of_grown (S := PS B (.slice (some ⟨g, 0, none⟩) (m + 1) c)) hg4 (fun k hk => by cases hk; exact .inl (.inr rfl))) (fun i hi => .inl hi))
  have HO4 := Lib.hid ho4
  have HFin : Hid (∀ w5, Row w5 B 63 [.int .i64 size, .slice (some ⟨g, 0, none⟩) m c] → w4.grownBy w5 (some B) → Row w5 w.heap.size 38 ZT ∧ Row w5 (w.heap.size + 1) 38 C ∧ ∀ w6, w5.grownBy w6 (some w.heap.size) → PTo 63 w w6 base B (.slice (some ⟨g, 0, none⟩) (m + 1) c) size L') := Lib.hid (fun w5 hr5 hg5 =>
    ⟨HS4.out.kept hg5 (by simp; omega), HQ4.out.kept hg5 (by simp; omega), fun w6 hg6 =>
      HH.out.stepTo (hr5.kept hg6 (by simp; omega)) ((HO4.out.kept hg5 (.inr (by simp [Value.ownBlock]; omega))).kept hg6 (.inr (by simp [Value.ownBlock]; omega))) HOk.out
        ((HC4.out.trans (Chg.of_grown (S := PS B (.slice (some ⟨g, 0, none⟩) (m + 1) c)) hg5 (fun k hk => by cases hk; exact .inl (.inl rfl))) (fun i hi => .inl hi)).trans (Chg.of_grown (S := fun k => k = w.heap.size) hg6 (fun k hk => by cases hk; exact .inl rfl)) (fun i hi => .inr (by rw [hi]; exact Nat.le_refl _)))
        (fun k hk => .inl hk)⟩)
  have c4 := HRB4.out.cell 1 (by simp)
  clear ho4 hg4 c1
  go_wp2_with (first
  | ((with_reducible show wpList _ _ _ (⟨_, .store 30 _ _, _, _, _, _⟩ :: _) _ _)
     refine wpList_store_sl rfl 30 (.tmp 23) (.tmp 21) rfl B 1 63 [.int .i64 size, .slice (some ⟨g, 0, none⟩) (m + 1) c] (some ⟨g, 0, none⟩) m c rfl rfl HRB4.out (by simp) rfl ?_
     intro w5 hr5 hg5
     have HF5 := Lib.hid (HFin.out w5 hr5 hg5)
     clear hr5 hg5)
  | ((with_reducible show wpList _ _ _ (⟨_, .load 38 (.tmp 5), _, _, _, _⟩ :: _) _ _); refine wpList_load_tx rfl 38 (.tmp 5) rfl (w.heap.size + 1) 0 (rfl) C _ (row_range HF5.out.2.1) Try.underlying38 rfl (by rw [wait_info, HC76.out]) ?_)
  | (
     with_reducible show wpList _ _ _ (⟨_, .store 38 (.tmp 4) _, _, _, _, _⟩ :: _) _ _
     refine wpList_store_at rfl 38 (.tmp 4) (.tmp 24) rfl w.heap.size 0 C ZT _ rfl rfl (HF5.out.1) (by have := HZ76.out; have := HC76.out; omega) (by rw [wait_info, HC76.out]) HC1.out ?_
     intro w6 hr hg
     rw [splice_all (HC76.out.trans HZ76.out.symm)] at hr
     have HR6 := Lib.hid hr
     have HP6 := Lib.hid (HF5.out.2.2 w6 hg)
     clear hr hg))
  refine bodyPost_ret (results_cell_row rfl _ _ w.heap.size 38 C.toArray (0, 0) _ rfl HR6.out Try.underlying38 rfl (by rw [wait_info]; simp [HC76.out])) rfl ⟨rfl, HP6.out⟩
end Go.Proofs.Ytoicpidiejhjeaa
