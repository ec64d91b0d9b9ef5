/- What later texts need of the earlier layers. -/
import Derived.Test.YtalfnadejpmjnaaGreatDoorNSlO
import Derived.Test.YtalfnadejpmjnaaGreatDoorNSlS
import Derived.Test.YtalfnadejpmjnaaGreatDoorNSlT
import Derived.Test.YtalfnadejpmjnaaGreatDoorNDkA
import Derived.Test.YtalfnadejpmjnaaGreatDoorNDkB
import Derived.Test.YtalfnadejpmjnaaGreatDoorNDkC
import Derived.Test.YtalfnadejpmjnaaGreatDoorNDkD
import Derived.Test.YtalfnadejpmjnaaGreatDoorNJrA
import Derived.Test.YtalfnadejpmjnaaGreatDoorNJrB
import Derived.Test.YtalfnadejpmjnaaGreatDoorNJrAdd
import Derived.Test.YtalfnadejpmjnaaGreatDoorNSlC
import Derived.Test.YtalfnadejpmjnaaGreatDoorNSlA
import Derived.Test.YtalfnadejpmjnaaGreatDoorNSlB
import Derived.Test.YtalfnadejpmjnaaGreatDoorNSlD
import Derived.Test.YtalfnadejpmjnaaGreatDoorNTxBack
import Derived.Test.YtalfnadejpmjnaaGreatDoorNOdA
import Derived.Test.YtalfnadejpmjnaaGreatDoorNRwA
import Derived.Test.YtalfnadejpmjnaaGreatDoorNOdB
import Derived.Test.YtalfnadejpmjnaaGreatDoorNOdAsk
import Derived.Test.YtalfnadejpmjnaaGreatDoorNOdLink
import Derived.Test.YtalfnadejpmjnaaGreatDoorNOdPut
import Derived.Test.YtalfnadejpmjnaaGreatDoorNOdAdd
import Derived.Test.YtalfnadejpmjnaaGreatDoorNStMem
import Derived.Test.YtalfnadejpmjnaaGreatDoorNOdTake
import Derived.Test.YtalfnadejpmjnaaGreatDoorNStA
import Derived.Test.YtalfnadejpmjnaaGreatDoorNShelfB
import Derived.Test.YtalfnadejpmjnaaGreatDoorNJrBld
import Derived.Test.YtalfnadejpmjnaaGreatDoorNJrC
import Derived.Deep.AppendSrc
import Derived.Deep.DeepAppendWide
import Derived.OwnWalk
import Derived.Below
import Derived.WalkKit
import Derived.Shelf.Sort.Plain
import Derived.Shelf.Slices.In.SortNone
import Derived.Deep.QuietTactic
import Derived.BigQuiet
/- ---- StSync ---- -/
/- safe, Sync; Open on an empty disk. -/
namespace Go.Proofs.YtalfnadejpmjnaaGreatDoor
open Go.RowKit
set_option linter.unusedVariables false
set_option linter.unusedSimpArgs false
set_option maxRecDepth 100000

set_option maxHeartbeats 1600000 in
theorem StAt.safe_ok {w0 W : World} {p q B g : Nat} {S : Nat → Prop} {v dv cv : Value} {l : List Jn.Fl} {r : Int} {j : Jn.Jr.J} {rs : List Rp} {cs : List Ct} {rel : Int} {rows : Rws} {brk : Bool} (h : StAt w0 W p q B g S v dv cv l r j rs cs (StC q B cv rel brk) rows) : Calls Tryz.prog 52 #[.pointer (some ⟨p, 0, none⟩), .int .i64 0] W fun r' w' => r' = .returned (.int .i64 0) ∧ StAt w0 w' p q B g S v dv cv l r j rs cs (StC q B cv rs.length false) rows := by
  have DD := Lib.hid (h.did 0)
  rw [show ((0 : Int) != 0) = false from rfl] at DD
  clear h
  go_enter Tryz.func52, Tryz.ntmps52
  go_wp2_with fail
  refine DD.out.mono ?_
  rintro _ w1 ⟨rfl, hs⟩
  have HS := Lib.hid hs
  clear hs DD
  obtain ⟨c0, c1, c2, c3, c4⟩ := HS.out.cells5
  have LN := Lib.hid HS.out.lg.lenC
  obtain ⟨n, hn⟩ : ∃ n, rs.length = n := ⟨_, rfl⟩
  rw [hn] at LN
  have HN := Lib.hid hn
  clear c0 c2 c3 c4 hn
  go_wp2_with fail
  refine LN.out.mono ?_
  rintro _ _ ⟨rfl, rfl⟩
  have HR := Lib.hid HS.out.row
  clear LN c1
  go_wp2_with ((with_reducible show wpList _ _ _ (⟨_, .store 3 (.tmp 16) _, _, _, _, _⟩ :: _) _ _)
               refine wpList_store_cell rfl 3 (.tmp 16) (.tmp 14) rfl p 3 StT _ (.int .i64 n) rfl rfl rfl rfl HR.out (by simp [StC]) rfl ?_
               intro w2 hr hg
               have HT := Lib.hid (HS.out.set (C' := StC q B cv n false) hg hr)
               clear hr hg)
  go_ret
  exact ⟨rfl, by rw [HN.out]; exact HT.out⟩
theorem sync20_nil (W : World) : Calls Tryz.prog 26 #[.pointer none] W fun e w' => e = .returned (.int .i64 1) ∧ W = w' := by
  go_enter Tryz.func26, Tryz.ntmps26
  go_wp2_with fail
  refine (swrong_nil _).mono ?_
  rintro _ _ ⟨rfl, rfl⟩
  go_wp2_with fail
  go_ret
  exact ⟨rfl, rfl⟩
set_option maxHeartbeats 1600000 in
theorem St.sync_ok {w0 W : World} {p : Nat} {l : List Jn.Fl} {r : Int} {j : Jn.Jr.J} {rs : List Rp} {cs : List Ct} {rel : Int} {rows : Rws} (h : St w0 W p l r j rs cs rel false rows) (hje : (Jn.Jr.syncJ l r j).2.2.2 = 0) : Calls Tryz.prog 26 #[.pointer (some ⟨p, 0, none⟩)] W fun e w' => e = .returned (.int .i64 0) ∧ St w0 w' p (Jn.Jr.syncJ l r j).1 (Jn.Jr.syncJ l r j).2.1 (Jn.Jr.syncJ l r j).2.2.1 rs cs rs.length false rows := by
  obtain ⟨q, B, g, Z, v, dv, cv, h⟩ := h
  have HA := Lib.hid h
  clear h
  have WR := Lib.hid HA.out.wrong
  have JY := Lib.hid (Jn.jsync_at HA.out.jn)
  obtain ⟨sy, hsy⟩ : ∃ sy, Jn.Jr.syncJ l r j = sy := ⟨_, rfl⟩
  obtain ⟨l2, r2, j2, je⟩ := sy
  rw [hsy] at JY hje ⊢
  simp only at hje
  subst hje
  obtain ⟨c0, c1, c2, c3, c4⟩ := HA.out.cells5
  clear hsy c1 c2 c3 c4
  have JY' : Hid (Calls Tryz.prog 29 #[.pointer (some ⟨q, 0, none⟩)] W fun e w' => e = .returned (.int .i64 0) ∧ Jn.JTo W w' w0.heap.size Z g q l2 r2 j2) := JY
  clear JY
  go_enter Tryz.func26, Tryz.ntmps26
  go_wp2_with fail
  refine WR.out.mono ?_
  rintro _ _ ⟨rfl, rfl⟩
  clear WR
  go_wp2_with fail
  refine JY'.out.mono ?_
  rintro _ w1 ⟨rfl, hjt⟩
  obtain ⟨Z2, ha⟩ := HA.out.jrn hjt
  have HA1 := Lib.hid ha
  clear hjt ha JY' c0
  go_wp2_with fail
  refine HA1.out.safe_ok.mono ?_
  rintro _ w2 ⟨rfl, ha⟩
  have HA2 := Lib.hid ha
  clear ha
  go_wp2_with fail
  go_ret
  exact ⟨rfl, q, B, g, Z2, v, dv, cv, HA2.out⟩
/-- Open, without a disk -/
theorem open20_nil (W : World) : Calls Tryz.prog 25 #[.pointer none] W fun e w' => e = .returned (.tuple #[.pointer none, .int .i64 1]) ∧ W = w' := by
  go_enter Tryz.func25, Tryz.ntmps25
  go_wp2_with fail
  go_step3
  go_wp2_with fail
  refine (Jn.jopen_nil [108, 111, 103] W).mono ?_
  rintro _ _ ⟨rfl, rfl⟩
  go_wp2_with fail
  rw [Exit.noGoto_ret]
  go_ret2
  exact ⟨rfl, rfl⟩
theorem st_built (q B : Nat) : Tryz.prog.built StT [(0, .pointer (some ⟨q, 0, none⟩)), (1, .pointer (some ⟨B, 0, none⟩))] = some (StC q B (.slice none 0 0) 0 false).toArray := by kernel_rfl
theorem LogAt.mono {w : World} {base base' B : Nat} {v dv : Value} {rs : List Rp} (h : LogAt w base B v dv rs) (hb : base' ≤ base) : LogAt w base' B v dv rs :=
  ⟨h.row, h.own.mono hb, h.dow.mono hb, h.good, h.len, Nat.le_trans hb h.lo⟩
set_option maxHeartbeats 3200000 in
theorem open20_new {w0 W : World} {g : Nat} {S0 : Nat → Prop} (hd : Jn.DiskS W w0.heap.size S0 g [] (-1)) (hlow : Below w0.heap.size w0 W) : Calls Tryz.prog 25 #[.pointer (some ⟨g, 0, none⟩)] W fun e w' => ∃ p, e = .returned (.tuple #[.pointer (some ⟨p, 0, none⟩), .int .i64 0]) ∧ St w0 w' p [] (-1) ⟨0, 0, false⟩ [] [] 0 false [] := by
  have JO : Hid (Calls Tryz.prog 27 #[.pointer (some ⟨g, 0, none⟩), .string ⟨#[108, 111, 103]⟩] W fun e w' => Jn.OpenTo W w' w0.heap.size S0 g [] (-1) ⟨0, 0, false⟩ [] e) := Lib.hid (Jn.jopen_up (o := none) (x := none) hd (by decide))
  have HD := Lib.hid hd
  have HL := Lib.hid hlow
  clear hd hlow
  go_enter Tryz.func25, Tryz.ntmps25
  go_wp2_with fail
  go_step3
  go_wp2_with fail
  refine JO.out.mono ?_
  rintro _ w1 ⟨q, vv, S1, rfl, hjs, hq1, hq2, hS1, hch, A, c, rfl, _⟩
  have hlow1 : Below w0.heap.size w0 w1 := below_chg HL.out hch.out HL.out.size (fun k hk => (HD.out.1 k hk).1)
  have HJ := Lib.hid hjs
  have HQ : Hid (w0.heap.size ≤ q ∧ q < w1.heap.size) := Lib.hid ⟨Nat.le_trans HL.out.size hq1, hq2⟩
  have HL1 := Lib.hid hlow1
  have NW := Lib.hid (logNew_any w1)
  have HBu := Lib.hid (st_built q w1.heap.size)
  have hlz : ([] : List (List UInt8)).length = 0 := rfl
  rw [hlz]
  clear hjs hq1 hq2 hS1 hch hlow1 JO hlz
  go_wp2_with fail
  refine NW.out.mono ?_
  rintro _ w2 ⟨rfl, hlg, hb2⟩
  have HG := Lib.hid hlg
  have HB2 := Lib.hid hb2
  clear hlg hb2 NW
  obtain ⟨CS, hCS⟩ : ∃ CS, StC q w1.heap.size (.slice none 0 0) 0 false = CS := ⟨_, rfl⟩
  have eCS : CS.toArray = #[.pointer (some ⟨q, 0, none⟩), .pointer (some ⟨w1.heap.size, 0, none⟩), .slice none 0 0, .int .i64 0, .bool false] := by rw [← hCS]; rfl
  clear HBu
  have hb3 := (Below.refl w2.heap.size w2).alloc (Nat.le_refl _) (.cells CS.toArray StT)
  have hst : StAt w0 (w2.alloc (.cells CS.toArray StT)) w2.heap.size q w1.heap.size g S1 (.slice none 0 0) (.slice none 0 0) (.slice none 0 0) [] (-1) ⟨0, 0, false⟩ [] [] CS [] := by
    have hs : ∀ k, S1 k → w0.heap.size ≤ k ∧ k < w1.heap.size := HJ.out.disk.1
    refine ⟨(HJ.out.below HB2.out).below hb3, (HG.out.mono HL1.out.size).below hb3, OwnL.nil _ _ _ _ _, Row.new w2 StT CS, two_below' (two_below' HL1.out HB2.out) hb3, Nat.le_trans HL1.out.size HB2.out.size, HQ.out.1, fun k hk => ⟨?_, ?_, ?_⟩, by simp⟩
    · rintro (e | e | e)
      · have := (hs k hk).2; omega
      · cases e
      · cases e
    · have := (hs k hk).2; have := HB2.out.size; omega
    · intro e; cases e
  have HS := Lib.hid hst
  have HRw := Lib.hid hst.row
  have c1 : (w2.alloc (.cells CS.toArray StT)).cell? ⟨w2.heap.size, 1, none⟩ = some (.pointer (some ⟨w1.heap.size, 0, none⟩)) := by rw [← hCS] at hst ⊢; exact hst.cells5.2.1
  have LN := Lib.hid hst.lg.lenC
  have HCS := Lib.hid hCS
  clear hst hb3 hCS
  rw [eCS] at HS HRw c1 LN
  clear eCS
  go_wp2_with fail
  go_step3
  go_wp2_with fail
  generalize w2.alloc (.cells #[.pointer (some ⟨q, 0, none⟩), .pointer (some ⟨w1.heap.size, 0, none⟩), .slice none 0 0, .int .i64 0, .bool false] StT) = w3 at *
  generalize w2.heap.size = p at *
  generalize w1.heap.size = B at *
  have LN' : Hid (Calls Tryz.prog 41 #[.pointer (some ⟨B, 0, none⟩)] w3 fun e w' => e = .returned (.int .i64 0) ∧ w3 = w') := LN
  clear LN
  refine LN'.out.mono ?_
  rintro _ _ ⟨rfl, rfl⟩
  clear LN' c1
  go_wp2_with ((with_reducible show wpList _ _ _ (⟨_, .store 3 (.tmp 60) _, _, _, _, _⟩ :: _) _ _)
               refine wpList_store_cell rfl 3 (.tmp 60) (.tmp 58) rfl p 3 StT _ (.int .i64 0) rfl rfl rfl rfl HRw.out (by rw [← HCS.out]; simp [StC]) rfl ?_
               intro w4 hr hg
               have HT := Lib.hid (HS.out.set (C' := StC q B (.slice none 0 0) 0 false) hg (by rw [← HCS.out] at hr; exact hr))
               clear hr hg)
  rw [Exit.noGoto_ret]
  go_ret2
  exact ⟨p, rfl, q, B, g, S1, _, _, _, HT.out⟩
end Go.Proofs.YtalfnadejpmjnaaGreatDoor

/- ---- StCc ---- -/
/- Cut: what it returns. -/
namespace Go.Proofs.YtalfnadejpmjnaaGreatDoor
open Go.RowKit
set_option linter.unusedVariables false
set_option linter.unusedSimpArgs false
set_option maxRecDepth 100000

theorem ct_whole3 : (Tryz.prog.info? 52).map (fun i => (i.zero, i.size, i.bytes)) = some (some (.agg Ct.zero.cells.toArray), 4, 32) := by kernel_rfl
theorem fill_ct (ZA : Array Value) (CT : List Value) (h : CT.length = 4) : Instr.fill (fun i => some (i * 4, 4)) ((Array.range (1 * 4)).map (ZA[· % ZA.size]!)) [(0, .agg CT.toArray)] = some CT.toArray := by
  have e : ((Array.range (1 * 4)).map (ZA[· % ZA.size]!)) = ((List.range 4).map (ZA[· % ZA.size]!)).toArray := by rw [← Array.toList_inj]; simp
  rw [e, fill_step _ _ 0 _ CT _ 0 4 rfl (by simp [Value.cells]) h (by simp), fill_end]
  simp [List.drop_of_length_le]
theorem wp_buildCt {o : Oper} {a : Act} {w : World} {K : Act → World → Prop} {Q : Exit → Act → World → Prop} (x : Operand) (ho : o.op = .buildSlice 30 1 #[(0, x)]) (C : List Value) (hC : C.length = 4) (hx : a.eval x = .agg C.toArray)
    (h : K (a.put o.dst (.slice (some ⟨w.heap.size, 0, none⟩) 1 1)) (w.alloc (.cells C.toArray 52))) : o.wp Tryz.prog a w K Q := by
  obtain ⟨i0, hi, h2⟩ := Option.map_eq_some_iff.1 ct_whole3
  simp only [Prod.mk.injEq] at h2
  obtain ⟨hz, hsz, hby⟩ := h2
  have hf := fill_ct Ct.zero.cells.toArray C hC
  refine wp_buildSlice 30 52 1 _ ho C.toArray i0 (.agg Ct.zero.cells.toArray) Tryz.underlying30 hi hz (by rw [hsz]; decide) (by rw [hsz]; decide) ?_ h
  rw [hsz]
  simpa [Value.cells, hx] using hf
theorem wp_appC {o : Oper} {a : Act} {w : World} {K : Act → World → Prop} {Q : Exit → Act → World → Prop} (sl y : Operand) (ho : o.op = .call { callee := .builtin .append, args := #[sl, y], argTypes := #[30, 30] })
    (c : Ct) (gv : Nat) (hrow : Row w gv 52 c.cells) (base : Nat) (v : Value) (l : List Ct) (hown : OwnL w base 52 4 Ct.cells v l) (hbase : base ≤ w.heap.size) (hlen : l.length ≤ 100000)
    (hs : a.eval sl = v) (hy : a.eval y = .slice (some ⟨gv, 0, none⟩) 1 1)
    (H : ∀ v' w', OwnL w' base 52 4 Ct.cells v' (l ++ [c]) → Chg (fun k => v.ownBlock = some k) w w' → (∀ k, v'.ownBlock = some k → v.ownBlock = some k ∨ w.heap.size ≤ k) → K (a.put o.dst v') w') : o.wp Tryz.prog a w K Q := by
  obtain ⟨i0, hi, h2⟩ := Option.map_eq_some_iff.1 ct_whole3
  simp only [Prod.mk.injEq] at h2
  obtain ⟨hz, hsz, hby⟩ := h2
  refine wp_append_own_at sl y 30 ho base 52 i0 (.agg Ct.zero.cells.toArray) 4 32 Tryz.underlying30 hi hz hsz hby (by simp [Value.cells, Ct.cells]) (by decide) v l.length (Rw.flat Ct.cells l) hs hown.own ⟨gv, 0, none⟩ 1 1 c.cells hy rfl (fun j u hu => ?_) (Ct.one c) (by decide) (by unfold maxLen; omega) (by omega) hbase (fun v' w' ho hg hat => H v' w' (OwnL.pushed ho) ?_ ?_)
  · have := row_range hrow j u hu
    rw [Nat.zero_add] at this
    have hadd : (⟨gv, 0, none⟩ : Addr).add j = ⟨gv, j, none⟩ := by unfold Addr.add; split <;> simp_all
    rw [hadd]
    exact this
  · exact Chg.of_grown (S := fun k => v.ownBlock = some k) hg (fun k hk => .inl hk)
  · intro k hk
    rcases hat with q | q
    · exact .inl (q ▸ hk)
    · rw [q] at hk
      cases hk
      exact .inr (Nat.le_refl _)
theorem ctNext_nums {rs : List Rp} {cs : List Ct} {n : Int} (hc : CtsOk cs) (hl : rs.length ≤ 1000) (h : (ctNext rs cs n).2 = 0) : ∀ x ∈ (ctNext rs cs n).1.nums, x ≤ 9223372036854775807 := by
  unfold ctNext at h ⊢
  split at h
  · cases h
  · split at h
    · cases h
    · next h1 h2 =>
      rw [if_neg h1, if_neg h2]
      have he := hc.ctEnd
      have ht : Od.taken rs (ctEnd cs) ≤ 1000 := by
        have h3 := Od.del_len rs
        unfold Od.taken Od.lt
        have := List.countP_le_length (p := fun y : Int => decide (y < ctEnd cs)) (l := Od.del rs)
        omega
      have := hc.1
      unfold ctOpen at h2
      intro x hx
      simp only [Ct.nums, List.mem_cons, List.not_mem_nil, or_false] at hx
      rcases hx with rfl | rfl | rfl | rfl <;> omega
set_option maxHeartbeats 6400000 in
theorem St.cut_no {w0 W : World} {p : Nat} {l : List Jn.Fl} {r : Int} {j : Jn.Jr.J} {rs : List Rp} {cs : List Ct} {rel : Int} {rows : Rws} (h : St w0 W p l r j rs cs rel false rows) (hc : CtsOk cs) (nn : Int) (he : (ctNext rs cs nn).2 ≠ 0) : Calls Tryz.prog 31 #[.pointer (some ⟨p, 0, none⟩), .int .i64 nn] W fun e w' => e = .returned (.tuple #[.agg Ct.zero.cells.toArray, .int .i64 (ctNext rs cs nn).2]) ∧ St w0 w' p l r j rs cs rel false rows := by
  obtain ⟨q, B, g, Z, v, dv, cv, h⟩ := h
  have hz := ct_zv
  have HZ4 : Hid (Ct.zero.cells.length = 4) := Lib.hid rfl
  have HZ1 := Lib.hid (Ct.one Ct.zero)
  have HBt : Hid (Tryz.prog.built 52 [] = some Ct.zero.cells.toArray) := Lib.hid ct_built0
  obtain ⟨ZT, hZT⟩ : ∃ ZT, Ct.zero.cells = ZT := ⟨_, rfl⟩
  rw [hZT] at hz HZ4 HZ1 HBt ⊢
  have HZT := Lib.hid hZT
  clear hZT
  obtain ⟨nc, hnc⟩ : ∃ nc, ctNext rs cs nn = nc := ⟨_, rfl⟩
  obtain ⟨c, ee⟩ := nc
  rw [hnc] at he ⊢
  simp only at he
  have HNc := Lib.hid hnc
  have dee : (ee != 0) = true := by simpa using he
  have HCc := Lib.hid hc
  clear he hnc hc
  have HA := Lib.hid (h.alloc 52 ZT)
  have HNe := Lib.hid h.fresh
  clear h
  go_enter Tryz.func31, Tryz.ntmps31
  go_wp2_with fail
  generalize W.alloc (.cells ZT.toArray 52) = W1 at *
  generalize W.heap.size = gr at *
  have WR := Lib.hid HA.out.wrong
  refine WR.out.mono ?_
  rintro _ _ ⟨rfl, rfl⟩
  clear WR
  have NC := Lib.hid (HA.out.nextCut HCc.out nn)
  rw [HNc.out] at NC
  have HC4 : Hid (c.cells.length = 4) := Lib.hid rfl
  have HC1 := Lib.hid (Ct.one c)
  generalize c.cells = CC at *
  go_wp2_with fail
  refine NC.out.mono ?_
  rintro _ w2 ⟨rfl, hb2⟩
  have HA2 := Lib.hid (HA.out.below hb2)
  clear hb2 NC HNc
  go_wp2_with (first
    | (
       with_reducible show wpList _ _ _ (⟨_, .store 52 (.tmp 7) _, _, _, _, _⟩ :: _) _ _
       refine wpList_store_at rfl 52 (.tmp 7) (.tmp 20) rfl w2.heap.size 0 CC ZT _ rfl rfl (Row.new w2 52 ZT) (by have := HZ4.out; have := HC4.out; omega) (by rw [ct_info, HC4.out]) HC1.out ?_
       intro w3 hr hg
       rw [splice_all (HC4.out.trans HZ4.out.symm)] at hr
       have HA3 := Lib.hid (HA2.out.box hg hr)
       have HNf := Lib.hid HA2.out.fresh
       clear hr hg)
    | ((with_reducible show wpList _ _ _ (⟨_, .build 52 _, _, _, _, _⟩ :: _) _ _); refine wpList_buildL rfl 52 [] rfl (some 24) rfl _ rfl ZT.toArray HBt.out ?_)
    | (
       with_reducible show wpList _ _ _ (⟨_, .store 52 (.tmp 4) _, _, _, _, _⟩ :: _) _ _
       refine wpList_store_at rfl 52 (.tmp 4) (.tmp 24) rfl gr 0 ZT ZT 52 rfl rfl (HA3.out.brow (T := 52) (X := ZT) (by simp)) (by have := HZ4.out; omega) (by rw [ct_info, HZ4.out]) HZ1.out ?_
       intro w9 hr hg
       rw [splice_all rfl] at hr
       have HS9 := Lib.hid hr
       have HD9 := Lib.hid ((HA3.out.less (rows' := (gr, 52, ZT) :: rows) (fun x hx => List.mem_cons_of_mem _ hx)).write hg hr HNe.out)
       clear hr hg))
  refine bodyPost_ret (results_rowL rfl _ _ gr 52 ZT _ rfl HS9.out Tryz.underlying52 rfl (by rw [ct_info]; simp [HZ4.out]) _ rfl) rfl ⟨rfl, ?_⟩
  exact ⟨q, B, g, Z, v, dv, cv, HD9.out.less (fun x hx => List.mem_cons_of_mem _ hx)⟩
set_option maxHeartbeats 6400000 in
theorem St.cut_ok {w0 W : World} {p : Nat} {l : List Jn.Fl} {r : Int} {j : Jn.Jr.J} {rs : List Rp} {cs : List Ct} {rel : Int} {rows : Rws} (h : St w0 W p l r j rs cs rel false rows) (hc : CtsOk cs) (hlr : rs.length ≤ 1000) (hjl : j.len ≤ 1000000000) (nn : Int) (he : (ctNext rs cs nn).2 = 0) (hje : (Jn.Jr.addR l r j (ctNext rs cs nn).1.rcd).2.2.2 = 0) : Calls Tryz.prog 31 #[.pointer (some ⟨p, 0, none⟩), .int .i64 nn] W fun e w' => e = .returned (.tuple #[.agg (ctNext rs cs nn).1.cells.toArray, .int .i64 0]) ∧ St w0 w' p (Jn.Jr.addR l r j (ctNext rs cs nn).1.rcd).1 (Jn.Jr.addR l r j (ctNext rs cs nn).1.rcd).2.1 (Jn.Jr.addR l r j (ctNext rs cs nn).1.rcd).2.2.1 rs (cs ++ [(ctNext rs cs nn).1]) rel false rows := by
  obtain ⟨q, B, g, Z, v, dv, cv, h⟩ := h
  obtain ⟨A, cp, hcv, _, _⟩ := h.ct.form
  subst hcv
  have HCl : Hid (cs.length ≤ 100000) := Lib.hid (by have := hc.1; omega)
  have hz := ct_zv
  have HZ4 : Hid (Ct.zero.cells.length = 4) := Lib.hid rfl
  have HZ1 := Lib.hid (Ct.one Ct.zero)
  have HBt : Hid (Tryz.prog.built 52 [] = some Ct.zero.cells.toArray) := Lib.hid ct_built0
  obtain ⟨ZT, hZT⟩ : ∃ ZT, Ct.zero.cells = ZT := ⟨_, rfl⟩
  rw [hZT] at hz HZ4 HZ1 HBt
  have HZT := Lib.hid hZT
  clear hZT
  obtain ⟨nc, hnc⟩ : ∃ nc, ctNext rs cs nn = nc := ⟨_, rfl⟩
  obtain ⟨c, ee⟩ := nc
  rw [hnc] at he hje ⊢
  simp only at he hje
  subst he
  have HNm := Lib.hid (show ∀ x ∈ c.nums, x ≤ 9223372036854775807 from by
    have := ctNext_nums (n := nn) hc hlr (by rw [hnc])
    rwa [hnc] at this)
  have LC := Lib.hid (fun W => layCut_any c HNm.out W)
  have hlr1 := Ct.rcd_len c
  obtain ⟨RC, hRC⟩ : ∃ RC, c.rcd = RC := ⟨_, rfl⟩
  rw [hRC] at LC hje hlr1 ⊢
  obtain ⟨ad, had⟩ : ∃ ad, Jn.Jr.addR l r j RC = ad := ⟨_, rfl⟩
  obtain ⟨l2, r2, j2, je⟩ := ad
  have JA : Hid (∀ {B : Nat} {Z : Nat → Prop} {g q : Nat} (W : World), Jn.JS W B Z g q l r j → Calls Tryz.prog 28 #[.pointer (some ⟨q, 0, none⟩), S RC] W fun e w' => e = .returned (.int .i64 je) ∧ Jn.JTo W w' B Z g q l2 r2 j2) := Lib.hid (fun W h => by
    have := Jn.jadd_at h RC (by omega) hjl
    rw [had] at this
    exact this)
  rw [had] at hje ⊢
  simp only at hje
  have HNc := Lib.hid hnc
  have HCc := Lib.hid hc
  have HC4 : Hid (c.cells.length = 4) := Lib.hid rfl
  have HC1 := Lib.hid (Ct.one c)
  clear hnc hc had hRC hjl hlr1 hlr HNm
  subst hje
  obtain ⟨n, hn⟩ : ∃ n, cs.length = n := ⟨_, rfl⟩
  rw [hn] at h
  clear hn
  have HA := Lib.hid (h.alloc 52 ZT)
  have HNe := Lib.hid h.fresh
  clear h
  go_enter Tryz.func31, Tryz.ntmps31
  go_wp2_with fail
  generalize W.alloc (.cells ZT.toArray 52) = W1 at *
  generalize W.heap.size = gr at *
  have WR := Lib.hid HA.out.wrong
  refine WR.out.mono ?_
  rintro _ _ ⟨rfl, rfl⟩
  clear WR
  have NC := Lib.hid (HA.out.nextCut HCc.out nn)
  rw [HNc.out] at NC
  obtain ⟨CC, hCC⟩ : ∃ CC, c.cells = CC := ⟨_, rfl⟩
  have HCC := Lib.hid hCC
  have NC' : Hid (Calls Tryz.prog 67 #[.pointer (some ⟨p, 0, none⟩), .int .i64 nn] W1 fun e w' => e = .returned (.tuple #[.agg CC.toArray, .int .i64 0]) ∧ Below W1.heap.size W1 w') := Lib.hid (by have := NC.out; rw [hCC] at this; exact this)
  have LC' : Hid (∀ W, Calls Tryz.prog 68 #[.agg CC.toArray] W fun e w' => e = .returned (S RC) ∧ Below W.heap.size W w') := Lib.hid (by have := LC.out; rw [hCC] at this; exact this)
  rw [hCC] at HC4 HC1
  clear NC LC hCC
  have LC := LC'
  clear LC'
  go_wp2_with fail
  refine NC'.out.mono ?_
  rintro _ w2 ⟨rfl, hb2⟩
  have HA2 := Lib.hid (HA.out.below hb2)
  clear hb2 NC' HNc
  go_wp2_with (first
    | (
       with_reducible show wpList _ _ _ (⟨_, .store 52 (.tmp 7) _, _, _, _, _⟩ :: _) _ _
       refine wpList_store_at rfl 52 (.tmp 7) (.tmp 20) rfl w2.heap.size 0 CC ZT _ rfl rfl (Row.new w2 52 ZT) (by have := HZ4.out; have := HC4.out; omega) (by rw [ct_info, HC4.out]) HC1.out ?_
       intro w3 hr hg
       rw [splice_all (HC4.out.trans HZ4.out.symm)] at hr
       have HA3 := Lib.hid (HA2.out.box hg hr)
       have HNf := Lib.hid HA2.out.fresh
       clear hr hg))
  generalize w2.heap.size = g7 at *
  have HDx := Lib.hid (HA3.out.below (Below.refl _ _).drew)
  refine wp_region_noPanic ?_
  refine wp_region_held_drew (S := fun w' => w'.cell? ⟨p, 0, none⟩ = some (.pointer (some ⟨q, 0, none⟩)) ∧ Row w' g7 52 CC) (by kernel_rfl) (⟨HDx.out.cells5.1, HDx.out.brow (by simp)⟩) (fun hHeld => ?_)
  generalize w3.drew = wq at *
  refine wpAnyH_take (i := 0) (v := .pointer (some ⟨p, 0, none⟩)) rfl (by kernel_rfl) (by kernel_rfl) (by kernel_rfl) (fun _ _ _ h => h) (Or.inl ⟨by rfl, fun w' hSw => by go_simp⟩) hHeld ?_
  try simp only [Act.put, List.getElem_toArray, List.getElem_cons_succ, List.getElem_cons_zero, List.setIfInBounds_toArray, List.set_cons_zero, List.set_cons_succ]
  refine wpAnyH_take (i := 1) (v := .pointer (some ⟨p, 0, none⟩)) rfl (by kernel_rfl) (by kernel_rfl) (by kernel_rfl) (fun _ _ _ h => h) (Or.inl ⟨by rfl, fun w' hSw => by go_simp⟩) hHeld ?_
  try simp only [Act.put, List.getElem_toArray, List.getElem_cons_succ, List.getElem_cons_zero, List.setIfInBounds_toArray, List.set_cons_zero, List.set_cons_succ]
  refine wpAnyH_take (i := 2) (v := .pointer (some ⟨p, 0, none⟩)) rfl (by kernel_rfl) (by kernel_rfl) (by kernel_rfl) (fun _ _ _ h => h) (Or.inl ⟨by rfl, fun w' hSw => by go_simp⟩) hHeld ?_
  try simp only [Act.put, List.getElem_toArray, List.getElem_cons_succ, List.getElem_cons_zero, List.setIfInBounds_toArray, List.set_cons_zero, List.set_cons_succ]
  refine wpAnyH_take (i := 3) (v := .pointer (some ⟨p, 0, none⟩)) rfl (by kernel_rfl) (by kernel_rfl) (by kernel_rfl) (fun _ _ _ h => h) (Or.inl ⟨by rfl, fun w' hSw => by go_simp⟩) hHeld ?_
  try simp only [Act.put, List.getElem_toArray, List.getElem_cons_succ, List.getElem_cons_zero, List.setIfInBounds_toArray, List.set_cons_zero, List.set_cons_succ]
  refine wpAnyH_take (i := 4) (v := .pointer (some ⟨q, 0, none⟩)) rfl (by kernel_rfl) (by kernel_rfl) (by kernel_rfl) (fun _ _ _ h => h) (Or.inl ⟨by rfl, fun w' hSw => by have hq := hSw; have hd := hq.1; go_simp⟩) hHeld ?_
  try simp only [Act.put, List.getElem_toArray, List.getElem_cons_succ, List.getElem_cons_zero, List.setIfInBounds_toArray, List.set_cons_zero, List.set_cons_succ]
  refine' wpAnyH_take (i := 5) (v := _) rfl (by kernel_rfl) (by kernel_rfl) (by kernel_rfl) (fun _ _ _ h => h) (yieldsIf_load_mid (by rfl) _ _ rfl g7 0 rfl CC _ (fun w' hSw => (row_range hSw.2)) Tryz.underlying52 rfl (by rw [ct_info, HC4.out])) hHeld ?_
  try simp only [Act.put, List.getElem_toArray, List.getElem_cons_succ, List.getElem_cons_zero, List.setIfInBounds_toArray, List.set_cons_zero, List.set_cons_succ]
  refine wpAnyH_ready (rs := [6]) (by kernel_rfl) (by simp) (AllReadyH.cons rfl (fun K1 hK1 => ?_) AllReadyH.nil)
  try simp only [Act.put, List.getElem_toArray, List.getElem_cons_succ, List.getElem_cons_zero, List.setIfInBounds_toArray, List.set_cons_zero, List.set_cons_succ]
  go_simp
  refine Calls.mono (LC.out _) ?_
  rintro e wc1 ⟨rfl, hb2⟩
  have HDx := Lib.hid (HDx.out.below hb2)
  refine hK1.out _ _ (⟨HDx.out.cells5.1, HDx.out.brow (by simp)⟩) (fun hHeld => ?_)
  clear hK1 K1
  try simp only [Act.put, List.getElem_toArray, List.getElem_cons_succ, List.getElem_cons_zero, List.setIfInBounds_toArray, List.set_cons_zero, List.set_cons_succ]
  refine wpAnyH_ready (rs := [7]) (by kernel_rfl) (by simp) (AllReadyH.cons rfl (fun K1 hK1 => ?_) AllReadyH.nil)
  try simp only [Act.put, List.getElem_toArray, List.getElem_cons_succ, List.getElem_cons_zero, List.setIfInBounds_toArray, List.set_cons_zero, List.set_cons_succ]
  go_simp
  refine Calls.mono (JA.out _ HDx.out.jn) ?_
  rintro e wc3 ⟨rfl, hjt⟩
  obtain ⟨S', hdx⟩ := HDx.out.jrn hjt
  have HDx := Lib.hid hdx
  clear hjt hdx
  refine hK1.out _ _ (⟨HDx.out.cells5.1, HDx.out.brow (by simp)⟩) (fun hHeld => ?_)
  clear hK1 K1
  try simp only [Act.put, List.getElem_toArray, List.getElem_cons_succ, List.getElem_cons_zero, List.setIfInBounds_toArray, List.set_cons_zero, List.set_cons_succ]
  refine wpAnyH_ready (rs := [8]) (by kernel_rfl) (by simp) (AllReadyH.cons rfl (fun K1 hK1 => ?_) AllReadyH.nil)
  try simp only [Act.put, List.getElem_toArray, List.getElem_cons_succ, List.getElem_cons_zero, List.setIfInBounds_toArray, List.set_cons_zero, List.set_cons_succ]
  go_simp
  refine Calls.mono (HDx.out.did 0) ?_
  rintro e wc4 ⟨rfl, hdx⟩
  have HDx := Lib.hid hdx
  clear hdx
  refine hK1.out _ _ (⟨HDx.out.cells5.1, HDx.out.brow (by simp)⟩) (fun hHeld => ?_)
  clear hK1 K1
  try simp only [Act.put, List.getElem_toArray, List.getElem_cons_succ, List.getElem_cons_zero, List.setIfInBounds_toArray, List.set_cons_zero, List.set_cons_succ]
  refine wpAnyH_take (i := 9) (v := .int .i64 0) rfl (by kernel_rfl) (by kernel_rfl) (by kernel_rfl) (fun _ _ _ h => h) (Or.inl ⟨by rfl, fun w' hSw => by go_simp⟩) hHeld ?_
  try simp only [Act.put, List.getElem_toArray, List.getElem_cons_succ, List.getElem_cons_zero, List.setIfInBounds_toArray, List.set_cons_zero, List.set_cons_succ]
  refine wpAnyH_done (by kernel_rfl) ?_ _
  refine NoPanic.normal ?_
  clear hHeld
  go_wp2_with fail
  generalize wc4 = wz at *
  have HDx := Lib.hid (HDx.out.below (Below.refl _ _).drew)
  refine wp_region_noPanic ?_
  refine wp_region_held_drew (S := fun w' => Row w' g7 52 CC) (by kernel_rfl) (HDx.out.brow (gx := g7) (T := 52) (X := CC) (by simp)) (fun hHeld => ?_)
  generalize wz.drew = wv at *
  refine wpAnyH_take (i := 0) (v := .pointer (some ⟨p, 0, none⟩)) rfl (by kernel_rfl) (by kernel_rfl) (by kernel_rfl) (fun _ _ _ h => h) (Or.inl ⟨by rfl, fun w' hSw => by go_simp⟩) hHeld ?_
  try simp only [Act.put, List.getElem_toArray, List.getElem_cons_succ, List.getElem_cons_zero, List.setIfInBounds_toArray, List.set_cons_zero, List.set_cons_succ]
  refine wpAnyH_take (i := 1) (v := .pointer (some ⟨p, 0, none⟩)) rfl (by kernel_rfl) (by kernel_rfl) (by kernel_rfl) (fun _ _ _ h => h) (Or.inl ⟨by rfl, fun w' hSw => by go_simp⟩) hHeld ?_
  try simp only [Act.put, List.getElem_toArray, List.getElem_cons_succ, List.getElem_cons_zero, List.setIfInBounds_toArray, List.set_cons_zero, List.set_cons_succ]
  refine wpAnyH_take (i := 2) (v := .pointer (some ⟨p, 0, none⟩)) rfl (by kernel_rfl) (by kernel_rfl) (by kernel_rfl) (fun _ _ _ h => h) (Or.inl ⟨by rfl, fun w' hSw => by go_simp⟩) hHeld ?_
  try simp only [Act.put, List.getElem_toArray, List.getElem_cons_succ, List.getElem_cons_zero, List.setIfInBounds_toArray, List.set_cons_zero, List.set_cons_succ]
  refine wpAnyH_take (i := 3) (v := .pointer (some ⟨p, 2, none⟩)) rfl (by kernel_rfl) (by kernel_rfl) (by kernel_rfl) (fun _ _ _ h => h) (Or.inl ⟨by rfl, fun w' hSw => by go_simp⟩) hHeld ?_
  try simp only [Act.put, List.getElem_toArray, List.getElem_cons_succ, List.getElem_cons_zero, List.setIfInBounds_toArray, List.set_cons_zero, List.set_cons_succ]
  refine' wpAnyH_take (i := 5) (v := _) rfl (by kernel_rfl) (by kernel_rfl) (by kernel_rfl) (fun _ _ _ h => h) (yieldsIf_load_mid (by rfl) _ _ rfl g7 0 rfl CC _ (fun w' hSw => (row_range hSw)) Tryz.underlying52 rfl (by rw [ct_info, HC4.out])) hHeld ?_
  try simp only [Act.put, List.getElem_toArray, List.getElem_cons_succ, List.getElem_cons_zero, List.setIfInBounds_toArray, List.set_cons_zero, List.set_cons_succ]
  refine wpAnyH_ready (rs := [4, 6]) (by kernel_rfl) (by simp) (AllReadyH.cons rfl (fun K1 hK1 => ?_) (AllReadyH.cons rfl (fun K1 hK1 => ?_) AllReadyH.nil))
  · skip
    try simp only [Act.put, List.getElem_toArray, List.getElem_cons_succ, List.getElem_cons_zero, List.setIfInBounds_toArray, List.set_cons_zero, List.set_cons_succ]
    rw [if_pos (by rfl)]
    have hcx := HDx.out.cells5.2.2.1
    go_simp
    refine hK1.out _ _ (hHeld) (fun hHeld => ?_)
    clear hK1 K1
    try simp only [Act.put, List.getElem_toArray, List.getElem_cons_succ, List.getElem_cons_zero, List.setIfInBounds_toArray, List.set_cons_zero, List.set_cons_succ]
    clear hcx
    refine wpAnyH_ready (rs := [6]) (by kernel_rfl) (by simp) (AllReadyH.cons rfl (fun K1 hK1 => ?_) AllReadyH.nil)
    try simp only [Act.put, List.getElem_toArray, List.getElem_cons_succ, List.getElem_cons_zero, List.setIfInBounds_toArray, List.set_cons_zero, List.set_cons_succ]
    rw [if_pos (by rfl)]
    refine wp_buildCt (.tmp 44) rfl CC HC4.out rfl ?_
    have hnr := Row.new wv 52 CC
    have HDx := Lib.hid (HDx.out.below ((Below.refl wv.heap.size wv).alloc (Nat.le_refl _) (.cells CC.toArray 52)))
    have hHeld2 := HDx.out.brow (gx := g7) (T := 52) (X := CC) (by simp)
    generalize wv.alloc (.cells CC.toArray 52) = wb1 at *
    generalize wv.heap.size = gb at *
    refine hK1.out _ _ (hHeld2) (fun hHeld => ?_)
    clear hK1 K1
    try simp only [Act.put, List.getElem_toArray, List.getElem_cons_succ, List.getElem_cons_zero, List.setIfInBounds_toArray, List.set_cons_zero, List.set_cons_succ]
    clear hHeld2
    refine wpAnyH_ready (rs := [7]) (by kernel_rfl) (by simp) (AllReadyH.cons rfl (fun K1 hK1 => ?_) AllReadyH.nil)
    try simp only [Act.put, List.getElem_toArray, List.getElem_cons_succ, List.getElem_cons_zero, List.setIfInBounds_toArray, List.set_cons_zero, List.set_cons_succ]
    rw [if_pos (by rfl)]
    refine wp_appC (.tmp 43) (.tmp 45) rfl c gb (by rw [HCC.out]; exact hnr) w0.heap.size (.slice A n cp) cs HDx.out.ct HDx.out.low.size HCl.out rfl rfl ?_
    intro u wi2 ho hc hk
    obtain ⟨A3, c3, hue, _, _⟩ := ho.form
    subst hue
    obtain ⟨n3, hn3⟩ : ∃ n3, (cs ++ [c]).length = n3 := ⟨_, rfl⟩
    rw [hn3] at ho hk ⊢
    clear hn3
    have HDy := Lib.hid (HDx.out.cuts ho hc hk)
    have hHeld2 := HDy.out.brow (gx := g7) (T := 52) (X := CC) (by simp)
    refine hK1.out _ _ (hHeld2) (fun hHeld => ?_)
    clear hK1 K1
    try simp only [Act.put, List.getElem_toArray, List.getElem_cons_succ, List.getElem_cons_zero, List.setIfInBounds_toArray, List.set_cons_zero, List.set_cons_succ]
    clear hHeld2
    refine wpAnyH_take (i := 8) (v := .pointer (some ⟨p, 0, none⟩)) rfl (by kernel_rfl) (by kernel_rfl) (by kernel_rfl) (fun _ _ _ h => h) (Or.inl ⟨by rfl, fun w' hSw => by go_simp⟩) hHeld ?_
    try simp only [Act.put, List.getElem_toArray, List.getElem_cons_succ, List.getElem_cons_zero, List.setIfInBounds_toArray, List.set_cons_zero, List.set_cons_succ]
    refine wpAnyH_take (i := 9) (v := .pointer (some ⟨p, 2, none⟩)) rfl (by kernel_rfl) (by kernel_rfl) (by kernel_rfl) (fun _ _ _ h => h) (Or.inl ⟨by rfl, fun w' hSw => by go_simp⟩) hHeld ?_
    try simp only [Act.put, List.getElem_toArray, List.getElem_cons_succ, List.getElem_cons_zero, List.setIfInBounds_toArray, List.set_cons_zero, List.set_cons_succ]
    refine wpAnyH_ready (rs := [10]) (by kernel_rfl) (by simp) (AllReadyH.cons rfl (fun K1 hK1 => ?_) AllReadyH.nil)
    try simp only [Act.put, List.getElem_toArray, List.getElem_cons_succ, List.getElem_cons_zero, List.setIfInBounds_toArray, List.set_cons_zero, List.set_cons_succ]
    rw [if_pos (by rfl)]
    refine wp_store_sl 30 (.tmp 48) (.tmp 46) rfl p 2 StT (StC q B (.slice A n cp) rel (0 != 0)) A3 n3 c3 rfl rfl HDy.out.row (by simp [StC]) (by kernel_rfl) ?_
    intro wt3 hr5 hg5
    have HDz := Lib.hid (HDy.out.set (C' := StC q B (.slice A3 n3 c3) rel false) hg5 hr5)
    have hHeld2 := HDz.out.brow (gx := g7) (T := 52) (X := CC) (by simp)
    refine hK1.out _ _ (hHeld2) (fun hHeld => ?_)
    clear hK1 K1
    try simp only [Act.put, List.getElem_toArray, List.getElem_cons_succ, List.getElem_cons_zero, List.setIfInBounds_toArray, List.set_cons_zero, List.set_cons_succ]
    clear hHeld2 hr5 hg5
    refine wpAnyH_done (by kernel_rfl) ?_ _
    refine NoPanic.normal ?_
    clear hHeld
    go_wp2_with (first
      | ((with_reducible show wpList _ _ _ (⟨_, .load 52 (.tmp 7), _, _, _, _⟩ :: _) _ _); refine wpList_load_tx rfl 52 (.tmp 7) rfl g7 0 (rfl) CC _ (row_range (HDz.out.brow (gx := g7) (T := 52) (X := CC) (by simp))) Tryz.underlying52 rfl (by rw [ct_info, HC4.out]) ?_)
      | (
         with_reducible show wpList _ _ _ (⟨_, .store 52 (.tmp 4) _, _, _, _, _⟩ :: _) _ _
         refine wpList_store_at rfl 52 (.tmp 4) (.tmp 49) rfl gr 0 CC ZT 52 rfl rfl (HDz.out.brow (T := 52) (X := ZT) (by simp)) (by have := HZ4.out; have := HC4.out; omega) (by rw [ct_info, HC4.out]) HC1.out ?_
         intro w9 hr hg
         rw [splice_all (HC4.out.trans HZ4.out.symm)] at hr
         have HS9 := Lib.hid hr
         have HD9 := Lib.hid ((HDz.out.less (rows' := (gr, 52, ZT) :: rows) (fun x hx => List.mem_cons_of_mem _ hx)).write hg hr HNe.out)
         clear hr hg))
    refine bodyPost_ret (results_rowL rfl _ _ gr 52 CC _ rfl HS9.out Tryz.underlying52 rfl (by rw [ct_info]; simp [HC4.out]) _ rfl) rfl ⟨by rw [HCC.out]; rfl, ?_⟩
    exact ⟨q, B, g, _, v, dv, _, HD9.out.less (fun x hx => List.mem_cons_of_mem _ hx)⟩
  · skip
    try simp only [Act.put, List.getElem_toArray, List.getElem_cons_succ, List.getElem_cons_zero, List.setIfInBounds_toArray, List.set_cons_zero, List.set_cons_succ]
    rw [if_pos (by rfl)]
    refine wp_buildCt (.tmp 44) rfl CC HC4.out rfl ?_
    have hnr := Row.new wv 52 CC
    have HDx := Lib.hid (HDx.out.below ((Below.refl wv.heap.size wv).alloc (Nat.le_refl _) (.cells CC.toArray 52)))
    have hHeld2 := HDx.out.brow (gx := g7) (T := 52) (X := CC) (by simp)
    generalize wv.alloc (.cells CC.toArray 52) = wb4 at *
    generalize wv.heap.size = gb at *
    refine hK1.out _ _ (hHeld2) (fun hHeld => ?_)
    clear hK1 K1
    try simp only [Act.put, List.getElem_toArray, List.getElem_cons_succ, List.getElem_cons_zero, List.setIfInBounds_toArray, List.set_cons_zero, List.set_cons_succ]
    clear hHeld2
    refine wpAnyH_ready (rs := [4]) (by kernel_rfl) (by simp) (AllReadyH.cons rfl (fun K1 hK1 => ?_) AllReadyH.nil)
    try simp only [Act.put, List.getElem_toArray, List.getElem_cons_succ, List.getElem_cons_zero, List.setIfInBounds_toArray, List.set_cons_zero, List.set_cons_succ]
    rw [if_pos (by rfl)]
    have hcx := HDx.out.cells5.2.2.1
    go_simp
    refine hK1.out _ _ (hHeld) (fun hHeld => ?_)
    clear hK1 K1
    try simp only [Act.put, List.getElem_toArray, List.getElem_cons_succ, List.getElem_cons_zero, List.setIfInBounds_toArray, List.set_cons_zero, List.set_cons_succ]
    clear hcx
    refine wpAnyH_ready (rs := [7]) (by kernel_rfl) (by simp) (AllReadyH.cons rfl (fun K1 hK1 => ?_) AllReadyH.nil)
    try simp only [Act.put, List.getElem_toArray, List.getElem_cons_succ, List.getElem_cons_zero, List.setIfInBounds_toArray, List.set_cons_zero, List.set_cons_succ]
    rw [if_pos (by rfl)]
    refine wp_appC (.tmp 43) (.tmp 45) rfl c gb (by rw [HCC.out]; exact hnr) w0.heap.size (.slice A n cp) cs HDx.out.ct HDx.out.low.size HCl.out rfl rfl ?_
    intro u wi5 ho hc hk
    obtain ⟨A3, c3, hue, _, _⟩ := ho.form
    subst hue
    obtain ⟨n3, hn3⟩ : ∃ n3, (cs ++ [c]).length = n3 := ⟨_, rfl⟩
    rw [hn3] at ho hk ⊢
    clear hn3
    have HDy := Lib.hid (HDx.out.cuts ho hc hk)
    have hHeld2 := HDy.out.brow (gx := g7) (T := 52) (X := CC) (by simp)
    refine hK1.out _ _ (hHeld2) (fun hHeld => ?_)
    clear hK1 K1
    try simp only [Act.put, List.getElem_toArray, List.getElem_cons_succ, List.getElem_cons_zero, List.setIfInBounds_toArray, List.set_cons_zero, List.set_cons_succ]
    clear hHeld2
    refine wpAnyH_take (i := 8) (v := .pointer (some ⟨p, 0, none⟩)) rfl (by kernel_rfl) (by kernel_rfl) (by kernel_rfl) (fun _ _ _ h => h) (Or.inl ⟨by rfl, fun w' hSw => by go_simp⟩) hHeld ?_
    try simp only [Act.put, List.getElem_toArray, List.getElem_cons_succ, List.getElem_cons_zero, List.setIfInBounds_toArray, List.set_cons_zero, List.set_cons_succ]
    refine wpAnyH_take (i := 9) (v := .pointer (some ⟨p, 2, none⟩)) rfl (by kernel_rfl) (by kernel_rfl) (by kernel_rfl) (fun _ _ _ h => h) (Or.inl ⟨by rfl, fun w' hSw => by go_simp⟩) hHeld ?_
    try simp only [Act.put, List.getElem_toArray, List.getElem_cons_succ, List.getElem_cons_zero, List.setIfInBounds_toArray, List.set_cons_zero, List.set_cons_succ]
    refine wpAnyH_ready (rs := [10]) (by kernel_rfl) (by simp) (AllReadyH.cons rfl (fun K1 hK1 => ?_) AllReadyH.nil)
    try simp only [Act.put, List.getElem_toArray, List.getElem_cons_succ, List.getElem_cons_zero, List.setIfInBounds_toArray, List.set_cons_zero, List.set_cons_succ]
    rw [if_pos (by rfl)]
    refine wp_store_sl 30 (.tmp 48) (.tmp 46) rfl p 2 StT (StC q B (.slice A n cp) rel (0 != 0)) A3 n3 c3 rfl rfl HDy.out.row (by simp [StC]) (by kernel_rfl) ?_
    intro wt6 hr5 hg5
    have HDz := Lib.hid (HDy.out.set (C' := StC q B (.slice A3 n3 c3) rel false) hg5 hr5)
    have hHeld2 := HDz.out.brow (gx := g7) (T := 52) (X := CC) (by simp)
    refine hK1.out _ _ (hHeld2) (fun hHeld => ?_)
    clear hK1 K1
    try simp only [Act.put, List.getElem_toArray, List.getElem_cons_succ, List.getElem_cons_zero, List.setIfInBounds_toArray, List.set_cons_zero, List.set_cons_succ]
    clear hHeld2 hr5 hg5
    refine wpAnyH_done (by kernel_rfl) ?_ _
    refine NoPanic.normal ?_
    clear hHeld
    go_wp2_with (first
      | ((with_reducible show wpList _ _ _ (⟨_, .load 52 (.tmp 7), _, _, _, _⟩ :: _) _ _); refine wpList_load_tx rfl 52 (.tmp 7) rfl g7 0 (rfl) CC _ (row_range (HDz.out.brow (gx := g7) (T := 52) (X := CC) (by simp))) Tryz.underlying52 rfl (by rw [ct_info, HC4.out]) ?_)
      | (
         with_reducible show wpList _ _ _ (⟨_, .store 52 (.tmp 4) _, _, _, _, _⟩ :: _) _ _
         refine wpList_store_at rfl 52 (.tmp 4) (.tmp 49) rfl gr 0 CC ZT 52 rfl rfl (HDz.out.brow (T := 52) (X := ZT) (by simp)) (by have := HZ4.out; have := HC4.out; omega) (by rw [ct_info, HC4.out]) HC1.out ?_
         intro w9 hr hg
         rw [splice_all (HC4.out.trans HZ4.out.symm)] at hr
         have HS9 := Lib.hid hr
         have HD9 := Lib.hid ((HDz.out.less (rows' := (gr, 52, ZT) :: rows) (fun x hx => List.mem_cons_of_mem _ hx)).write hg hr HNe.out)
         clear hr hg))
    refine bodyPost_ret (results_rowL rfl _ _ gr 52 CC _ rfl HS9.out Tryz.underlying52 rfl (by rw [ct_info]; simp [HC4.out]) _ rfl) rfl ⟨by rw [HCC.out]; rfl, ?_⟩
    exact ⟨q, B, g, _, v, dv, _, HD9.out.less (fun x hx => List.mem_cons_of_mem _ hx)⟩
end Go.Proofs.YtalfnadejpmjnaaGreatDoor

/- ---- StAdd ---- -/
/- Add: what it returns. -/
namespace Go.Proofs.YtalfnadejpmjnaaGreatDoor
open Go.RowKit
set_option linter.unusedVariables false
set_option linter.unusedSimpArgs false
set_option maxRecDepth 100000

theorem Od.mk_fits20 {rs : List Rp} (h : Od.Good rs) (kind : Int) (body : ByteArray) (time : Int) : (Od.mk rs kind body time).1.Fits := by
  by_cases h1 : rs ≠ [] ∧ time < Od.last rs
  · rw [Od.mk_early h1]; exact Rp.zero_fits
  by_cases h2 : (Od.ask rs kind body).2 = 0
  · rw [Od.mk_link h1 h2]
    unfold Rp.linkE
    by_cases h3 : (Od.raw rs kind body time).ok = true
    · rw [if_pos h3]
      have ht : Od.Took rs kind body time (Od.raw rs kind body time).linked (Od.ask rs kind body).1 := ⟨h1, h2, h3, rfl, (Od.ask_whose h2).1⟩
      exact ht.fits h.head
    · rw [if_neg h3]; exact Rp.zero_fits
  · rw [Od.mk_ask h1 h2]; exact Rp.zero_fits
set_option maxHeartbeats 1600000 in
theorem add20_nil (kind time : Int) (body : ByteArray) (W : World) : Calls Tryz.prog 30 #[.pointer none, .int .i64 kind, .string body, .int .i64 time] W fun e w' => e = .returned (.tuple #[.agg Rp.zero.cells.toArray, .int .i64 1]) ∧ Below W.heap.size W w' := by
  have hzv := rp_zv
  have HBt : Hid (Tryz.prog.built 64 [] = some Rp.zero.cells.toArray) := Lib.hid Rp.zero_built0
  have HZ68 := Lib.hid (Rp.cells_len Rp.zero_fits.prev Rp.zero_fits.hash)
  have HZ1 := Lib.hid (Rp.cells_one Rp.zero_fits.prev Rp.zero_fits.hash)
  obtain ⟨ZT, hZT⟩ : ∃ ZT, Rp.zero.cells = ZT := ⟨_, rfl⟩
  rw [hZT] at hzv HBt HZ68 HZ1
  have HZT := Lib.hid hZT
  clear hZT
  rw [HZT.out]
  have HB0 := Lib.hid ((Below.refl W.heap.size W).alloc (Nat.le_refl _) (.cells ZT.toArray 64))
  have HR0 := Lib.hid (Row.new W 64 ZT)
  go_enter Tryz.func30, Tryz.ntmps30
  go_wp2_with fail
  refine (swrong_nil _).mono ?_
  rintro _ _ ⟨rfl, rfl⟩
  go_wp2_with (first
    | ((with_reducible show wpList _ _ _ (⟨_, .build 64 _, _, _, _, _⟩ :: _) _ _); refine wpList_buildL rfl 64 [] rfl (some 18) rfl _ rfl ZT.toArray HBt.out ?_)
    | (
       with_reducible show wpList _ _ _ (⟨_, .store 64 (.tmp 8) _, _, _, _, _⟩ :: _) _ _
       refine wpList_store_at rfl 64 (.tmp 8) (.tmp 18) rfl W.heap.size 0 ZT ZT _ rfl rfl (HR0.out) (by have := HZ68.out; have := HZ68.out; omega) (by rw [rp_info, HZ68.out]) HZ1.out ?_
       intro w9 hr hg
       rw [splice_all (HZ68.out.trans HZ68.out.symm)] at hr
       have HS9 := Lib.hid hr
       have HB9 := Lib.hid (below_own HB0.out hg (fun k hk => by cases hk; exact Nat.le_refl _))
       clear hr hg))
  refine bodyPost_ret (results_rowL rfl _ _ W.heap.size 64 ZT _ rfl HS9.out Tryz.underlying64 rfl (by rw [rp_info]; simp [HZ68.out]) _ rfl) rfl ⟨rfl, HB9.out⟩
set_option maxHeartbeats 6400000 in
theorem St.add_ok {w0 W : World} {p : Nat} {l : List Jn.Fl} {r : Int} {j : Jn.Jr.J} {rs : List Rp} {cs : List Ct} {rel : Int} {rows : Rws} (h : St w0 W p l r j rs cs rel false rows) (hT : Tab w0) (hrl : rs.length < 1000) (hjl : j.len ≤ 1000000000) (kind time : Int) (body : ByteArray) (hbs : body.size ≤ 140737488351232) (he : (Od.mk rs kind body time).2.2 = 0) (hje : (Jn.Jr.addR l r j (Od.mk rs kind body time).1.rcd).2.2.2 = 0) : Calls Tryz.prog 30 #[.pointer (some ⟨p, 0, none⟩), .int .i64 kind, .string body, .int .i64 time] W fun e w' => e = .returned (.tuple #[.agg (Od.mk rs kind body time).1.cells.toArray, .int .i64 0]) ∧ St w0 w' p (Jn.Jr.addR l r j (Od.mk rs kind body time).1.rcd).1 (Jn.Jr.addR l r j (Od.mk rs kind body time).1.rcd).2.1 (Jn.Jr.addR l r j (Od.mk rs kind body time).1.rcd).2.2.1 (rs ++ [(Od.mk rs kind body time).1]) cs rel false rows := by
  obtain ⟨q, B, g, Z, v, dv, cv, h⟩ := h
  have HT : Hid (∀ W, Below w0.heap.size w0 W → Tab W) := Lib.hid (fun W hW => hT.below hW hT.pos)
  have HBs := Lib.hid hbs
  have HRl := Lib.hid hrl
  have hRf := Od.mk_fits20 h.lg.good kind body time
  have hadd : Od.addR rs kind body time = ((Od.mk rs kind body time).1, 0) ∧ Od.addL rs kind body time = rs ++ [(Od.mk rs kind body time).1] := ⟨by unfold Od.addR; rw [if_pos he], by unfold Od.addL; rw [if_pos he]⟩
  obtain ⟨R, hR⟩ : ∃ R, (Od.mk rs kind body time).1 = R := ⟨_, rfl⟩
  rw [hR] at hadd hRf hje ⊢
  have HRf := Lib.hid hRf
  have LC := Lib.hid (fun W hW => layReceipt_any R HRf.out W (HT.out W hW))
  have hlr1 := Rp.rcd_len hRf.prev hRf.hash
  obtain ⟨RC, hRC⟩ : ∃ RC, R.rcd = RC := ⟨_, rfl⟩
  rw [hRC] at LC hje hlr1 ⊢
  obtain ⟨ad, had⟩ : ∃ ad, Jn.Jr.addR l r j RC = ad := ⟨_, rfl⟩
  obtain ⟨l2, r2, j2, je⟩ := ad
  have JA : Hid (∀ {B : Nat} {Z : Nat → Prop} {g q : Nat} (W : World), Jn.JS W B Z g q l r j → Calls Tryz.prog 28 #[.pointer (some ⟨q, 0, none⟩), S RC] W fun e w' => e = .returned (.int .i64 je) ∧ Jn.JTo W w' B Z g q l2 r2 j2) := Lib.hid (fun W h => by
    have := Jn.jadd_at h RC (by omega) hjl
    rw [had] at this
    exact this)
  rw [had] at hje ⊢
  simp only at hje
  subst hje
  have HCR68 := Lib.hid (Rp.cells_len hRf.prev hRf.hash)
  have HCR1 := Lib.hid (Rp.cells_one hRf.prev hRf.hash)
  obtain ⟨CR, hCR⟩ : ∃ CR, R.cells = CR := ⟨_, rfl⟩
  rw [hCR] at LC HCR68 HCR1
  have HCR := Lib.hid hCR
  obtain ⟨rs2, hrs2⟩ : ∃ rs2, rs2 = rs ++ [R] := ⟨_, rfl⟩
  have HRs := Lib.hid hrs2
  have CRE : Hid (Od.addR rs kind body time = (R, 0) ∧ Od.addL rs kind body time = rs2) := Lib.hid ⟨hadd.1, by rw [hrs2]; exact hadd.2⟩
  clear he hadd hrs2 hT hbs hrl hRf hR had hRC hCR hlr1 hjl
  have hzv := rp_zv
  have HBt : Hid (Tryz.prog.built 64 [] = some Rp.zero.cells.toArray) := Lib.hid Rp.zero_built0
  have HZ68 := Lib.hid (Rp.cells_len Rp.zero_fits.prev Rp.zero_fits.hash)
  have HZ1 := Lib.hid (Rp.cells_one Rp.zero_fits.prev Rp.zero_fits.hash)
  obtain ⟨ZT, hZT⟩ : ∃ ZT, Rp.zero.cells = ZT := ⟨_, rfl⟩
  rw [hZT] at hzv HBt HZ68 HZ1
  have HZT := Lib.hid hZT
  clear hZT
  have HA := Lib.hid (h.alloc 64 ZT)
  have HNe := Lib.hid h.fresh
  clear h
  go_enter Tryz.func30, Tryz.ntmps30
  go_wp2_with fail
  generalize W.alloc (.cells ZT.toArray 64) = W1 at *
  generalize W.heap.size = gr at *
  have WR := Lib.hid HA.out.wrong
  refine WR.out.mono ?_
  rintro _ _ ⟨rfl, rfl⟩
  clear WR
  obtain ⟨cq0, cq1, _, _, _⟩ := HA.out.cells5
  have LA : Hid (Calls Tryz.prog 63 #[.pointer (some ⟨B, 0, none⟩), .int .i64 kind, .string body, .int .i64 time] W1 fun e w' => e = .returned (.tuple #[.agg CR.toArray, .int .i64 0]) ∧ LTo W1 w' w0.heap.size B v dv rs2) := Lib.hid (by
    have := HA.out.lg.add kind body time HBs.out (HT.out _ HA.out.low) HRl.out
    rw [CRE.out.1, CRE.out.2, HCR.out] at this
    exact this)
  go_wp2_with fail
  refine LA.out.mono ?_
  rintro _ w2 ⟨rfl, hlt⟩
  obtain ⟨v2, dv2, ha2⟩ := HA.out.log hlt
  have HA2 := Lib.hid ha2
  clear hlt ha2 LA cq0 cq1
  go_wp2_with (first
    | (
       with_reducible show wpList _ _ _ (⟨_, .store 64 (.tmp 11) _, _, _, _, _⟩ :: _) _ _
       refine wpList_store_at rfl 64 (.tmp 11) (.tmp 29) rfl w2.heap.size 0 CR ZT _ rfl rfl (Row.new w2 64 ZT) (by have := HZ68.out; have := HCR68.out; omega) (by rw [rp_info, HCR68.out]) HCR1.out ?_
       intro w3 hr hg
       rw [splice_all (HCR68.out.trans HZ68.out.symm)] at hr
       have HA3 := Lib.hid (HA2.out.box hg hr)
       clear hr hg))
  generalize w2.heap.size = g7 at *
  have HDx := Lib.hid (HA3.out.below (Below.refl _ _).drew)
  refine wp_region_noPanic ?_
  refine wp_region_held_drew (S := fun w' => w'.cell? ⟨p, 0, none⟩ = some (.pointer (some ⟨q, 0, none⟩)) ∧ Row w' g7 64 CR) (by kernel_rfl) (⟨HDx.out.cells5.1, HDx.out.brow (by simp)⟩) (fun hHeld => ?_)
  generalize w3.drew = wq at *
  refine wpAnyH_take (i := 0) (v := .pointer (some ⟨p, 0, none⟩)) rfl (by kernel_rfl) (by kernel_rfl) (by kernel_rfl) (fun _ _ _ h => h) (Or.inl ⟨by rfl, fun w' hSw => by go_simp⟩) hHeld ?_
  try simp only [Act.put, List.getElem_toArray, List.getElem_cons_succ, List.getElem_cons_zero, List.setIfInBounds_toArray, List.set_cons_zero, List.set_cons_succ]
  refine wpAnyH_take (i := 1) (v := .pointer (some ⟨p, 0, none⟩)) rfl (by kernel_rfl) (by kernel_rfl) (by kernel_rfl) (fun _ _ _ h => h) (Or.inl ⟨by rfl, fun w' hSw => by go_simp⟩) hHeld ?_
  try simp only [Act.put, List.getElem_toArray, List.getElem_cons_succ, List.getElem_cons_zero, List.setIfInBounds_toArray, List.set_cons_zero, List.set_cons_succ]
  refine wpAnyH_take (i := 2) (v := .pointer (some ⟨p, 0, none⟩)) rfl (by kernel_rfl) (by kernel_rfl) (by kernel_rfl) (fun _ _ _ h => h) (Or.inl ⟨by rfl, fun w' hSw => by go_simp⟩) hHeld ?_
  try simp only [Act.put, List.getElem_toArray, List.getElem_cons_succ, List.getElem_cons_zero, List.setIfInBounds_toArray, List.set_cons_zero, List.set_cons_succ]
  refine wpAnyH_take (i := 3) (v := .pointer (some ⟨p, 0, none⟩)) rfl (by kernel_rfl) (by kernel_rfl) (by kernel_rfl) (fun _ _ _ h => h) (Or.inl ⟨by rfl, fun w' hSw => by go_simp⟩) hHeld ?_
  try simp only [Act.put, List.getElem_toArray, List.getElem_cons_succ, List.getElem_cons_zero, List.setIfInBounds_toArray, List.set_cons_zero, List.set_cons_succ]
  refine wpAnyH_take (i := 4) (v := .pointer (some ⟨q, 0, none⟩)) rfl (by kernel_rfl) (by kernel_rfl) (by kernel_rfl) (fun _ _ _ h => h) (Or.inl ⟨by rfl, fun w' hSw => by have hq := hSw; have hd := hq.1; go_simp⟩) hHeld ?_
  try simp only [Act.put, List.getElem_toArray, List.getElem_cons_succ, List.getElem_cons_zero, List.setIfInBounds_toArray, List.set_cons_zero, List.set_cons_succ]
  refine' wpAnyH_take (i := 5) (v := _) rfl (by kernel_rfl) (by kernel_rfl) (by kernel_rfl) (fun _ _ _ h => h) (yieldsIf_load_mid (by rfl) _ _ rfl g7 0 rfl CR _ (fun w' hSw => (row_range hSw.2)) Tryz.underlying64 rfl (by rw [rp_info, HCR68.out])) hHeld ?_
  try simp only [Act.put, List.getElem_toArray, List.getElem_cons_succ, List.getElem_cons_zero, List.setIfInBounds_toArray, List.set_cons_zero, List.set_cons_succ]
  refine wpAnyH_ready (rs := [6]) (by kernel_rfl) (by simp) (AllReadyH.cons rfl (fun K1 hK1 => ?_) AllReadyH.nil)
  try simp only [Act.put, List.getElem_toArray, List.getElem_cons_succ, List.getElem_cons_zero, List.setIfInBounds_toArray, List.set_cons_zero, List.set_cons_succ]
  go_simp
  refine Calls.mono (LC.out _ HDx.out.low) ?_
  rintro e wc1 ⟨rfl, hb2⟩
  have HDx := Lib.hid (HDx.out.below hb2)
  refine hK1.out _ _ (⟨HDx.out.cells5.1, HDx.out.brow (by simp)⟩) (fun hHeld => ?_)
  clear hK1 K1
  try simp only [Act.put, List.getElem_toArray, List.getElem_cons_succ, List.getElem_cons_zero, List.setIfInBounds_toArray, List.set_cons_zero, List.set_cons_succ]
  refine wpAnyH_ready (rs := [7]) (by kernel_rfl) (by simp) (AllReadyH.cons rfl (fun K1 hK1 => ?_) AllReadyH.nil)
  try simp only [Act.put, List.getElem_toArray, List.getElem_cons_succ, List.getElem_cons_zero, List.setIfInBounds_toArray, List.set_cons_zero, List.set_cons_succ]
  go_simp
  refine Calls.mono (JA.out _ HDx.out.jn) ?_
  rintro e wc3 ⟨rfl, hjt⟩
  obtain ⟨Z2, hdx⟩ := HDx.out.jrn hjt
  have HDx := Lib.hid hdx
  clear hjt hdx
  refine hK1.out _ _ (⟨HDx.out.cells5.1, HDx.out.brow (by simp)⟩) (fun hHeld => ?_)
  clear hK1 K1
  try simp only [Act.put, List.getElem_toArray, List.getElem_cons_succ, List.getElem_cons_zero, List.setIfInBounds_toArray, List.set_cons_zero, List.set_cons_succ]
  refine wpAnyH_ready (rs := [8]) (by kernel_rfl) (by simp) (AllReadyH.cons rfl (fun K1 hK1 => ?_) AllReadyH.nil)
  try simp only [Act.put, List.getElem_toArray, List.getElem_cons_succ, List.getElem_cons_zero, List.setIfInBounds_toArray, List.set_cons_zero, List.set_cons_succ]
  go_simp
  refine Calls.mono (HDx.out.did 0) ?_
  rintro e wc4 ⟨rfl, hdx⟩
  have HDx := Lib.hid hdx
  clear hdx
  refine hK1.out _ _ (⟨HDx.out.cells5.1, HDx.out.brow (by simp)⟩) (fun hHeld => ?_)
  clear hK1 K1
  try simp only [Act.put, List.getElem_toArray, List.getElem_cons_succ, List.getElem_cons_zero, List.setIfInBounds_toArray, List.set_cons_zero, List.set_cons_succ]
  refine wpAnyH_take (i := 9) (v := .int .i64 0) rfl (by kernel_rfl) (by kernel_rfl) (by kernel_rfl) (fun _ _ _ h => h) (Or.inl ⟨by rfl, fun w' hSw => by go_simp⟩) hHeld ?_
  try simp only [Act.put, List.getElem_toArray, List.getElem_cons_succ, List.getElem_cons_zero, List.setIfInBounds_toArray, List.set_cons_zero, List.set_cons_succ]
  refine wpAnyH_done (by kernel_rfl) ?_ _
  refine NoPanic.normal ?_
  clear hHeld
  go_wp2_with (first
    | ((with_reducible show wpList _ _ _ (⟨_, .load 64 (.tmp 11), _, _, _, _⟩ :: _) _ _); refine wpList_load_tx rfl 64 (.tmp 11) rfl g7 0 (rfl) CR _ (row_range (HDx.out.brow (gx := g7) (T := 64) (X := CR) (by simp))) Tryz.underlying64 rfl (by rw [rp_info, HCR68.out]) ?_)
    | (
       with_reducible show wpList _ _ _ (⟨_, .store 64 (.tmp 8) _, _, _, _, _⟩ :: _) _ _
       refine wpList_store_at rfl 64 (.tmp 8) (.tmp 60) rfl gr 0 CR ZT 64 rfl rfl (HDx.out.brow (T := 64) (X := ZT) (by simp)) (by have := HZ68.out; have := HCR68.out; omega) (by rw [rp_info, HCR68.out]) HCR1.out ?_
       intro w9 hr hg
       rw [splice_all (HCR68.out.trans HZ68.out.symm)] at hr
       have HS9 := Lib.hid hr
       have HD9 := Lib.hid ((HDx.out.less (rows' := (gr, 64, ZT) :: rows) (fun x hx => List.mem_cons_of_mem _ hx)).write hg hr HNe.out)
       clear hr hg))
  refine bodyPost_ret (results_rowL rfl _ _ gr 64 CR _ rfl HS9.out Tryz.underlying64 rfl (by rw [rp_info]; simp [HCR68.out]) _ rfl) rfl ⟨by rw [HCR.out]; rfl, ?_⟩
  rw [HRs.out] at HD9
  exact ⟨q, B, g, _, _, _, cv, HD9.out.less (fun x hx => List.mem_cons_of_mem _ hx)⟩
end Go.Proofs.YtalfnadejpmjnaaGreatDoor
