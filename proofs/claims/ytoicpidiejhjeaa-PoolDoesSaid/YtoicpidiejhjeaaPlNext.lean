/- Next: what is ready and first is taken out; Put, whole. -/
import Derived.Test.YtoicpidiejhjeaaPlPut2
import Derived.Test.YtoicpidiejhjeaaPlFirst
import Derived.Test.YtoicpidiejhjeaaPlRaise
import Derived.Test.YtoicpidiejhjeaaPlAll
namespace Go.Proofs.Ytoicpidiejhjeaa
open Go.RowKit
set_option linter.unusedVariables false
set_option linter.unusedSimpArgs false
set_option maxRecDepth 100000

theorem func_nil18 (f : FuncId) (cap : Value) (W : World) : (binOp .eql 47 (.func (.func f) #[] #[cap]) .nilFunc).run Try.prog W = .ok (.bool false) W := by kernel_rfl
theorem PAt.put {w : World} {base B size : Nat} {v : Value} {l : List Wt} (h : PAt 63 w base B v size l) (x : Wt) (hx : x.Ok) (hI : Pl.putE size l x = 0 → InsOk (if Pl.full size l = true then l.eraseIdx (Pl.poor l l.length) else l) x) :
    Calls Try.prog 10 #[.pointer (some ⟨B, 0, none⟩), .agg x.cells.toArray] w fun e w' => e = .returned (.tuple #[.agg (Pl.putG size l x).cells.toArray, .bool (Pl.putF size l x), .int .i64 (Pl.putE size l x)]) ∧ PTo 63 w w' base B v size (Pl.put size l x) := by
  by_cases hM : Pl.May x
  rotate_left
  · exact h.put_no x hx hM
  by_cases hcl : Pl.clash l x
  · exact h.put_twice x hx hM hcl
  by_cases hf : Pl.full size l = true
  · by_cases hp : x.tx.fee ≤ (Pl.g l (Pl.poor l l.length)).tx.fee
    · exact h.put_full x hx hM hcl hf hp
    · have hI := hI (Pl.put_take (size := size) hM hcl hf hp).2.2.1
      rw [if_pos hf] at hI
      exact h.put_take x hx hM hcl hf hp hI
  · have hI := hI (Pl.put_ins (size := size) hM hcl hf).2.2.1
    rw [if_neg hf] at hI
    exact h.put_ins x hx hM hcl hf hI
set_option maxHeartbeats 6400000 in
theorem PAt.next_none {w : World} {base B size : Nat} {v : Value} {l : List Wt} (h : PAt 63 w base B v size l) (now : Int) (f : FuncId) (cap : Value) (nx : Int → Int) (hN : NextFn w f cap nx) (hb : Pl.best l now nx l.length = none) :
    Calls Try.prog 15 #[.pointer (some ⟨B, 0, none⟩), .int .i64 now, .func (.func f) #[] #[cap]] w fun e w' => e = .returned (.tuple #[.agg Wt.none.cells.toArray, .bool false]) ∧ PTo 63 w w' base B v size l := by
  obtain ⟨A, c, rfl, _, _⟩ := h.own.form
  have HH := Lib.hid h
  have hn256 := h.n256
  have HU1 := Lib.hid ((h.putAt (Below.refl _ _)).alloc Wt.none.cells)
  have FA := Lib.hid (fun W (hW : Below w.heap.size w W) => first_any l h.ok.may A c now W (((h.own.lsAt (Wt.lens h.wok)).below hW).mono hW.size) (by omega) f cap nx (hN.below hW))
  have HZ76 := Lib.hid (Wt.cells_len Wt.none_ok)
  have HZ1 := Lib.hid (Wt.cells_one Wt.none_ok)
  have HBt : Hid (Try.prog.built 38 [] = some Wt.none.cells.toArray) := Lib.hid wait_built0
  have hzv := wait_zv
  have hfn := func_nil18 f cap
  have HB1 := Lib.hid ((Below.refl w.heap.size w).alloc (Nat.le_refl _) (.cells Wt.none.cells.toArray 38))
  rw [hb] at FA
  simp only [Option.getD_none, Option.isSome_none] at FA
  obtain ⟨ZT, hZT⟩ : ∃ ZT, Wt.none.cells = ZT := ⟨_, rfl⟩
  rw [hZT] at HU1 HZ76 HZ1 HBt hzv HB1 ⊢
  have HZT := Lib.hid hZT
  obtain ⟨n, hn⟩ : ∃ n, n = l.length := ⟨_, rfl⟩
  rw [← hn] at FA HU1 HH hn256 ⊢
  have HN := Lib.hid hn
  obtain ⟨g6, hg6⟩ : ∃ g6, w.heap.size = g6 := ⟨_, rfl⟩
  rw [hg6] at HU1
  have Hg6 := Lib.hid hg6
  have c1 := HU1.out.pat.c1
  clear h hn hZT
  go_enter Try.func15, Try.ntmps15
  go_wp2_with fail
  clear c1 hg6
  refine (FA.out _ HB1.out).mono ?_
  rintro _ w2 ⟨rfl, hb2⟩
  have HU2 := Lib.hid (HU1.out.below hb2)
  clear hb2
  go_wp2_with (first
    | ((with_reducible show wpList _ _ _ (⟨_, .build 38 _, _, _, _, _⟩ :: _) _ _); refine wpList_buildL rfl 38 [] rfl (some 32) rfl _ rfl ZT.toArray HBt.out ?_)
    | (
       with_reducible show wpList _ _ _ (⟨_, .store 38 (.tmp 6) _, _, _, _, _⟩ :: _) _ _
       refine wpList_store_at rfl 38 (.tmp 6) (.tmp 32) rfl g6 0 ZT ZT _ rfl rfl (HU2.out.row (g6, ZT) (by simp)) (by have := HZ76.out; have := HZ76.out; omega) (by rw [wait_info, HZ76.out]) HZ1.out ?_
       intro w9 hr hg
       rw [splice_all (HZ76.out.trans HZ76.out.symm)] at hr
       have HR6 := Lib.hid hr
       have HU9 := Lib.hid (HU2.out.write (rows' := [(g6, ZT)]) hg hr ⟨ZT, by simp⟩ (by intro x hx; simp only [List.mem_cons, List.not_mem_nil, or_false] at hx; exact .inl hx))
       clear hr hg))
  refine bodyPost_ret (results_rowL rfl _ _ g6 38 ZT _ rfl HR6.out Try.underlying38 rfl (by rw [wait_info]; simp [HZ76.out]) _ rfl) rfl ⟨rfl, HU9.out.to⟩
set_option maxHeartbeats 6400000 in
theorem PAt.next_some {w : World} {base B size : Nat} {v : Value} {l : List Wt} (h : PAt 63 w base B v size l) (now : Int) (f : FuncId) (cap : Value) (nx : Int → Int) (hN : NextFn w f cap nx) (b : Wt) (hb : Pl.best l now nx l.length = some b) :
    Calls Try.prog 15 #[.pointer (some ⟨B, 0, none⟩), .int .i64 now, .func (.func f) #[] #[cap]] w fun e w' => e = .returned (.tuple #[.agg b.cells.toArray, .bool true]) ∧ PTo 63 w w' base B v size ((l.eraseIdx (Pl.pos l b.ix)).map (Pl.raise b)) := by
  obtain ⟨A, c, rfl, _, _⟩ := h.own.form
  have HH := Lib.hid h
  have hn256 := h.n256
  have HU1 := Lib.hid ((h.putAt (Below.refl _ _)).alloc Wt.none.cells)
  have FA := Lib.hid (fun W (hW : Below w.heap.size w W) => first_any l h.ok.may A c now W (((h.own.lsAt (Wt.lens h.wok)).below hW).mono hW.size) (by omega) f cap nx (hN.below hW))
  have HZ76 := Lib.hid (Wt.cells_len Wt.none_ok)
  have HZ1 := Lib.hid (Wt.cells_one Wt.none_ok)
  have HBt : Hid (Try.prog.built 38 [] = some Wt.none.cells.toArray) := Lib.hid wait_built0
  have hzv := wait_zv
  have hfn := func_nil18 f cap
  have HB1 := Lib.hid ((Below.refl w.heap.size w).alloc (Nat.le_refl _) (.cells Wt.none.cells.toArray 38))
  rw [hb] at FA
  simp only [Option.getD_some, Option.isSome_some] at FA
  have hbm := (Pl.best_mem (Nat.le_refl _) hb).1
  have hbo := h.ok.may b hbm
  obtain ⟨q, hql, hqe⟩ := List.getElem_of_mem hbm
  have hpq : Pl.pos l b.ix = q := by rw [← hqe]; exact Pl.pos_has h.ok.srt hql
  have hex : decide (∃ y ∈ l, y.ix = b.ix) = true := decide_eq_true ⟨b, hbm, rfl⟩
  rw [hpq]
  obtain ⟨bix, hbix⟩ : ∃ z, b.ix = z := ⟨_, rfl⟩
  rw [hbix] at FA hpq hex
  have HPq := Lib.hid hpq
  have HEx := Lib.hid hex
  have HQl := Lib.hid hql
  have HBo := Lib.hid hbo.1
  have HBm := Lib.hid hbo.2
  have HB76 := Lib.hid (Wt.cells_len hbo.1)
  have HBo1 := Lib.hid (Wt.cells_one hbo.1)
  have HLq : Hid ((l[q]'hql).cells = b.cells) := Lib.hid (by rw [hqe])
  clear hbm hbo hqe hpq hex hb hbix
  obtain ⟨CB, hCB⟩ : ∃ CB, b.cells = CB := ⟨_, rfl⟩
  rw [hCB] at HB76 HBo1 HLq ⊢
  have HCb := Lib.hid hCB
  clear hCB
  obtain ⟨ZT, hZT⟩ : ∃ ZT, Wt.none.cells = ZT := ⟨_, rfl⟩
  rw [hZT] at HU1 HZ76 HZ1 HBt hzv HB1 
  have HZT := Lib.hid hZT
  obtain ⟨n, hn⟩ : ∃ n, n = l.length := ⟨_, rfl⟩
  rw [← hn] at FA HU1 HH hn256 ⊢
  have HN := Lib.hid hn
  obtain ⟨g6, hg6⟩ : ∃ g6, w.heap.size = g6 := ⟨_, rfl⟩
  rw [hg6] at HU1
  have Hg6 := Lib.hid hg6
  have c1 := HU1.out.pat.c1
  clear h hn hZT
  go_enter Try.func15, Try.ntmps15
  go_wp2_with fail
  clear c1 hg6
  refine (FA.out _ HB1.out).mono ?_
  rintro _ w2 ⟨rfl, hb2⟩
  have HU2 := Lib.hid (HU1.out.below hb2)
  clear hb2
  have FI := Lib.hid (PAt.find _ bix HU2.out.pat)
  rw [HEx.out, HPq.out] at FI
  go_wp2_with fail
  refine FI.out.mono ?_
  rintro _ w3 ⟨rfl, hb3⟩
  have HU3 := Lib.hid (HU2.out.below hb3)
  clear hb3 FI
  have TK := HU3.out.pat.take q HQl.out
  rw [HLq.out] at TK
  have HTK := Lib.hid TK
  clear TK
  go_wp2_with fail
  refine HTK.out.mono ?_
  rintro _ w4 ⟨rfl, hpt⟩
  obtain ⟨v4, hU4⟩ := HU3.out.step hpt
  have HU4 := Lib.hid hU4
  have HUz := Lib.hid (HU4.out.alloc ZT)
  clear hU4 hpt HTK
  go_wp2_with (first
    | (
       with_reducible show wpList _ _ _ (⟨_, .store 38 (.tmp 12) _, _, _, _, _⟩ :: _) _ _
       refine wpList_store_at rfl 38 (.tmp 12) (.tmp 44) rfl w4.heap.size 0 CB ZT _ rfl rfl (HUz.out.hd) (by have := HZ76.out; have := HB76.out; omega) (by rw [wait_info, HB76.out]) HBo1.out ?_
       intro w5 hr hg
       rw [splice_all (HB76.out.trans HZ76.out.symm)] at hr
       have HN12 : Hid (w4.heap.size ≠ g6) := Lib.hid (fun e => by have := PS.lt_row HU4.out (x := (g6, ZT)) (by simp); simp only at this; omega)
       have HU5 := Lib.hid (HUz.out.write (rows' := [(w4.heap.size, CB), (g6, ZT)]) hg hr ⟨ZT, by simp⟩ (by
         intro x hx
         simp only [List.mem_cons, List.not_mem_nil, or_false] at hx
         rcases hx with rfl | rfl
         · exact .inl rfl
         · exact .inr ⟨by simp, fun e => HN12.out e.symm⟩))
       clear hr hg)
    | ((with_reducible show wpList _ _ _ (⟨_, .load 38 (.tmp 12), _, _, _, _⟩ :: _) _ _); refine wpList_load_tx rfl 38 (.tmp 12) rfl w4.heap.size 0 (rfl) CB _ (row_range HU5.out.hd) Try.underlying38 rfl (by rw [wait_info, HB76.out]) ?_))
  have RA := Lib.hid (HU5.out.pat.raise b HBo.out HBm.out)
  rw [HCb.out] at RA
  refine RA.out.mono ?_
  rintro _ w6 ⟨rfl, hpt⟩
  obtain ⟨v6, hU6⟩ := HU5.out.step hpt
  have HU6 := Lib.hid hU6
  clear hU6 hpt RA
  go_wp2_with (first
    | ((with_reducible show wpList _ _ _ (⟨_, .load 38 (.tmp 12), _, _, _, _⟩ :: _) _ _); refine wpList_load_tx rfl 38 (.tmp 12) rfl w4.heap.size 0 (rfl) CB _ (row_range HU6.out.hd) Try.underlying38 rfl (by rw [wait_info, HB76.out]) ?_)
    | (
       with_reducible show wpList _ _ _ (⟨_, .store 38 (.tmp 6) _, _, _, _, _⟩ :: _) _ _
       refine wpList_store_at rfl 38 (.tmp 6) (.tmp 48) rfl g6 0 CB ZT _ rfl rfl (HU6.out.row (g6, ZT) (by simp)) (by have := HZ76.out; have := HB76.out; omega) (by rw [wait_info, HB76.out]) HBo1.out ?_
       intro w9 hr hg
       rw [splice_all (HB76.out.trans HZ76.out.symm)] at hr
       have HR6 := Lib.hid hr
       have HU9 := Lib.hid (HU6.out.write (rows' := [(g6, CB)]) hg hr ⟨ZT, by simp⟩ (by intro x hx; simp only [List.mem_cons, List.not_mem_nil, or_false] at hx; exact .inl hx))
       clear hr hg))
  refine bodyPost_ret (results_rowL rfl _ _ g6 38 CB _ rfl HR6.out Try.underlying38 rfl (by rw [wait_info]; simp [HB76.out]) _ rfl) rfl ⟨rfl, HU9.out.to⟩
end Go.Proofs.Ytoicpidiejhjeaa
