/- What later texts need of the earlier layers. -/
import Derived.Test.YtalfnadejpmjnaaGreatDoorNSlO
import Derived.Test.YtalfnadejpmjnaaGreatDoorNSlS
import Derived.Test.YtalfnadejpmjnaaGreatDoorNSlT
import Derived.Test.YtalfnadejpmjnaaGreatDoorNSlC
import Derived.Test.YtalfnadejpmjnaaGreatDoorNSlA
import Derived.Test.YtalfnadejpmjnaaGreatDoorNSlB
import Derived.Test.YtalfnadejpmjnaaGreatDoorNSlD
import Derived.Test.YtalfnadejpmjnaaGreatDoorNTxBack
import Derived.Test.YtalfnadejpmjnaaGreatDoorNOdA
import Derived.Test.YtalfnadejpmjnaaGreatDoorNRwA
import Derived.Test.YtalfnadejpmjnaaGreatDoorNOdB
import Derived.Test.YtalfnadejpmjnaaGreatDoorNOdAsk
import Derived.Test.YtalfnadejpmjnaaGreatDoorNOdLink
import Derived.Test.YtalfnadejpmjnaaGreatDoorNOdPut
/- ---- OdAdd ---- -/
/- Add: a message gets its number. -/
namespace Go.Proofs.YtalfnadejpmjnaaGreatDoor
open Go.RowKit
set_option linter.unusedVariables false
set_option linter.unusedSimpArgs false
set_option maxRecDepth 100000

namespace Od
/-- what Add answers, and what is there then -/
def addR (rs : List Rp) (kind : Int) (body : ByteArray) (time : Int) : Rp × Int := if (mk rs kind body time).2.2 = 0 then ((mk rs kind body time).1, 0) else (Rp.zero, (mk rs kind body time).2.2)
def addL (rs : List Rp) (kind : Int) (body : ByteArray) (time : Int) : List Rp := if (mk rs kind body time).2.2 = 0 then rs ++ [(mk rs kind body time).1] else rs
end Od
theorem LogAt.put {w : World} {base B : Nat} {v dv : Value} {rs : List Rp} (h : LogAt w base B v dv rs) {kind time : Int} {body : ByteArray} {r : Rp} {who : Int} (hm : Od.mk rs kind body time = (r, who, 0)) (hl : rs.length < 1000) :
    Calls Tryz.prog 93 #[.pointer (some ⟨B, 0, none⟩), .agg r.cells.toArray, .int .i64 who] w fun e w' => e = .returned (.tuple #[]) ∧ LTo w w' base B v dv (rs ++ [r]) := by
  have ht := Od.mk_took hm
  have hf := ht.fits h.good.head
  have hg := h.good.push hm
  have hb := ht.by
  rcases hg.by r (by simp) with q | q
  · rw [hb] at q
    subst q
    exact h.put_nobody r hf hg hl hb
  · rw [hb] at q
    obtain ⟨k, hk⟩ : ∃ k : Nat, who = k := ⟨who.toNat, by omega⟩
    subst hk
    exact h.put_who r hf hg hl k hb (by omega)
theorem LTo.of {w w5 w6 w7 : World} {base B g : Nat} {v dv : Value} {rs rs' : List Rp} (h : LogAt w base B v dv rs) (hb : Below w.heap.size w w5) (hp : LTo w5 w6 base B v dv rs') (hg : w6.grownBy w7 (some g)) (h0 : w.heap.size ≤ g) (h5 : g < w5.heap.size) : LTo w w7 base B v dv rs' := by
  obtain ⟨v', dv', hla, hch, hls⟩ := hp
  have hn : ¬ LS B v' dv' g := fun q => by
    rcases hls g q with q | q
    · have := (h.lt g q).2; omega
    · omega
  have hc : Chg (fun k => k = g) w6 w7 := Chg.of_grown hg (fun k hk => by cases hk; exact .inl rfl)
  refine ⟨v', dv', hla.chg hc (fun k hk e => hn (e ▸ hk)), ((Chg.of_below (S := LS B v dv) hb).trans hch (fun i hi => .inl hi)).trans hc (fun i hi => .inr (by rw [hi]; exact h0)), fun k hk => ?_⟩
  rcases hls k hk with q | q
  · exact .inl q
  · exact .inr (Nat.le_trans hb.size q)
theorem LTo.row {w w' : World} {base B g : Nat} {v dv : Value} {rs rs' : List Rp} {T : TypeId} {xs : List Value} (h : LogAt w base B v dv rs) (hp : LTo w w' base B v dv rs') (hr : Row w g T xs) (hn : ¬ LS B v dv g) : Row w' g T xs := by
  obtain ⟨v', dv', _, hch, _⟩ := hp
  exact hch.row hr hn
set_option maxHeartbeats 3200000 in
theorem LogAt.add {w : World} {base B : Nat} {v dv : Value} {rs : List Rp} (h : LogAt w base B v dv rs) (kind : Int) (body : ByteArray) (time : Int) (hs : body.size ≤ 140737488351232) (hT : Tab w) (hl : rs.length < 1000) :
    Calls Tryz.prog 63 #[.pointer (some ⟨B, 0, none⟩), .int .i64 kind, .string body, .int .i64 time] w fun e w' => e = .returned (.tuple #[.agg (Od.addR rs kind body time).1.cells.toArray, .int .i64 (Od.addR rs kind body time).2]) ∧ LTo w w' base B v dv (Od.addL rs kind body time) := by
  have hzv := rp_zv
  have HBt : Hid (Tryz.prog.built 64 [] = some Rp.zero.cells.toArray) := Lib.hid Rp.zero_built0
  have HZ68 := Lib.hid (Rp.cells_len Rp.zero_fits.prev Rp.zero_fits.hash)
  have HZ1 := Lib.hid (Rp.cells_one Rp.zero_fits.prev Rp.zero_fits.hash)
  obtain ⟨ZT, hZT⟩ : ∃ ZT, Rp.zero.cells = ZT := ⟨_, rfl⟩
  rw [hZT] at hzv HBt HZ68 HZ1
  have HZT := Lib.hid hZT
  clear hZT
  have hb0 := (Below.refl w.heap.size w).alloc (Nat.le_refl _) (.cells ZT.toArray 64)
  have HB0 := Lib.hid hb0
  have HR0 := Lib.hid (Row.new w 64 ZT)
  have HH := Lib.hid h
  have LK := Lib.hid ((h.below hb0).link kind body time hs (hT.below hb0 hT.pos))
  obtain ⟨mk, hmk⟩ : ∃ mk, Od.mk rs kind body time = mk := ⟨_, rfl⟩
  obtain ⟨r, who, ee⟩ := mk
  have hrf : r.Fits := by
    by_cases h1 : rs ≠ [] ∧ time < Od.last rs
    · rw [Od.mk_early h1] at hmk; injection hmk with q; rw [← q]; exact Rp.zero_fits
    by_cases h2 : (Od.ask rs kind body).2 = 0
    · rw [Od.mk_link h1 h2] at hmk
      injection hmk with q1 q2
      injection q2 with q2 q3
      unfold Rp.linkE at q1 q3
      split at q1
      · next h3 =>
        rw [if_pos h3] at q3
        have hz : ee = 0 := q3.symm
        subst hz
        have hm0 : Od.mk rs kind body time = (r, who, 0) := by
          rw [Od.mk_link h1 h2]
          unfold Rp.linkE
          rw [if_pos h3, q1, q2]
        exact (Od.mk_took hm0).fits h.good.head
      · rw [← q1]; exact Rp.zero_fits
    · rw [Od.mk_ask h1 h2] at hmk; injection hmk with q; rw [← q]; exact Rp.zero_fits
  have HMk := Lib.hid hmk
  rw [hmk] at LK
  have HC68 := Lib.hid (Rp.cells_len hrf.prev hrf.hash)
  have HC1 := Lib.hid (Rp.cells_one hrf.prev hrf.hash)
  have PU : Hid (ee = 0 → ∀ W, Below w.heap.size w W → Calls Tryz.prog 93 #[.pointer (some ⟨B, 0, none⟩), .agg r.cells.toArray, .int .i64 who] W fun e w' => e = .returned (.tuple #[]) ∧ LTo W w' base B v dv (rs ++ [r])) := Lib.hid (fun e0 W hW => by
    subst e0
    exact (HH.out.below hW).put HMk.out hl)
  have HAr : Hid (Od.addR rs kind body time = if ee = 0 then (r, 0) else (Rp.zero, ee)) := Lib.hid (by unfold Od.addR; rw [hmk])
  have HAl : Hid (Od.addL rs kind body time = if ee = 0 then rs ++ [r] else rs) := Lib.hid (by unfold Od.addL; rw [hmk])
  obtain ⟨C, hC⟩ : ∃ C, r.cells = C := ⟨_, rfl⟩
  rw [hC] at LK HC68 HC1 PU
  have HCr := Lib.hid hC
  clear h hb0 hs hT hl hmk hrf hC
  by_cases he : ee = 0
  · have PU0 := Lib.hid (PU.out he)
    subst he
    have HAr2 := HAr.out.trans (if_pos rfl)
    have HAl2 := HAl.out.trans (if_pos rfl)
    rw [HAr2, HAl2, HCr.out]
    clear HAr2 HAl2 PU
    go_enter Tryz.func63, Tryz.ntmps63
    go_wp2_with fail
    refine LK.out.mono ?_
    rintro _ w2 ⟨rfl, hb2⟩
    have HB2 := Lib.hid (two_below' HB0.out hb2)
    have HR2 := Lib.hid (HR0.out.below hb2)
    clear hb2
    go_wp2_with (first
      | (
         with_reducible show wpList _ _ _ (⟨_, .store 64 (.tmp 10) _, _, _, _, _⟩ :: _) _ _
         refine wpList_store_at rfl 64 (.tmp 10) (.tmp 22) rfl w2.heap.size 0 C ZT _ rfl rfl (Row.new w2 64 ZT) (by have := HZ68.out; have := HC68.out; omega) (by rw [rp_info, HC68.out]) HC1.out ?_
         intro w3 hr hg
         rw [splice_all (HC68.out.trans HZ68.out.symm)] at hr
         have hbx := below_own ((Below.refl w2.heap.size w2).alloc (Nat.le_refl _) (.cells ZT.toArray 64)) hg (fun k hk => by cases hk; exact Nat.le_refl _)
         have HB3 := Lib.hid (two_below' HB2.out hbx)
         have HR3 := Lib.hid (HR2.out.below hbx)
         have HX3 := Lib.hid hr
         have H23 : Hid (w2.heap.size < w3.heap.size ∧ w.heap.size ≤ w2.heap.size) := Lib.hid ⟨hr.lt, HB2.out.size⟩
         clear hbx
         clear hr hg)
      | ((with_reducible show wpList _ _ _ (⟨_, .load 64 (.tmp 10), _, _, _, _⟩ :: _) _ _); refine wpList_load_tx rfl 64 (.tmp 10) rfl w2.heap.size 0 (rfl) C _ (row_range HX3.out) Tryz.underlying64 rfl (by rw [rp_info, HC68.out]) ?_))
    refine (PU0.out _ HB3.out).mono ?_
    rintro _ w4 ⟨rfl, hp4⟩
    have hn8 : ¬ LS B v dv w.heap.size := fun q => by have := (HH.out.lt _ q).2; omega
    have hn2 : ¬ LS B v dv w2.heap.size := fun q => by have := (HH.out.lt _ q).2; have := H23.out; omega
    have HR4 := Lib.hid (hp4.row (HH.out.below HB3.out) HR3.out hn8)
    have HX4 := Lib.hid (hp4.row (HH.out.below HB3.out) HX3.out hn2)
    have HP4 := Lib.hid hp4
    clear hp4 hn8 hn2
    go_wp2_with (first
      | ((with_reducible show wpList _ _ _ (⟨_, .load 64 (.tmp 10), _, _, _, _⟩ :: _) _ _); refine wpList_load_tx rfl 64 (.tmp 10) rfl w2.heap.size 0 (rfl) C _ (row_range HX4.out) Tryz.underlying64 rfl (by rw [rp_info, HC68.out]) ?_)
      | (
         with_reducible show wpList _ _ _ (⟨_, .store 64 (.tmp 8) _, _, _, _, _⟩ :: _) _ _
         refine wpList_store_at rfl 64 (.tmp 8) (.tmp 33) rfl w.heap.size 0 C ZT _ rfl rfl (HR4.out) (by have := HZ68.out; have := HC68.out; omega) (by rw [rp_info, HC68.out]) HC1.out ?_
         intro w9 hr hg
         rw [splice_all (HC68.out.trans HZ68.out.symm)] at hr
         have HS9 := Lib.hid hr
         have HF9 := Lib.hid (LTo.of HH.out HB3.out HP4.out hg (Nat.le_refl _) (by have := H23.out; omega))
         clear hr hg))
    refine bodyPost_ret (results_rowL rfl _ _ w.heap.size 64 C _ rfl HS9.out Tryz.underlying64 rfl (by rw [rp_info]; simp [HC68.out]) _ rfl) rfl ⟨rfl, HF9.out⟩
  · have dE : (ee != 0) = true := by simpa using he
    have HAr2 := HAr.out.trans (if_neg he)
    have HAl2 := HAl.out.trans (if_neg he)
    rw [HAr2, HAl2]
    rw [HZT.out]
    clear HAr2 HAl2 PU he
    go_enter Tryz.func63, Tryz.ntmps63
    go_wp2_with fail
    refine LK.out.mono ?_
    rintro _ w2 ⟨rfl, hb2⟩
    have HB2 := Lib.hid (two_below' HB0.out hb2)
    have HR2 := Lib.hid (HR0.out.below hb2)
    clear hb2
    go_wp2_with (first
      | (
         with_reducible show wpList _ _ _ (⟨_, .store 64 (.tmp 10) _, _, _, _, _⟩ :: _) _ _
         refine wpList_store_at rfl 64 (.tmp 10) (.tmp 22) rfl w2.heap.size 0 C ZT _ rfl rfl (Row.new w2 64 ZT) (by have := HZ68.out; have := HC68.out; omega) (by rw [rp_info, HC68.out]) HC1.out ?_
         intro w3 hr hg
         rw [splice_all (HC68.out.trans HZ68.out.symm)] at hr
         have hbx := below_own ((Below.refl w2.heap.size w2).alloc (Nat.le_refl _) (.cells ZT.toArray 64)) hg (fun k hk => by cases hk; exact Nat.le_refl _)
         have HB3 := Lib.hid (two_below' HB2.out hbx)
         have HR3 := Lib.hid (HR2.out.below hbx)
         have HX3 := Lib.hid hr
         have H23 : Hid (w2.heap.size < w3.heap.size ∧ w.heap.size ≤ w2.heap.size) := Lib.hid ⟨hr.lt, HB2.out.size⟩
         clear hbx
         clear hr hg)
      | ((with_reducible show wpList _ _ _ (⟨_, .build 64 _, _, _, _, _⟩ :: _) _ _); refine wpList_buildL rfl 64 [] rfl (some 27) rfl _ rfl ZT.toArray HBt.out ?_)
      | (
         with_reducible show wpList _ _ _ (⟨_, .store 64 (.tmp 8) _, _, _, _, _⟩ :: _) _ _
         refine wpList_store_at rfl 64 (.tmp 8) (.tmp 27) rfl w.heap.size 0 ZT ZT _ rfl rfl (HR3.out) (by have := HZ68.out; have := HZ68.out; omega) (by rw [rp_info, HZ68.out]) HZ1.out ?_
         intro w9 hr hg
         rw [splice_all (HZ68.out.trans HZ68.out.symm)] at hr
         have HS9 := Lib.hid hr
         have HB9 := Lib.hid (below_own HB3.out hg (fun k hk => by cases hk; exact Nat.le_refl _))
         clear hr hg))
    refine bodyPost_ret (results_rowL rfl _ _ w.heap.size 64 ZT _ rfl HS9.out Tryz.underlying64 rfl (by rw [rp_info]; simp [HZ68.out]) _ rfl) rfl ⟨rfl, HH.out.to HB9.out⟩
theorem logNew_any (w : World) : Calls Tryz.prog 47 #[] w fun e w' => e = .returned (.pointer (some ⟨w.heap.size, 0, none⟩)) ∧ LogAt w' w.heap.size w.heap.size (.slice none 0 0) (.slice none 0 0) [] ∧ Below w.heap.size w w' := by
  have hbu : Tryz.prog.built 110 [] = some (.slice none 0 0 :: (Is (Od.nexts []) ++ [.slice none 0 0])).toArray := by kernel_rfl
  have HR := Lib.hid (Row.new w 110 (.slice none 0 0 :: (Is (Od.nexts []) ++ [.slice none 0 0])))
  have HB := Lib.hid ((Below.refl w.heap.size w).alloc (Nat.le_refl _) (.cells (.slice none 0 0 :: (Is (Od.nexts []) ++ [.slice none 0 0])).toArray 110))
  obtain ⟨CL, hCL⟩ : ∃ CL, (Value.slice none 0 0 :: (Is (Od.nexts []) ++ [.slice none 0 0])) = CL := ⟨_, rfl⟩
  rw [hCL] at hbu HR HB
  have HCL := Lib.hid hCL
  have HBt := Lib.hid hbu
  clear hCL hbu
  go_enter Tryz.func47, Tryz.ntmps47
  go_wp2_with (first | ((with_reducible show wpList _ _ _ (⟨_, .build 110 _, _, _, _, _⟩ :: _) _ _); refine wpList_buildL rfl 110 [] rfl (some 1) rfl _ rfl CL.toArray HBt.out ?_))
  go_ret
  exact ⟨rfl, ⟨by rw [HCL.out]; exact HR.out, OwnL.nil _ _ _ _ _, OwnL.nil _ _ _ _ _, Od.Good.nil, by simp, Nat.le_refl _⟩, HB.out⟩
end Go.Proofs.YtalfnadejpmjnaaGreatDoor
