/- What later texts need of the earlier layers. -/
import Derived.Test.YtalfnadejpmjnaaGreatDoorNSlO
import Derived.Test.YtalfnadejpmjnaaGreatDoorNSlS
import Derived.Test.YtalfnadejpmjnaaGreatDoorNSlT
import Derived.Test.YtalfnadejpmjnaaGreatDoorNSlC
import Derived.Test.YtalfnadejpmjnaaGreatDoorNSlA
import Derived.Test.YtalfnadejpmjnaaGreatDoorNSlB
import Derived.Test.YtalfnadejpmjnaaGreatDoorNSlD
import Derived.Test.YtalfnadejpmjnaaGreatDoorNTxBack
import Derived.Test.YtalfnadejpmjnaaGreatDoorNOdA
import Derived.Test.YtalfnadejpmjnaaGreatDoorNRwA
import Derived.Test.YtalfnadejpmjnaaGreatDoorNOdB
import Derived.Test.YtalfnadejpmjnaaGreatDoorNOdAsk
/- ---- OdLink ---- -/
/- The receipt that a message would have. -/
namespace Go.Proofs.YtalfnadejpmjnaaGreatDoor
open Go.RowKit
set_option linter.unusedVariables false
set_option linter.unusedSimpArgs false
set_option maxRecDepth 100000
set_option maxHeartbeats 3200000 in
theorem LogAt.link_early {w : World} {base B : Nat} {v dv : Value} {rs : List Rp} (h : LogAt w base B v dv rs) (kind : Int) (body : ByteArray) (time : Int) (he : rs ≠ [] ∧ time < Od.last rs) : Calls Tryz.prog 92 #[.pointer (some ⟨B, 0, none⟩), .int .i64 kind, .string body, .int .i64 time] w fun e w' => e = .returned (.tuple #[.agg (Od.mk rs kind body time).1.cells.toArray, .int .i64 (Od.mk rs kind body time).2.1, .int .i64 (Od.mk rs kind body time).2.2]) ∧ Below w.heap.size w w' := by
  rw [Od.mk_early he]
  have hzv := rp_zv
  have HBt : Hid (Tryz.prog.built 64 [] = some Rp.zero.cells.toArray) := Lib.hid Rp.zero_built0
  have HZ68 := Lib.hid (Rp.cells_len Rp.zero_fits.prev Rp.zero_fits.hash)
  have HZ1 := Lib.hid (Rp.cells_one Rp.zero_fits.prev Rp.zero_fits.hash)
  obtain ⟨ZT, hZT⟩ : ∃ ZT, Rp.zero.cells = ZT := ⟨_, rfl⟩
  rw [hZT] at hzv HBt HZ68 HZ1
  have HZT := Lib.hid hZT
  clear hZT
  have hb0 := (Below.refl w.heap.size w).alloc (Nat.le_refl _) (.cells ZT.toArray 64)
  have HB0 := Lib.hid hb0
  have HR0 := Lib.hid (Row.new w 64 ZT)
  have HH := Lib.hid h
  obtain ⟨n, hn⟩ : ∃ n, rs.length = n + 1 := ⟨rs.length - 1, by have := List.length_pos_iff.2 he.1; omega⟩
  have hlt := he.2
  rw [(Od.last_at hn).2] at hlt
  have hl := h.len
  have hf := h.fits _ (List.getElem_mem (by omega : n < rs.length))
  obtain ⟨g, c, hge, _, hgl⟩ := h.own.ne he.1
  subst hge
  have ct : (w.alloc (.cells ZT.toArray 64)).cell? ⟨g, n * 68 + 2, none⟩ = some (.int .i64 (rs[n]'(by omega)).time) := (hb0.cell (p := ⟨g, n * 68 + 2, none⟩) hgl).trans (Rp.at hf.prev (h.own.at (Rp.lens h.fits) n (by omega))).2.2.1
  have c0 := (h.below hb0).c0
  obtain ⟨tm, htm⟩ : ∃ tm, (rs[n]'(by omega)).time = tm := ⟨_, rfl⟩
  rw [htm] at hlt ct
  rw [hn] at c0 hl
  have ew : IntKind.i64.wrap ((n : Int) + 1 - 1) = (n : Int) := (IntWalk.i64_in _ (by omega)).trans (by omega)
  have ew' : (n : Int) + 1 - 1 = (n : Int) := by omega
  have ew2 : IntKind.i64.wrap (n : Int) = (n : Int) := IntWalk.i64_in _ (by omega)
  have hk0 : (0 : Int) ≤ (n : Int) := by omega
  have hkn : (n : Int) < (n : Int) + 1 := by omega
  have d0 : decide ((n : Int) + 1 > 0) = true := decide_eq_true (by omega)
  have d0' : decide ((0 : Int) < (n : Int) + 1) = true := decide_eq_true (by omega)
  have d1 : decide (time < tm) = true := decide_eq_true hlt
  rw [HZT.out]
  clear h he hn hlt hf hgl htm hl
  go_enter Tryz.func92, Tryz.ntmps92
  go_wp2_with (first
    | ((with_reducible show wpList _ _ _ (⟨_, .build 64 _, _, _, _, _⟩ :: _) _ _); refine wpList_buildL rfl 64 [] rfl (some 36) rfl _ rfl ZT.toArray HBt.out ?_)
    | (
       with_reducible show wpList _ _ _ (⟨_, .store 64 (.tmp 8) _, _, _, _, _⟩ :: _) _ _
       refine wpList_store_at rfl 64 (.tmp 8) (.tmp 36) rfl w.heap.size 0 ZT ZT _ rfl rfl (HR0.out) (by have := HZ68.out; have := HZ68.out; omega) (by rw [rp_info, HZ68.out]) HZ1.out ?_
       intro w9 hr hg
       rw [splice_all (HZ68.out.trans HZ68.out.symm)] at hr
       have HS9 := Lib.hid hr
       have HB9 := Lib.hid (below_own HB0.out hg (fun k hk => by cases hk; exact Nat.le_refl _))
       clear hr hg))
  refine bodyPost_ret (results_row3 rfl _ _ w.heap.size 64 ZT _ rfl HS9.out Tryz.underlying64 rfl (by rw [rp_info]; simp [HZ68.out]) _ _ rfl rfl) rfl ⟨by first | rfl | (rw [HMk.out]; rfl), HB9.out⟩
set_option maxHeartbeats 6400000 in
theorem LogAt.link_tx_no {w : World} {base B : Nat} {v dv : Value} {rs : List Rp} (h : LogAt w base B v dv rs) (body : ByteArray) (time : Int) (hs : body.size ≤ 140737488351232) (hT : Tab w) (he : ¬ (rs ≠ [] ∧ time < Od.last rs)) (ha : (Od.ask rs 1 body).2 ≠ 0) : Calls Tryz.prog 92 #[.pointer (some ⟨B, 0, none⟩), .int .i64 1, .string body, .int .i64 time] w fun e w' => e = .returned (.tuple #[.agg (Od.mk rs 1 body time).1.cells.toArray, .int .i64 (Od.mk rs 1 body time).2.1, .int .i64 (Od.mk rs 1 body time).2.2]) ∧ Below w.heap.size w w' := by
  have hzv := rp_zv
  have HBt : Hid (Tryz.prog.built 64 [] = some Rp.zero.cells.toArray) := Lib.hid Rp.zero_built0
  have HZ68 := Lib.hid (Rp.cells_len Rp.zero_fits.prev Rp.zero_fits.hash)
  have HZ1 := Lib.hid (Rp.cells_one Rp.zero_fits.prev Rp.zero_fits.hash)
  obtain ⟨ZT, hZT⟩ : ∃ ZT, Rp.zero.cells = ZT := ⟨_, rfl⟩
  rw [hZT] at hzv HBt HZ68 HZ1
  have HZT := Lib.hid hZT
  clear hZT
  have hb0 := (Below.refl w.heap.size w).alloc (Nat.le_refl _) (.cells ZT.toArray 64)
  have HB0 := Lib.hid hb0
  have HR0 := Lib.hid (Row.new w 64 ZT)
  have HH := Lib.hid h
  have HTb := Lib.hid hT
  have HBs := Lib.hid hs
  rw [Od.mk_ask he ha]
  obtain ⟨ak, hak⟩ : ∃ ak, Od.ask rs 1 body = ak := ⟨_, rfl⟩
  obtain ⟨aw, ae⟩ := ak
  have HAk := Lib.hid hak
  rw [hak] at ha ⊢
  have dA : (ae != 0) = true := by simpa using ha
  rw [HZT.out]
  clear ha hak
  obtain ⟨A, c, hvA⟩ := h.form
  subst hvA
  have c0 := (h.below hb0).c0
  have HC0 : Hid (∀ W, Below w.heap.size w W → W.cell? ⟨B, 0, none⟩ = some (.slice A rs.length c)) := Lib.hid (fun W hW => (HH.out.below hW).c0)
  clear h hb0 hT hs
  by_cases hne : rs = []
  · have hlen : rs.length = 0 := by rw [hne]; rfl
    rw [hlen] at c0 HC0
    have HLz : Hid ((rs.length : Int) = 0) := Lib.hid (by omega)
    have d0 : decide ((0 : Int) > 0) = false := by decide
    clear hlen
    clear hne he
    go_enter Tryz.func92, Tryz.ntmps92
    go_wp2_with fail
    have AT := asker_tx B body (w.alloc (.cells ZT.toArray 64))
    rw [show (w.alloc (.cells ZT.toArray 64)).heap.size = w.heap.size + 1 by simp] at AT
    have HAT := Lib.hid AT
    clear AT
    refine HAT.out.mono ?_
    rintro _ w2 ⟨rfl, hb2, hl2, hs2⟩
    have hb2' : Below (w.alloc (.cells ZT.toArray 64)).heap.size (w.alloc (.cells ZT.toArray 64)) w2 := by rw [show (w.alloc (.cells ZT.toArray 64)).heap.size = w.heap.size + 1 by simp]; exact hb2
    have HB2 := Lib.hid (two_below' HB0.out hb2')
    have HR2 := Lib.hid (HR0.out.below hb2')
    have HL2 := Lib.hid hl2
    have HS2 := Lib.hid hs2
    clear hb2 hb2' c0 hl2 hs2
    generalize w.heap.size + 1 + 1 = gb at *
    generalize w.heap.size + 1 = gl at *
    go_wp2_with fail
    have AK := ask2_any (HH.out.below HB2.out) body HBs.out HS2.out HL2.out (HTb.out.below HB2.out HTb.out.pos)
    rw [HAk.out] at AK
    have HAK := Lib.hid AK
    clear AK
    refine HAK.out.mono ?_
    rintro _ w3 ⟨rfl, hb3⟩
    have HB3 := Lib.hid (two_below' HB2.out hb3)
    have HR3 := Lib.hid (HR2.out.below hb3)
    clear hb3
    go_wp2_with (first
      | ((with_reducible show wpList _ _ _ (⟨_, .build 64 _, _, _, _, _⟩ :: _) _ _); refine wpList_buildL rfl 64 [] rfl (some 48) rfl _ rfl ZT.toArray HBt.out ?_)
      | (
         with_reducible show wpList _ _ _ (⟨_, .store 64 (.tmp 8) _, _, _, _, _⟩ :: _) _ _
         refine wpList_store_at rfl 64 (.tmp 8) (.tmp 48) rfl w.heap.size 0 ZT ZT _ rfl rfl (HR3.out) (by have := HZ68.out; have := HZ68.out; omega) (by rw [rp_info, HZ68.out]) HZ1.out ?_
         intro w9 hr hg
         rw [splice_all (HZ68.out.trans HZ68.out.symm)] at hr
         have HS9 := Lib.hid hr
         have HB9 := Lib.hid (below_own HB3.out hg (fun k hk => by cases hk; exact Nat.le_refl _))
         clear hr hg))
    refine bodyPost_ret (results_row3 rfl _ _ w.heap.size 64 ZT _ rfl HS9.out Tryz.underlying64 rfl (by rw [rp_info]; simp [HZ68.out]) _ _ rfl rfl) rfl ⟨by first | rfl | (rw [HMk.out]; rfl), HB9.out⟩
  · obtain ⟨n, hn⟩ : ∃ n, rs.length = n + 1 := ⟨rs.length - 1, by have := List.length_pos_iff.2 hne; omega⟩
    have hlt : ¬ time < (rs[n]'(by omega)).time := fun q => he ⟨hne, by rw [(Od.last_at hn).2]; exact q⟩
    have hl := HH.out.len
    have hf := HH.out.fits _ (List.getElem_mem (by omega : n < rs.length))
    obtain ⟨g, c', hge, _, hgl⟩ := HH.out.own.ne hne
    injection hge with ea eb ec
    subst ea
    clear eb ec
    have ct : (w.alloc (.cells ZT.toArray 64)).cell? ⟨g, n * 68 + 2, none⟩ = some (.int .i64 (rs[n]'(by omega)).time) := (HB0.out.cell (p := ⟨g, n * 68 + 2, none⟩) hgl).trans (Rp.at hf.prev (HH.out.own.at (Rp.lens HH.out.fits) n (by omega))).2.2.1
    obtain ⟨tm, htm⟩ : ∃ tm, (rs[n]'(by omega)).time = tm := ⟨_, rfl⟩
    rw [htm] at hlt ct
    rw [hn] at c0 hl
    have ew : IntKind.i64.wrap ((n : Int) + 1 - 1) = (n : Int) := (IntWalk.i64_in _ (by omega)).trans (by omega)
    have ew' : (n : Int) + 1 - 1 = (n : Int) := by omega
    have ew2 : IntKind.i64.wrap (n : Int) = (n : Int) := IntWalk.i64_in _ (by omega)
    have hk0 : (0 : Int) ≤ (n : Int) := by omega
    have hkn : (n : Int) < (n : Int) + 1 := by omega
    have d0 : decide ((n : Int) + 1 > 0) = true := decide_eq_true (by omega)
    have d0' : decide ((0 : Int) < (n : Int) + 1) = true := decide_eq_true (by omega)
    have d1 : decide (time < tm) = false := decide_eq_false hlt
    have HNn := Lib.hid hn
    clear hn hlt hf hgl htm hl
    rw [HNn.out] at HC0
    have HLz : Hid ((rs.length : Int) = (n : Int) + 1) := Lib.hid (by rw [HNn.out]; omega)
    clear hne he
    go_enter Tryz.func92, Tryz.ntmps92
    go_wp2_with fail
    have AT := asker_tx B body (w.alloc (.cells ZT.toArray 64))
    rw [show (w.alloc (.cells ZT.toArray 64)).heap.size = w.heap.size + 1 by simp] at AT
    have HAT := Lib.hid AT
    clear AT
    refine HAT.out.mono ?_
    rintro _ w2 ⟨rfl, hb2, hl2, hs2⟩
    have hb2' : Below (w.alloc (.cells ZT.toArray 64)).heap.size (w.alloc (.cells ZT.toArray 64)) w2 := by rw [show (w.alloc (.cells ZT.toArray 64)).heap.size = w.heap.size + 1 by simp]; exact hb2
    have HB2 := Lib.hid (two_below' HB0.out hb2')
    have HR2 := Lib.hid (HR0.out.below hb2')
    have HL2 := Lib.hid hl2
    have HS2 := Lib.hid hs2
    clear hb2 hb2' c0 hl2 hs2
    generalize w.heap.size + 1 + 1 = gb at *
    generalize w.heap.size + 1 = gl at *
    go_wp2_with fail
    have AK := ask2_any (HH.out.below HB2.out) body HBs.out HS2.out HL2.out (HTb.out.below HB2.out HTb.out.pos)
    rw [HAk.out] at AK
    have HAK := Lib.hid AK
    clear AK
    refine HAK.out.mono ?_
    rintro _ w3 ⟨rfl, hb3⟩
    have HB3 := Lib.hid (two_below' HB2.out hb3)
    have HR3 := Lib.hid (HR2.out.below hb3)
    clear hb3
    go_wp2_with (first
      | ((with_reducible show wpList _ _ _ (⟨_, .build 64 _, _, _, _, _⟩ :: _) _ _); refine wpList_buildL rfl 64 [] rfl (some 48) rfl _ rfl ZT.toArray HBt.out ?_)
      | (
         with_reducible show wpList _ _ _ (⟨_, .store 64 (.tmp 8) _, _, _, _, _⟩ :: _) _ _
         refine wpList_store_at rfl 64 (.tmp 8) (.tmp 48) rfl w.heap.size 0 ZT ZT _ rfl rfl (HR3.out) (by have := HZ68.out; have := HZ68.out; omega) (by rw [rp_info, HZ68.out]) HZ1.out ?_
         intro w9 hr hg
         rw [splice_all (HZ68.out.trans HZ68.out.symm)] at hr
         have HS9 := Lib.hid hr
         have HB9 := Lib.hid (below_own HB3.out hg (fun k hk => by cases hk; exact Nat.le_refl _))
         clear hr hg))
    refine bodyPost_ret (results_row3 rfl _ _ w.heap.size 64 ZT _ rfl HS9.out Tryz.underlying64 rfl (by rw [rp_info]; simp [HZ68.out]) _ _ rfl rfl) rfl ⟨by first | rfl | (rw [HMk.out]; rfl), HB9.out⟩
set_option maxHeartbeats 6400000 in
theorem LogAt.link_tx_ok {w : World} {base B : Nat} {v dv : Value} {rs : List Rp} (h : LogAt w base B v dv rs) (body : ByteArray) (time : Int) (hs : body.size ≤ 140737488351232) (hT : Tab w) (he : ¬ (rs ≠ [] ∧ time < Od.last rs)) (ha : (Od.ask rs 1 body).2 = 0) : Calls Tryz.prog 92 #[.pointer (some ⟨B, 0, none⟩), .int .i64 1, .string body, .int .i64 time] w fun e w' => e = .returned (.tuple #[.agg (Od.mk rs 1 body time).1.cells.toArray, .int .i64 (Od.mk rs 1 body time).2.1, .int .i64 (Od.mk rs 1 body time).2.2]) ∧ Below w.heap.size w w' := by
  have hzv := rp_zv
  have HBt : Hid (Tryz.prog.built 64 [] = some Rp.zero.cells.toArray) := Lib.hid Rp.zero_built0
  have HZ68 := Lib.hid (Rp.cells_len Rp.zero_fits.prev Rp.zero_fits.hash)
  have HZ1 := Lib.hid (Rp.cells_one Rp.zero_fits.prev Rp.zero_fits.hash)
  obtain ⟨ZT, hZT⟩ : ∃ ZT, Rp.zero.cells = ZT := ⟨_, rfl⟩
  rw [hZT] at hzv HBt HZ68 HZ1
  have HZT := Lib.hid hZT
  clear hZT
  have hb0 := (Below.refl w.heap.size w).alloc (Nat.le_refl _) (.cells ZT.toArray 64)
  have HB0 := Lib.hid hb0
  have HR0 := Lib.hid (Row.new w 64 ZT)
  have HH := Lib.hid h
  have HTb := Lib.hid hT
  have HBs := Lib.hid hs
  have hmk := Od.mk_link he ha
  obtain ⟨ak, hak⟩ : ∃ ak, Od.ask rs 1 body = ak := ⟨_, rfl⟩
  obtain ⟨aw, ae⟩ := ak
  have HAk := Lib.hid hak
  rw [hak] at ha hmk
  have ha0 : ae = 0 := ha
  subst ha0
  obtain ⟨LE, hLE⟩ : ∃ LE, Rp.linkE (Od.raw rs 1 body time) = LE := ⟨_, rfl⟩
  have hrf : LE.1.prev.length = 32 ∧ LE.1.hash.length = 32 := by
    rw [← hLE]
    unfold Rp.linkE
    split
    · exact ⟨h.good.head, Rp.link_len _⟩
    · exact ⟨rfl, rfl⟩
  have HHd : Hid (∀ W, Below w.heap.size w W → Calls Tryz.prog 129 #[.pointer (some ⟨B, 0, none⟩)] W fun e w' => e = .returned (.agg (bRow (Od.head rs))) ∧ Below W.heap.size W w') := Lib.hid (fun W hW => (HH.out.below hW).head)
  have HLk0 : Hid (∀ W, Below w.heap.size w W → Calls Tryz.prog 128 #[.agg (bRow (Od.head rs)), .int .i64 rs.length, .int .i64 1, .int .i64 time, .string body] W fun e w' => e = .returned (.tuple #[.agg LE.1.cells.toArray, .int .i64 LE.2]) ∧ Below W.heap.size W w') := Lib.hid (fun W hW => by
    have := link5_any (rs.length : Int) 1 time body (Od.head rs) HH.out.good.head W (HTb.out.below hW HTb.out.pos)
    rw [show (Rp.mk (rs.length : Int) 1 time body (Od.head rs) Tx.zero) = Od.raw rs 1 body time from rfl, hLE] at this
    exact this)
  rw [hLE] at hmk
  obtain ⟨ee, hee⟩ : ∃ ee, LE.2 = ee := ⟨_, rfl⟩
  have HCR68 := Lib.hid (Rp.cells_len hrf.1 hrf.2)
  have HCR1 := Lib.hid (Rp.cells_one hrf.1 hrf.2)
  obtain ⟨R, hRe⟩ : ∃ R, LE.1 = R := ⟨_, rfl⟩
  rw [hRe] at HCR68 HCR1 HLk0 hmk
  rw [hee] at HLk0 hmk
  have HMk := Lib.hid hmk
  rw [HMk.out]
  obtain ⟨CR, hCR⟩ : ∃ CR, R.cells = CR := ⟨_, rfl⟩
  rw [hCR] at HCR68 HCR1 HLk0 ⊢
  generalize bRow (Od.head rs) = HDv at *
  skip
  clear ha hak hLE hrf hmk hee hRe hCR
  obtain ⟨A, c, hvA⟩ := h.form
  subst hvA
  have c0 := (h.below hb0).c0
  have HC0 : Hid (∀ W, Below w.heap.size w W → W.cell? ⟨B, 0, none⟩ = some (.slice A rs.length c)) := Lib.hid (fun W hW => (HH.out.below hW).c0)
  clear h hb0 hT hs
  by_cases hne : rs = []
  · have hlen : rs.length = 0 := by rw [hne]; rfl
    rw [hlen] at c0 HC0
    have HLz : Hid ((rs.length : Int) = 0) := Lib.hid (by omega)
    have d0 : decide ((0 : Int) > 0) = false := by decide
    clear hlen
    clear hne he
    go_enter Tryz.func92, Tryz.ntmps92
    go_wp2_with fail
    have AT := asker_tx B body (w.alloc (.cells ZT.toArray 64))
    rw [show (w.alloc (.cells ZT.toArray 64)).heap.size = w.heap.size + 1 by simp] at AT
    have HAT := Lib.hid AT
    clear AT
    refine HAT.out.mono ?_
    rintro _ w2 ⟨rfl, hb2, hl2, hs2⟩
    have hb2' : Below (w.alloc (.cells ZT.toArray 64)).heap.size (w.alloc (.cells ZT.toArray 64)) w2 := by rw [show (w.alloc (.cells ZT.toArray 64)).heap.size = w.heap.size + 1 by simp]; exact hb2
    have HB2 := Lib.hid (two_below' HB0.out hb2')
    have HR2 := Lib.hid (HR0.out.below hb2')
    have HL2 := Lib.hid hl2
    have HS2 := Lib.hid hs2
    clear hb2 hb2' c0 hl2 hs2
    generalize w.heap.size + 1 + 1 = gb at *
    generalize w.heap.size + 1 = gl at *
    go_wp2_with fail
    have AK := ask2_any (HH.out.below HB2.out) body HBs.out HS2.out HL2.out (HTb.out.below HB2.out HTb.out.pos)
    rw [HAk.out] at AK
    have HAK := Lib.hid AK
    clear AK
    refine HAK.out.mono ?_
    rintro _ w3 ⟨rfl, hb3⟩
    have HB3 := Lib.hid (two_below' HB2.out hb3)
    have HR3 := Lib.hid (HR2.out.below hb3)
    clear hb3
    go_wp2_with fail
    have HLk : Hid (∀ W, Below w.heap.size w W → Calls Tryz.prog 128 #[.agg HDv, .int .i64 0, .int .i64 1, .int .i64 time, .string body] W fun e w' => e = .returned (.tuple #[.agg CR.toArray, .int .i64 ee]) ∧ Below W.heap.size W w') := Lib.hid (fun W hW => by
      have := HLk0.out W hW
      rw [HLz.out] at this
      exact this)
    refine wp_region_noPanic ?_
    refine wp_region_held_drew (S := fun w' => Below w3.heap.size w3 w') (by kernel_rfl) ((Below.refl _ _).drew) (fun hHeld => ?_)
    generalize w3.drew = wq at *
    refine wpAnyH_take (i := 0) (v := .pointer (some ⟨B, 0, none⟩)) rfl (by kernel_rfl) (by kernel_rfl) (by kernel_rfl) (fun _ _ _ h => h) (Or.inl ⟨by rfl, fun w' hSw => by go_simp⟩) hHeld ?_
    try simp only [Act.put, List.getElem_toArray, List.getElem_cons_succ, List.getElem_cons_zero, List.setIfInBounds_toArray, List.set_cons_zero, List.set_cons_succ]
    refine wpAnyH_take (i := 2) (v := .pointer (some ⟨B, 0, none⟩)) rfl (by kernel_rfl) (by kernel_rfl) (by kernel_rfl) (fun _ _ _ h => h) (Or.inl ⟨by rfl, fun w' hSw => by go_simp⟩) hHeld ?_
    try simp only [Act.put, List.getElem_toArray, List.getElem_cons_succ, List.getElem_cons_zero, List.setIfInBounds_toArray, List.set_cons_zero, List.set_cons_succ]
    refine wpAnyH_take (i := 3) (v := .pointer (some ⟨B, 0, none⟩)) rfl (by kernel_rfl) (by kernel_rfl) (by kernel_rfl) (fun _ _ _ h => h) (Or.inl ⟨by rfl, fun w' hSw => by go_simp⟩) hHeld ?_
    try simp only [Act.put, List.getElem_toArray, List.getElem_cons_succ, List.getElem_cons_zero, List.setIfInBounds_toArray, List.set_cons_zero, List.set_cons_succ]
    refine wpAnyH_take (i := 4) (v := .pointer (some ⟨B, 0, none⟩)) rfl (by kernel_rfl) (by kernel_rfl) (by kernel_rfl) (fun _ _ _ h => h) (Or.inl ⟨by rfl, fun w' hSw => by go_simp⟩) hHeld ?_
    try simp only [Act.put, List.getElem_toArray, List.getElem_cons_succ, List.getElem_cons_zero, List.setIfInBounds_toArray, List.set_cons_zero, List.set_cons_succ]
    refine wpAnyH_take (i := 5) (v := .slice A (0) c) rfl (by kernel_rfl) (by kernel_rfl) (by kernel_rfl) (fun _ _ _ h => h) (Or.inl ⟨by rfl, fun w' hSw => by have hq := hSw; have hd := HC0.out _ (two_below' HB3.out hq); go_simp⟩) hHeld ?_
    try simp only [Act.put, List.getElem_toArray, List.getElem_cons_succ, List.getElem_cons_zero, List.setIfInBounds_toArray, List.set_cons_zero, List.set_cons_succ]
    refine wpAnyH_take (i := 6) (v := .int .i64 0) rfl (by kernel_rfl) (by kernel_rfl) (by kernel_rfl) (fun _ _ _ h => h) (Or.inl ⟨by rfl, fun w' hSw => by go_simp⟩) hHeld ?_
    try simp only [Act.put, List.getElem_toArray, List.getElem_cons_succ, List.getElem_cons_zero, List.setIfInBounds_toArray, List.set_cons_zero, List.set_cons_succ]
    refine wpAnyH_take (i := 7) (v := .int .i64 1) rfl (by kernel_rfl) (by kernel_rfl) (by kernel_rfl) (fun _ _ _ h => h) (Or.inl ⟨by rfl, fun w' hSw => by go_simp⟩) hHeld ?_
    try simp only [Act.put, List.getElem_toArray, List.getElem_cons_succ, List.getElem_cons_zero, List.setIfInBounds_toArray, List.set_cons_zero, List.set_cons_succ]
    refine wpAnyH_take (i := 8) (v := .int .i64 time) rfl (by kernel_rfl) (by kernel_rfl) (by kernel_rfl) (fun _ _ _ h => h) (Or.inl ⟨by rfl, fun w' hSw => by go_simp⟩) hHeld ?_
    try simp only [Act.put, List.getElem_toArray, List.getElem_cons_succ, List.getElem_cons_zero, List.setIfInBounds_toArray, List.set_cons_zero, List.set_cons_succ]
    refine wpAnyH_take (i := 9) (v := .string body) rfl (by kernel_rfl) (by kernel_rfl) (by kernel_rfl) (fun _ _ _ h => h) (Or.inl ⟨by rfl, fun w' hSw => by go_simp⟩) hHeld ?_
    try simp only [Act.put, List.getElem_toArray, List.getElem_cons_succ, List.getElem_cons_zero, List.setIfInBounds_toArray, List.set_cons_zero, List.set_cons_succ]
    refine wpAnyH_ready (rs := [1, 14]) (by kernel_rfl) (by simp) (AllReadyH.cons rfl (fun K1 hK1 => ?_) (AllReadyH.cons rfl (fun K1 hK1 => ?_) AllReadyH.nil))
    · skip
      try simp only [Act.put, List.getElem_toArray, List.getElem_cons_succ, List.getElem_cons_zero, List.setIfInBounds_toArray, List.set_cons_zero, List.set_cons_succ]
      go_simp
      refine Calls.mono (HHd.out _ (two_below' HB3.out hHeld)) ?_
      rintro e wc1 ⟨rfl, hc2⟩
      refine hK1.out _ _ (two_below' hHeld hc2) (fun hHeld => ?_)
      clear hK1 K1
      try simp only [Act.put, List.getElem_toArray, List.getElem_cons_succ, List.getElem_cons_zero, List.setIfInBounds_toArray, List.set_cons_zero, List.set_cons_succ]
      refine wpAnyH_ready (rs := [10, 14]) (by kernel_rfl) (by simp) (AllReadyH.cons rfl (fun K1 hK1 => ?_) (AllReadyH.cons rfl (fun K1 hK1 => ?_) AllReadyH.nil))
      · skip
        try simp only [Act.put, List.getElem_toArray, List.getElem_cons_succ, List.getElem_cons_zero, List.setIfInBounds_toArray, List.set_cons_zero, List.set_cons_succ]
        go_simp
        refine Calls.mono (HLk.out _ (two_below' HB3.out hHeld)) ?_
        rintro e wc3 ⟨rfl, hc4⟩
        refine hK1.out _ _ (two_below' hHeld hc4) (fun hHeld => ?_)
        clear hK1 K1
        try simp only [Act.put, List.getElem_toArray, List.getElem_cons_succ, List.getElem_cons_zero, List.setIfInBounds_toArray, List.set_cons_zero, List.set_cons_succ]
        refine wpAnyH_take (i := 11) (v := .tuple #[.agg CR.toArray, .int .i64 ee]) rfl (by kernel_rfl) (by kernel_rfl) (by kernel_rfl) (fun _ _ _ h => h) (Or.inl ⟨by rfl, fun w' hSw => by go_simp⟩) hHeld ?_
        try simp only [Act.put, List.getElem_toArray, List.getElem_cons_succ, List.getElem_cons_zero, List.setIfInBounds_toArray, List.set_cons_zero, List.set_cons_succ]
        refine wpAnyH_take (i := 12) (v := .agg CR.toArray) rfl (by kernel_rfl) (by kernel_rfl) (by kernel_rfl) (fun _ _ _ h => h) (Or.inl ⟨by rfl, fun w' hSw => by go_simp⟩) hHeld ?_
        try simp only [Act.put, List.getElem_toArray, List.getElem_cons_succ, List.getElem_cons_zero, List.setIfInBounds_toArray, List.set_cons_zero, List.set_cons_succ]
        refine wpAnyH_take (i := 13) (v := .int .i64 ee) rfl (by kernel_rfl) (by kernel_rfl) (by kernel_rfl) (fun _ _ _ h => h) (Or.inl ⟨by rfl, fun w' hSw => by go_simp⟩) hHeld ?_
        try simp only [Act.put, List.getElem_toArray, List.getElem_cons_succ, List.getElem_cons_zero, List.setIfInBounds_toArray, List.set_cons_zero, List.set_cons_succ]
        refine wpAnyH_ready (rs := [14]) (by kernel_rfl) (by simp) (AllReadyH.cons rfl (fun K1 hK1 => ?_) AllReadyH.nil)
        try simp only [Act.put, List.getElem_toArray, List.getElem_cons_succ, List.getElem_cons_zero, List.setIfInBounds_toArray, List.set_cons_zero, List.set_cons_succ]
        go_simp
        have hd6 := (Below.refl wc3.heap.size wc3).alloc (Nat.le_refl _) (.cells ZT.toArray 64)
        have rA : Row (wc3.alloc (.cells ZT.toArray 64)) wc3.heap.size 64 ZT := Row.new wc3 64 ZT
        have rAs : w3.heap.size ≤ wc3.heap.size := hHeld.size
        have hHeld2 := two_below' hHeld hd6
        generalize wc3.alloc (.cells ZT.toArray 64) = wa5 at *
        obtain ⟨ga7, ga7e⟩ : ∃ ga7, ga7 = wc3.heap.size := ⟨_, rfl⟩
        rw [← ga7e] at rA rAs ⊢
        refine hK1.out _ _ (hHeld2) (fun hHeld => ?_)
        clear hK1 K1
        try simp only [Act.put, List.getElem_toArray, List.getElem_cons_succ, List.getElem_cons_zero, List.setIfInBounds_toArray, List.set_cons_zero, List.set_cons_succ]
        clear hHeld2 ga7e
        refine wpAnyH_ready (rs := [15]) (by kernel_rfl) (by simp) (AllReadyH.cons rfl (fun K1 hK1 => ?_) AllReadyH.nil)
        try simp only [Act.put, List.getElem_toArray, List.getElem_cons_succ, List.getElem_cons_zero, List.setIfInBounds_toArray, List.set_cons_zero, List.set_cons_succ]
        rw [if_pos (by rfl)]
        refine wp_store_at 64 (.tmp 15) (.tmp 62) rfl ga7 0 CR _ _ rfl rfl rA (by have := HZ68.out; have := HCR68.out; omega) (by rw [rp_info, HCR68.out]) HCR1.out ?_
        intro ws8 hrS hgS
        rw [splice_all (HCR68.out.trans HZ68.out.symm)] at hrS
        have HR15 := Lib.hid hrS
        have hHeld2 := below_own hHeld hgS (fun k hk => by cases hk; exact rAs)
        clear hrS hgS
        refine hK1.out _ _ (hHeld2) (fun hHeld => ?_)
        clear hK1 K1
        try simp only [Act.put, List.getElem_toArray, List.getElem_cons_succ, List.getElem_cons_zero, List.setIfInBounds_toArray, List.set_cons_zero, List.set_cons_succ]
        clear hHeld2
        refine wpAnyH_take (i := 16) (v := .int .i64 ee) rfl (by kernel_rfl) (by kernel_rfl) (by kernel_rfl) (fun _ _ _ h => h) (Or.inl ⟨by rfl, fun w' hSw => by go_simp⟩) hHeld ?_
        try simp only [Act.put, List.getElem_toArray, List.getElem_cons_succ, List.getElem_cons_zero, List.setIfInBounds_toArray, List.set_cons_zero, List.set_cons_succ]
        refine wpAnyH_done (by kernel_rfl) ?_ _
        refine NoPanic.normal ?_
        have HB5 := Lib.hid (two_below' HB3.out hHeld)
        have HR5 := Lib.hid (HR3.out.below hHeld)
        clear hHeld
        go_wp2_with (first
          | ((with_reducible show wpList _ _ _ (⟨_, .load 64 (.tmp 15), _, _, _, _⟩ :: _) _ _); refine wpList_load_tx rfl 64 (.tmp 15) rfl ga7 0 (rfl) CR _ (row_range HR15.out) Tryz.underlying64 rfl (by rw [rp_info, HCR68.out]) ?_)
          | (
             with_reducible show wpList _ _ _ (⟨_, .store 64 (.tmp 8) _, _, _, _, _⟩ :: _) _ _
             refine wpList_store_at rfl 64 (.tmp 8) (.tmp 64) rfl w.heap.size 0 CR ZT _ rfl rfl (HR5.out) (by have := HZ68.out; have := HCR68.out; omega) (by rw [rp_info, HCR68.out]) HCR1.out ?_
             intro w9 hr hg
             rw [splice_all (HCR68.out.trans HZ68.out.symm)] at hr
             have HS9 := Lib.hid hr
             have HB9 := Lib.hid (below_own HB5.out hg (fun k hk => by cases hk; exact Nat.le_refl _))
             clear hr hg))
        refine bodyPost_ret (results_row3 rfl _ _ w.heap.size 64 CR _ rfl HS9.out Tryz.underlying64 rfl (by rw [rp_info]; simp [HCR68.out]) _ _ rfl rfl) rfl ⟨by first | rfl | (rw [HMk.out]; rfl), HB9.out⟩
      · skip
        try simp only [Act.put, List.getElem_toArray, List.getElem_cons_succ, List.getElem_cons_zero, List.setIfInBounds_toArray, List.set_cons_zero, List.set_cons_succ]
        go_simp
        have hd10 := (Below.refl wc1.heap.size wc1).alloc (Nat.le_refl _) (.cells ZT.toArray 64)
        have rA : Row (wc1.alloc (.cells ZT.toArray 64)) wc1.heap.size 64 ZT := Row.new wc1 64 ZT
        have rAs : w3.heap.size ≤ wc1.heap.size := hHeld.size
        have hHeld2 := two_below' hHeld hd10
        generalize wc1.alloc (.cells ZT.toArray 64) = wa9 at *
        obtain ⟨ga11, ga11e⟩ : ∃ ga11, ga11 = wc1.heap.size := ⟨_, rfl⟩
        rw [← ga11e] at rA rAs ⊢
        refine hK1.out _ _ (hHeld2) (fun hHeld => ?_)
        clear hK1 K1
        try simp only [Act.put, List.getElem_toArray, List.getElem_cons_succ, List.getElem_cons_zero, List.setIfInBounds_toArray, List.set_cons_zero, List.set_cons_succ]
        clear hHeld2 ga11e
        refine wpAnyH_ready (rs := [10]) (by kernel_rfl) (by simp) (AllReadyH.cons rfl (fun K1 hK1 => ?_) AllReadyH.nil)
        try simp only [Act.put, List.getElem_toArray, List.getElem_cons_succ, List.getElem_cons_zero, List.setIfInBounds_toArray, List.set_cons_zero, List.set_cons_succ]
        go_simp
        refine Calls.mono (HLk.out _ (two_below' HB3.out hHeld)) ?_
        rintro e wc12 ⟨rfl, hc13⟩
        have rA := rA.kept (grownBy_of_below hc13 none) (by simp)
        refine hK1.out _ _ (two_below' hHeld hc13) (fun hHeld => ?_)
        clear hK1 K1
        try simp only [Act.put, List.getElem_toArray, List.getElem_cons_succ, List.getElem_cons_zero, List.setIfInBounds_toArray, List.set_cons_zero, List.set_cons_succ]
        refine wpAnyH_take (i := 11) (v := .tuple #[.agg CR.toArray, .int .i64 ee]) rfl (by kernel_rfl) (by kernel_rfl) (by kernel_rfl) (fun _ _ _ h => h) (Or.inl ⟨by rfl, fun w' hSw => by go_simp⟩) hHeld ?_
        try simp only [Act.put, List.getElem_toArray, List.getElem_cons_succ, List.getElem_cons_zero, List.setIfInBounds_toArray, List.set_cons_zero, List.set_cons_succ]
        refine wpAnyH_take (i := 12) (v := .agg CR.toArray) rfl (by kernel_rfl) (by kernel_rfl) (by kernel_rfl) (fun _ _ _ h => h) (Or.inl ⟨by rfl, fun w' hSw => by go_simp⟩) hHeld ?_
        try simp only [Act.put, List.getElem_toArray, List.getElem_cons_succ, List.getElem_cons_zero, List.setIfInBounds_toArray, List.set_cons_zero, List.set_cons_succ]
        refine wpAnyH_take (i := 13) (v := .int .i64 ee) rfl (by kernel_rfl) (by kernel_rfl) (by kernel_rfl) (fun _ _ _ h => h) (Or.inl ⟨by rfl, fun w' hSw => by go_simp⟩) hHeld ?_
        try simp only [Act.put, List.getElem_toArray, List.getElem_cons_succ, List.getElem_cons_zero, List.setIfInBounds_toArray, List.set_cons_zero, List.set_cons_succ]
        refine wpAnyH_ready (rs := [15]) (by kernel_rfl) (by simp) (AllReadyH.cons rfl (fun K1 hK1 => ?_) AllReadyH.nil)
        try simp only [Act.put, List.getElem_toArray, List.getElem_cons_succ, List.getElem_cons_zero, List.setIfInBounds_toArray, List.set_cons_zero, List.set_cons_succ]
        rw [if_pos (by rfl)]
        refine wp_store_at 64 (.tmp 15) (.tmp 62) rfl ga11 0 CR _ _ rfl rfl rA (by have := HZ68.out; have := HCR68.out; omega) (by rw [rp_info, HCR68.out]) HCR1.out ?_
        intro ws14 hrS hgS
        rw [splice_all (HCR68.out.trans HZ68.out.symm)] at hrS
        have HR15 := Lib.hid hrS
        have hHeld2 := below_own hHeld hgS (fun k hk => by cases hk; exact rAs)
        clear hrS hgS
        refine hK1.out _ _ (hHeld2) (fun hHeld => ?_)
        clear hK1 K1
        try simp only [Act.put, List.getElem_toArray, List.getElem_cons_succ, List.getElem_cons_zero, List.setIfInBounds_toArray, List.set_cons_zero, List.set_cons_succ]
        clear hHeld2
        refine wpAnyH_take (i := 16) (v := .int .i64 ee) rfl (by kernel_rfl) (by kernel_rfl) (by kernel_rfl) (fun _ _ _ h => h) (Or.inl ⟨by rfl, fun w' hSw => by go_simp⟩) hHeld ?_
        try simp only [Act.put, List.getElem_toArray, List.getElem_cons_succ, List.getElem_cons_zero, List.setIfInBounds_toArray, List.set_cons_zero, List.set_cons_succ]
        refine wpAnyH_done (by kernel_rfl) ?_ _
        refine NoPanic.normal ?_
        have HB5 := Lib.hid (two_below' HB3.out hHeld)
        have HR5 := Lib.hid (HR3.out.below hHeld)
        clear hHeld
        go_wp2_with (first
          | ((with_reducible show wpList _ _ _ (⟨_, .load 64 (.tmp 15), _, _, _, _⟩ :: _) _ _); refine wpList_load_tx rfl 64 (.tmp 15) rfl ga11 0 (rfl) CR _ (row_range HR15.out) Tryz.underlying64 rfl (by rw [rp_info, HCR68.out]) ?_)
          | (
             with_reducible show wpList _ _ _ (⟨_, .store 64 (.tmp 8) _, _, _, _, _⟩ :: _) _ _
             refine wpList_store_at rfl 64 (.tmp 8) (.tmp 64) rfl w.heap.size 0 CR ZT _ rfl rfl (HR5.out) (by have := HZ68.out; have := HCR68.out; omega) (by rw [rp_info, HCR68.out]) HCR1.out ?_
             intro w9 hr hg
             rw [splice_all (HCR68.out.trans HZ68.out.symm)] at hr
             have HS9 := Lib.hid hr
             have HB9 := Lib.hid (below_own HB5.out hg (fun k hk => by cases hk; exact Nat.le_refl _))
             clear hr hg))
        refine bodyPost_ret (results_row3 rfl _ _ w.heap.size 64 CR _ rfl HS9.out Tryz.underlying64 rfl (by rw [rp_info]; simp [HCR68.out]) _ _ rfl rfl) rfl ⟨by first | rfl | (rw [HMk.out]; rfl), HB9.out⟩
    · skip
      try simp only [Act.put, List.getElem_toArray, List.getElem_cons_succ, List.getElem_cons_zero, List.setIfInBounds_toArray, List.set_cons_zero, List.set_cons_succ]
      go_simp
      have hd16 := (Below.refl wq.heap.size wq).alloc (Nat.le_refl _) (.cells ZT.toArray 64)
      have rA : Row (wq.alloc (.cells ZT.toArray 64)) wq.heap.size 64 ZT := Row.new wq 64 ZT
      have rAs : w3.heap.size ≤ wq.heap.size := hHeld.size
      have hHeld2 := two_below' hHeld hd16
      generalize wq.alloc (.cells ZT.toArray 64) = wa15 at *
      obtain ⟨ga17, ga17e⟩ : ∃ ga17, ga17 = wq.heap.size := ⟨_, rfl⟩
      rw [← ga17e] at rA rAs ⊢
      refine hK1.out _ _ (hHeld2) (fun hHeld => ?_)
      clear hK1 K1
      try simp only [Act.put, List.getElem_toArray, List.getElem_cons_succ, List.getElem_cons_zero, List.setIfInBounds_toArray, List.set_cons_zero, List.set_cons_succ]
      clear hHeld2 ga17e
      refine wpAnyH_ready (rs := [1]) (by kernel_rfl) (by simp) (AllReadyH.cons rfl (fun K1 hK1 => ?_) AllReadyH.nil)
      try simp only [Act.put, List.getElem_toArray, List.getElem_cons_succ, List.getElem_cons_zero, List.setIfInBounds_toArray, List.set_cons_zero, List.set_cons_succ]
      go_simp
      refine Calls.mono (HHd.out _ (two_below' HB3.out hHeld)) ?_
      rintro e wc18 ⟨rfl, hc19⟩
      have rA := rA.kept (grownBy_of_below hc19 none) (by simp)
      refine hK1.out _ _ (two_below' hHeld hc19) (fun hHeld => ?_)
      clear hK1 K1
      try simp only [Act.put, List.getElem_toArray, List.getElem_cons_succ, List.getElem_cons_zero, List.setIfInBounds_toArray, List.set_cons_zero, List.set_cons_succ]
      refine wpAnyH_ready (rs := [10]) (by kernel_rfl) (by simp) (AllReadyH.cons rfl (fun K1 hK1 => ?_) AllReadyH.nil)
      try simp only [Act.put, List.getElem_toArray, List.getElem_cons_succ, List.getElem_cons_zero, List.setIfInBounds_toArray, List.set_cons_zero, List.set_cons_succ]
      go_simp
      refine Calls.mono (HLk.out _ (two_below' HB3.out hHeld)) ?_
      rintro e wc20 ⟨rfl, hc21⟩
      have rA := rA.kept (grownBy_of_below hc21 none) (by simp)
      refine hK1.out _ _ (two_below' hHeld hc21) (fun hHeld => ?_)
      clear hK1 K1
      try simp only [Act.put, List.getElem_toArray, List.getElem_cons_succ, List.getElem_cons_zero, List.setIfInBounds_toArray, List.set_cons_zero, List.set_cons_succ]
      refine wpAnyH_take (i := 11) (v := .tuple #[.agg CR.toArray, .int .i64 ee]) rfl (by kernel_rfl) (by kernel_rfl) (by kernel_rfl) (fun _ _ _ h => h) (Or.inl ⟨by rfl, fun w' hSw => by go_simp⟩) hHeld ?_
      try simp only [Act.put, List.getElem_toArray, List.getElem_cons_succ, List.getElem_cons_zero, List.setIfInBounds_toArray, List.set_cons_zero, List.set_cons_succ]
      refine wpAnyH_take (i := 12) (v := .agg CR.toArray) rfl (by kernel_rfl) (by kernel_rfl) (by kernel_rfl) (fun _ _ _ h => h) (Or.inl ⟨by rfl, fun w' hSw => by go_simp⟩) hHeld ?_
      try simp only [Act.put, List.getElem_toArray, List.getElem_cons_succ, List.getElem_cons_zero, List.setIfInBounds_toArray, List.set_cons_zero, List.set_cons_succ]
      refine wpAnyH_take (i := 13) (v := .int .i64 ee) rfl (by kernel_rfl) (by kernel_rfl) (by kernel_rfl) (fun _ _ _ h => h) (Or.inl ⟨by rfl, fun w' hSw => by go_simp⟩) hHeld ?_
      try simp only [Act.put, List.getElem_toArray, List.getElem_cons_succ, List.getElem_cons_zero, List.setIfInBounds_toArray, List.set_cons_zero, List.set_cons_succ]
      refine wpAnyH_ready (rs := [15]) (by kernel_rfl) (by simp) (AllReadyH.cons rfl (fun K1 hK1 => ?_) AllReadyH.nil)
      try simp only [Act.put, List.getElem_toArray, List.getElem_cons_succ, List.getElem_cons_zero, List.setIfInBounds_toArray, List.set_cons_zero, List.set_cons_succ]
      rw [if_pos (by rfl)]
      refine wp_store_at 64 (.tmp 15) (.tmp 62) rfl ga17 0 CR _ _ rfl rfl rA (by have := HZ68.out; have := HCR68.out; omega) (by rw [rp_info, HCR68.out]) HCR1.out ?_
      intro ws22 hrS hgS
      rw [splice_all (HCR68.out.trans HZ68.out.symm)] at hrS
      have HR15 := Lib.hid hrS
      have hHeld2 := below_own hHeld hgS (fun k hk => by cases hk; exact rAs)
      clear hrS hgS
      refine hK1.out _ _ (hHeld2) (fun hHeld => ?_)
      clear hK1 K1
      try simp only [Act.put, List.getElem_toArray, List.getElem_cons_succ, List.getElem_cons_zero, List.setIfInBounds_toArray, List.set_cons_zero, List.set_cons_succ]
      clear hHeld2
      refine wpAnyH_take (i := 16) (v := .int .i64 ee) rfl (by kernel_rfl) (by kernel_rfl) (by kernel_rfl) (fun _ _ _ h => h) (Or.inl ⟨by rfl, fun w' hSw => by go_simp⟩) hHeld ?_
      try simp only [Act.put, List.getElem_toArray, List.getElem_cons_succ, List.getElem_cons_zero, List.setIfInBounds_toArray, List.set_cons_zero, List.set_cons_succ]
      refine wpAnyH_done (by kernel_rfl) ?_ _
      refine NoPanic.normal ?_
      have HB5 := Lib.hid (two_below' HB3.out hHeld)
      have HR5 := Lib.hid (HR3.out.below hHeld)
      clear hHeld
      go_wp2_with (first
        | ((with_reducible show wpList _ _ _ (⟨_, .load 64 (.tmp 15), _, _, _, _⟩ :: _) _ _); refine wpList_load_tx rfl 64 (.tmp 15) rfl ga17 0 (rfl) CR _ (row_range HR15.out) Tryz.underlying64 rfl (by rw [rp_info, HCR68.out]) ?_)
        | (
           with_reducible show wpList _ _ _ (⟨_, .store 64 (.tmp 8) _, _, _, _, _⟩ :: _) _ _
           refine wpList_store_at rfl 64 (.tmp 8) (.tmp 64) rfl w.heap.size 0 CR ZT _ rfl rfl (HR5.out) (by have := HZ68.out; have := HCR68.out; omega) (by rw [rp_info, HCR68.out]) HCR1.out ?_
           intro w9 hr hg
           rw [splice_all (HCR68.out.trans HZ68.out.symm)] at hr
           have HS9 := Lib.hid hr
           have HB9 := Lib.hid (below_own HB5.out hg (fun k hk => by cases hk; exact Nat.le_refl _))
           clear hr hg))
      refine bodyPost_ret (results_row3 rfl _ _ w.heap.size 64 CR _ rfl HS9.out Tryz.underlying64 rfl (by rw [rp_info]; simp [HCR68.out]) _ _ rfl rfl) rfl ⟨by first | rfl | (rw [HMk.out]; rfl), HB9.out⟩
  · obtain ⟨n, hn⟩ : ∃ n, rs.length = n + 1 := ⟨rs.length - 1, by have := List.length_pos_iff.2 hne; omega⟩
    have hlt : ¬ time < (rs[n]'(by omega)).time := fun q => he ⟨hne, by rw [(Od.last_at hn).2]; exact q⟩
    have hl := HH.out.len
    have hf := HH.out.fits _ (List.getElem_mem (by omega : n < rs.length))
    obtain ⟨g, c', hge, _, hgl⟩ := HH.out.own.ne hne
    injection hge with ea eb ec
    subst ea
    clear eb ec
    have ct : (w.alloc (.cells ZT.toArray 64)).cell? ⟨g, n * 68 + 2, none⟩ = some (.int .i64 (rs[n]'(by omega)).time) := (HB0.out.cell (p := ⟨g, n * 68 + 2, none⟩) hgl).trans (Rp.at hf.prev (HH.out.own.at (Rp.lens HH.out.fits) n (by omega))).2.2.1
    obtain ⟨tm, htm⟩ : ∃ tm, (rs[n]'(by omega)).time = tm := ⟨_, rfl⟩
    rw [htm] at hlt ct
    rw [hn] at c0 hl
    have ew : IntKind.i64.wrap ((n : Int) + 1 - 1) = (n : Int) := (IntWalk.i64_in _ (by omega)).trans (by omega)
    have ew' : (n : Int) + 1 - 1 = (n : Int) := by omega
    have ew2 : IntKind.i64.wrap (n : Int) = (n : Int) := IntWalk.i64_in _ (by omega)
    have hk0 : (0 : Int) ≤ (n : Int) := by omega
    have hkn : (n : Int) < (n : Int) + 1 := by omega
    have d0 : decide ((n : Int) + 1 > 0) = true := decide_eq_true (by omega)
    have d0' : decide ((0 : Int) < (n : Int) + 1) = true := decide_eq_true (by omega)
    have d1 : decide (time < tm) = false := decide_eq_false hlt
    have HNn := Lib.hid hn
    clear hn hlt hf hgl htm hl
    rw [HNn.out] at HC0
    have HLz : Hid ((rs.length : Int) = (n : Int) + 1) := Lib.hid (by rw [HNn.out]; omega)
    clear hne he
    go_enter Tryz.func92, Tryz.ntmps92
    go_wp2_with fail
    have AT := asker_tx B body (w.alloc (.cells ZT.toArray 64))
    rw [show (w.alloc (.cells ZT.toArray 64)).heap.size = w.heap.size + 1 by simp] at AT
    have HAT := Lib.hid AT
    clear AT
    refine HAT.out.mono ?_
    rintro _ w2 ⟨rfl, hb2, hl2, hs2⟩
    have hb2' : Below (w.alloc (.cells ZT.toArray 64)).heap.size (w.alloc (.cells ZT.toArray 64)) w2 := by rw [show (w.alloc (.cells ZT.toArray 64)).heap.size = w.heap.size + 1 by simp]; exact hb2
    have HB2 := Lib.hid (two_below' HB0.out hb2')
    have HR2 := Lib.hid (HR0.out.below hb2')
    have HL2 := Lib.hid hl2
    have HS2 := Lib.hid hs2
    clear hb2 hb2' c0 hl2 hs2
    generalize w.heap.size + 1 + 1 = gb at *
    generalize w.heap.size + 1 = gl at *
    go_wp2_with fail
    have AK := ask2_any (HH.out.below HB2.out) body HBs.out HS2.out HL2.out (HTb.out.below HB2.out HTb.out.pos)
    rw [HAk.out] at AK
    have HAK := Lib.hid AK
    clear AK
    refine HAK.out.mono ?_
    rintro _ w3 ⟨rfl, hb3⟩
    have HB3 := Lib.hid (two_below' HB2.out hb3)
    have HR3 := Lib.hid (HR2.out.below hb3)
    clear hb3
    go_wp2_with fail
    have HLk : Hid (∀ W, Below w.heap.size w W → Calls Tryz.prog 128 #[.agg HDv, .int .i64 ((n : Int) + 1), .int .i64 1, .int .i64 time, .string body] W fun e w' => e = .returned (.tuple #[.agg CR.toArray, .int .i64 ee]) ∧ Below W.heap.size W w') := Lib.hid (fun W hW => by
      have := HLk0.out W hW
      rw [HLz.out] at this
      exact this)
    refine wp_region_noPanic ?_
    refine wp_region_held_drew (S := fun w' => Below w3.heap.size w3 w') (by kernel_rfl) ((Below.refl _ _).drew) (fun hHeld => ?_)
    generalize w3.drew = wq at *
    refine wpAnyH_take (i := 0) (v := .pointer (some ⟨B, 0, none⟩)) rfl (by kernel_rfl) (by kernel_rfl) (by kernel_rfl) (fun _ _ _ h => h) (Or.inl ⟨by rfl, fun w' hSw => by go_simp⟩) hHeld ?_
    try simp only [Act.put, List.getElem_toArray, List.getElem_cons_succ, List.getElem_cons_zero, List.setIfInBounds_toArray, List.set_cons_zero, List.set_cons_succ]
    refine wpAnyH_take (i := 2) (v := .pointer (some ⟨B, 0, none⟩)) rfl (by kernel_rfl) (by kernel_rfl) (by kernel_rfl) (fun _ _ _ h => h) (Or.inl ⟨by rfl, fun w' hSw => by go_simp⟩) hHeld ?_
    try simp only [Act.put, List.getElem_toArray, List.getElem_cons_succ, List.getElem_cons_zero, List.setIfInBounds_toArray, List.set_cons_zero, List.set_cons_succ]
    refine wpAnyH_take (i := 3) (v := .pointer (some ⟨B, 0, none⟩)) rfl (by kernel_rfl) (by kernel_rfl) (by kernel_rfl) (fun _ _ _ h => h) (Or.inl ⟨by rfl, fun w' hSw => by go_simp⟩) hHeld ?_
    try simp only [Act.put, List.getElem_toArray, List.getElem_cons_succ, List.getElem_cons_zero, List.setIfInBounds_toArray, List.set_cons_zero, List.set_cons_succ]
    refine wpAnyH_take (i := 4) (v := .pointer (some ⟨B, 0, none⟩)) rfl (by kernel_rfl) (by kernel_rfl) (by kernel_rfl) (fun _ _ _ h => h) (Or.inl ⟨by rfl, fun w' hSw => by go_simp⟩) hHeld ?_
    try simp only [Act.put, List.getElem_toArray, List.getElem_cons_succ, List.getElem_cons_zero, List.setIfInBounds_toArray, List.set_cons_zero, List.set_cons_succ]
    refine wpAnyH_take (i := 5) (v := .slice (some ⟨g, 0, none⟩) (n + 1) c) rfl (by kernel_rfl) (by kernel_rfl) (by kernel_rfl) (fun _ _ _ h => h) (Or.inl ⟨by rfl, fun w' hSw => by have hq := hSw; have hd := HC0.out _ (two_below' HB3.out hq); go_simp⟩) hHeld ?_
    try simp only [Act.put, List.getElem_toArray, List.getElem_cons_succ, List.getElem_cons_zero, List.setIfInBounds_toArray, List.set_cons_zero, List.set_cons_succ]
    refine wpAnyH_take (i := 6) (v := .int .i64 ((n : Int) + 1)) rfl (by kernel_rfl) (by kernel_rfl) (by kernel_rfl) (fun _ _ _ h => h) (Or.inl ⟨by rfl, fun w' hSw => by go_simp⟩) hHeld ?_
    try simp only [Act.put, List.getElem_toArray, List.getElem_cons_succ, List.getElem_cons_zero, List.setIfInBounds_toArray, List.set_cons_zero, List.set_cons_succ]
    refine wpAnyH_take (i := 7) (v := .int .i64 1) rfl (by kernel_rfl) (by kernel_rfl) (by kernel_rfl) (fun _ _ _ h => h) (Or.inl ⟨by rfl, fun w' hSw => by go_simp⟩) hHeld ?_
    try simp only [Act.put, List.getElem_toArray, List.getElem_cons_succ, List.getElem_cons_zero, List.setIfInBounds_toArray, List.set_cons_zero, List.set_cons_succ]
    refine wpAnyH_take (i := 8) (v := .int .i64 time) rfl (by kernel_rfl) (by kernel_rfl) (by kernel_rfl) (fun _ _ _ h => h) (Or.inl ⟨by rfl, fun w' hSw => by go_simp⟩) hHeld ?_
    try simp only [Act.put, List.getElem_toArray, List.getElem_cons_succ, List.getElem_cons_zero, List.setIfInBounds_toArray, List.set_cons_zero, List.set_cons_succ]
    refine wpAnyH_take (i := 9) (v := .string body) rfl (by kernel_rfl) (by kernel_rfl) (by kernel_rfl) (fun _ _ _ h => h) (Or.inl ⟨by rfl, fun w' hSw => by go_simp⟩) hHeld ?_
    try simp only [Act.put, List.getElem_toArray, List.getElem_cons_succ, List.getElem_cons_zero, List.setIfInBounds_toArray, List.set_cons_zero, List.set_cons_succ]
    refine wpAnyH_ready (rs := [1, 14]) (by kernel_rfl) (by simp) (AllReadyH.cons rfl (fun K1 hK1 => ?_) (AllReadyH.cons rfl (fun K1 hK1 => ?_) AllReadyH.nil))
    · skip
      try simp only [Act.put, List.getElem_toArray, List.getElem_cons_succ, List.getElem_cons_zero, List.setIfInBounds_toArray, List.set_cons_zero, List.set_cons_succ]
      go_simp
      refine Calls.mono (HHd.out _ (two_below' HB3.out hHeld)) ?_
      rintro e wc1 ⟨rfl, hc2⟩
      refine hK1.out _ _ (two_below' hHeld hc2) (fun hHeld => ?_)
      clear hK1 K1
      try simp only [Act.put, List.getElem_toArray, List.getElem_cons_succ, List.getElem_cons_zero, List.setIfInBounds_toArray, List.set_cons_zero, List.set_cons_succ]
      refine wpAnyH_ready (rs := [10, 14]) (by kernel_rfl) (by simp) (AllReadyH.cons rfl (fun K1 hK1 => ?_) (AllReadyH.cons rfl (fun K1 hK1 => ?_) AllReadyH.nil))
      · skip
        try simp only [Act.put, List.getElem_toArray, List.getElem_cons_succ, List.getElem_cons_zero, List.setIfInBounds_toArray, List.set_cons_zero, List.set_cons_succ]
        go_simp
        refine Calls.mono (HLk.out _ (two_below' HB3.out hHeld)) ?_
        rintro e wc3 ⟨rfl, hc4⟩
        refine hK1.out _ _ (two_below' hHeld hc4) (fun hHeld => ?_)
        clear hK1 K1
        try simp only [Act.put, List.getElem_toArray, List.getElem_cons_succ, List.getElem_cons_zero, List.setIfInBounds_toArray, List.set_cons_zero, List.set_cons_succ]
        refine wpAnyH_take (i := 11) (v := .tuple #[.agg CR.toArray, .int .i64 ee]) rfl (by kernel_rfl) (by kernel_rfl) (by kernel_rfl) (fun _ _ _ h => h) (Or.inl ⟨by rfl, fun w' hSw => by go_simp⟩) hHeld ?_
        try simp only [Act.put, List.getElem_toArray, List.getElem_cons_succ, List.getElem_cons_zero, List.setIfInBounds_toArray, List.set_cons_zero, List.set_cons_succ]
        refine wpAnyH_take (i := 12) (v := .agg CR.toArray) rfl (by kernel_rfl) (by kernel_rfl) (by kernel_rfl) (fun _ _ _ h => h) (Or.inl ⟨by rfl, fun w' hSw => by go_simp⟩) hHeld ?_
        try simp only [Act.put, List.getElem_toArray, List.getElem_cons_succ, List.getElem_cons_zero, List.setIfInBounds_toArray, List.set_cons_zero, List.set_cons_succ]
        refine wpAnyH_take (i := 13) (v := .int .i64 ee) rfl (by kernel_rfl) (by kernel_rfl) (by kernel_rfl) (fun _ _ _ h => h) (Or.inl ⟨by rfl, fun w' hSw => by go_simp⟩) hHeld ?_
        try simp only [Act.put, List.getElem_toArray, List.getElem_cons_succ, List.getElem_cons_zero, List.setIfInBounds_toArray, List.set_cons_zero, List.set_cons_succ]
        refine wpAnyH_ready (rs := [14]) (by kernel_rfl) (by simp) (AllReadyH.cons rfl (fun K1 hK1 => ?_) AllReadyH.nil)
        try simp only [Act.put, List.getElem_toArray, List.getElem_cons_succ, List.getElem_cons_zero, List.setIfInBounds_toArray, List.set_cons_zero, List.set_cons_succ]
        go_simp
        have hd6 := (Below.refl wc3.heap.size wc3).alloc (Nat.le_refl _) (.cells ZT.toArray 64)
        have rA : Row (wc3.alloc (.cells ZT.toArray 64)) wc3.heap.size 64 ZT := Row.new wc3 64 ZT
        have rAs : w3.heap.size ≤ wc3.heap.size := hHeld.size
        have hHeld2 := two_below' hHeld hd6
        generalize wc3.alloc (.cells ZT.toArray 64) = wa5 at *
        obtain ⟨ga7, ga7e⟩ : ∃ ga7, ga7 = wc3.heap.size := ⟨_, rfl⟩
        rw [← ga7e] at rA rAs ⊢
        refine hK1.out _ _ (hHeld2) (fun hHeld => ?_)
        clear hK1 K1
        try simp only [Act.put, List.getElem_toArray, List.getElem_cons_succ, List.getElem_cons_zero, List.setIfInBounds_toArray, List.set_cons_zero, List.set_cons_succ]
        clear hHeld2 ga7e
        refine wpAnyH_ready (rs := [15]) (by kernel_rfl) (by simp) (AllReadyH.cons rfl (fun K1 hK1 => ?_) AllReadyH.nil)
        try simp only [Act.put, List.getElem_toArray, List.getElem_cons_succ, List.getElem_cons_zero, List.setIfInBounds_toArray, List.set_cons_zero, List.set_cons_succ]
        rw [if_pos (by rfl)]
        refine wp_store_at 64 (.tmp 15) (.tmp 62) rfl ga7 0 CR _ _ rfl rfl rA (by have := HZ68.out; have := HCR68.out; omega) (by rw [rp_info, HCR68.out]) HCR1.out ?_
        intro ws8 hrS hgS
        rw [splice_all (HCR68.out.trans HZ68.out.symm)] at hrS
        have HR15 := Lib.hid hrS
        have hHeld2 := below_own hHeld hgS (fun k hk => by cases hk; exact rAs)
        clear hrS hgS
        refine hK1.out _ _ (hHeld2) (fun hHeld => ?_)
        clear hK1 K1
        try simp only [Act.put, List.getElem_toArray, List.getElem_cons_succ, List.getElem_cons_zero, List.setIfInBounds_toArray, List.set_cons_zero, List.set_cons_succ]
        clear hHeld2
        refine wpAnyH_take (i := 16) (v := .int .i64 ee) rfl (by kernel_rfl) (by kernel_rfl) (by kernel_rfl) (fun _ _ _ h => h) (Or.inl ⟨by rfl, fun w' hSw => by go_simp⟩) hHeld ?_
        try simp only [Act.put, List.getElem_toArray, List.getElem_cons_succ, List.getElem_cons_zero, List.setIfInBounds_toArray, List.set_cons_zero, List.set_cons_succ]
        refine wpAnyH_done (by kernel_rfl) ?_ _
        refine NoPanic.normal ?_
        have HB5 := Lib.hid (two_below' HB3.out hHeld)
        have HR5 := Lib.hid (HR3.out.below hHeld)
        clear hHeld
        go_wp2_with (first
          | ((with_reducible show wpList _ _ _ (⟨_, .load 64 (.tmp 15), _, _, _, _⟩ :: _) _ _); refine wpList_load_tx rfl 64 (.tmp 15) rfl ga7 0 (rfl) CR _ (row_range HR15.out) Tryz.underlying64 rfl (by rw [rp_info, HCR68.out]) ?_)
          | (
             with_reducible show wpList _ _ _ (⟨_, .store 64 (.tmp 8) _, _, _, _, _⟩ :: _) _ _
             refine wpList_store_at rfl 64 (.tmp 8) (.tmp 64) rfl w.heap.size 0 CR ZT _ rfl rfl (HR5.out) (by have := HZ68.out; have := HCR68.out; omega) (by rw [rp_info, HCR68.out]) HCR1.out ?_
             intro w9 hr hg
             rw [splice_all (HCR68.out.trans HZ68.out.symm)] at hr
             have HS9 := Lib.hid hr
             have HB9 := Lib.hid (below_own HB5.out hg (fun k hk => by cases hk; exact Nat.le_refl _))
             clear hr hg))
        refine bodyPost_ret (results_row3 rfl _ _ w.heap.size 64 CR _ rfl HS9.out Tryz.underlying64 rfl (by rw [rp_info]; simp [HCR68.out]) _ _ rfl rfl) rfl ⟨by first | rfl | (rw [HMk.out]; rfl), HB9.out⟩
      · skip
        try simp only [Act.put, List.getElem_toArray, List.getElem_cons_succ, List.getElem_cons_zero, List.setIfInBounds_toArray, List.set_cons_zero, List.set_cons_succ]
        go_simp
        have hd10 := (Below.refl wc1.heap.size wc1).alloc (Nat.le_refl _) (.cells ZT.toArray 64)
        have rA : Row (wc1.alloc (.cells ZT.toArray 64)) wc1.heap.size 64 ZT := Row.new wc1 64 ZT
        have rAs : w3.heap.size ≤ wc1.heap.size := hHeld.size
        have hHeld2 := two_below' hHeld hd10
        generalize wc1.alloc (.cells ZT.toArray 64) = wa9 at *
        obtain ⟨ga11, ga11e⟩ : ∃ ga11, ga11 = wc1.heap.size := ⟨_, rfl⟩
        rw [← ga11e] at rA rAs ⊢
        refine hK1.out _ _ (hHeld2) (fun hHeld => ?_)
        clear hK1 K1
        try simp only [Act.put, List.getElem_toArray, List.getElem_cons_succ, List.getElem_cons_zero, List.setIfInBounds_toArray, List.set_cons_zero, List.set_cons_succ]
        clear hHeld2 ga11e
        refine wpAnyH_ready (rs := [10]) (by kernel_rfl) (by simp) (AllReadyH.cons rfl (fun K1 hK1 => ?_) AllReadyH.nil)
        try simp only [Act.put, List.getElem_toArray, List.getElem_cons_succ, List.getElem_cons_zero, List.setIfInBounds_toArray, List.set_cons_zero, List.set_cons_succ]
        go_simp
        refine Calls.mono (HLk.out _ (two_below' HB3.out hHeld)) ?_
        rintro e wc12 ⟨rfl, hc13⟩
        have rA := rA.kept (grownBy_of_below hc13 none) (by simp)
        refine hK1.out _ _ (two_below' hHeld hc13) (fun hHeld => ?_)
        clear hK1 K1
        try simp only [Act.put, List.getElem_toArray, List.getElem_cons_succ, List.getElem_cons_zero, List.setIfInBounds_toArray, List.set_cons_zero, List.set_cons_succ]
        refine wpAnyH_take (i := 11) (v := .tuple #[.agg CR.toArray, .int .i64 ee]) rfl (by kernel_rfl) (by kernel_rfl) (by kernel_rfl) (fun _ _ _ h => h) (Or.inl ⟨by rfl, fun w' hSw => by go_simp⟩) hHeld ?_
        try simp only [Act.put, List.getElem_toArray, List.getElem_cons_succ, List.getElem_cons_zero, List.setIfInBounds_toArray, List.set_cons_zero, List.set_cons_succ]
        refine wpAnyH_take (i := 12) (v := .agg CR.toArray) rfl (by kernel_rfl) (by kernel_rfl) (by kernel_rfl) (fun _ _ _ h => h) (Or.inl ⟨by rfl, fun w' hSw => by go_simp⟩) hHeld ?_
        try simp only [Act.put, List.getElem_toArray, List.getElem_cons_succ, List.getElem_cons_zero, List.setIfInBounds_toArray, List.set_cons_zero, List.set_cons_succ]
        refine wpAnyH_take (i := 13) (v := .int .i64 ee) rfl (by kernel_rfl) (by kernel_rfl) (by kernel_rfl) (fun _ _ _ h => h) (Or.inl ⟨by rfl, fun w' hSw => by go_simp⟩) hHeld ?_
        try simp only [Act.put, List.getElem_toArray, List.getElem_cons_succ, List.getElem_cons_zero, List.setIfInBounds_toArray, List.set_cons_zero, List.set_cons_succ]
        refine wpAnyH_ready (rs := [15]) (by kernel_rfl) (by simp) (AllReadyH.cons rfl (fun K1 hK1 => ?_) AllReadyH.nil)
        try simp only [Act.put, List.getElem_toArray, List.getElem_cons_succ, List.getElem_cons_zero, List.setIfInBounds_toArray, List.set_cons_zero, List.set_cons_succ]
        rw [if_pos (by rfl)]
        refine wp_store_at 64 (.tmp 15) (.tmp 62) rfl ga11 0 CR _ _ rfl rfl rA (by have := HZ68.out; have := HCR68.out; omega) (by rw [rp_info, HCR68.out]) HCR1.out ?_
        intro ws14 hrS hgS
        rw [splice_all (HCR68.out.trans HZ68.out.symm)] at hrS
        have HR15 := Lib.hid hrS
        have hHeld2 := below_own hHeld hgS (fun k hk => by cases hk; exact rAs)
        clear hrS hgS
        refine hK1.out _ _ (hHeld2) (fun hHeld => ?_)
        clear hK1 K1
        try simp only [Act.put, List.getElem_toArray, List.getElem_cons_succ, List.getElem_cons_zero, List.setIfInBounds_toArray, List.set_cons_zero, List.set_cons_succ]
        clear hHeld2
        refine wpAnyH_take (i := 16) (v := .int .i64 ee) rfl (by kernel_rfl) (by kernel_rfl) (by kernel_rfl) (fun _ _ _ h => h) (Or.inl ⟨by rfl, fun w' hSw => by go_simp⟩) hHeld ?_
        try simp only [Act.put, List.getElem_toArray, List.getElem_cons_succ, List.getElem_cons_zero, List.setIfInBounds_toArray, List.set_cons_zero, List.set_cons_succ]
        refine wpAnyH_done (by kernel_rfl) ?_ _
        refine NoPanic.normal ?_
        have HB5 := Lib.hid (two_below' HB3.out hHeld)
        have HR5 := Lib.hid (HR3.out.below hHeld)
        clear hHeld
        go_wp2_with (first
          | ((with_reducible show wpList _ _ _ (⟨_, .load 64 (.tmp 15), _, _, _, _⟩ :: _) _ _); refine wpList_load_tx rfl 64 (.tmp 15) rfl ga11 0 (rfl) CR _ (row_range HR15.out) Tryz.underlying64 rfl (by rw [rp_info, HCR68.out]) ?_)
          | (
             with_reducible show wpList _ _ _ (⟨_, .store 64 (.tmp 8) _, _, _, _, _⟩ :: _) _ _
             refine wpList_store_at rfl 64 (.tmp 8) (.tmp 64) rfl w.heap.size 0 CR ZT _ rfl rfl (HR5.out) (by have := HZ68.out; have := HCR68.out; omega) (by rw [rp_info, HCR68.out]) HCR1.out ?_
             intro w9 hr hg
             rw [splice_all (HCR68.out.trans HZ68.out.symm)] at hr
             have HS9 := Lib.hid hr
             have HB9 := Lib.hid (below_own HB5.out hg (fun k hk => by cases hk; exact Nat.le_refl _))
             clear hr hg))
        refine bodyPost_ret (results_row3 rfl _ _ w.heap.size 64 CR _ rfl HS9.out Tryz.underlying64 rfl (by rw [rp_info]; simp [HCR68.out]) _ _ rfl rfl) rfl ⟨by first | rfl | (rw [HMk.out]; rfl), HB9.out⟩
    · skip
      try simp only [Act.put, List.getElem_toArray, List.getElem_cons_succ, List.getElem_cons_zero, List.setIfInBounds_toArray, List.set_cons_zero, List.set_cons_succ]
      go_simp
      have hd16 := (Below.refl wq.heap.size wq).alloc (Nat.le_refl _) (.cells ZT.toArray 64)
      have rA : Row (wq.alloc (.cells ZT.toArray 64)) wq.heap.size 64 ZT := Row.new wq 64 ZT
      have rAs : w3.heap.size ≤ wq.heap.size := hHeld.size
      have hHeld2 := two_below' hHeld hd16
      generalize wq.alloc (.cells ZT.toArray 64) = wa15 at *
      obtain ⟨ga17, ga17e⟩ : ∃ ga17, ga17 = wq.heap.size := ⟨_, rfl⟩
      rw [← ga17e] at rA rAs ⊢
      refine hK1.out _ _ (hHeld2) (fun hHeld => ?_)
      clear hK1 K1
      try simp only [Act.put, List.getElem_toArray, List.getElem_cons_succ, List.getElem_cons_zero, List.setIfInBounds_toArray, List.set_cons_zero, List.set_cons_succ]
      clear hHeld2 ga17e
      refine wpAnyH_ready (rs := [1]) (by kernel_rfl) (by simp) (AllReadyH.cons rfl (fun K1 hK1 => ?_) AllReadyH.nil)
      try simp only [Act.put, List.getElem_toArray, List.getElem_cons_succ, List.getElem_cons_zero, List.setIfInBounds_toArray, List.set_cons_zero, List.set_cons_succ]
      go_simp
      refine Calls.mono (HHd.out _ (two_below' HB3.out hHeld)) ?_
      rintro e wc18 ⟨rfl, hc19⟩
      have rA := rA.kept (grownBy_of_below hc19 none) (by simp)
      refine hK1.out _ _ (two_below' hHeld hc19) (fun hHeld => ?_)
      clear hK1 K1
      try simp only [Act.put, List.getElem_toArray, List.getElem_cons_succ, List.getElem_cons_zero, List.setIfInBounds_toArray, List.set_cons_zero, List.set_cons_succ]
      refine wpAnyH_ready (rs := [10]) (by kernel_rfl) (by simp) (AllReadyH.cons rfl (fun K1 hK1 => ?_) AllReadyH.nil)
      try simp only [Act.put, List.getElem_toArray, List.getElem_cons_succ, List.getElem_cons_zero, List.setIfInBounds_toArray, List.set_cons_zero, List.set_cons_succ]
      go_simp
      refine Calls.mono (HLk.out _ (two_below' HB3.out hHeld)) ?_
      rintro e wc20 ⟨rfl, hc21⟩
      have rA := rA.kept (grownBy_of_below hc21 none) (by simp)
      refine hK1.out _ _ (two_below' hHeld hc21) (fun hHeld => ?_)
      clear hK1 K1
      try simp only [Act.put, List.getElem_toArray, List.getElem_cons_succ, List.getElem_cons_zero, List.setIfInBounds_toArray, List.set_cons_zero, List.set_cons_succ]
      refine wpAnyH_take (i := 11) (v := .tuple #[.agg CR.toArray, .int .i64 ee]) rfl (by kernel_rfl) (by kernel_rfl) (by kernel_rfl) (fun _ _ _ h => h) (Or.inl ⟨by rfl, fun w' hSw => by go_simp⟩) hHeld ?_
      try simp only [Act.put, List.getElem_toArray, List.getElem_cons_succ, List.getElem_cons_zero, List.setIfInBounds_toArray, List.set_cons_zero, List.set_cons_succ]
      refine wpAnyH_take (i := 12) (v := .agg CR.toArray) rfl (by kernel_rfl) (by kernel_rfl) (by kernel_rfl) (fun _ _ _ h => h) (Or.inl ⟨by rfl, fun w' hSw => by go_simp⟩) hHeld ?_
      try simp only [Act.put, List.getElem_toArray, List.getElem_cons_succ, List.getElem_cons_zero, List.setIfInBounds_toArray, List.set_cons_zero, List.set_cons_succ]
      refine wpAnyH_take (i := 13) (v := .int .i64 ee) rfl (by kernel_rfl) (by kernel_rfl) (by kernel_rfl) (fun _ _ _ h => h) (Or.inl ⟨by rfl, fun w' hSw => by go_simp⟩) hHeld ?_
      try simp only [Act.put, List.getElem_toArray, List.getElem_cons_succ, List.getElem_cons_zero, List.setIfInBounds_toArray, List.set_cons_zero, List.set_cons_succ]
      refine wpAnyH_ready (rs := [15]) (by kernel_rfl) (by simp) (AllReadyH.cons rfl (fun K1 hK1 => ?_) AllReadyH.nil)
      try simp only [Act.put, List.getElem_toArray, List.getElem_cons_succ, List.getElem_cons_zero, List.setIfInBounds_toArray, List.set_cons_zero, List.set_cons_succ]
      rw [if_pos (by rfl)]
      refine wp_store_at 64 (.tmp 15) (.tmp 62) rfl ga17 0 CR _ _ rfl rfl rA (by have := HZ68.out; have := HCR68.out; omega) (by rw [rp_info, HCR68.out]) HCR1.out ?_
      intro ws22 hrS hgS
      rw [splice_all (HCR68.out.trans HZ68.out.symm)] at hrS
      have HR15 := Lib.hid hrS
      have hHeld2 := below_own hHeld hgS (fun k hk => by cases hk; exact rAs)
      clear hrS hgS
      refine hK1.out _ _ (hHeld2) (fun hHeld => ?_)
      clear hK1 K1
      try simp only [Act.put, List.getElem_toArray, List.getElem_cons_succ, List.getElem_cons_zero, List.setIfInBounds_toArray, List.set_cons_zero, List.set_cons_succ]
      clear hHeld2
      refine wpAnyH_take (i := 16) (v := .int .i64 ee) rfl (by kernel_rfl) (by kernel_rfl) (by kernel_rfl) (fun _ _ _ h => h) (Or.inl ⟨by rfl, fun w' hSw => by go_simp⟩) hHeld ?_
      try simp only [Act.put, List.getElem_toArray, List.getElem_cons_succ, List.getElem_cons_zero, List.setIfInBounds_toArray, List.set_cons_zero, List.set_cons_succ]
      refine wpAnyH_done (by kernel_rfl) ?_ _
      refine NoPanic.normal ?_
      have HB5 := Lib.hid (two_below' HB3.out hHeld)
      have HR5 := Lib.hid (HR3.out.below hHeld)
      clear hHeld
      go_wp2_with (first
        | ((with_reducible show wpList _ _ _ (⟨_, .load 64 (.tmp 15), _, _, _, _⟩ :: _) _ _); refine wpList_load_tx rfl 64 (.tmp 15) rfl ga17 0 (rfl) CR _ (row_range HR15.out) Tryz.underlying64 rfl (by rw [rp_info, HCR68.out]) ?_)
        | (
           with_reducible show wpList _ _ _ (⟨_, .store 64 (.tmp 8) _, _, _, _, _⟩ :: _) _ _
           refine wpList_store_at rfl 64 (.tmp 8) (.tmp 64) rfl w.heap.size 0 CR ZT _ rfl rfl (HR5.out) (by have := HZ68.out; have := HCR68.out; omega) (by rw [rp_info, HCR68.out]) HCR1.out ?_
           intro w9 hr hg
           rw [splice_all (HCR68.out.trans HZ68.out.symm)] at hr
           have HS9 := Lib.hid hr
           have HB9 := Lib.hid (below_own HB5.out hg (fun k hk => by cases hk; exact Nat.le_refl _))
           clear hr hg))
      refine bodyPost_ret (results_row3 rfl _ _ w.heap.size 64 CR _ rfl HS9.out Tryz.underlying64 rfl (by rw [rp_info]; simp [HCR68.out]) _ _ rfl rfl) rfl ⟨by first | rfl | (rw [HMk.out]; rfl), HB9.out⟩
set_option maxHeartbeats 6400000 in
theorem LogAt.link_other_ok {w : World} {base B : Nat} {v dv : Value} {rs : List Rp} (h : LogAt w base B v dv rs) (kind : Int) (body : ByteArray) (time : Int) (hs : body.size ≤ 140737488351232) (hT : Tab w) (hk : kind ≠ 1) (he : ¬ (rs ≠ [] ∧ time < Od.last rs)) (ha : (Od.ask rs kind body).2 = 0) : Calls Tryz.prog 92 #[.pointer (some ⟨B, 0, none⟩), .int .i64 kind, .string body, .int .i64 time] w fun e w' => e = .returned (.tuple #[.agg (Od.mk rs kind body time).1.cells.toArray, .int .i64 (Od.mk rs kind body time).2.1, .int .i64 (Od.mk rs kind body time).2.2]) ∧ Below w.heap.size w w' := by
  have hzv := rp_zv
  have HBt : Hid (Tryz.prog.built 64 [] = some Rp.zero.cells.toArray) := Lib.hid Rp.zero_built0
  have HZ68 := Lib.hid (Rp.cells_len Rp.zero_fits.prev Rp.zero_fits.hash)
  have HZ1 := Lib.hid (Rp.cells_one Rp.zero_fits.prev Rp.zero_fits.hash)
  obtain ⟨ZT, hZT⟩ : ∃ ZT, Rp.zero.cells = ZT := ⟨_, rfl⟩
  rw [hZT] at hzv HBt HZ68 HZ1
  have HZT := Lib.hid hZT
  clear hZT
  have hb0 := (Below.refl w.heap.size w).alloc (Nat.le_refl _) (.cells ZT.toArray 64)
  have HB0 := Lib.hid hb0
  have HR0 := Lib.hid (Row.new w 64 ZT)
  have HH := Lib.hid h
  have HTb := Lib.hid hT
  have HBs := Lib.hid hs
  have HKn := Lib.hid hk
  clear hk
  have hmk := Od.mk_link he ha
  obtain ⟨ak, hak⟩ : ∃ ak, Od.ask rs kind body = ak := ⟨_, rfl⟩
  obtain ⟨aw, ae⟩ := ak
  have HAk := Lib.hid hak
  rw [hak] at ha hmk
  have ha0 : ae = 0 := ha
  subst ha0
  obtain ⟨LE, hLE⟩ : ∃ LE, Rp.linkE (Od.raw rs kind body time) = LE := ⟨_, rfl⟩
  have hrf : LE.1.prev.length = 32 ∧ LE.1.hash.length = 32 := by
    rw [← hLE]
    unfold Rp.linkE
    split
    · exact ⟨h.good.head, Rp.link_len _⟩
    · exact ⟨rfl, rfl⟩
  have HHd : Hid (∀ W, Below w.heap.size w W → Calls Tryz.prog 129 #[.pointer (some ⟨B, 0, none⟩)] W fun e w' => e = .returned (.agg (bRow (Od.head rs))) ∧ Below W.heap.size W w') := Lib.hid (fun W hW => (HH.out.below hW).head)
  have HLk0 : Hid (∀ W, Below w.heap.size w W → Calls Tryz.prog 128 #[.agg (bRow (Od.head rs)), .int .i64 rs.length, .int .i64 kind, .int .i64 time, .string body] W fun e w' => e = .returned (.tuple #[.agg LE.1.cells.toArray, .int .i64 LE.2]) ∧ Below W.heap.size W w') := Lib.hid (fun W hW => by
    have := link5_any (rs.length : Int) kind time body (Od.head rs) HH.out.good.head W (HTb.out.below hW HTb.out.pos)
    rw [show (Rp.mk (rs.length : Int) kind time body (Od.head rs) Tx.zero) = Od.raw rs kind body time from rfl, hLE] at this
    exact this)
  rw [hLE] at hmk
  obtain ⟨ee, hee⟩ : ∃ ee, LE.2 = ee := ⟨_, rfl⟩
  have HCR68 := Lib.hid (Rp.cells_len hrf.1 hrf.2)
  have HCR1 := Lib.hid (Rp.cells_one hrf.1 hrf.2)
  obtain ⟨R, hRe⟩ : ∃ R, LE.1 = R := ⟨_, rfl⟩
  rw [hRe] at HCR68 HCR1 HLk0 hmk
  rw [hee] at HLk0 hmk
  have HMk := Lib.hid hmk
  rw [HMk.out]
  obtain ⟨CR, hCR⟩ : ∃ CR, R.cells = CR := ⟨_, rfl⟩
  rw [hCR] at HCR68 HCR1 HLk0 ⊢
  generalize bRow (Od.head rs) = HDv at *
  have hawe : aw = -1 := by have := HAk.out; unfold Od.ask at this; rw [if_neg HKn.out] at this; injection this with q1 q2; exact q1.symm
  subst hawe
  clear ha hak hLE hrf hmk hee hRe hCR
  obtain ⟨A, c, hvA⟩ := h.form
  subst hvA
  have c0 := (h.below hb0).c0
  have HC0 : Hid (∀ W, Below w.heap.size w W → W.cell? ⟨B, 0, none⟩ = some (.slice A rs.length c)) := Lib.hid (fun W hW => (HH.out.below hW).c0)
  clear h hb0 hT hs
  by_cases hne : rs = []
  · have hlen : rs.length = 0 := by rw [hne]; rfl
    rw [hlen] at c0 HC0
    have HLz : Hid ((rs.length : Int) = 0) := Lib.hid (by omega)
    have d0 : decide ((0 : Int) > 0) = false := by decide
    clear hlen
    clear hne he
    go_enter Tryz.func92, Tryz.ntmps92
    go_wp2_with fail
    refine (asker_other B kind body _ HKn.out).mono ?_
    rintro _ w2 ⟨rfl, hb2⟩
    have HB2 := Lib.hid (two_below' HB0.out hb2)
    have HR2 := Lib.hid (HR0.out.below hb2)
    clear hb2 c0
    go_wp2_with fail
    refine (ask1_any _).mono ?_
    rintro _ w3 ⟨rfl, rfl⟩
    have HB3 := HB2
    have HR3 := HR2
    go_wp2_with fail
    have HLk : Hid (∀ W, Below w.heap.size w W → Calls Tryz.prog 128 #[.agg HDv, .int .i64 0, .int .i64 kind, .int .i64 time, .string body] W fun e w' => e = .returned (.tuple #[.agg CR.toArray, .int .i64 ee]) ∧ Below W.heap.size W w') := Lib.hid (fun W hW => by
      have := HLk0.out W hW
      rw [HLz.out] at this
      exact this)
    refine wp_region_noPanic ?_
    refine wp_region_held_drew (S := fun w' => Below w2.heap.size w2 w') (by kernel_rfl) ((Below.refl _ _).drew) (fun hHeld => ?_)
    generalize w2.drew = wq at *
    refine wpAnyH_take (i := 0) (v := .pointer (some ⟨B, 0, none⟩)) rfl (by kernel_rfl) (by kernel_rfl) (by kernel_rfl) (fun _ _ _ h => h) (Or.inl ⟨by rfl, fun w' hSw => by go_simp⟩) hHeld ?_
    try simp only [Act.put, List.getElem_toArray, List.getElem_cons_succ, List.getElem_cons_zero, List.setIfInBounds_toArray, List.set_cons_zero, List.set_cons_succ]
    refine wpAnyH_take (i := 2) (v := .pointer (some ⟨B, 0, none⟩)) rfl (by kernel_rfl) (by kernel_rfl) (by kernel_rfl) (fun _ _ _ h => h) (Or.inl ⟨by rfl, fun w' hSw => by go_simp⟩) hHeld ?_
    try simp only [Act.put, List.getElem_toArray, List.getElem_cons_succ, List.getElem_cons_zero, List.setIfInBounds_toArray, List.set_cons_zero, List.set_cons_succ]
    refine wpAnyH_take (i := 3) (v := .pointer (some ⟨B, 0, none⟩)) rfl (by kernel_rfl) (by kernel_rfl) (by kernel_rfl) (fun _ _ _ h => h) (Or.inl ⟨by rfl, fun w' hSw => by go_simp⟩) hHeld ?_
    try simp only [Act.put, List.getElem_toArray, List.getElem_cons_succ, List.getElem_cons_zero, List.setIfInBounds_toArray, List.set_cons_zero, List.set_cons_succ]
    refine wpAnyH_take (i := 4) (v := .pointer (some ⟨B, 0, none⟩)) rfl (by kernel_rfl) (by kernel_rfl) (by kernel_rfl) (fun _ _ _ h => h) (Or.inl ⟨by rfl, fun w' hSw => by go_simp⟩) hHeld ?_
    try simp only [Act.put, List.getElem_toArray, List.getElem_cons_succ, List.getElem_cons_zero, List.setIfInBounds_toArray, List.set_cons_zero, List.set_cons_succ]
    refine wpAnyH_take (i := 5) (v := .slice A (0) c) rfl (by kernel_rfl) (by kernel_rfl) (by kernel_rfl) (fun _ _ _ h => h) (Or.inl ⟨by rfl, fun w' hSw => by have hq := hSw; have hd := HC0.out _ (two_below' HB3.out hq); go_simp⟩) hHeld ?_
    try simp only [Act.put, List.getElem_toArray, List.getElem_cons_succ, List.getElem_cons_zero, List.setIfInBounds_toArray, List.set_cons_zero, List.set_cons_succ]
    refine wpAnyH_take (i := 6) (v := .int .i64 0) rfl (by kernel_rfl) (by kernel_rfl) (by kernel_rfl) (fun _ _ _ h => h) (Or.inl ⟨by rfl, fun w' hSw => by go_simp⟩) hHeld ?_
    try simp only [Act.put, List.getElem_toArray, List.getElem_cons_succ, List.getElem_cons_zero, List.setIfInBounds_toArray, List.set_cons_zero, List.set_cons_succ]
    refine wpAnyH_take (i := 7) (v := .int .i64 kind) rfl (by kernel_rfl) (by kernel_rfl) (by kernel_rfl) (fun _ _ _ h => h) (Or.inl ⟨by rfl, fun w' hSw => by go_simp⟩) hHeld ?_
    try simp only [Act.put, List.getElem_toArray, List.getElem_cons_succ, List.getElem_cons_zero, List.setIfInBounds_toArray, List.set_cons_zero, List.set_cons_succ]
    refine wpAnyH_take (i := 8) (v := .int .i64 time) rfl (by kernel_rfl) (by kernel_rfl) (by kernel_rfl) (fun _ _ _ h => h) (Or.inl ⟨by rfl, fun w' hSw => by go_simp⟩) hHeld ?_
    try simp only [Act.put, List.getElem_toArray, List.getElem_cons_succ, List.getElem_cons_zero, List.setIfInBounds_toArray, List.set_cons_zero, List.set_cons_succ]
    refine wpAnyH_take (i := 9) (v := .string body) rfl (by kernel_rfl) (by kernel_rfl) (by kernel_rfl) (fun _ _ _ h => h) (Or.inl ⟨by rfl, fun w' hSw => by go_simp⟩) hHeld ?_
    try simp only [Act.put, List.getElem_toArray, List.getElem_cons_succ, List.getElem_cons_zero, List.setIfInBounds_toArray, List.set_cons_zero, List.set_cons_succ]
    refine wpAnyH_ready (rs := [1, 14]) (by kernel_rfl) (by simp) (AllReadyH.cons rfl (fun K1 hK1 => ?_) (AllReadyH.cons rfl (fun K1 hK1 => ?_) AllReadyH.nil))
    · skip
      try simp only [Act.put, List.getElem_toArray, List.getElem_cons_succ, List.getElem_cons_zero, List.setIfInBounds_toArray, List.set_cons_zero, List.set_cons_succ]
      go_simp
      refine Calls.mono (HHd.out _ (two_below' HB3.out hHeld)) ?_
      rintro e wc1 ⟨rfl, hc2⟩
      refine hK1.out _ _ (two_below' hHeld hc2) (fun hHeld => ?_)
      clear hK1 K1
      try simp only [Act.put, List.getElem_toArray, List.getElem_cons_succ, List.getElem_cons_zero, List.setIfInBounds_toArray, List.set_cons_zero, List.set_cons_succ]
      refine wpAnyH_ready (rs := [10, 14]) (by kernel_rfl) (by simp) (AllReadyH.cons rfl (fun K1 hK1 => ?_) (AllReadyH.cons rfl (fun K1 hK1 => ?_) AllReadyH.nil))
      · skip
        try simp only [Act.put, List.getElem_toArray, List.getElem_cons_succ, List.getElem_cons_zero, List.setIfInBounds_toArray, List.set_cons_zero, List.set_cons_succ]
        go_simp
        refine Calls.mono (HLk.out _ (two_below' HB3.out hHeld)) ?_
        rintro e wc3 ⟨rfl, hc4⟩
        refine hK1.out _ _ (two_below' hHeld hc4) (fun hHeld => ?_)
        clear hK1 K1
        try simp only [Act.put, List.getElem_toArray, List.getElem_cons_succ, List.getElem_cons_zero, List.setIfInBounds_toArray, List.set_cons_zero, List.set_cons_succ]
        refine wpAnyH_take (i := 11) (v := .tuple #[.agg CR.toArray, .int .i64 ee]) rfl (by kernel_rfl) (by kernel_rfl) (by kernel_rfl) (fun _ _ _ h => h) (Or.inl ⟨by rfl, fun w' hSw => by go_simp⟩) hHeld ?_
        try simp only [Act.put, List.getElem_toArray, List.getElem_cons_succ, List.getElem_cons_zero, List.setIfInBounds_toArray, List.set_cons_zero, List.set_cons_succ]
        refine wpAnyH_take (i := 12) (v := .agg CR.toArray) rfl (by kernel_rfl) (by kernel_rfl) (by kernel_rfl) (fun _ _ _ h => h) (Or.inl ⟨by rfl, fun w' hSw => by go_simp⟩) hHeld ?_
        try simp only [Act.put, List.getElem_toArray, List.getElem_cons_succ, List.getElem_cons_zero, List.setIfInBounds_toArray, List.set_cons_zero, List.set_cons_succ]
        refine wpAnyH_take (i := 13) (v := .int .i64 ee) rfl (by kernel_rfl) (by kernel_rfl) (by kernel_rfl) (fun _ _ _ h => h) (Or.inl ⟨by rfl, fun w' hSw => by go_simp⟩) hHeld ?_
        try simp only [Act.put, List.getElem_toArray, List.getElem_cons_succ, List.getElem_cons_zero, List.setIfInBounds_toArray, List.set_cons_zero, List.set_cons_succ]
        refine wpAnyH_ready (rs := [14]) (by kernel_rfl) (by simp) (AllReadyH.cons rfl (fun K1 hK1 => ?_) AllReadyH.nil)
        try simp only [Act.put, List.getElem_toArray, List.getElem_cons_succ, List.getElem_cons_zero, List.setIfInBounds_toArray, List.set_cons_zero, List.set_cons_succ]
        go_simp
        have hd6 := (Below.refl wc3.heap.size wc3).alloc (Nat.le_refl _) (.cells ZT.toArray 64)
        have rA : Row (wc3.alloc (.cells ZT.toArray 64)) wc3.heap.size 64 ZT := Row.new wc3 64 ZT
        have rAs : w2.heap.size ≤ wc3.heap.size := hHeld.size
        have hHeld2 := two_below' hHeld hd6
        generalize wc3.alloc (.cells ZT.toArray 64) = wa5 at *
        obtain ⟨ga7, ga7e⟩ : ∃ ga7, ga7 = wc3.heap.size := ⟨_, rfl⟩
        rw [← ga7e] at rA rAs ⊢
        refine hK1.out _ _ (hHeld2) (fun hHeld => ?_)
        clear hK1 K1
        try simp only [Act.put, List.getElem_toArray, List.getElem_cons_succ, List.getElem_cons_zero, List.setIfInBounds_toArray, List.set_cons_zero, List.set_cons_succ]
        clear hHeld2 ga7e
        refine wpAnyH_ready (rs := [15]) (by kernel_rfl) (by simp) (AllReadyH.cons rfl (fun K1 hK1 => ?_) AllReadyH.nil)
        try simp only [Act.put, List.getElem_toArray, List.getElem_cons_succ, List.getElem_cons_zero, List.setIfInBounds_toArray, List.set_cons_zero, List.set_cons_succ]
        rw [if_pos (by rfl)]
        refine wp_store_at 64 (.tmp 15) (.tmp 62) rfl ga7 0 CR _ _ rfl rfl rA (by have := HZ68.out; have := HCR68.out; omega) (by rw [rp_info, HCR68.out]) HCR1.out ?_
        intro ws8 hrS hgS
        rw [splice_all (HCR68.out.trans HZ68.out.symm)] at hrS
        have HR15 := Lib.hid hrS
        have hHeld2 := below_own hHeld hgS (fun k hk => by cases hk; exact rAs)
        clear hrS hgS
        refine hK1.out _ _ (hHeld2) (fun hHeld => ?_)
        clear hK1 K1
        try simp only [Act.put, List.getElem_toArray, List.getElem_cons_succ, List.getElem_cons_zero, List.setIfInBounds_toArray, List.set_cons_zero, List.set_cons_succ]
        clear hHeld2
        refine wpAnyH_take (i := 16) (v := .int .i64 ee) rfl (by kernel_rfl) (by kernel_rfl) (by kernel_rfl) (fun _ _ _ h => h) (Or.inl ⟨by rfl, fun w' hSw => by go_simp⟩) hHeld ?_
        try simp only [Act.put, List.getElem_toArray, List.getElem_cons_succ, List.getElem_cons_zero, List.setIfInBounds_toArray, List.set_cons_zero, List.set_cons_succ]
        refine wpAnyH_done (by kernel_rfl) ?_ _
        refine NoPanic.normal ?_
        have HB5 := Lib.hid (two_below' HB3.out hHeld)
        have HR5 := Lib.hid (HR3.out.below hHeld)
        clear hHeld
        go_wp2_with (first
          | ((with_reducible show wpList _ _ _ (⟨_, .load 64 (.tmp 15), _, _, _, _⟩ :: _) _ _); refine wpList_load_tx rfl 64 (.tmp 15) rfl ga7 0 (rfl) CR _ (row_range HR15.out) Tryz.underlying64 rfl (by rw [rp_info, HCR68.out]) ?_)
          | (
             with_reducible show wpList _ _ _ (⟨_, .store 64 (.tmp 8) _, _, _, _, _⟩ :: _) _ _
             refine wpList_store_at rfl 64 (.tmp 8) (.tmp 64) rfl w.heap.size 0 CR ZT _ rfl rfl (HR5.out) (by have := HZ68.out; have := HCR68.out; omega) (by rw [rp_info, HCR68.out]) HCR1.out ?_
             intro w9 hr hg
             rw [splice_all (HCR68.out.trans HZ68.out.symm)] at hr
             have HS9 := Lib.hid hr
             have HB9 := Lib.hid (below_own HB5.out hg (fun k hk => by cases hk; exact Nat.le_refl _))
             clear hr hg))
        refine bodyPost_ret (results_row3 rfl _ _ w.heap.size 64 CR _ rfl HS9.out Tryz.underlying64 rfl (by rw [rp_info]; simp [HCR68.out]) _ _ rfl rfl) rfl ⟨by first | rfl | (rw [HMk.out]; rfl), HB9.out⟩
      · skip
        try simp only [Act.put, List.getElem_toArray, List.getElem_cons_succ, List.getElem_cons_zero, List.setIfInBounds_toArray, List.set_cons_zero, List.set_cons_succ]
        go_simp
        have hd10 := (Below.refl wc1.heap.size wc1).alloc (Nat.le_refl _) (.cells ZT.toArray 64)
        have rA : Row (wc1.alloc (.cells ZT.toArray 64)) wc1.heap.size 64 ZT := Row.new wc1 64 ZT
        have rAs : w2.heap.size ≤ wc1.heap.size := hHeld.size
        have hHeld2 := two_below' hHeld hd10
        generalize wc1.alloc (.cells ZT.toArray 64) = wa9 at *
        obtain ⟨ga11, ga11e⟩ : ∃ ga11, ga11 = wc1.heap.size := ⟨_, rfl⟩
        rw [← ga11e] at rA rAs ⊢
        refine hK1.out _ _ (hHeld2) (fun hHeld => ?_)
        clear hK1 K1
        try simp only [Act.put, List.getElem_toArray, List.getElem_cons_succ, List.getElem_cons_zero, List.setIfInBounds_toArray, List.set_cons_zero, List.set_cons_succ]
        clear hHeld2 ga11e
        refine wpAnyH_ready (rs := [10]) (by kernel_rfl) (by simp) (AllReadyH.cons rfl (fun K1 hK1 => ?_) AllReadyH.nil)
        try simp only [Act.put, List.getElem_toArray, List.getElem_cons_succ, List.getElem_cons_zero, List.setIfInBounds_toArray, List.set_cons_zero, List.set_cons_succ]
        go_simp
        refine Calls.mono (HLk.out _ (two_below' HB3.out hHeld)) ?_
        rintro e wc12 ⟨rfl, hc13⟩
        have rA := rA.kept (grownBy_of_below hc13 none) (by simp)
        refine hK1.out _ _ (two_below' hHeld hc13) (fun hHeld => ?_)
        clear hK1 K1
        try simp only [Act.put, List.getElem_toArray, List.getElem_cons_succ, List.getElem_cons_zero, List.setIfInBounds_toArray, List.set_cons_zero, List.set_cons_succ]
        refine wpAnyH_take (i := 11) (v := .tuple #[.agg CR.toArray, .int .i64 ee]) rfl (by kernel_rfl) (by kernel_rfl) (by kernel_rfl) (fun _ _ _ h => h) (Or.inl ⟨by rfl, fun w' hSw => by go_simp⟩) hHeld ?_
        try simp only [Act.put, List.getElem_toArray, List.getElem_cons_succ, List.getElem_cons_zero, List.setIfInBounds_toArray, List.set_cons_zero, List.set_cons_succ]
        refine wpAnyH_take (i := 12) (v := .agg CR.toArray) rfl (by kernel_rfl) (by kernel_rfl) (by kernel_rfl) (fun _ _ _ h => h) (Or.inl ⟨by rfl, fun w' hSw => by go_simp⟩) hHeld ?_
        try simp only [Act.put, List.getElem_toArray, List.getElem_cons_succ, List.getElem_cons_zero, List.setIfInBounds_toArray, List.set_cons_zero, List.set_cons_succ]
        refine wpAnyH_take (i := 13) (v := .int .i64 ee) rfl (by kernel_rfl) (by kernel_rfl) (by kernel_rfl) (fun _ _ _ h => h) (Or.inl ⟨by rfl, fun w' hSw => by go_simp⟩) hHeld ?_
        try simp only [Act.put, List.getElem_toArray, List.getElem_cons_succ, List.getElem_cons_zero, List.setIfInBounds_toArray, List.set_cons_zero, List.set_cons_succ]
        refine wpAnyH_ready (rs := [15]) (by kernel_rfl) (by simp) (AllReadyH.cons rfl (fun K1 hK1 => ?_) AllReadyH.nil)
        try simp only [Act.put, List.getElem_toArray, List.getElem_cons_succ, List.getElem_cons_zero, List.setIfInBounds_toArray, List.set_cons_zero, List.set_cons_succ]
        rw [if_pos (by rfl)]
        refine wp_store_at 64 (.tmp 15) (.tmp 62) rfl ga11 0 CR _ _ rfl rfl rA (by have := HZ68.out; have := HCR68.out; omega) (by rw [rp_info, HCR68.out]) HCR1.out ?_
        intro ws14 hrS hgS
        rw [splice_all (HCR68.out.trans HZ68.out.symm)] at hrS
        have HR15 := Lib.hid hrS
        have hHeld2 := below_own hHeld hgS (fun k hk => by cases hk; exact rAs)
        clear hrS hgS
        refine hK1.out _ _ (hHeld2) (fun hHeld => ?_)
        clear hK1 K1
        try simp only [Act.put, List.getElem_toArray, List.getElem_cons_succ, List.getElem_cons_zero, List.setIfInBounds_toArray, List.set_cons_zero, List.set_cons_succ]
        clear hHeld2
        refine wpAnyH_take (i := 16) (v := .int .i64 ee) rfl (by kernel_rfl) (by kernel_rfl) (by kernel_rfl) (fun _ _ _ h => h) (Or.inl ⟨by rfl, fun w' hSw => by go_simp⟩) hHeld ?_
        try simp only [Act.put, List.getElem_toArray, List.getElem_cons_succ, List.getElem_cons_zero, List.setIfInBounds_toArray, List.set_cons_zero, List.set_cons_succ]
        refine wpAnyH_done (by kernel_rfl) ?_ _
        refine NoPanic.normal ?_
        have HB5 := Lib.hid (two_below' HB3.out hHeld)
        have HR5 := Lib.hid (HR3.out.below hHeld)
        clear hHeld
        go_wp2_with (first
          | ((with_reducible show wpList _ _ _ (⟨_, .load 64 (.tmp 15), _, _, _, _⟩ :: _) _ _); refine wpList_load_tx rfl 64 (.tmp 15) rfl ga11 0 (rfl) CR _ (row_range HR15.out) Tryz.underlying64 rfl (by rw [rp_info, HCR68.out]) ?_)
          | (
             with_reducible show wpList _ _ _ (⟨_, .store 64 (.tmp 8) _, _, _, _, _⟩ :: _) _ _
             refine wpList_store_at rfl 64 (.tmp 8) (.tmp 64) rfl w.heap.size 0 CR ZT _ rfl rfl (HR5.out) (by have := HZ68.out; have := HCR68.out; omega) (by rw [rp_info, HCR68.out]) HCR1.out ?_
             intro w9 hr hg
             rw [splice_all (HCR68.out.trans HZ68.out.symm)] at hr
             have HS9 := Lib.hid hr
             have HB9 := Lib.hid (below_own HB5.out hg (fun k hk => by cases hk; exact Nat.le_refl _))
             clear hr hg))
        refine bodyPost_ret (results_row3 rfl _ _ w.heap.size 64 CR _ rfl HS9.out Tryz.underlying64 rfl (by rw [rp_info]; simp [HCR68.out]) _ _ rfl rfl) rfl ⟨by first | rfl | (rw [HMk.out]; rfl), HB9.out⟩
    · skip
      try simp only [Act.put, List.getElem_toArray, List.getElem_cons_succ, List.getElem_cons_zero, List.setIfInBounds_toArray, List.set_cons_zero, List.set_cons_succ]
      go_simp
      have hd16 := (Below.refl wq.heap.size wq).alloc (Nat.le_refl _) (.cells ZT.toArray 64)
      have rA : Row (wq.alloc (.cells ZT.toArray 64)) wq.heap.size 64 ZT := Row.new wq 64 ZT
      have rAs : w2.heap.size ≤ wq.heap.size := hHeld.size
      have hHeld2 := two_below' hHeld hd16
      generalize wq.alloc (.cells ZT.toArray 64) = wa15 at *
      obtain ⟨ga17, ga17e⟩ : ∃ ga17, ga17 = wq.heap.size := ⟨_, rfl⟩
      rw [← ga17e] at rA rAs ⊢
      refine hK1.out _ _ (hHeld2) (fun hHeld => ?_)
      clear hK1 K1
      try simp only [Act.put, List.getElem_toArray, List.getElem_cons_succ, List.getElem_cons_zero, List.setIfInBounds_toArray, List.set_cons_zero, List.set_cons_succ]
      clear hHeld2 ga17e
      refine wpAnyH_ready (rs := [1]) (by kernel_rfl) (by simp) (AllReadyH.cons rfl (fun K1 hK1 => ?_) AllReadyH.nil)
      try simp only [Act.put, List.getElem_toArray, List.getElem_cons_succ, List.getElem_cons_zero, List.setIfInBounds_toArray, List.set_cons_zero, List.set_cons_succ]
      go_simp
      refine Calls.mono (HHd.out _ (two_below' HB3.out hHeld)) ?_
      rintro e wc18 ⟨rfl, hc19⟩
      have rA := rA.kept (grownBy_of_below hc19 none) (by simp)
      refine hK1.out _ _ (two_below' hHeld hc19) (fun hHeld => ?_)
      clear hK1 K1
      try simp only [Act.put, List.getElem_toArray, List.getElem_cons_succ, List.getElem_cons_zero, List.setIfInBounds_toArray, List.set_cons_zero, List.set_cons_succ]
      refine wpAnyH_ready (rs := [10]) (by kernel_rfl) (by simp) (AllReadyH.cons rfl (fun K1 hK1 => ?_) AllReadyH.nil)
      try simp only [Act.put, List.getElem_toArray, List.getElem_cons_succ, List.getElem_cons_zero, List.setIfInBounds_toArray, List.set_cons_zero, List.set_cons_succ]
      go_simp
      refine Calls.mono (HLk.out _ (two_below' HB3.out hHeld)) ?_
      rintro e wc20 ⟨rfl, hc21⟩
      have rA := rA.kept (grownBy_of_below hc21 none) (by simp)
      refine hK1.out _ _ (two_below' hHeld hc21) (fun hHeld => ?_)
      clear hK1 K1
      try simp only [Act.put, List.getElem_toArray, List.getElem_cons_succ, List.getElem_cons_zero, List.setIfInBounds_toArray, List.set_cons_zero, List.set_cons_succ]
      refine wpAnyH_take (i := 11) (v := .tuple #[.agg CR.toArray, .int .i64 ee]) rfl (by kernel_rfl) (by kernel_rfl) (by kernel_rfl) (fun _ _ _ h => h) (Or.inl ⟨by rfl, fun w' hSw => by go_simp⟩) hHeld ?_
      try simp only [Act.put, List.getElem_toArray, List.getElem_cons_succ, List.getElem_cons_zero, List.setIfInBounds_toArray, List.set_cons_zero, List.set_cons_succ]
      refine wpAnyH_take (i := 12) (v := .agg CR.toArray) rfl (by kernel_rfl) (by kernel_rfl) (by kernel_rfl) (fun _ _ _ h => h) (Or.inl ⟨by rfl, fun w' hSw => by go_simp⟩) hHeld ?_
      try simp only [Act.put, List.getElem_toArray, List.getElem_cons_succ, List.getElem_cons_zero, List.setIfInBounds_toArray, List.set_cons_zero, List.set_cons_succ]
      refine wpAnyH_take (i := 13) (v := .int .i64 ee) rfl (by kernel_rfl) (by kernel_rfl) (by kernel_rfl) (fun _ _ _ h => h) (Or.inl ⟨by rfl, fun w' hSw => by go_simp⟩) hHeld ?_
      try simp only [Act.put, List.getElem_toArray, List.getElem_cons_succ, List.getElem_cons_zero, List.setIfInBounds_toArray, List.set_cons_zero, List.set_cons_succ]
      refine wpAnyH_ready (rs := [15]) (by kernel_rfl) (by simp) (AllReadyH.cons rfl (fun K1 hK1 => ?_) AllReadyH.nil)
      try simp only [Act.put, List.getElem_toArray, List.getElem_cons_succ, List.getElem_cons_zero, List.setIfInBounds_toArray, List.set_cons_zero, List.set_cons_succ]
      rw [if_pos (by rfl)]
      refine wp_store_at 64 (.tmp 15) (.tmp 62) rfl ga17 0 CR _ _ rfl rfl rA (by have := HZ68.out; have := HCR68.out; omega) (by rw [rp_info, HCR68.out]) HCR1.out ?_
      intro ws22 hrS hgS
      rw [splice_all (HCR68.out.trans HZ68.out.symm)] at hrS
      have HR15 := Lib.hid hrS
      have hHeld2 := below_own hHeld hgS (fun k hk => by cases hk; exact rAs)
      clear hrS hgS
      refine hK1.out _ _ (hHeld2) (fun hHeld => ?_)
      clear hK1 K1
      try simp only [Act.put, List.getElem_toArray, List.getElem_cons_succ, List.getElem_cons_zero, List.setIfInBounds_toArray, List.set_cons_zero, List.set_cons_succ]
      clear hHeld2
      refine wpAnyH_take (i := 16) (v := .int .i64 ee) rfl (by kernel_rfl) (by kernel_rfl) (by kernel_rfl) (fun _ _ _ h => h) (Or.inl ⟨by rfl, fun w' hSw => by go_simp⟩) hHeld ?_
      try simp only [Act.put, List.getElem_toArray, List.getElem_cons_succ, List.getElem_cons_zero, List.setIfInBounds_toArray, List.set_cons_zero, List.set_cons_succ]
      refine wpAnyH_done (by kernel_rfl) ?_ _
      refine NoPanic.normal ?_
      have HB5 := Lib.hid (two_below' HB3.out hHeld)
      have HR5 := Lib.hid (HR3.out.below hHeld)
      clear hHeld
      go_wp2_with (first
        | ((with_reducible show wpList _ _ _ (⟨_, .load 64 (.tmp 15), _, _, _, _⟩ :: _) _ _); refine wpList_load_tx rfl 64 (.tmp 15) rfl ga17 0 (rfl) CR _ (row_range HR15.out) Tryz.underlying64 rfl (by rw [rp_info, HCR68.out]) ?_)
        | (
           with_reducible show wpList _ _ _ (⟨_, .store 64 (.tmp 8) _, _, _, _, _⟩ :: _) _ _
           refine wpList_store_at rfl 64 (.tmp 8) (.tmp 64) rfl w.heap.size 0 CR ZT _ rfl rfl (HR5.out) (by have := HZ68.out; have := HCR68.out; omega) (by rw [rp_info, HCR68.out]) HCR1.out ?_
           intro w9 hr hg
           rw [splice_all (HCR68.out.trans HZ68.out.symm)] at hr
           have HS9 := Lib.hid hr
           have HB9 := Lib.hid (below_own HB5.out hg (fun k hk => by cases hk; exact Nat.le_refl _))
           clear hr hg))
      refine bodyPost_ret (results_row3 rfl _ _ w.heap.size 64 CR _ rfl HS9.out Tryz.underlying64 rfl (by rw [rp_info]; simp [HCR68.out]) _ _ rfl rfl) rfl ⟨by first | rfl | (rw [HMk.out]; rfl), HB9.out⟩
  · obtain ⟨n, hn⟩ : ∃ n, rs.length = n + 1 := ⟨rs.length - 1, by have := List.length_pos_iff.2 hne; omega⟩
    have hlt : ¬ time < (rs[n]'(by omega)).time := fun q => he ⟨hne, by rw [(Od.last_at hn).2]; exact q⟩
    have hl := HH.out.len
    have hf := HH.out.fits _ (List.getElem_mem (by omega : n < rs.length))
    obtain ⟨g, c', hge, _, hgl⟩ := HH.out.own.ne hne
    injection hge with ea eb ec
    subst ea
    clear eb ec
    have ct : (w.alloc (.cells ZT.toArray 64)).cell? ⟨g, n * 68 + 2, none⟩ = some (.int .i64 (rs[n]'(by omega)).time) := (HB0.out.cell (p := ⟨g, n * 68 + 2, none⟩) hgl).trans (Rp.at hf.prev (HH.out.own.at (Rp.lens HH.out.fits) n (by omega))).2.2.1
    obtain ⟨tm, htm⟩ : ∃ tm, (rs[n]'(by omega)).time = tm := ⟨_, rfl⟩
    rw [htm] at hlt ct
    rw [hn] at c0 hl
    have ew : IntKind.i64.wrap ((n : Int) + 1 - 1) = (n : Int) := (IntWalk.i64_in _ (by omega)).trans (by omega)
    have ew' : (n : Int) + 1 - 1 = (n : Int) := by omega
    have ew2 : IntKind.i64.wrap (n : Int) = (n : Int) := IntWalk.i64_in _ (by omega)
    have hk0 : (0 : Int) ≤ (n : Int) := by omega
    have hkn : (n : Int) < (n : Int) + 1 := by omega
    have d0 : decide ((n : Int) + 1 > 0) = true := decide_eq_true (by omega)
    have d0' : decide ((0 : Int) < (n : Int) + 1) = true := decide_eq_true (by omega)
    have d1 : decide (time < tm) = false := decide_eq_false hlt
    have HNn := Lib.hid hn
    clear hn hlt hf hgl htm hl
    rw [HNn.out] at HC0
    have HLz : Hid ((rs.length : Int) = (n : Int) + 1) := Lib.hid (by rw [HNn.out]; omega)
    clear hne he
    go_enter Tryz.func92, Tryz.ntmps92
    go_wp2_with fail
    refine (asker_other B kind body _ HKn.out).mono ?_
    rintro _ w2 ⟨rfl, hb2⟩
    have HB2 := Lib.hid (two_below' HB0.out hb2)
    have HR2 := Lib.hid (HR0.out.below hb2)
    clear hb2 c0
    go_wp2_with fail
    refine (ask1_any _).mono ?_
    rintro _ w3 ⟨rfl, rfl⟩
    have HB3 := HB2
    have HR3 := HR2
    go_wp2_with fail
    have HLk : Hid (∀ W, Below w.heap.size w W → Calls Tryz.prog 128 #[.agg HDv, .int .i64 ((n : Int) + 1), .int .i64 kind, .int .i64 time, .string body] W fun e w' => e = .returned (.tuple #[.agg CR.toArray, .int .i64 ee]) ∧ Below W.heap.size W w') := Lib.hid (fun W hW => by
      have := HLk0.out W hW
      rw [HLz.out] at this
      exact this)
    refine wp_region_noPanic ?_
    refine wp_region_held_drew (S := fun w' => Below w2.heap.size w2 w') (by kernel_rfl) ((Below.refl _ _).drew) (fun hHeld => ?_)
    generalize w2.drew = wq at *
    refine wpAnyH_take (i := 0) (v := .pointer (some ⟨B, 0, none⟩)) rfl (by kernel_rfl) (by kernel_rfl) (by kernel_rfl) (fun _ _ _ h => h) (Or.inl ⟨by rfl, fun w' hSw => by go_simp⟩) hHeld ?_
    try simp only [Act.put, List.getElem_toArray, List.getElem_cons_succ, List.getElem_cons_zero, List.setIfInBounds_toArray, List.set_cons_zero, List.set_cons_succ]
    refine wpAnyH_take (i := 2) (v := .pointer (some ⟨B, 0, none⟩)) rfl (by kernel_rfl) (by kernel_rfl) (by kernel_rfl) (fun _ _ _ h => h) (Or.inl ⟨by rfl, fun w' hSw => by go_simp⟩) hHeld ?_
    try simp only [Act.put, List.getElem_toArray, List.getElem_cons_succ, List.getElem_cons_zero, List.setIfInBounds_toArray, List.set_cons_zero, List.set_cons_succ]
    refine wpAnyH_take (i := 3) (v := .pointer (some ⟨B, 0, none⟩)) rfl (by kernel_rfl) (by kernel_rfl) (by kernel_rfl) (fun _ _ _ h => h) (Or.inl ⟨by rfl, fun w' hSw => by go_simp⟩) hHeld ?_
    try simp only [Act.put, List.getElem_toArray, List.getElem_cons_succ, List.getElem_cons_zero, List.setIfInBounds_toArray, List.set_cons_zero, List.set_cons_succ]
    refine wpAnyH_take (i := 4) (v := .pointer (some ⟨B, 0, none⟩)) rfl (by kernel_rfl) (by kernel_rfl) (by kernel_rfl) (fun _ _ _ h => h) (Or.inl ⟨by rfl, fun w' hSw => by go_simp⟩) hHeld ?_
    try simp only [Act.put, List.getElem_toArray, List.getElem_cons_succ, List.getElem_cons_zero, List.setIfInBounds_toArray, List.set_cons_zero, List.set_cons_succ]
    refine wpAnyH_take (i := 5) (v := .slice (some ⟨g, 0, none⟩) (n + 1) c) rfl (by kernel_rfl) (by kernel_rfl) (by kernel_rfl) (fun _ _ _ h => h) (Or.inl ⟨by rfl, fun w' hSw => by have hq := hSw; have hd := HC0.out _ (two_below' HB3.out hq); go_simp⟩) hHeld ?_
    try simp only [Act.put, List.getElem_toArray, List.getElem_cons_succ, List.getElem_cons_zero, List.setIfInBounds_toArray, List.set_cons_zero, List.set_cons_succ]
    refine wpAnyH_take (i := 6) (v := .int .i64 ((n : Int) + 1)) rfl (by kernel_rfl) (by kernel_rfl) (by kernel_rfl) (fun _ _ _ h => h) (Or.inl ⟨by rfl, fun w' hSw => by go_simp⟩) hHeld ?_
    try simp only [Act.put, List.getElem_toArray, List.getElem_cons_succ, List.getElem_cons_zero, List.setIfInBounds_toArray, List.set_cons_zero, List.set_cons_succ]
    refine wpAnyH_take (i := 7) (v := .int .i64 kind) rfl (by kernel_rfl) (by kernel_rfl) (by kernel_rfl) (fun _ _ _ h => h) (Or.inl ⟨by rfl, fun w' hSw => by go_simp⟩) hHeld ?_
    try simp only [Act.put, List.getElem_toArray, List.getElem_cons_succ, List.getElem_cons_zero, List.setIfInBounds_toArray, List.set_cons_zero, List.set_cons_succ]
    refine wpAnyH_take (i := 8) (v := .int .i64 time) rfl (by kernel_rfl) (by kernel_rfl) (by kernel_rfl) (fun _ _ _ h => h) (Or.inl ⟨by rfl, fun w' hSw => by go_simp⟩) hHeld ?_
    try simp only [Act.put, List.getElem_toArray, List.getElem_cons_succ, List.getElem_cons_zero, List.setIfInBounds_toArray, List.set_cons_zero, List.set_cons_succ]
    refine wpAnyH_take (i := 9) (v := .string body) rfl (by kernel_rfl) (by kernel_rfl) (by kernel_rfl) (fun _ _ _ h => h) (Or.inl ⟨by rfl, fun w' hSw => by go_simp⟩) hHeld ?_
    try simp only [Act.put, List.getElem_toArray, List.getElem_cons_succ, List.getElem_cons_zero, List.setIfInBounds_toArray, List.set_cons_zero, List.set_cons_succ]
    refine wpAnyH_ready (rs := [1, 14]) (by kernel_rfl) (by simp) (AllReadyH.cons rfl (fun K1 hK1 => ?_) (AllReadyH.cons rfl (fun K1 hK1 => ?_) AllReadyH.nil))
    · skip
      try simp only [Act.put, List.getElem_toArray, List.getElem_cons_succ, List.getElem_cons_zero, List.setIfInBounds_toArray, List.set_cons_zero, List.set_cons_succ]
      go_simp
      refine Calls.mono (HHd.out _ (two_below' HB3.out hHeld)) ?_
      rintro e wc1 ⟨rfl, hc2⟩
      refine hK1.out _ _ (two_below' hHeld hc2) (fun hHeld => ?_)
      clear hK1 K1
      try simp only [Act.put, List.getElem_toArray, List.getElem_cons_succ, List.getElem_cons_zero, List.setIfInBounds_toArray, List.set_cons_zero, List.set_cons_succ]
      refine wpAnyH_ready (rs := [10, 14]) (by kernel_rfl) (by simp) (AllReadyH.cons rfl (fun K1 hK1 => ?_) (AllReadyH.cons rfl (fun K1 hK1 => ?_) AllReadyH.nil))
      · skip
        try simp only [Act.put, List.getElem_toArray, List.getElem_cons_succ, List.getElem_cons_zero, List.setIfInBounds_toArray, List.set_cons_zero, List.set_cons_succ]
        go_simp
        refine Calls.mono (HLk.out _ (two_below' HB3.out hHeld)) ?_
        rintro e wc3 ⟨rfl, hc4⟩
        refine hK1.out _ _ (two_below' hHeld hc4) (fun hHeld => ?_)
        clear hK1 K1
        try simp only [Act.put, List.getElem_toArray, List.getElem_cons_succ, List.getElem_cons_zero, List.setIfInBounds_toArray, List.set_cons_zero, List.set_cons_succ]
        refine wpAnyH_take (i := 11) (v := .tuple #[.agg CR.toArray, .int .i64 ee]) rfl (by kernel_rfl) (by kernel_rfl) (by kernel_rfl) (fun _ _ _ h => h) (Or.inl ⟨by rfl, fun w' hSw => by go_simp⟩) hHeld ?_
        try simp only [Act.put, List.getElem_toArray, List.getElem_cons_succ, List.getElem_cons_zero, List.setIfInBounds_toArray, List.set_cons_zero, List.set_cons_succ]
        refine wpAnyH_take (i := 12) (v := .agg CR.toArray) rfl (by kernel_rfl) (by kernel_rfl) (by kernel_rfl) (fun _ _ _ h => h) (Or.inl ⟨by rfl, fun w' hSw => by go_simp⟩) hHeld ?_
        try simp only [Act.put, List.getElem_toArray, List.getElem_cons_succ, List.getElem_cons_zero, List.setIfInBounds_toArray, List.set_cons_zero, List.set_cons_succ]
        refine wpAnyH_take (i := 13) (v := .int .i64 ee) rfl (by kernel_rfl) (by kernel_rfl) (by kernel_rfl) (fun _ _ _ h => h) (Or.inl ⟨by rfl, fun w' hSw => by go_simp⟩) hHeld ?_
        try simp only [Act.put, List.getElem_toArray, List.getElem_cons_succ, List.getElem_cons_zero, List.setIfInBounds_toArray, List.set_cons_zero, List.set_cons_succ]
        refine wpAnyH_ready (rs := [14]) (by kernel_rfl) (by simp) (AllReadyH.cons rfl (fun K1 hK1 => ?_) AllReadyH.nil)
        try simp only [Act.put, List.getElem_toArray, List.getElem_cons_succ, List.getElem_cons_zero, List.setIfInBounds_toArray, List.set_cons_zero, List.set_cons_succ]
        go_simp
        have hd6 := (Below.refl wc3.heap.size wc3).alloc (Nat.le_refl _) (.cells ZT.toArray 64)
        have rA : Row (wc3.alloc (.cells ZT.toArray 64)) wc3.heap.size 64 ZT := Row.new wc3 64 ZT
        have rAs : w2.heap.size ≤ wc3.heap.size := hHeld.size
        have hHeld2 := two_below' hHeld hd6
        generalize wc3.alloc (.cells ZT.toArray 64) = wa5 at *
        obtain ⟨ga7, ga7e⟩ : ∃ ga7, ga7 = wc3.heap.size := ⟨_, rfl⟩
        rw [← ga7e] at rA rAs ⊢
        refine hK1.out _ _ (hHeld2) (fun hHeld => ?_)
        clear hK1 K1
        try simp only [Act.put, List.getElem_toArray, List.getElem_cons_succ, List.getElem_cons_zero, List.setIfInBounds_toArray, List.set_cons_zero, List.set_cons_succ]
        clear hHeld2 ga7e
        refine wpAnyH_ready (rs := [15]) (by kernel_rfl) (by simp) (AllReadyH.cons rfl (fun K1 hK1 => ?_) AllReadyH.nil)
        try simp only [Act.put, List.getElem_toArray, List.getElem_cons_succ, List.getElem_cons_zero, List.setIfInBounds_toArray, List.set_cons_zero, List.set_cons_succ]
        rw [if_pos (by rfl)]
        refine wp_store_at 64 (.tmp 15) (.tmp 62) rfl ga7 0 CR _ _ rfl rfl rA (by have := HZ68.out; have := HCR68.out; omega) (by rw [rp_info, HCR68.out]) HCR1.out ?_
        intro ws8 hrS hgS
        rw [splice_all (HCR68.out.trans HZ68.out.symm)] at hrS
        have HR15 := Lib.hid hrS
        have hHeld2 := below_own hHeld hgS (fun k hk => by cases hk; exact rAs)
        clear hrS hgS
        refine hK1.out _ _ (hHeld2) (fun hHeld => ?_)
        clear hK1 K1
        try simp only [Act.put, List.getElem_toArray, List.getElem_cons_succ, List.getElem_cons_zero, List.setIfInBounds_toArray, List.set_cons_zero, List.set_cons_succ]
        clear hHeld2
        refine wpAnyH_take (i := 16) (v := .int .i64 ee) rfl (by kernel_rfl) (by kernel_rfl) (by kernel_rfl) (fun _ _ _ h => h) (Or.inl ⟨by rfl, fun w' hSw => by go_simp⟩) hHeld ?_
        try simp only [Act.put, List.getElem_toArray, List.getElem_cons_succ, List.getElem_cons_zero, List.setIfInBounds_toArray, List.set_cons_zero, List.set_cons_succ]
        refine wpAnyH_done (by kernel_rfl) ?_ _
        refine NoPanic.normal ?_
        have HB5 := Lib.hid (two_below' HB3.out hHeld)
        have HR5 := Lib.hid (HR3.out.below hHeld)
        clear hHeld
        go_wp2_with (first
          | ((with_reducible show wpList _ _ _ (⟨_, .load 64 (.tmp 15), _, _, _, _⟩ :: _) _ _); refine wpList_load_tx rfl 64 (.tmp 15) rfl ga7 0 (rfl) CR _ (row_range HR15.out) Tryz.underlying64 rfl (by rw [rp_info, HCR68.out]) ?_)
          | (
             with_reducible show wpList _ _ _ (⟨_, .store 64 (.tmp 8) _, _, _, _, _⟩ :: _) _ _
             refine wpList_store_at rfl 64 (.tmp 8) (.tmp 64) rfl w.heap.size 0 CR ZT _ rfl rfl (HR5.out) (by have := HZ68.out; have := HCR68.out; omega) (by rw [rp_info, HCR68.out]) HCR1.out ?_
             intro w9 hr hg
             rw [splice_all (HCR68.out.trans HZ68.out.symm)] at hr
             have HS9 := Lib.hid hr
             have HB9 := Lib.hid (below_own HB5.out hg (fun k hk => by cases hk; exact Nat.le_refl _))
             clear hr hg))
        refine bodyPost_ret (results_row3 rfl _ _ w.heap.size 64 CR _ rfl HS9.out Tryz.underlying64 rfl (by rw [rp_info]; simp [HCR68.out]) _ _ rfl rfl) rfl ⟨by first | rfl | (rw [HMk.out]; rfl), HB9.out⟩
      · skip
        try simp only [Act.put, List.getElem_toArray, List.getElem_cons_succ, List.getElem_cons_zero, List.setIfInBounds_toArray, List.set_cons_zero, List.set_cons_succ]
        go_simp
        have hd10 := (Below.refl wc1.heap.size wc1).alloc (Nat.le_refl _) (.cells ZT.toArray 64)
        have rA : Row (wc1.alloc (.cells ZT.toArray 64)) wc1.heap.size 64 ZT := Row.new wc1 64 ZT
        have rAs : w2.heap.size ≤ wc1.heap.size := hHeld.size
        have hHeld2 := two_below' hHeld hd10
        generalize wc1.alloc (.cells ZT.toArray 64) = wa9 at *
        obtain ⟨ga11, ga11e⟩ : ∃ ga11, ga11 = wc1.heap.size := ⟨_, rfl⟩
        rw [← ga11e] at rA rAs ⊢
        refine hK1.out _ _ (hHeld2) (fun hHeld => ?_)
        clear hK1 K1
        try simp only [Act.put, List.getElem_toArray, List.getElem_cons_succ, List.getElem_cons_zero, List.setIfInBounds_toArray, List.set_cons_zero, List.set_cons_succ]
        clear hHeld2 ga11e
        refine wpAnyH_ready (rs := [10]) (by kernel_rfl) (by simp) (AllReadyH.cons rfl (fun K1 hK1 => ?_) AllReadyH.nil)
        try simp only [Act.put, List.getElem_toArray, List.getElem_cons_succ, List.getElem_cons_zero, List.setIfInBounds_toArray, List.set_cons_zero, List.set_cons_succ]
        go_simp
        refine Calls.mono (HLk.out _ (two_below' HB3.out hHeld)) ?_
        rintro e wc12 ⟨rfl, hc13⟩
        have rA := rA.kept (grownBy_of_below hc13 none) (by simp)
        refine hK1.out _ _ (two_below' hHeld hc13) (fun hHeld => ?_)
        clear hK1 K1
        try simp only [Act.put, List.getElem_toArray, List.getElem_cons_succ, List.getElem_cons_zero, List.setIfInBounds_toArray, List.set_cons_zero, List.set_cons_succ]
        refine wpAnyH_take (i := 11) (v := .tuple #[.agg CR.toArray, .int .i64 ee]) rfl (by kernel_rfl) (by kernel_rfl) (by kernel_rfl) (fun _ _ _ h => h) (Or.inl ⟨by rfl, fun w' hSw => by go_simp⟩) hHeld ?_
        try simp only [Act.put, List.getElem_toArray, List.getElem_cons_succ, List.getElem_cons_zero, List.setIfInBounds_toArray, List.set_cons_zero, List.set_cons_succ]
        refine wpAnyH_take (i := 12) (v := .agg CR.toArray) rfl (by kernel_rfl) (by kernel_rfl) (by kernel_rfl) (fun _ _ _ h => h) (Or.inl ⟨by rfl, fun w' hSw => by go_simp⟩) hHeld ?_
        try simp only [Act.put, List.getElem_toArray, List.getElem_cons_succ, List.getElem_cons_zero, List.setIfInBounds_toArray, List.set_cons_zero, List.set_cons_succ]
        refine wpAnyH_take (i := 13) (v := .int .i64 ee) rfl (by kernel_rfl) (by kernel_rfl) (by kernel_rfl) (fun _ _ _ h => h) (Or.inl ⟨by rfl, fun w' hSw => by go_simp⟩) hHeld ?_
        try simp only [Act.put, List.getElem_toArray, List.getElem_cons_succ, List.getElem_cons_zero, List.setIfInBounds_toArray, List.set_cons_zero, List.set_cons_succ]
        refine wpAnyH_ready (rs := [15]) (by kernel_rfl) (by simp) (AllReadyH.cons rfl (fun K1 hK1 => ?_) AllReadyH.nil)
        try simp only [Act.put, List.getElem_toArray, List.getElem_cons_succ, List.getElem_cons_zero, List.setIfInBounds_toArray, List.set_cons_zero, List.set_cons_succ]
        rw [if_pos (by rfl)]
        refine wp_store_at 64 (.tmp 15) (.tmp 62) rfl ga11 0 CR _ _ rfl rfl rA (by have := HZ68.out; have := HCR68.out; omega) (by rw [rp_info, HCR68.out]) HCR1.out ?_
        intro ws14 hrS hgS
        rw [splice_all (HCR68.out.trans HZ68.out.symm)] at hrS
        have HR15 := Lib.hid hrS
        have hHeld2 := below_own hHeld hgS (fun k hk => by cases hk; exact rAs)
        clear hrS hgS
        refine hK1.out _ _ (hHeld2) (fun hHeld => ?_)
        clear hK1 K1
        try simp only [Act.put, List.getElem_toArray, List.getElem_cons_succ, List.getElem_cons_zero, List.setIfInBounds_toArray, List.set_cons_zero, List.set_cons_succ]
        clear hHeld2
        refine wpAnyH_take (i := 16) (v := .int .i64 ee) rfl (by kernel_rfl) (by kernel_rfl) (by kernel_rfl) (fun _ _ _ h => h) (Or.inl ⟨by rfl, fun w' hSw => by go_simp⟩) hHeld ?_
        try simp only [Act.put, List.getElem_toArray, List.getElem_cons_succ, List.getElem_cons_zero, List.setIfInBounds_toArray, List.set_cons_zero, List.set_cons_succ]
        refine wpAnyH_done (by kernel_rfl) ?_ _
        refine NoPanic.normal ?_
        have HB5 := Lib.hid (two_below' HB3.out hHeld)
        have HR5 := Lib.hid (HR3.out.below hHeld)
        clear hHeld
        go_wp2_with (first
          | ((with_reducible show wpList _ _ _ (⟨_, .load 64 (.tmp 15), _, _, _, _⟩ :: _) _ _); refine wpList_load_tx rfl 64 (.tmp 15) rfl ga11 0 (rfl) CR _ (row_range HR15.out) Tryz.underlying64 rfl (by rw [rp_info, HCR68.out]) ?_)
          | (
             with_reducible show wpList _ _ _ (⟨_, .store 64 (.tmp 8) _, _, _, _, _⟩ :: _) _ _
             refine wpList_store_at rfl 64 (.tmp 8) (.tmp 64) rfl w.heap.size 0 CR ZT _ rfl rfl (HR5.out) (by have := HZ68.out; have := HCR68.out; omega) (by rw [rp_info, HCR68.out]) HCR1.out ?_
             intro w9 hr hg
             rw [splice_all (HCR68.out.trans HZ68.out.symm)] at hr
             have HS9 := Lib.hid hr
             have HB9 := Lib.hid (below_own HB5.out hg (fun k hk => by cases hk; exact Nat.le_refl _))
             clear hr hg))
        refine bodyPost_ret (results_row3 rfl _ _ w.heap.size 64 CR _ rfl HS9.out Tryz.underlying64 rfl (by rw [rp_info]; simp [HCR68.out]) _ _ rfl rfl) rfl ⟨by first | rfl | (rw [HMk.out]; rfl), HB9.out⟩
    · skip
      try simp only [Act.put, List.getElem_toArray, List.getElem_cons_succ, List.getElem_cons_zero, List.setIfInBounds_toArray, List.set_cons_zero, List.set_cons_succ]
      go_simp
      have hd16 := (Below.refl wq.heap.size wq).alloc (Nat.le_refl _) (.cells ZT.toArray 64)
      have rA : Row (wq.alloc (.cells ZT.toArray 64)) wq.heap.size 64 ZT := Row.new wq 64 ZT
      have rAs : w2.heap.size ≤ wq.heap.size := hHeld.size
      have hHeld2 := two_below' hHeld hd16
      generalize wq.alloc (.cells ZT.toArray 64) = wa15 at *
      obtain ⟨ga17, ga17e⟩ : ∃ ga17, ga17 = wq.heap.size := ⟨_, rfl⟩
      rw [← ga17e] at rA rAs ⊢
      refine hK1.out _ _ (hHeld2) (fun hHeld => ?_)
      clear hK1 K1
      try simp only [Act.put, List.getElem_toArray, List.getElem_cons_succ, List.getElem_cons_zero, List.setIfInBounds_toArray, List.set_cons_zero, List.set_cons_succ]
      clear hHeld2 ga17e
      refine wpAnyH_ready (rs := [1]) (by kernel_rfl) (by simp) (AllReadyH.cons rfl (fun K1 hK1 => ?_) AllReadyH.nil)
      try simp only [Act.put, List.getElem_toArray, List.getElem_cons_succ, List.getElem_cons_zero, List.setIfInBounds_toArray, List.set_cons_zero, List.set_cons_succ]
      go_simp
      refine Calls.mono (HHd.out _ (two_below' HB3.out hHeld)) ?_
      rintro e wc18 ⟨rfl, hc19⟩
      have rA := rA.kept (grownBy_of_below hc19 none) (by simp)
      refine hK1.out _ _ (two_below' hHeld hc19) (fun hHeld => ?_)
      clear hK1 K1
      try simp only [Act.put, List.getElem_toArray, List.getElem_cons_succ, List.getElem_cons_zero, List.setIfInBounds_toArray, List.set_cons_zero, List.set_cons_succ]
      refine wpAnyH_ready (rs := [10]) (by kernel_rfl) (by simp) (AllReadyH.cons rfl (fun K1 hK1 => ?_) AllReadyH.nil)
      try simp only [Act.put, List.getElem_toArray, List.getElem_cons_succ, List.getElem_cons_zero, List.setIfInBounds_toArray, List.set_cons_zero, List.set_cons_succ]
      go_simp
      refine Calls.mono (HLk.out _ (two_below' HB3.out hHeld)) ?_
      rintro e wc20 ⟨rfl, hc21⟩
      have rA := rA.kept (grownBy_of_below hc21 none) (by simp)
      refine hK1.out _ _ (two_below' hHeld hc21) (fun hHeld => ?_)
      clear hK1 K1
      try simp only [Act.put, List.getElem_toArray, List.getElem_cons_succ, List.getElem_cons_zero, List.setIfInBounds_toArray, List.set_cons_zero, List.set_cons_succ]
      refine wpAnyH_take (i := 11) (v := .tuple #[.agg CR.toArray, .int .i64 ee]) rfl (by kernel_rfl) (by kernel_rfl) (by kernel_rfl) (fun _ _ _ h => h) (Or.inl ⟨by rfl, fun w' hSw => by go_simp⟩) hHeld ?_
      try simp only [Act.put, List.getElem_toArray, List.getElem_cons_succ, List.getElem_cons_zero, List.setIfInBounds_toArray, List.set_cons_zero, List.set_cons_succ]
      refine wpAnyH_take (i := 12) (v := .agg CR.toArray) rfl (by kernel_rfl) (by kernel_rfl) (by kernel_rfl) (fun _ _ _ h => h) (Or.inl ⟨by rfl, fun w' hSw => by go_simp⟩) hHeld ?_
      try simp only [Act.put, List.getElem_toArray, List.getElem_cons_succ, List.getElem_cons_zero, List.setIfInBounds_toArray, List.set_cons_zero, List.set_cons_succ]
      refine wpAnyH_take (i := 13) (v := .int .i64 ee) rfl (by kernel_rfl) (by kernel_rfl) (by kernel_rfl) (fun _ _ _ h => h) (Or.inl ⟨by rfl, fun w' hSw => by go_simp⟩) hHeld ?_
      try simp only [Act.put, List.getElem_toArray, List.getElem_cons_succ, List.getElem_cons_zero, List.setIfInBounds_toArray, List.set_cons_zero, List.set_cons_succ]
      refine wpAnyH_ready (rs := [15]) (by kernel_rfl) (by simp) (AllReadyH.cons rfl (fun K1 hK1 => ?_) AllReadyH.nil)
      try simp only [Act.put, List.getElem_toArray, List.getElem_cons_succ, List.getElem_cons_zero, List.setIfInBounds_toArray, List.set_cons_zero, List.set_cons_succ]
      rw [if_pos (by rfl)]
      refine wp_store_at 64 (.tmp 15) (.tmp 62) rfl ga17 0 CR _ _ rfl rfl rA (by have := HZ68.out; have := HCR68.out; omega) (by rw [rp_info, HCR68.out]) HCR1.out ?_
      intro ws22 hrS hgS
      rw [splice_all (HCR68.out.trans HZ68.out.symm)] at hrS
      have HR15 := Lib.hid hrS
      have hHeld2 := below_own hHeld hgS (fun k hk => by cases hk; exact rAs)
      clear hrS hgS
      refine hK1.out _ _ (hHeld2) (fun hHeld => ?_)
      clear hK1 K1
      try simp only [Act.put, List.getElem_toArray, List.getElem_cons_succ, List.getElem_cons_zero, List.setIfInBounds_toArray, List.set_cons_zero, List.set_cons_succ]
      clear hHeld2
      refine wpAnyH_take (i := 16) (v := .int .i64 ee) rfl (by kernel_rfl) (by kernel_rfl) (by kernel_rfl) (fun _ _ _ h => h) (Or.inl ⟨by rfl, fun w' hSw => by go_simp⟩) hHeld ?_
      try simp only [Act.put, List.getElem_toArray, List.getElem_cons_succ, List.getElem_cons_zero, List.setIfInBounds_toArray, List.set_cons_zero, List.set_cons_succ]
      refine wpAnyH_done (by kernel_rfl) ?_ _
      refine NoPanic.normal ?_
      have HB5 := Lib.hid (two_below' HB3.out hHeld)
      have HR5 := Lib.hid (HR3.out.below hHeld)
      clear hHeld
      go_wp2_with (first
        | ((with_reducible show wpList _ _ _ (⟨_, .load 64 (.tmp 15), _, _, _, _⟩ :: _) _ _); refine wpList_load_tx rfl 64 (.tmp 15) rfl ga17 0 (rfl) CR _ (row_range HR15.out) Tryz.underlying64 rfl (by rw [rp_info, HCR68.out]) ?_)
        | (
           with_reducible show wpList _ _ _ (⟨_, .store 64 (.tmp 8) _, _, _, _, _⟩ :: _) _ _
           refine wpList_store_at rfl 64 (.tmp 8) (.tmp 64) rfl w.heap.size 0 CR ZT _ rfl rfl (HR5.out) (by have := HZ68.out; have := HCR68.out; omega) (by rw [rp_info, HCR68.out]) HCR1.out ?_
           intro w9 hr hg
           rw [splice_all (HCR68.out.trans HZ68.out.symm)] at hr
           have HS9 := Lib.hid hr
           have HB9 := Lib.hid (below_own HB5.out hg (fun k hk => by cases hk; exact Nat.le_refl _))
           clear hr hg))
      refine bodyPost_ret (results_row3 rfl _ _ w.heap.size 64 CR _ rfl HS9.out Tryz.underlying64 rfl (by rw [rp_info]; simp [HCR68.out]) _ _ rfl rfl) rfl ⟨by first | rfl | (rw [HMk.out]; rfl), HB9.out⟩
theorem LogAt.link {w : World} {base B : Nat} {v dv : Value} {rs : List Rp} (h : LogAt w base B v dv rs) (kind : Int) (body : ByteArray) (time : Int) (hs : body.size ≤ 140737488351232) (hT : Tab w) : Calls Tryz.prog 92 #[.pointer (some ⟨B, 0, none⟩), .int .i64 kind, .string body, .int .i64 time] w fun e w' => e = .returned (.tuple #[.agg (Od.mk rs kind body time).1.cells.toArray, .int .i64 (Od.mk rs kind body time).2.1, .int .i64 (Od.mk rs kind body time).2.2]) ∧ Below w.heap.size w w' := by
  by_cases he : rs ≠ [] ∧ time < Od.last rs
  · exact h.link_early kind body time he
  by_cases hk : kind = 1
  · subst hk
    by_cases ha : (Od.ask rs 1 body).2 = 0
    · exact h.link_tx_ok body time hs hT he ha
    · exact h.link_tx_no body time hs hT he ha
  · exact h.link_other_ok kind body time hs hT hk he (by unfold Od.ask; rw [if_neg hk])
end Go.Proofs.YtalfnadejpmjnaaGreatDoor
