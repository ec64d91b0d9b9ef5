/- What later texts need of the earlier layers. -/
import Derived.Test.YtjeooegkfjlejaaDoorEarO
import Derived.Test.YtjeooegkfjlejaaDoorEarS
import Derived.Test.YtjeooegkfjlejaaDoorEarT
import Derived.Test.YtjeooegkfjlejaaDoorEarC
import Derived.Test.YtjeooegkfjlejaaDoorEarA
import Derived.Test.YtjeooegkfjlejaaDoorEarB
import Derived.Test.YtjeooegkfjlejaaDoorIbA
import Derived.Test.YtjeooegkfjlejaaDoorTrMath
import Derived.Test.YtjeooegkfjlejaaDoorTrTm
import Derived.Test.YtjeooegkfjlejaaDoorTrHash
import Derived.Test.YtjeooegkfjlejaaDoorTrMem
import Derived.Test.YtjeooegkfjlejaaDoorTrLv
import Derived.Test.YtjeooegkfjlejaaDoorTrLink
import Derived.Test.YtjeooegkfjlejaaDoorTrBeh
import Derived.Test.YtjeooegkfjlejaaDoorTrCh
import Derived.Test.YtjeooegkfjlejaaDoorTrAt
import Derived.Test.YtjeooegkfjlejaaDoorTrNew
import Derived.Test.YtjeooegkfjlejaaDoorTrMine
import Derived.Test.YtjeooegkfjlejaaDoorTrAll
import Derived.Test.YtjeooegkfjlejaaDoorTrFind
import Derived.Test.YtjeooegkfjlejaaDoorTrAwk
import Derived.Test.YtjeooegkfjlejaaDoorTrLaw2
import Derived.Test.YtjeooegkfjlejaaDoorTrRch
import Derived.Test.YtjeooegkfjlejaaDoorTrRnew
import Derived.Test.YtjeooegkfjlejaaDoorTrFew
import Derived.Test.YtjeooegkfjlejaaDoorTrUpd
import Derived.Test.YtjeooegkfjlejaaDoorTrUpto
import Derived.Test.YtjeooegkfjlejaaDoorTrTurn
import Derived.Test.YtjeooegkfjlejaaDoorTrSame
import Derived.Test.YtjeooegkfjlejaaDoorTrSt
import Derived.Test.YtjeooegkfjlejaaDoorTrRHash
import Derived.Test.YtjeooegkfjlejaaDoorTrGrow
import Derived.Test.YtjeooegkfjlejaaDoorTrRmine
import Derived.Test.YtjeooegkfjlejaaDoorTrSmall
import Derived.Test.YtjeooegkfjlejaaDoorTrRturn
/- ---- TrDo ---- -/
/- cavalcadelaw11.do: both chains do the same. -/
namespace Go.Proofs.YtjeooegkfjlejaaDoor
open Go.RowKit
set_option linter.unusedVariables false
set_option linter.unusedSimpArgs false

theorem StAt.put {w W W' : World} {P g : Nat} {dp de : Int} {L : List Tr.Lk} {xs : List Value} (h : StAt w W P dp de L) (hr : Row W g 42 xs) (hgA : w.heap.size ≤ g) (hg : W.grownBy W' (some g)) : StAt w W' P dp de L := by
  obtain ⟨h1, h2, ls, h3, h4⟩ := h
  exact ⟨h1.trans (below_of_row hg hgA h1.size), h2, ls, h3, h4.put hr (by decide) (by decide) (by decide) hg⟩
theorem RStAt.put {w W W' : World} {P g : Nat} {dp de : Int} {L : List Tr.Lk} {xs : List Value} (h : RStAt w W P dp de L) (hr : Row W g 42 xs) (hgA : w.heap.size ≤ g) (hg : W.grownBy W' (some g)) : RStAt w W' P dp de L := by
  obtain ⟨h1, h2, bs, h3, h4, h5, A, c, h6, h7⟩ := h
  have hb := below_of_row hg hgA h1.size
  exact ⟨h1.trans hb, h2, bs, h3, h4, h5, A, c, h6.kept hg (row_diff h6 hr (by decide)), h7.1.kept hg (.inr (row_ne_own hr h7.1 (by decide))), fun x hx => ⟨(h7.2 x hx).1, (h7.2 x hx).2.1.below hb, (h7.2 x hx).2.2⟩⟩
set_option maxRecDepth 20000 in
set_option maxHeartbeats 6400000 in
theorem do11_any (hRS : RefSum) {w W : World} {P Q : Nat} {dp de : Int} {L : List Tr.Lk} (hP : StAt w W P dp de L) (hQ : RStAt w W Q dp de L) (x : Ac) (hx : x.In w w.heap.size) (hT : Tab w) :
    Calls Tryd.prog 17 #[.pointer (some ⟨P, 0, none⟩), .pointer (some ⟨Q, 0, none⟩), .agg x.cells.toArray] W fun e w' => e = .returned (.bool true) ∧ ∃ de' L', StAt w w' P dp de' L' ∧ RStAt w w' Q dp de' L' := by
  have hzh := hash_zv
  have HZ32 := Lib.hid (Tx.bRow_len Tx.zero rfl)
  have HKl := Tr.hashE_len
  have hml : ∀ (l : Tr.Lk) n its s, (Tr.mineE l n its s).1.length = 32 := fun l n its s => by unfold Tr.mineE; split; rfl; exact Tr.hashE_len _
  have hb0 := (Below.refl W.heap.size W).alloc (Nat.le_refl _) (.cells x.cells.toArray 34)
  have HSP := Lib.hid (hP.below hb0)
  have HSQ := Lib.hid (hQ.below hb0)
  have HI : Hid (RfIn2 W.heap.size x.cells _) := Lib.hid (Row.new W 34 x.cells)
  have HCb0 : Hid (∀ W', RfIn2 W.heap.size x.cells W' → W'.cell? ⟨W.heap.size, 0, none⟩ = some (.int .i64 x.kind)) := Lib.hid (fun W' h => Row.cell h 0 (by simp [Ac.cells]))
  have HCb : Hid (∀ W', RfIn2 W.heap.size x.cells W' → W'.cell? ⟨W.heap.size, 1, none⟩ = some (.int .i64 x.under) ∧ W'.cell? ⟨W.heap.size, 2, none⟩ = some (.int .i64 x.salt) ∧ W'.cell? ⟨W.heap.size, 3, none⟩ = some (.slice x.A x.L.length x.cap)) := Lib.hid (fun W' h => ⟨Row.cell h 1 (by simp [Ac.cells]), Row.cell h 2 (by simp [Ac.cells]), Row.cell h 3 (by simp [Ac.cells])⟩)
  have HF1 : Hid (∀ W', Below w.heap.size w W' → Calls Tryd.prog 32 #[.slice x.A x.L.length x.cap] W' fun e w' => e = .returned (.slice (first11 x.L).A (first11 x.L).its.length (first11 x.L).cap) ∧ W' = w') := Lib.hid (fun W' hW => first11_any x.A x.cap x.L w.heap.size W' (hx.1.below hW))
  have HM : Hid (∀ W', StAt w W' P dp de L → Calls Tryd.prog 31 #[.pointer (some ⟨P, 0, none⟩), .slice (first11 x.L).A (first11 x.L).its.length (first11 x.L).cap, .int .i64 x.salt] W' fun e w' => e = .returned (hashV (Tr.mineE (Tr.lastOf Tr.zeroL L) (L.length - 1) (first11 x.L).its x.salt).1 (Tr.mineE (Tr.lastOf Tr.zeroL L) (L.length - 1) (first11 x.L).its x.salt).2) ∧ StAt w w' P dp de (Tr.mineL L (first11 x.L).its x.salt) ∧ Keep W' w') := Lib.hid (fun W' hW => mineS hW _ _ _ x.salt hx.2.2.2 (first11_in hx) hT)
  have HM2 : Hid (∀ W', RStAt w W' Q dp de L → Calls Tryd.prog 48 #[.pointer (some ⟨Q, 0, none⟩), .slice (first11 x.L).A (first11 x.L).its.length (first11 x.L).cap, .int .i64 x.salt] W' fun e w' => e = .returned (hashV (Tr.mineE (Tr.lastOf Tr.zeroL L) (L.length - 1) (first11 x.L).its x.salt).1 (Tr.mineE (Tr.lastOf Tr.zeroL L) (L.length - 1) (first11 x.L).its x.salt).2) ∧ RStAt w w' Q dp de (Tr.mineL L (first11 x.L).its x.salt) ∧ KeepR W' w') := Lib.hid (fun W' hW => rmineS hRS hW _ _ _ x.salt hx.2.2.2 (first11_in hx))
  have HF2 : Hid (∀ W', Below w.heap.size w W' → Calls Tryd.prog 34 #[.slice x.A x.L.length x.cap] W' fun e w' => e = .returned (.slice x.A (few11 x.L).length x.cap) ∧ W' = w') := Lib.hid (fun W' hW => few11_any x.A x.cap x.L w.heap.size W' (hx.1.below hW))
  have hfl : (few11 x.L).length ≤ 1000000 := by unfold few11; rw [List.length_take]; omega
  have HTu : Hid (∀ W', StAt w W' P dp de L → Calls Tryd.prog 33 #[.pointer (some ⟨P, 0, none⟩), .int .i64 x.under, .slice x.A (few11 x.L).length x.cap, .int .i64 x.salt] W' fun e w' => e = .returned (.int .i64 (Tr.turnC L x.under ((few11 x.L).map Sv.its) x.salt)) ∧ StAt w w' P dp (Tr.turnD de L x.under ((few11 x.L).map Sv.its) x.salt) (Tr.turnL L x.under ((few11 x.L).map Sv.its) x.salt) ∧ Keep W' w') := Lib.hid (fun W' hW => turnS hW x.under x.salt hx.2.2.2 x.A x.cap (few11 x.L) (hx.1.few) hfl hT)
  have HTu2 : Hid (∀ W', RStAt w W' Q dp de L → Calls Tryd.prog 49 #[.pointer (some ⟨Q, 0, none⟩), .int .i64 x.under, .slice x.A (few11 x.L).length x.cap, .int .i64 x.salt] W' fun e w' => e = .returned (.int .i64 (Tr.turnC L x.under ((few11 x.L).map Sv.its) x.salt)) ∧ RStAt w w' Q dp (Tr.turnD de L x.under ((few11 x.L).map Sv.its) x.salt) (Tr.turnL L x.under ((few11 x.L).map Sv.its) x.salt) ∧ KeepR W' w') := Lib.hid (fun W' hW => rturnS hRS hW x.under x.salt hx.2.2.2 x.A x.cap (few11 x.L) (hx.1.few) hfl)
  have hKK := hml (Tr.lastOf Tr.zeroL L) (L.length - 1) (first11 x.L).its x.salt
  have HK32 := Lib.hid (Tx.bRow_len _ hKK)
  have HK1 := Lib.hid (hash_one _ hKK)
  have heq : ∀ W : World, (Op.equalIn 10000 42 (.agg (bRow (Tr.mineE (Tr.lastOf Tr.zeroL L) (L.length - 1) (first11 x.L).its x.salt).1)) (.agg (bRow (Tr.mineE (Tr.lastOf Tr.zeroL L) (L.length - 1) (first11 x.L).its x.salt).1))).run Tryd.prog W = .ok true W := fun W => (hash_eq W _ _ hKK hKK).trans (by simp)
  unfold hashV at HM HM2
  clear hP hQ hx hT hml HKl hb0 hfl hKK
  obtain ⟨kd, und, sl, Ax, cx, Lx⟩ := x
  simp only at HCb0 HCb HF1 HM HM2 HF2 HTu HTu2 HK32 HK1 heq
  generalize first11 Lx = y1 at *
  generalize few11 Lx = y2 at *
  generalize Tr.mineE (Tr.lastOf Tr.zeroL L) (L.length - 1) y1.its sl = me at *
  obtain ⟨K, E⟩ := me
  obtain ⟨yA, yc, yi⟩ := y1
  simp only at HF1 HM HM2 HK32 HK1 heq
  have ck := HCb0.out _ HI.out
  generalize Ac.cells ⟨kd, und, sl, Ax, cx, Lx⟩ = C at *
  obtain ⟨mx, hmx⟩ : ∃ mx, mx = Lx.length := ⟨_, rfl⟩
  rw [← hmx] at HCb HF1 HF2
  obtain ⟨my, hmy⟩ : ∃ my, my = yi.length := ⟨_, rfl⟩
  rw [← hmy] at HF1 HM HM2
  clear hmx hmy HCb0
  by_cases hkd : kd < 2
  · have d3 : decide (kd < 2) = true := by simpa using hkd
    clear hkd
    go_enter Tryd.func17, Tryd.ntmps17
    go_wp2_with fail
    clear ck d3
    generalize W.alloc (.cells C.toArray 34) = wc at *
    generalize W.heap.size = b0 at *
    refine wp_region_held_drew (S := fun w' => RfIn2 b0 C w') (by kernel_rfl) (HI.out.below ((Below.refl _ _).drew)) (fun hHeld => ?_)
    have HP := HSP.out.below ((Below.refl wc.heap.size wc).drew)
    have HQ := HSQ.out.below ((Below.refl wc.heap.size wc).drew)
    generalize wc.drew = wq at *
    refine wpAnyH_take (i := 0) (v := .pointer (some ⟨P, 0, none⟩)) rfl (by kernel_rfl) (by kernel_rfl) (by kernel_rfl) (fun _ _ _ h => h) (Or.inl ⟨by rfl, fun w' hSw => by go_simp⟩) hHeld ?_
    try simp only [Act.put, List.getElem_toArray, List.getElem_cons_succ, List.getElem_cons_zero, List.setIfInBounds_toArray, List.set_cons_zero, List.set_cons_succ]
    refine wpAnyH_take (i := 1) (v := .pointer (some ⟨b0, 3, none⟩)) rfl (by kernel_rfl) (by kernel_rfl) (by kernel_rfl) (fun _ _ _ h => h) (Or.inl ⟨by rfl, fun w' hSw => by go_simp⟩) hHeld ?_
    try simp only [Act.put, List.getElem_toArray, List.getElem_cons_succ, List.getElem_cons_zero, List.setIfInBounds_toArray, List.set_cons_zero, List.set_cons_succ]
    refine wpAnyH_take (i := 2) (v := .slice Ax mx cx) rfl (by kernel_rfl) (by kernel_rfl) (by kernel_rfl) (fun _ _ _ h => h) (Or.inl ⟨by rfl, fun w' hSw => by have hq := hSw; have hd := (HCb.out _ hq).2.2; go_simp⟩) hHeld ?_
    try simp only [Act.put, List.getElem_toArray, List.getElem_cons_succ, List.getElem_cons_zero, List.setIfInBounds_toArray, List.set_cons_zero, List.set_cons_succ]
    refine wpAnyH_take (i := 4) (v := .pointer (some ⟨b0, 2, none⟩)) rfl (by kernel_rfl) (by kernel_rfl) (by kernel_rfl) (fun _ _ _ h => h) (Or.inl ⟨by rfl, fun w' hSw => by go_simp⟩) hHeld ?_
    try simp only [Act.put, List.getElem_toArray, List.getElem_cons_succ, List.getElem_cons_zero, List.setIfInBounds_toArray, List.set_cons_zero, List.set_cons_succ]
    refine wpAnyH_take (i := 5) (v := .int .i64 sl) rfl (by kernel_rfl) (by kernel_rfl) (by kernel_rfl) (fun _ _ _ h => h) (Or.inl ⟨by rfl, fun w' hSw => by have hq := hSw; have hd := (HCb.out _ hq).2.1; go_simp⟩) hHeld ?_
    try simp only [Act.put, List.getElem_toArray, List.getElem_cons_succ, List.getElem_cons_zero, List.setIfInBounds_toArray, List.set_cons_zero, List.set_cons_succ]
    refine wpAnyH_ready (rs := [3, 10]) (by kernel_rfl) (by simp) (AllReadyH.cons rfl (fun K1 hK1 => ?_) (AllReadyH.cons rfl (fun K1 hK1 => ?_) AllReadyH.nil))
    · skip
      try simp only [Act.put, List.getElem_toArray, List.getElem_cons_succ, List.getElem_cons_zero, List.setIfInBounds_toArray, List.set_cons_zero, List.set_cons_succ]
      go_simp
      refine Calls.mono (HF1.out _ HP.1) ?_
      rintro e w2 ⟨rfl, rfl⟩
      refine hK1.out _ _ hHeld (fun hHeld => ?_)
      clear hK1 K1
      try simp only [Act.put, List.getElem_toArray, List.getElem_cons_succ, List.getElem_cons_zero, List.setIfInBounds_toArray, List.set_cons_zero, List.set_cons_succ]
      refine wpAnyH_ready (rs := [6, 10]) (by kernel_rfl) (by simp) (AllReadyH.cons rfl (fun K1 hK1 => ?_) (AllReadyH.cons rfl (fun K1 hK1 => ?_) AllReadyH.nil))
      · skip
        try simp only [Act.put, List.getElem_toArray, List.getElem_cons_succ, List.getElem_cons_zero, List.setIfInBounds_toArray, List.set_cons_zero, List.set_cons_succ]
        go_simp
        refine Calls.mono (HM.out _ HP) ?_
        rintro e w3 ⟨rfl, hst, hkp⟩
        replace HQ := HQ.keep hkp hst.1
        replace HP := hst
        replace hHeld : RfIn2 b0 C w3 := hkp.row hHeld (by decide) (by decide)
        clear hst hkp
        refine hK1.out _ _ hHeld (fun hHeld => ?_)
        clear hK1 K1
        try simp only [Act.put, List.getElem_toArray, List.getElem_cons_succ, List.getElem_cons_zero, List.setIfInBounds_toArray, List.set_cons_zero, List.set_cons_succ]
        refine wpAnyH_take (i := 7) (v := .tuple #[.agg (bRow K), .int .i64 E]) rfl (by kernel_rfl) (by kernel_rfl) (by kernel_rfl) (fun _ _ _ h => h) (Or.inl ⟨by rfl, fun w' hSw => by go_simp⟩) hHeld ?_
        try simp only [Act.put, List.getElem_toArray, List.getElem_cons_succ, List.getElem_cons_zero, List.setIfInBounds_toArray, List.set_cons_zero, List.set_cons_succ]
        refine wpAnyH_take (i := 8) (v := .agg (bRow K)) rfl (by kernel_rfl) (by kernel_rfl) (by kernel_rfl) (fun _ _ _ h => h) (Or.inl ⟨by rfl, fun w' hSw => by go_simp⟩) hHeld ?_
        try simp only [Act.put, List.getElem_toArray, List.getElem_cons_succ, List.getElem_cons_zero, List.setIfInBounds_toArray, List.set_cons_zero, List.set_cons_succ]
        refine wpAnyH_take (i := 9) (v := .int .i64 E) rfl (by kernel_rfl) (by kernel_rfl) (by kernel_rfl) (fun _ _ _ h => h) (Or.inl ⟨by rfl, fun w' hSw => by go_simp⟩) hHeld ?_
        try simp only [Act.put, List.getElem_toArray, List.getElem_cons_succ, List.getElem_cons_zero, List.setIfInBounds_toArray, List.set_cons_zero, List.set_cons_succ]
        refine wpAnyH_ready (rs := [10]) (by kernel_rfl) (by simp) (AllReadyH.cons rfl (fun K1 hK1 => ?_) AllReadyH.nil)
        try simp only [Act.put, List.getElem_toArray, List.getElem_cons_succ, List.getElem_cons_zero, List.setIfInBounds_toArray, List.set_cons_zero, List.set_cons_succ]
        go_simp
        have hal := (Below.refl w3.heap.size w3).alloc (Nat.le_refl _) (.cells (bRow Tx.zero) 42)
        have rA := Row.new w3 42 (bRow Tx.zero).toList
        rw [Array.toArray_toList] at rA
        have hgA : w.heap.size ≤ w3.heap.size := HP.1.size
        obtain ⟨g2, hg⟩ : ∃ x, x = w3.heap.size := ⟨_, rfl⟩
        replace HP := HP.below hal
        replace HQ := HQ.below hal
        have hHeld2 : RfIn2 b0 C (w3.alloc (.cells (bRow Tx.zero) 42)) := RfIn2.below hHeld hal
        rw [← hg] at rA hgA ⊢
        clear hal hg hHeld
        generalize w3.alloc (.cells (bRow Tx.zero) 42) = wa at *
        refine hK1.out _ _ hHeld2 (fun hHeld => ?_)
        clear hHeld2
        clear hK1 K1
        try simp only [Act.put, List.getElem_toArray, List.getElem_cons_succ, List.getElem_cons_zero, List.setIfInBounds_toArray, List.set_cons_zero, List.set_cons_succ]
        refine wpAnyH_ready (rs := [11]) (by kernel_rfl) (by simp) (AllReadyH.cons rfl (fun K1 hK1 => ?_) AllReadyH.nil)
        try simp only [Act.put, List.getElem_toArray, List.getElem_cons_succ, List.getElem_cons_zero, List.setIfInBounds_toArray, List.set_cons_zero, List.set_cons_succ]
        rw [if_pos (by rfl)]
        refine wp_store_at 42 (.tmp 7) (.tmp 22) rfl g2 0 (bRow K).toList (bRow Tx.zero).toList _ rfl rfl rA (by have := HZ32.out; have := HK32.out; omega) (by rw [hash_info, HK32.out]) HK1.out ?_
        intro w9 hr9 hg9
        rw [splice_all (HK32.out.trans HZ32.out.symm)] at hr9
        have hI9 : RfIn2 b0 C w9 := Row.kept hHeld hg9 (row_diff hHeld rA (by decide))
        have HSP9 := Lib.hid (HP.put rA hgA hg9)
        have HSQ9 := Lib.hid (HQ.put rA hgA hg9)
        have HI9 := Lib.hid hI9
        have HRA9 := Lib.hid hr9
        refine hK1.out _ _ hI9 (fun hHeld => ?_)
        clear hK1 K1
        try simp only [Act.put, List.getElem_toArray, List.getElem_cons_succ, List.getElem_cons_zero, List.setIfInBounds_toArray, List.set_cons_zero, List.set_cons_succ]
        refine wpAnyH_take (i := 12) (v := .int .i64 E) rfl (by kernel_rfl) (by kernel_rfl) (by kernel_rfl) (fun _ _ _ h => h) (Or.inl ⟨by rfl, fun w' hSw => by go_simp⟩) hHeld ?_
        try simp only [Act.put, List.getElem_toArray, List.getElem_cons_succ, List.getElem_cons_zero, List.setIfInBounds_toArray, List.set_cons_zero, List.set_cons_succ]
        refine wpAnyH_done (by kernel_rfl) ?_ _
        clear hHeld hI9 hr9 hg9 HP HQ rA
        go_wp2_with fail
        obtain ⟨HSP, HSQ, HI, HRB⟩ : Hid (StAt w w9 P dp de (Tr.mineL L yi sl)) ∧ Hid (RStAt w w9 Q dp de L) ∧ Hid (RfIn2 b0 C w9) ∧ Hid (Row w9 g2 42 (bRow K).toList) := ⟨HSP9, HSQ9, HI9, HRA9⟩
        clear HSP9 HSQ9 HI9 HRA9 hgA
        obtain ⟨wc, hwc⟩ : ∃ x, x = w9 := ⟨_, rfl⟩
        rw [← hwc] at HSP HSQ HI HRB ⊢
        clear hwc
        refine wp_region_held_drew (S := fun w' => RfIn2 b0 C w') (by kernel_rfl) (HI.out.below ((Below.refl _ _).drew)) (fun hHeld => ?_)
        have HP := HSP.out.below ((Below.refl wc.heap.size wc).drew)
        have HQ := HSQ.out.below ((Below.refl wc.heap.size wc).drew)
        have rB := HRB.out.below ((Below.refl wc.heap.size wc).drew)
        generalize wc.drew = wq at *
        refine wpAnyH_take (i := 0) (v := .pointer (some ⟨Q, 0, none⟩)) rfl (by kernel_rfl) (by kernel_rfl) (by kernel_rfl) (fun _ _ _ h => h) (Or.inl ⟨by rfl, fun w' hSw => by go_simp⟩) hHeld ?_
        try simp only [Act.put, List.getElem_toArray, List.getElem_cons_succ, List.getElem_cons_zero, List.setIfInBounds_toArray, List.set_cons_zero, List.set_cons_succ]
        refine wpAnyH_take (i := 1) (v := .pointer (some ⟨b0, 3, none⟩)) rfl (by kernel_rfl) (by kernel_rfl) (by kernel_rfl) (fun _ _ _ h => h) (Or.inl ⟨by rfl, fun w' hSw => by go_simp⟩) hHeld ?_
        try simp only [Act.put, List.getElem_toArray, List.getElem_cons_succ, List.getElem_cons_zero, List.setIfInBounds_toArray, List.set_cons_zero, List.set_cons_succ]
        refine wpAnyH_take (i := 2) (v := .slice Ax mx cx) rfl (by kernel_rfl) (by kernel_rfl) (by kernel_rfl) (fun _ _ _ h => h) (Or.inl ⟨by rfl, fun w' hSw => by have hq := hSw; have hd := (HCb.out _ hq).2.2; go_simp⟩) hHeld ?_
        try simp only [Act.put, List.getElem_toArray, List.getElem_cons_succ, List.getElem_cons_zero, List.setIfInBounds_toArray, List.set_cons_zero, List.set_cons_succ]
        refine wpAnyH_take (i := 4) (v := .pointer (some ⟨b0, 2, none⟩)) rfl (by kernel_rfl) (by kernel_rfl) (by kernel_rfl) (fun _ _ _ h => h) (Or.inl ⟨by rfl, fun w' hSw => by go_simp⟩) hHeld ?_
        try simp only [Act.put, List.getElem_toArray, List.getElem_cons_succ, List.getElem_cons_zero, List.setIfInBounds_toArray, List.set_cons_zero, List.set_cons_succ]
        refine wpAnyH_take (i := 5) (v := .int .i64 sl) rfl (by kernel_rfl) (by kernel_rfl) (by kernel_rfl) (fun _ _ _ h => h) (Or.inl ⟨by rfl, fun w' hSw => by have hq := hSw; have hd := (HCb.out _ hq).2.1; go_simp⟩) hHeld ?_
        try simp only [Act.put, List.getElem_toArray, List.getElem_cons_succ, List.getElem_cons_zero, List.setIfInBounds_toArray, List.set_cons_zero, List.set_cons_succ]
        refine wpAnyH_ready (rs := [3, 10]) (by kernel_rfl) (by simp) (AllReadyH.cons rfl (fun K1 hK1 => ?_) (AllReadyH.cons rfl (fun K1 hK1 => ?_) AllReadyH.nil))
        · skip
          try simp only [Act.put, List.getElem_toArray, List.getElem_cons_succ, List.getElem_cons_zero, List.setIfInBounds_toArray, List.set_cons_zero, List.set_cons_succ]
          go_simp
          refine Calls.mono (HF1.out _ HP.1) ?_
          rintro e w2 ⟨rfl, rfl⟩
          refine hK1.out _ _ hHeld (fun hHeld => ?_)
          clear hK1 K1
          try simp only [Act.put, List.getElem_toArray, List.getElem_cons_succ, List.getElem_cons_zero, List.setIfInBounds_toArray, List.set_cons_zero, List.set_cons_succ]
          refine wpAnyH_ready (rs := [6, 10]) (by kernel_rfl) (by simp) (AllReadyH.cons rfl (fun K1 hK1 => ?_) (AllReadyH.cons rfl (fun K1 hK1 => ?_) AllReadyH.nil))
          · skip
            try simp only [Act.put, List.getElem_toArray, List.getElem_cons_succ, List.getElem_cons_zero, List.setIfInBounds_toArray, List.set_cons_zero, List.set_cons_succ]
            go_simp
            refine Calls.mono (HM2.out _ HQ) ?_
            rintro e w3 ⟨rfl, hst, hkp⟩
            replace HP := HP.keepR hkp hst.1
            replace HQ := hst
            replace hHeld : RfIn2 b0 C w3 := hkp.row hHeld (by decide)
            replace rB := hkp.row rB (by decide)
            clear hst hkp
            refine hK1.out _ _ hHeld (fun hHeld => ?_)
            clear hK1 K1
            try simp only [Act.put, List.getElem_toArray, List.getElem_cons_succ, List.getElem_cons_zero, List.setIfInBounds_toArray, List.set_cons_zero, List.set_cons_succ]
            refine wpAnyH_take (i := 7) (v := .tuple #[.agg (bRow K), .int .i64 E]) rfl (by kernel_rfl) (by kernel_rfl) (by kernel_rfl) (fun _ _ _ h => h) (Or.inl ⟨by rfl, fun w' hSw => by go_simp⟩) hHeld ?_
            try simp only [Act.put, List.getElem_toArray, List.getElem_cons_succ, List.getElem_cons_zero, List.setIfInBounds_toArray, List.set_cons_zero, List.set_cons_succ]
            refine wpAnyH_take (i := 8) (v := .agg (bRow K)) rfl (by kernel_rfl) (by kernel_rfl) (by kernel_rfl) (fun _ _ _ h => h) (Or.inl ⟨by rfl, fun w' hSw => by go_simp⟩) hHeld ?_
            try simp only [Act.put, List.getElem_toArray, List.getElem_cons_succ, List.getElem_cons_zero, List.setIfInBounds_toArray, List.set_cons_zero, List.set_cons_succ]
            refine wpAnyH_take (i := 9) (v := .int .i64 E) rfl (by kernel_rfl) (by kernel_rfl) (by kernel_rfl) (fun _ _ _ h => h) (Or.inl ⟨by rfl, fun w' hSw => by go_simp⟩) hHeld ?_
            try simp only [Act.put, List.getElem_toArray, List.getElem_cons_succ, List.getElem_cons_zero, List.setIfInBounds_toArray, List.set_cons_zero, List.set_cons_succ]
            refine wpAnyH_ready (rs := [10]) (by kernel_rfl) (by simp) (AllReadyH.cons rfl (fun K1 hK1 => ?_) AllReadyH.nil)
            try simp only [Act.put, List.getElem_toArray, List.getElem_cons_succ, List.getElem_cons_zero, List.setIfInBounds_toArray, List.set_cons_zero, List.set_cons_succ]
            go_simp
            have hal := (Below.refl w3.heap.size w3).alloc (Nat.le_refl _) (.cells (bRow Tx.zero) 42)
            have rA := Row.new w3 42 (bRow Tx.zero).toList
            rw [Array.toArray_toList] at rA
            have hgA : w.heap.size ≤ w3.heap.size := HP.1.size
            have hlt2 := rB.lt
            obtain ⟨g3, hg⟩ : ∃ x, x = w3.heap.size := ⟨_, rfl⟩
            replace HP := HP.below hal
            replace HQ := HQ.below hal
            have hHeld2 : RfIn2 b0 C (w3.alloc (.cells (bRow Tx.zero) 42)) := RfIn2.below hHeld hal
            replace rB := rB.below hal
            rw [← hg] at rA hgA hlt2 ⊢
            clear hal hg hHeld
            generalize w3.alloc (.cells (bRow Tx.zero) 42) = wa at *
            refine hK1.out _ _ hHeld2 (fun hHeld => ?_)
            clear hHeld2
            clear hK1 K1
            try simp only [Act.put, List.getElem_toArray, List.getElem_cons_succ, List.getElem_cons_zero, List.setIfInBounds_toArray, List.set_cons_zero, List.set_cons_succ]
            refine wpAnyH_ready (rs := [11]) (by kernel_rfl) (by simp) (AllReadyH.cons rfl (fun K1 hK1 => ?_) AllReadyH.nil)
            try simp only [Act.put, List.getElem_toArray, List.getElem_cons_succ, List.getElem_cons_zero, List.setIfInBounds_toArray, List.set_cons_zero, List.set_cons_succ]
            rw [if_pos (by rfl)]
            refine wp_store_at 42 (.tmp 9) (.tmp 32) rfl g3 0 (bRow K).toList (bRow Tx.zero).toList _ rfl rfl rA (by have := HZ32.out; have := HK32.out; omega) (by rw [hash_info, HK32.out]) HK1.out ?_
            intro w9 hr9 hg9
            rw [splice_all (HK32.out.trans HZ32.out.symm)] at hr9
            have hI9 : RfIn2 b0 C w9 := Row.kept hHeld hg9 (row_diff hHeld rA (by decide))
            have HSP9 := Lib.hid (HP.put rA hgA hg9)
            have HSQ9 := Lib.hid (HQ.put rA hgA hg9)
            have HRB9 := Lib.hid (rB.kept hg9 (fun e => by cases e; omega))
            have HI9 := Lib.hid hI9
            have HRA9 := Lib.hid hr9
            refine hK1.out _ _ hI9 (fun hHeld => ?_)
            clear hK1 K1
            try simp only [Act.put, List.getElem_toArray, List.getElem_cons_succ, List.getElem_cons_zero, List.setIfInBounds_toArray, List.set_cons_zero, List.set_cons_succ]
            refine wpAnyH_take (i := 12) (v := .int .i64 E) rfl (by kernel_rfl) (by kernel_rfl) (by kernel_rfl) (fun _ _ _ h => h) (Or.inl ⟨by rfl, fun w' hSw => by go_simp⟩) hHeld ?_
            try simp only [Act.put, List.getElem_toArray, List.getElem_cons_succ, List.getElem_cons_zero, List.setIfInBounds_toArray, List.set_cons_zero, List.set_cons_succ]
            refine wpAnyH_done (by kernel_rfl) ?_ _
            clear hHeld hI9 hr9 hg9 HP HQ rA rB
            go_wp2_with (first
            | ((with_reducible show wpList _ _ _ (⟨_, .load 42 (.tmp 7), _, _, _, _⟩ :: _) _ _); refine wpList_load_tx rfl 42 (.tmp 7) rfl g2 0 rfl (bRow K).toList _ (row_range HRB9.out) Tryd.underlying42 rfl (by rw [hash_info, HK32.out]) ?_)
            | ((with_reducible show wpList _ _ _ (⟨_, .load 42 (.tmp 9), _, _, _, _⟩ :: _) _ _); refine wpList_load_tx rfl 42 (.tmp 9) rfl g3 0 rfl (bRow K).toList _ (row_range HRA9.out) Tryd.underlying42 rfl (by rw [hash_info, HK32.out]) ?_))
            go_ret
            exact ⟨rfl, _, _, HSP9.out, HSQ9.out⟩
          · skip
            try simp only [Act.put, List.getElem_toArray, List.getElem_cons_succ, List.getElem_cons_zero, List.setIfInBounds_toArray, List.set_cons_zero, List.set_cons_succ]
            go_simp
            have hal := (Below.refl wq.heap.size wq).alloc (Nat.le_refl _) (.cells (bRow Tx.zero) 42)
            have rA := Row.new wq 42 (bRow Tx.zero).toList
            rw [Array.toArray_toList] at rA
            have hgA : w.heap.size ≤ wq.heap.size := HP.1.size
            have hlt2 := rB.lt
            obtain ⟨g3, hg⟩ : ∃ x, x = wq.heap.size := ⟨_, rfl⟩
            replace HP := HP.below hal
            replace HQ := HQ.below hal
            have hHeld2 : RfIn2 b0 C (wq.alloc (.cells (bRow Tx.zero) 42)) := RfIn2.below hHeld hal
            replace rB := rB.below hal
            rw [← hg] at rA hgA hlt2 ⊢
            clear hal hg hHeld
            generalize wq.alloc (.cells (bRow Tx.zero) 42) = wa at *
            refine hK1.out _ _ hHeld2 (fun hHeld => ?_)
            clear hHeld2
            clear hK1 K1
            try simp only [Act.put, List.getElem_toArray, List.getElem_cons_succ, List.getElem_cons_zero, List.setIfInBounds_toArray, List.set_cons_zero, List.set_cons_succ]
            refine wpAnyH_ready (rs := [6]) (by kernel_rfl) (by simp) (AllReadyH.cons rfl (fun K1 hK1 => ?_) AllReadyH.nil)
            try simp only [Act.put, List.getElem_toArray, List.getElem_cons_succ, List.getElem_cons_zero, List.setIfInBounds_toArray, List.set_cons_zero, List.set_cons_succ]
            go_simp
            refine Calls.mono (HM2.out _ HQ) ?_
            rintro e w3 ⟨rfl, hst, hkp⟩
            replace HP := HP.keepR hkp hst.1
            replace HQ := hst
            replace hHeld : RfIn2 b0 C w3 := hkp.row hHeld (by decide)
            replace rB := hkp.row rB (by decide)
            replace rA := hkp.row rA (by decide)
            clear hst hkp
            refine hK1.out _ _ hHeld (fun hHeld => ?_)
            clear hK1 K1
            try simp only [Act.put, List.getElem_toArray, List.getElem_cons_succ, List.getElem_cons_zero, List.setIfInBounds_toArray, List.set_cons_zero, List.set_cons_succ]
            refine wpAnyH_take (i := 7) (v := .tuple #[.agg (bRow K), .int .i64 E]) rfl (by kernel_rfl) (by kernel_rfl) (by kernel_rfl) (fun _ _ _ h => h) (Or.inl ⟨by rfl, fun w' hSw => by go_simp⟩) hHeld ?_
            try simp only [Act.put, List.getElem_toArray, List.getElem_cons_succ, List.getElem_cons_zero, List.setIfInBounds_toArray, List.set_cons_zero, List.set_cons_succ]
            refine wpAnyH_take (i := 8) (v := .agg (bRow K)) rfl (by kernel_rfl) (by kernel_rfl) (by kernel_rfl) (fun _ _ _ h => h) (Or.inl ⟨by rfl, fun w' hSw => by go_simp⟩) hHeld ?_
            try simp only [Act.put, List.getElem_toArray, List.getElem_cons_succ, List.getElem_cons_zero, List.setIfInBounds_toArray, List.set_cons_zero, List.set_cons_succ]
            refine wpAnyH_take (i := 9) (v := .int .i64 E) rfl (by kernel_rfl) (by kernel_rfl) (by kernel_rfl) (fun _ _ _ h => h) (Or.inl ⟨by rfl, fun w' hSw => by go_simp⟩) hHeld ?_
            try simp only [Act.put, List.getElem_toArray, List.getElem_cons_succ, List.getElem_cons_zero, List.setIfInBounds_toArray, List.set_cons_zero, List.set_cons_succ]
            refine wpAnyH_ready (rs := [11]) (by kernel_rfl) (by simp) (AllReadyH.cons rfl (fun K1 hK1 => ?_) AllReadyH.nil)
            try simp only [Act.put, List.getElem_toArray, List.getElem_cons_succ, List.getElem_cons_zero, List.setIfInBounds_toArray, List.set_cons_zero, List.set_cons_succ]
            rw [if_pos (by rfl)]
            refine wp_store_at 42 (.tmp 9) (.tmp 32) rfl g3 0 (bRow K).toList (bRow Tx.zero).toList _ rfl rfl rA (by have := HZ32.out; have := HK32.out; omega) (by rw [hash_info, HK32.out]) HK1.out ?_
            intro w9 hr9 hg9
            rw [splice_all (HK32.out.trans HZ32.out.symm)] at hr9
            have hI9 : RfIn2 b0 C w9 := Row.kept hHeld hg9 (row_diff hHeld rA (by decide))
            have HSP9 := Lib.hid (HP.put rA hgA hg9)
            have HSQ9 := Lib.hid (HQ.put rA hgA hg9)
            have HRB9 := Lib.hid (rB.kept hg9 (fun e => by cases e; omega))
            have HI9 := Lib.hid hI9
            have HRA9 := Lib.hid hr9
            refine hK1.out _ _ hI9 (fun hHeld => ?_)
            clear hK1 K1
            try simp only [Act.put, List.getElem_toArray, List.getElem_cons_succ, List.getElem_cons_zero, List.setIfInBounds_toArray, List.set_cons_zero, List.set_cons_succ]
            refine wpAnyH_take (i := 12) (v := .int .i64 E) rfl (by kernel_rfl) (by kernel_rfl) (by kernel_rfl) (fun _ _ _ h => h) (Or.inl ⟨by rfl, fun w' hSw => by go_simp⟩) hHeld ?_
            try simp only [Act.put, List.getElem_toArray, List.getElem_cons_succ, List.getElem_cons_zero, List.setIfInBounds_toArray, List.set_cons_zero, List.set_cons_succ]
            refine wpAnyH_done (by kernel_rfl) ?_ _
            clear hHeld hI9 hr9 hg9 HP HQ rA rB
            go_wp2_with (first
            | ((with_reducible show wpList _ _ _ (⟨_, .load 42 (.tmp 7), _, _, _, _⟩ :: _) _ _); refine wpList_load_tx rfl 42 (.tmp 7) rfl g2 0 rfl (bRow K).toList _ (row_range HRB9.out) Tryd.underlying42 rfl (by rw [hash_info, HK32.out]) ?_)
            | ((with_reducible show wpList _ _ _ (⟨_, .load 42 (.tmp 9), _, _, _, _⟩ :: _) _ _); refine wpList_load_tx rfl 42 (.tmp 9) rfl g3 0 rfl (bRow K).toList _ (row_range HRA9.out) Tryd.underlying42 rfl (by rw [hash_info, HK32.out]) ?_))
            go_ret
            exact ⟨rfl, _, _, HSP9.out, HSQ9.out⟩
        · skip
          try simp only [Act.put, List.getElem_toArray, List.getElem_cons_succ, List.getElem_cons_zero, List.setIfInBounds_toArray, List.set_cons_zero, List.set_cons_succ]
          go_simp
          have hal := (Below.refl wq.heap.size wq).alloc (Nat.le_refl _) (.cells (bRow Tx.zero) 42)
          have rA := Row.new wq 42 (bRow Tx.zero).toList
          rw [Array.toArray_toList] at rA
          have hgA : w.heap.size ≤ wq.heap.size := HP.1.size
          have hlt2 := rB.lt
          obtain ⟨g3, hg⟩ : ∃ x, x = wq.heap.size := ⟨_, rfl⟩
          replace HP := HP.below hal
          replace HQ := HQ.below hal
          have hHeld2 : RfIn2 b0 C (wq.alloc (.cells (bRow Tx.zero) 42)) := RfIn2.below hHeld hal
          replace rB := rB.below hal
          rw [← hg] at rA hgA hlt2 ⊢
          clear hal hg hHeld
          generalize wq.alloc (.cells (bRow Tx.zero) 42) = wa at *
          refine hK1.out _ _ hHeld2 (fun hHeld => ?_)
          clear hHeld2
          clear hK1 K1
          try simp only [Act.put, List.getElem_toArray, List.getElem_cons_succ, List.getElem_cons_zero, List.setIfInBounds_toArray, List.set_cons_zero, List.set_cons_succ]
          refine wpAnyH_ready (rs := [3]) (by kernel_rfl) (by simp) (AllReadyH.cons rfl (fun K1 hK1 => ?_) AllReadyH.nil)
          try simp only [Act.put, List.getElem_toArray, List.getElem_cons_succ, List.getElem_cons_zero, List.setIfInBounds_toArray, List.set_cons_zero, List.set_cons_succ]
          go_simp
          refine Calls.mono (HF1.out _ HP.1) ?_
          rintro e w2 ⟨rfl, rfl⟩
          refine hK1.out _ _ hHeld (fun hHeld => ?_)
          clear hK1 K1
          try simp only [Act.put, List.getElem_toArray, List.getElem_cons_succ, List.getElem_cons_zero, List.setIfInBounds_toArray, List.set_cons_zero, List.set_cons_succ]
          refine wpAnyH_ready (rs := [6]) (by kernel_rfl) (by simp) (AllReadyH.cons rfl (fun K1 hK1 => ?_) AllReadyH.nil)
          try simp only [Act.put, List.getElem_toArray, List.getElem_cons_succ, List.getElem_cons_zero, List.setIfInBounds_toArray, List.set_cons_zero, List.set_cons_succ]
          go_simp
          refine Calls.mono (HM2.out _ HQ) ?_
          rintro e w3 ⟨rfl, hst, hkp⟩
          replace HP := HP.keepR hkp hst.1
          replace HQ := hst
          replace hHeld : RfIn2 b0 C w3 := hkp.row hHeld (by decide)
          replace rB := hkp.row rB (by decide)
          replace rA := hkp.row rA (by decide)
          clear hst hkp
          refine hK1.out _ _ hHeld (fun hHeld => ?_)
          clear hK1 K1
          try simp only [Act.put, List.getElem_toArray, List.getElem_cons_succ, List.getElem_cons_zero, List.setIfInBounds_toArray, List.set_cons_zero, List.set_cons_succ]
          refine wpAnyH_take (i := 7) (v := .tuple #[.agg (bRow K), .int .i64 E]) rfl (by kernel_rfl) (by kernel_rfl) (by kernel_rfl) (fun _ _ _ h => h) (Or.inl ⟨by rfl, fun w' hSw => by go_simp⟩) hHeld ?_
          try simp only [Act.put, List.getElem_toArray, List.getElem_cons_succ, List.getElem_cons_zero, List.setIfInBounds_toArray, List.set_cons_zero, List.set_cons_succ]
          refine wpAnyH_take (i := 8) (v := .agg (bRow K)) rfl (by kernel_rfl) (by kernel_rfl) (by kernel_rfl) (fun _ _ _ h => h) (Or.inl ⟨by rfl, fun w' hSw => by go_simp⟩) hHeld ?_
          try simp only [Act.put, List.getElem_toArray, List.getElem_cons_succ, List.getElem_cons_zero, List.setIfInBounds_toArray, List.set_cons_zero, List.set_cons_succ]
          refine wpAnyH_take (i := 9) (v := .int .i64 E) rfl (by kernel_rfl) (by kernel_rfl) (by kernel_rfl) (fun _ _ _ h => h) (Or.inl ⟨by rfl, fun w' hSw => by go_simp⟩) hHeld ?_
          try simp only [Act.put, List.getElem_toArray, List.getElem_cons_succ, List.getElem_cons_zero, List.setIfInBounds_toArray, List.set_cons_zero, List.set_cons_succ]
          refine wpAnyH_ready (rs := [11]) (by kernel_rfl) (by simp) (AllReadyH.cons rfl (fun K1 hK1 => ?_) AllReadyH.nil)
          try simp only [Act.put, List.getElem_toArray, List.getElem_cons_succ, List.getElem_cons_zero, List.setIfInBounds_toArray, List.set_cons_zero, List.set_cons_succ]
          rw [if_pos (by rfl)]
          refine wp_store_at 42 (.tmp 9) (.tmp 32) rfl g3 0 (bRow K).toList (bRow Tx.zero).toList _ rfl rfl rA (by have := HZ32.out; have := HK32.out; omega) (by rw [hash_info, HK32.out]) HK1.out ?_
          intro w9 hr9 hg9
          rw [splice_all (HK32.out.trans HZ32.out.symm)] at hr9
          have hI9 : RfIn2 b0 C w9 := Row.kept hHeld hg9 (row_diff hHeld rA (by decide))
          have HSP9 := Lib.hid (HP.put rA hgA hg9)
          have HSQ9 := Lib.hid (HQ.put rA hgA hg9)
          have HRB9 := Lib.hid (rB.kept hg9 (fun e => by cases e; omega))
          have HI9 := Lib.hid hI9
          have HRA9 := Lib.hid hr9
          refine hK1.out _ _ hI9 (fun hHeld => ?_)
          clear hK1 K1
          try simp only [Act.put, List.getElem_toArray, List.getElem_cons_succ, List.getElem_cons_zero, List.setIfInBounds_toArray, List.set_cons_zero, List.set_cons_succ]
          refine wpAnyH_take (i := 12) (v := .int .i64 E) rfl (by kernel_rfl) (by kernel_rfl) (by kernel_rfl) (fun _ _ _ h => h) (Or.inl ⟨by rfl, fun w' hSw => by go_simp⟩) hHeld ?_
          try simp only [Act.put, List.getElem_toArray, List.getElem_cons_succ, List.getElem_cons_zero, List.setIfInBounds_toArray, List.set_cons_zero, List.set_cons_succ]
          refine wpAnyH_done (by kernel_rfl) ?_ _
          clear hHeld hI9 hr9 hg9 HP HQ rA rB
          go_wp2_with (first
          | ((with_reducible show wpList _ _ _ (⟨_, .load 42 (.tmp 7), _, _, _, _⟩ :: _) _ _); refine wpList_load_tx rfl 42 (.tmp 7) rfl g2 0 rfl (bRow K).toList _ (row_range HRB9.out) Tryd.underlying42 rfl (by rw [hash_info, HK32.out]) ?_)
          | ((with_reducible show wpList _ _ _ (⟨_, .load 42 (.tmp 9), _, _, _, _⟩ :: _) _ _); refine wpList_load_tx rfl 42 (.tmp 9) rfl g3 0 rfl (bRow K).toList _ (row_range HRA9.out) Tryd.underlying42 rfl (by rw [hash_info, HK32.out]) ?_))
          go_ret
          exact ⟨rfl, _, _, HSP9.out, HSQ9.out⟩
      · skip
        try simp only [Act.put, List.getElem_toArray, List.getElem_cons_succ, List.getElem_cons_zero, List.setIfInBounds_toArray, List.set_cons_zero, List.set_cons_succ]
        go_simp
        have hal := (Below.refl wq.heap.size wq).alloc (Nat.le_refl _) (.cells (bRow Tx.zero) 42)
        have rA := Row.new wq 42 (bRow Tx.zero).toList
        rw [Array.toArray_toList] at rA
        have hgA : w.heap.size ≤ wq.heap.size := HP.1.size
        obtain ⟨g2, hg⟩ : ∃ x, x = wq.heap.size := ⟨_, rfl⟩
        replace HP := HP.below hal
        replace HQ := HQ.below hal
        have hHeld2 : RfIn2 b0 C (wq.alloc (.cells (bRow Tx.zero) 42)) := RfIn2.below hHeld hal
        rw [← hg] at rA hgA ⊢
        clear hal hg hHeld
        generalize wq.alloc (.cells (bRow Tx.zero) 42) = wa at *
        refine hK1.out _ _ hHeld2 (fun hHeld => ?_)
        clear hHeld2
        clear hK1 K1
        try simp only [Act.put, List.getElem_toArray, List.getElem_cons_succ, List.getElem_cons_zero, List.setIfInBounds_toArray, List.set_cons_zero, List.set_cons_succ]
        refine wpAnyH_ready (rs := [6]) (by kernel_rfl) (by simp) (AllReadyH.cons rfl (fun K1 hK1 => ?_) AllReadyH.nil)
        try simp only [Act.put, List.getElem_toArray, List.getElem_cons_succ, List.getElem_cons_zero, List.setIfInBounds_toArray, List.set_cons_zero, List.set_cons_succ]
        go_simp
        refine Calls.mono (HM.out _ HP) ?_
        rintro e w3 ⟨rfl, hst, hkp⟩
        replace HQ := HQ.keep hkp hst.1
        replace HP := hst
        replace hHeld : RfIn2 b0 C w3 := hkp.row hHeld (by decide) (by decide)
        replace rA := hkp.row rA (by decide) (by decide)
        clear hst hkp
        refine hK1.out _ _ hHeld (fun hHeld => ?_)
        clear hK1 K1
        try simp only [Act.put, List.getElem_toArray, List.getElem_cons_succ, List.getElem_cons_zero, List.setIfInBounds_toArray, List.set_cons_zero, List.set_cons_succ]
        refine wpAnyH_take (i := 7) (v := .tuple #[.agg (bRow K), .int .i64 E]) rfl (by kernel_rfl) (by kernel_rfl) (by kernel_rfl) (fun _ _ _ h => h) (Or.inl ⟨by rfl, fun w' hSw => by go_simp⟩) hHeld ?_
        try simp only [Act.put, List.getElem_toArray, List.getElem_cons_succ, List.getElem_cons_zero, List.setIfInBounds_toArray, List.set_cons_zero, List.set_cons_succ]
        refine wpAnyH_take (i := 8) (v := .agg (bRow K)) rfl (by kernel_rfl) (by kernel_rfl) (by kernel_rfl) (fun _ _ _ h => h) (Or.inl ⟨by rfl, fun w' hSw => by go_simp⟩) hHeld ?_
        try simp only [Act.put, List.getElem_toArray, List.getElem_cons_succ, List.getElem_cons_zero, List.setIfInBounds_toArray, List.set_cons_zero, List.set_cons_succ]
        refine wpAnyH_take (i := 9) (v := .int .i64 E) rfl (by kernel_rfl) (by kernel_rfl) (by kernel_rfl) (fun _ _ _ h => h) (Or.inl ⟨by rfl, fun w' hSw => by go_simp⟩) hHeld ?_
        try simp only [Act.put, List.getElem_toArray, List.getElem_cons_succ, List.getElem_cons_zero, List.setIfInBounds_toArray, List.set_cons_zero, List.set_cons_succ]
        refine wpAnyH_ready (rs := [11]) (by kernel_rfl) (by simp) (AllReadyH.cons rfl (fun K1 hK1 => ?_) AllReadyH.nil)
        try simp only [Act.put, List.getElem_toArray, List.getElem_cons_succ, List.getElem_cons_zero, List.setIfInBounds_toArray, List.set_cons_zero, List.set_cons_succ]
        rw [if_pos (by rfl)]
        refine wp_store_at 42 (.tmp 7) (.tmp 22) rfl g2 0 (bRow K).toList (bRow Tx.zero).toList _ rfl rfl rA (by have := HZ32.out; have := HK32.out; omega) (by rw [hash_info, HK32.out]) HK1.out ?_
        intro w9 hr9 hg9
        rw [splice_all (HK32.out.trans HZ32.out.symm)] at hr9
        have hI9 : RfIn2 b0 C w9 := Row.kept hHeld hg9 (row_diff hHeld rA (by decide))
        have HSP9 := Lib.hid (HP.put rA hgA hg9)
        have HSQ9 := Lib.hid (HQ.put rA hgA hg9)
        have HI9 := Lib.hid hI9
        have HRA9 := Lib.hid hr9
        refine hK1.out _ _ hI9 (fun hHeld => ?_)
        clear hK1 K1
        try simp only [Act.put, List.getElem_toArray, List.getElem_cons_succ, List.getElem_cons_zero, List.setIfInBounds_toArray, List.set_cons_zero, List.set_cons_succ]
        refine wpAnyH_take (i := 12) (v := .int .i64 E) rfl (by kernel_rfl) (by kernel_rfl) (by kernel_rfl) (fun _ _ _ h => h) (Or.inl ⟨by rfl, fun w' hSw => by go_simp⟩) hHeld ?_
        try simp only [Act.put, List.getElem_toArray, List.getElem_cons_succ, List.getElem_cons_zero, List.setIfInBounds_toArray, List.set_cons_zero, List.set_cons_succ]
        refine wpAnyH_done (by kernel_rfl) ?_ _
        clear hHeld hI9 hr9 hg9 HP HQ rA
        go_wp2_with fail
        obtain ⟨HSP, HSQ, HI, HRB⟩ : Hid (StAt w w9 P dp de (Tr.mineL L yi sl)) ∧ Hid (RStAt w w9 Q dp de L) ∧ Hid (RfIn2 b0 C w9) ∧ Hid (Row w9 g2 42 (bRow K).toList) := ⟨HSP9, HSQ9, HI9, HRA9⟩
        clear HSP9 HSQ9 HI9 HRA9 hgA
        obtain ⟨wc, hwc⟩ : ∃ x, x = w9 := ⟨_, rfl⟩
        rw [← hwc] at HSP HSQ HI HRB ⊢
        clear hwc
        refine wp_region_held_drew (S := fun w' => RfIn2 b0 C w') (by kernel_rfl) (HI.out.below ((Below.refl _ _).drew)) (fun hHeld => ?_)
        have HP := HSP.out.below ((Below.refl wc.heap.size wc).drew)
        have HQ := HSQ.out.below ((Below.refl wc.heap.size wc).drew)
        have rB := HRB.out.below ((Below.refl wc.heap.size wc).drew)
        generalize wc.drew = wq at *
        refine wpAnyH_take (i := 0) (v := .pointer (some ⟨Q, 0, none⟩)) rfl (by kernel_rfl) (by kernel_rfl) (by kernel_rfl) (fun _ _ _ h => h) (Or.inl ⟨by rfl, fun w' hSw => by go_simp⟩) hHeld ?_
        try simp only [Act.put, List.getElem_toArray, List.getElem_cons_succ, List.getElem_cons_zero, List.setIfInBounds_toArray, List.set_cons_zero, List.set_cons_succ]
        refine wpAnyH_take (i := 1) (v := .pointer (some ⟨b0, 3, none⟩)) rfl (by kernel_rfl) (by kernel_rfl) (by kernel_rfl) (fun _ _ _ h => h) (Or.inl ⟨by rfl, fun w' hSw => by go_simp⟩) hHeld ?_
        try simp only [Act.put, List.getElem_toArray, List.getElem_cons_succ, List.getElem_cons_zero, List.setIfInBounds_toArray, List.set_cons_zero, List.set_cons_succ]
        refine wpAnyH_take (i := 2) (v := .slice Ax mx cx) rfl (by kernel_rfl) (by kernel_rfl) (by kernel_rfl) (fun _ _ _ h => h) (Or.inl ⟨by rfl, fun w' hSw => by have hq := hSw; have hd := (HCb.out _ hq).2.2; go_simp⟩) hHeld ?_
        try simp only [Act.put, List.getElem_toArray, List.getElem_cons_succ, List.getElem_cons_zero, List.setIfInBounds_toArray, List.set_cons_zero, List.set_cons_succ]
        refine wpAnyH_take (i := 4) (v := .pointer (some ⟨b0, 2, none⟩)) rfl (by kernel_rfl) (by kernel_rfl) (by kernel_rfl) (fun _ _ _ h => h) (Or.inl ⟨by rfl, fun w' hSw => by go_simp⟩) hHeld ?_
        try simp only [Act.put, List.getElem_toArray, List.getElem_cons_succ, List.getElem_cons_zero, List.setIfInBounds_toArray, List.set_cons_zero, List.set_cons_succ]
        refine wpAnyH_take (i := 5) (v := .int .i64 sl) rfl (by kernel_rfl) (by kernel_rfl) (by kernel_rfl) (fun _ _ _ h => h) (Or.inl ⟨by rfl, fun w' hSw => by have hq := hSw; have hd := (HCb.out _ hq).2.1; go_simp⟩) hHeld ?_
        try simp only [Act.put, List.getElem_toArray, List.getElem_cons_succ, List.getElem_cons_zero, List.setIfInBounds_toArray, List.set_cons_zero, List.set_cons_succ]
        refine wpAnyH_ready (rs := [3, 10]) (by kernel_rfl) (by simp) (AllReadyH.cons rfl (fun K1 hK1 => ?_) (AllReadyH.cons rfl (fun K1 hK1 => ?_) AllReadyH.nil))
        · skip
          try simp only [Act.put, List.getElem_toArray, List.getElem_cons_succ, List.getElem_cons_zero, List.setIfInBounds_toArray, List.set_cons_zero, List.set_cons_succ]
          go_simp
          refine Calls.mono (HF1.out _ HP.1) ?_
          rintro e w2 ⟨rfl, rfl⟩
          refine hK1.out _ _ hHeld (fun hHeld => ?_)
          clear hK1 K1
          try simp only [Act.put, List.getElem_toArray, List.getElem_cons_succ, List.getElem_cons_zero, List.setIfInBounds_toArray, List.set_cons_zero, List.set_cons_succ]
          refine wpAnyH_ready (rs := [6, 10]) (by kernel_rfl) (by simp) (AllReadyH.cons rfl (fun K1 hK1 => ?_) (AllReadyH.cons rfl (fun K1 hK1 => ?_) AllReadyH.nil))
          · skip
            try simp only [Act.put, List.getElem_toArray, List.getElem_cons_succ, List.getElem_cons_zero, List.setIfInBounds_toArray, List.set_cons_zero, List.set_cons_succ]
            go_simp
            refine Calls.mono (HM2.out _ HQ) ?_
            rintro e w3 ⟨rfl, hst, hkp⟩
            replace HP := HP.keepR hkp hst.1
            replace HQ := hst
            replace hHeld : RfIn2 b0 C w3 := hkp.row hHeld (by decide)
            replace rB := hkp.row rB (by decide)
            clear hst hkp
            refine hK1.out _ _ hHeld (fun hHeld => ?_)
            clear hK1 K1
            try simp only [Act.put, List.getElem_toArray, List.getElem_cons_succ, List.getElem_cons_zero, List.setIfInBounds_toArray, List.set_cons_zero, List.set_cons_succ]
            refine wpAnyH_take (i := 7) (v := .tuple #[.agg (bRow K), .int .i64 E]) rfl (by kernel_rfl) (by kernel_rfl) (by kernel_rfl) (fun _ _ _ h => h) (Or.inl ⟨by rfl, fun w' hSw => by go_simp⟩) hHeld ?_
            try simp only [Act.put, List.getElem_toArray, List.getElem_cons_succ, List.getElem_cons_zero, List.setIfInBounds_toArray, List.set_cons_zero, List.set_cons_succ]
            refine wpAnyH_take (i := 8) (v := .agg (bRow K)) rfl (by kernel_rfl) (by kernel_rfl) (by kernel_rfl) (fun _ _ _ h => h) (Or.inl ⟨by rfl, fun w' hSw => by go_simp⟩) hHeld ?_
            try simp only [Act.put, List.getElem_toArray, List.getElem_cons_succ, List.getElem_cons_zero, List.setIfInBounds_toArray, List.set_cons_zero, List.set_cons_succ]
            refine wpAnyH_take (i := 9) (v := .int .i64 E) rfl (by kernel_rfl) (by kernel_rfl) (by kernel_rfl) (fun _ _ _ h => h) (Or.inl ⟨by rfl, fun w' hSw => by go_simp⟩) hHeld ?_
            try simp only [Act.put, List.getElem_toArray, List.getElem_cons_succ, List.getElem_cons_zero, List.setIfInBounds_toArray, List.set_cons_zero, List.set_cons_succ]
            refine wpAnyH_ready (rs := [10]) (by kernel_rfl) (by simp) (AllReadyH.cons rfl (fun K1 hK1 => ?_) AllReadyH.nil)
            try simp only [Act.put, List.getElem_toArray, List.getElem_cons_succ, List.getElem_cons_zero, List.setIfInBounds_toArray, List.set_cons_zero, List.set_cons_succ]
            go_simp
            have hal := (Below.refl w3.heap.size w3).alloc (Nat.le_refl _) (.cells (bRow Tx.zero) 42)
            have rA := Row.new w3 42 (bRow Tx.zero).toList
            rw [Array.toArray_toList] at rA
            have hgA : w.heap.size ≤ w3.heap.size := HP.1.size
            have hlt2 := rB.lt
            obtain ⟨g3, hg⟩ : ∃ x, x = w3.heap.size := ⟨_, rfl⟩
            replace HP := HP.below hal
            replace HQ := HQ.below hal
            have hHeld2 : RfIn2 b0 C (w3.alloc (.cells (bRow Tx.zero) 42)) := RfIn2.below hHeld hal
            replace rB := rB.below hal
            rw [← hg] at rA hgA hlt2 ⊢
            clear hal hg hHeld
            generalize w3.alloc (.cells (bRow Tx.zero) 42) = wa at *
            refine hK1.out _ _ hHeld2 (fun hHeld => ?_)
            clear hHeld2
            clear hK1 K1
            try simp only [Act.put, List.getElem_toArray, List.getElem_cons_succ, List.getElem_cons_zero, List.setIfInBounds_toArray, List.set_cons_zero, List.set_cons_succ]
            refine wpAnyH_ready (rs := [11]) (by kernel_rfl) (by simp) (AllReadyH.cons rfl (fun K1 hK1 => ?_) AllReadyH.nil)
            try simp only [Act.put, List.getElem_toArray, List.getElem_cons_succ, List.getElem_cons_zero, List.setIfInBounds_toArray, List.set_cons_zero, List.set_cons_succ]
            rw [if_pos (by rfl)]
            refine wp_store_at 42 (.tmp 9) (.tmp 32) rfl g3 0 (bRow K).toList (bRow Tx.zero).toList _ rfl rfl rA (by have := HZ32.out; have := HK32.out; omega) (by rw [hash_info, HK32.out]) HK1.out ?_
            intro w9 hr9 hg9
            rw [splice_all (HK32.out.trans HZ32.out.symm)] at hr9
            have hI9 : RfIn2 b0 C w9 := Row.kept hHeld hg9 (row_diff hHeld rA (by decide))
            have HSP9 := Lib.hid (HP.put rA hgA hg9)
            have HSQ9 := Lib.hid (HQ.put rA hgA hg9)
            have HRB9 := Lib.hid (rB.kept hg9 (fun e => by cases e; omega))
            have HI9 := Lib.hid hI9
            have HRA9 := Lib.hid hr9
            refine hK1.out _ _ hI9 (fun hHeld => ?_)
            clear hK1 K1
            try simp only [Act.put, List.getElem_toArray, List.getElem_cons_succ, List.getElem_cons_zero, List.setIfInBounds_toArray, List.set_cons_zero, List.set_cons_succ]
            refine wpAnyH_take (i := 12) (v := .int .i64 E) rfl (by kernel_rfl) (by kernel_rfl) (by kernel_rfl) (fun _ _ _ h => h) (Or.inl ⟨by rfl, fun w' hSw => by go_simp⟩) hHeld ?_
            try simp only [Act.put, List.getElem_toArray, List.getElem_cons_succ, List.getElem_cons_zero, List.setIfInBounds_toArray, List.set_cons_zero, List.set_cons_succ]
            refine wpAnyH_done (by kernel_rfl) ?_ _
            clear hHeld hI9 hr9 hg9 HP HQ rA rB
            go_wp2_with (first
            | ((with_reducible show wpList _ _ _ (⟨_, .load 42 (.tmp 7), _, _, _, _⟩ :: _) _ _); refine wpList_load_tx rfl 42 (.tmp 7) rfl g2 0 rfl (bRow K).toList _ (row_range HRB9.out) Tryd.underlying42 rfl (by rw [hash_info, HK32.out]) ?_)
            | ((with_reducible show wpList _ _ _ (⟨_, .load 42 (.tmp 9), _, _, _, _⟩ :: _) _ _); refine wpList_load_tx rfl 42 (.tmp 9) rfl g3 0 rfl (bRow K).toList _ (row_range HRA9.out) Tryd.underlying42 rfl (by rw [hash_info, HK32.out]) ?_))
            go_ret
            exact ⟨rfl, _, _, HSP9.out, HSQ9.out⟩
          · skip
            try simp only [Act.put, List.getElem_toArray, List.getElem_cons_succ, List.getElem_cons_zero, List.setIfInBounds_toArray, List.set_cons_zero, List.set_cons_succ]
            go_simp
            have hal := (Below.refl wq.heap.size wq).alloc (Nat.le_refl _) (.cells (bRow Tx.zero) 42)
            have rA := Row.new wq 42 (bRow Tx.zero).toList
            rw [Array.toArray_toList] at rA
            have hgA : w.heap.size ≤ wq.heap.size := HP.1.size
            have hlt2 := rB.lt
            obtain ⟨g3, hg⟩ : ∃ x, x = wq.heap.size := ⟨_, rfl⟩
            replace HP := HP.below hal
            replace HQ := HQ.below hal
            have hHeld2 : RfIn2 b0 C (wq.alloc (.cells (bRow Tx.zero) 42)) := RfIn2.below hHeld hal
            replace rB := rB.below hal
            rw [← hg] at rA hgA hlt2 ⊢
            clear hal hg hHeld
            generalize wq.alloc (.cells (bRow Tx.zero) 42) = wa at *
            refine hK1.out _ _ hHeld2 (fun hHeld => ?_)
            clear hHeld2
            clear hK1 K1
            try simp only [Act.put, List.getElem_toArray, List.getElem_cons_succ, List.getElem_cons_zero, List.setIfInBounds_toArray, List.set_cons_zero, List.set_cons_succ]
            refine wpAnyH_ready (rs := [6]) (by kernel_rfl) (by simp) (AllReadyH.cons rfl (fun K1 hK1 => ?_) AllReadyH.nil)
            try simp only [Act.put, List.getElem_toArray, List.getElem_cons_succ, List.getElem_cons_zero, List.setIfInBounds_toArray, List.set_cons_zero, List.set_cons_succ]
            go_simp
            refine Calls.mono (HM2.out _ HQ) ?_
            rintro e w3 ⟨rfl, hst, hkp⟩
            replace HP := HP.keepR hkp hst.1
            replace HQ := hst
            replace hHeld : RfIn2 b0 C w3 := hkp.row hHeld (by decide)
            replace rB := hkp.row rB (by decide)
            replace rA := hkp.row rA (by decide)
            clear hst hkp
            refine hK1.out _ _ hHeld (fun hHeld => ?_)
            clear hK1 K1
            try simp only [Act.put, List.getElem_toArray, List.getElem_cons_succ, List.getElem_cons_zero, List.setIfInBounds_toArray, List.set_cons_zero, List.set_cons_succ]
            refine wpAnyH_take (i := 7) (v := .tuple #[.agg (bRow K), .int .i64 E]) rfl (by kernel_rfl) (by kernel_rfl) (by kernel_rfl) (fun _ _ _ h => h) (Or.inl ⟨by rfl, fun w' hSw => by go_simp⟩) hHeld ?_
            try simp only [Act.put, List.getElem_toArray, List.getElem_cons_succ, List.getElem_cons_zero, List.setIfInBounds_toArray, List.set_cons_zero, List.set_cons_succ]
            refine wpAnyH_take (i := 8) (v := .agg (bRow K)) rfl (by kernel_rfl) (by kernel_rfl) (by kernel_rfl) (fun _ _ _ h => h) (Or.inl ⟨by rfl, fun w' hSw => by go_simp⟩) hHeld ?_
            try simp only [Act.put, List.getElem_toArray, List.getElem_cons_succ, List.getElem_cons_zero, List.setIfInBounds_toArray, List.set_cons_zero, List.set_cons_succ]
            refine wpAnyH_take (i := 9) (v := .int .i64 E) rfl (by kernel_rfl) (by kernel_rfl) (by kernel_rfl) (fun _ _ _ h => h) (Or.inl ⟨by rfl, fun w' hSw => by go_simp⟩) hHeld ?_
            try simp only [Act.put, List.getElem_toArray, List.getElem_cons_succ, List.getElem_cons_zero, List.setIfInBounds_toArray, List.set_cons_zero, List.set_cons_succ]
            refine wpAnyH_ready (rs := [11]) (by kernel_rfl) (by simp) (AllReadyH.cons rfl (fun K1 hK1 => ?_) AllReadyH.nil)
            try simp only [Act.put, List.getElem_toArray, List.getElem_cons_succ, List.getElem_cons_zero, List.setIfInBounds_toArray, List.set_cons_zero, List.set_cons_succ]
            rw [if_pos (by rfl)]
            refine wp_store_at 42 (.tmp 9) (.tmp 32) rfl g3 0 (bRow K).toList (bRow Tx.zero).toList _ rfl rfl rA (by have := HZ32.out; have := HK32.out; omega) (by rw [hash_info, HK32.out]) HK1.out ?_
            intro w9 hr9 hg9
            rw [splice_all (HK32.out.trans HZ32.out.symm)] at hr9
            have hI9 : RfIn2 b0 C w9 := Row.kept hHeld hg9 (row_diff hHeld rA (by decide))
            have HSP9 := Lib.hid (HP.put rA hgA hg9)
            have HSQ9 := Lib.hid (HQ.put rA hgA hg9)
            have HRB9 := Lib.hid (rB.kept hg9 (fun e => by cases e; omega))
            have HI9 := Lib.hid hI9
            have HRA9 := Lib.hid hr9
            refine hK1.out _ _ hI9 (fun hHeld => ?_)
            clear hK1 K1
            try simp only [Act.put, List.getElem_toArray, List.getElem_cons_succ, List.getElem_cons_zero, List.setIfInBounds_toArray, List.set_cons_zero, List.set_cons_succ]
            refine wpAnyH_take (i := 12) (v := .int .i64 E) rfl (by kernel_rfl) (by kernel_rfl) (by kernel_rfl) (fun _ _ _ h => h) (Or.inl ⟨by rfl, fun w' hSw => by go_simp⟩) hHeld ?_
            try simp only [Act.put, List.getElem_toArray, List.getElem_cons_succ, List.getElem_cons_zero, List.setIfInBounds_toArray, List.set_cons_zero, List.set_cons_succ]
            refine wpAnyH_done (by kernel_rfl) ?_ _
            clear hHeld hI9 hr9 hg9 HP HQ rA rB
            go_wp2_with (first
            | ((with_reducible show wpList _ _ _ (⟨_, .load 42 (.tmp 7), _, _, _, _⟩ :: _) _ _); refine wpList_load_tx rfl 42 (.tmp 7) rfl g2 0 rfl (bRow K).toList _ (row_range HRB9.out) Tryd.underlying42 rfl (by rw [hash_info, HK32.out]) ?_)
            | ((with_reducible show wpList _ _ _ (⟨_, .load 42 (.tmp 9), _, _, _, _⟩ :: _) _ _); refine wpList_load_tx rfl 42 (.tmp 9) rfl g3 0 rfl (bRow K).toList _ (row_range HRA9.out) Tryd.underlying42 rfl (by rw [hash_info, HK32.out]) ?_))
            go_ret
            exact ⟨rfl, _, _, HSP9.out, HSQ9.out⟩
        · skip
          try simp only [Act.put, List.getElem_toArray, List.getElem_cons_succ, List.getElem_cons_zero, List.setIfInBounds_toArray, List.set_cons_zero, List.set_cons_succ]
          go_simp
          have hal := (Below.refl wq.heap.size wq).alloc (Nat.le_refl _) (.cells (bRow Tx.zero) 42)
          have rA := Row.new wq 42 (bRow Tx.zero).toList
          rw [Array.toArray_toList] at rA
          have hgA : w.heap.size ≤ wq.heap.size := HP.1.size
          have hlt2 := rB.lt
          obtain ⟨g3, hg⟩ : ∃ x, x = wq.heap.size := ⟨_, rfl⟩
          replace HP := HP.below hal
          replace HQ := HQ.below hal
          have hHeld2 : RfIn2 b0 C (wq.alloc (.cells (bRow Tx.zero) 42)) := RfIn2.below hHeld hal
          replace rB := rB.below hal
          rw [← hg] at rA hgA hlt2 ⊢
          clear hal hg hHeld
          generalize wq.alloc (.cells (bRow Tx.zero) 42) = wa at *
          refine hK1.out _ _ hHeld2 (fun hHeld => ?_)
          clear hHeld2
          clear hK1 K1
          try simp only [Act.put, List.getElem_toArray, List.getElem_cons_succ, List.getElem_cons_zero, List.setIfInBounds_toArray, List.set_cons_zero, List.set_cons_succ]
          refine wpAnyH_ready (rs := [3]) (by kernel_rfl) (by simp) (AllReadyH.cons rfl (fun K1 hK1 => ?_) AllReadyH.nil)
          try simp only [Act.put, List.getElem_toArray, List.getElem_cons_succ, List.getElem_cons_zero, List.setIfInBounds_toArray, List.set_cons_zero, List.set_cons_succ]
          go_simp
          refine Calls.mono (HF1.out _ HP.1) ?_
          rintro e w2 ⟨rfl, rfl⟩
          refine hK1.out _ _ hHeld (fun hHeld => ?_)
          clear hK1 K1
          try simp only [Act.put, List.getElem_toArray, List.getElem_cons_succ, List.getElem_cons_zero, List.setIfInBounds_toArray, List.set_cons_zero, List.set_cons_succ]
          refine wpAnyH_ready (rs := [6]) (by kernel_rfl) (by simp) (AllReadyH.cons rfl (fun K1 hK1 => ?_) AllReadyH.nil)
          try simp only [Act.put, List.getElem_toArray, List.getElem_cons_succ, List.getElem_cons_zero, List.setIfInBounds_toArray, List.set_cons_zero, List.set_cons_succ]
          go_simp
          refine Calls.mono (HM2.out _ HQ) ?_
          rintro e w3 ⟨rfl, hst, hkp⟩
          replace HP := HP.keepR hkp hst.1
          replace HQ := hst
          replace hHeld : RfIn2 b0 C w3 := hkp.row hHeld (by decide)
          replace rB := hkp.row rB (by decide)
          replace rA := hkp.row rA (by decide)
          clear hst hkp
          refine hK1.out _ _ hHeld (fun hHeld => ?_)
          clear hK1 K1
          try simp only [Act.put, List.getElem_toArray, List.getElem_cons_succ, List.getElem_cons_zero, List.setIfInBounds_toArray, List.set_cons_zero, List.set_cons_succ]
          refine wpAnyH_take (i := 7) (v := .tuple #[.agg (bRow K), .int .i64 E]) rfl (by kernel_rfl) (by kernel_rfl) (by kernel_rfl) (fun _ _ _ h => h) (Or.inl ⟨by rfl, fun w' hSw => by go_simp⟩) hHeld ?_
          try simp only [Act.put, List.getElem_toArray, List.getElem_cons_succ, List.getElem_cons_zero, List.setIfInBounds_toArray, List.set_cons_zero, List.set_cons_succ]
          refine wpAnyH_take (i := 8) (v := .agg (bRow K)) rfl (by kernel_rfl) (by kernel_rfl) (by kernel_rfl) (fun _ _ _ h => h) (Or.inl ⟨by rfl, fun w' hSw => by go_simp⟩) hHeld ?_
          try simp only [Act.put, List.getElem_toArray, List.getElem_cons_succ, List.getElem_cons_zero, List.setIfInBounds_toArray, List.set_cons_zero, List.set_cons_succ]
          refine wpAnyH_take (i := 9) (v := .int .i64 E) rfl (by kernel_rfl) (by kernel_rfl) (by kernel_rfl) (fun _ _ _ h => h) (Or.inl ⟨by rfl, fun w' hSw => by go_simp⟩) hHeld ?_
          try simp only [Act.put, List.getElem_toArray, List.getElem_cons_succ, List.getElem_cons_zero, List.setIfInBounds_toArray, List.set_cons_zero, List.set_cons_succ]
          refine wpAnyH_ready (rs := [11]) (by kernel_rfl) (by simp) (AllReadyH.cons rfl (fun K1 hK1 => ?_) AllReadyH.nil)
          try simp only [Act.put, List.getElem_toArray, List.getElem_cons_succ, List.getElem_cons_zero, List.setIfInBounds_toArray, List.set_cons_zero, List.set_cons_succ]
          rw [if_pos (by rfl)]
          refine wp_store_at 42 (.tmp 9) (.tmp 32) rfl g3 0 (bRow K).toList (bRow Tx.zero).toList _ rfl rfl rA (by have := HZ32.out; have := HK32.out; omega) (by rw [hash_info, HK32.out]) HK1.out ?_
          intro w9 hr9 hg9
          rw [splice_all (HK32.out.trans HZ32.out.symm)] at hr9
          have hI9 : RfIn2 b0 C w9 := Row.kept hHeld hg9 (row_diff hHeld rA (by decide))
          have HSP9 := Lib.hid (HP.put rA hgA hg9)
          have HSQ9 := Lib.hid (HQ.put rA hgA hg9)
          have HRB9 := Lib.hid (rB.kept hg9 (fun e => by cases e; omega))
          have HI9 := Lib.hid hI9
          have HRA9 := Lib.hid hr9
          refine hK1.out _ _ hI9 (fun hHeld => ?_)
          clear hK1 K1
          try simp only [Act.put, List.getElem_toArray, List.getElem_cons_succ, List.getElem_cons_zero, List.setIfInBounds_toArray, List.set_cons_zero, List.set_cons_succ]
          refine wpAnyH_take (i := 12) (v := .int .i64 E) rfl (by kernel_rfl) (by kernel_rfl) (by kernel_rfl) (fun _ _ _ h => h) (Or.inl ⟨by rfl, fun w' hSw => by go_simp⟩) hHeld ?_
          try simp only [Act.put, List.getElem_toArray, List.getElem_cons_succ, List.getElem_cons_zero, List.setIfInBounds_toArray, List.set_cons_zero, List.set_cons_succ]
          refine wpAnyH_done (by kernel_rfl) ?_ _
          clear hHeld hI9 hr9 hg9 HP HQ rA rB
          go_wp2_with (first
          | ((with_reducible show wpList _ _ _ (⟨_, .load 42 (.tmp 7), _, _, _, _⟩ :: _) _ _); refine wpList_load_tx rfl 42 (.tmp 7) rfl g2 0 rfl (bRow K).toList _ (row_range HRB9.out) Tryd.underlying42 rfl (by rw [hash_info, HK32.out]) ?_)
          | ((with_reducible show wpList _ _ _ (⟨_, .load 42 (.tmp 9), _, _, _, _⟩ :: _) _ _); refine wpList_load_tx rfl 42 (.tmp 9) rfl g3 0 rfl (bRow K).toList _ (row_range HRA9.out) Tryd.underlying42 rfl (by rw [hash_info, HK32.out]) ?_))
          go_ret
          exact ⟨rfl, _, _, HSP9.out, HSQ9.out⟩
    · skip
      try simp only [Act.put, List.getElem_toArray, List.getElem_cons_succ, List.getElem_cons_zero, List.setIfInBounds_toArray, List.set_cons_zero, List.set_cons_succ]
      go_simp
      have hal := (Below.refl wq.heap.size wq).alloc (Nat.le_refl _) (.cells (bRow Tx.zero) 42)
      have rA := Row.new wq 42 (bRow Tx.zero).toList
      rw [Array.toArray_toList] at rA
      have hgA : w.heap.size ≤ wq.heap.size := HP.1.size
      obtain ⟨g2, hg⟩ : ∃ x, x = wq.heap.size := ⟨_, rfl⟩
      replace HP := HP.below hal
      replace HQ := HQ.below hal
      have hHeld2 : RfIn2 b0 C (wq.alloc (.cells (bRow Tx.zero) 42)) := RfIn2.below hHeld hal
      rw [← hg] at rA hgA ⊢
      clear hal hg hHeld
      generalize wq.alloc (.cells (bRow Tx.zero) 42) = wa at *
      refine hK1.out _ _ hHeld2 (fun hHeld => ?_)
      clear hHeld2
      clear hK1 K1
      try simp only [Act.put, List.getElem_toArray, List.getElem_cons_succ, List.getElem_cons_zero, List.setIfInBounds_toArray, List.set_cons_zero, List.set_cons_succ]
      refine wpAnyH_ready (rs := [3]) (by kernel_rfl) (by simp) (AllReadyH.cons rfl (fun K1 hK1 => ?_) AllReadyH.nil)
      try simp only [Act.put, List.getElem_toArray, List.getElem_cons_succ, List.getElem_cons_zero, List.setIfInBounds_toArray, List.set_cons_zero, List.set_cons_succ]
      go_simp
      refine Calls.mono (HF1.out _ HP.1) ?_
      rintro e w2 ⟨rfl, rfl⟩
      refine hK1.out _ _ hHeld (fun hHeld => ?_)
      clear hK1 K1
      try simp only [Act.put, List.getElem_toArray, List.getElem_cons_succ, List.getElem_cons_zero, List.setIfInBounds_toArray, List.set_cons_zero, List.set_cons_succ]
      refine wpAnyH_ready (rs := [6]) (by kernel_rfl) (by simp) (AllReadyH.cons rfl (fun K1 hK1 => ?_) AllReadyH.nil)
      try simp only [Act.put, List.getElem_toArray, List.getElem_cons_succ, List.getElem_cons_zero, List.setIfInBounds_toArray, List.set_cons_zero, List.set_cons_succ]
      go_simp
      refine Calls.mono (HM.out _ HP) ?_
      rintro e w3 ⟨rfl, hst, hkp⟩
      replace HQ := HQ.keep hkp hst.1
      replace HP := hst
      replace hHeld : RfIn2 b0 C w3 := hkp.row hHeld (by decide) (by decide)
      replace rA := hkp.row rA (by decide) (by decide)
      clear hst hkp
      refine hK1.out _ _ hHeld (fun hHeld => ?_)
      clear hK1 K1
      try simp only [Act.put, List.getElem_toArray, List.getElem_cons_succ, List.getElem_cons_zero, List.setIfInBounds_toArray, List.set_cons_zero, List.set_cons_succ]
      refine wpAnyH_take (i := 7) (v := .tuple #[.agg (bRow K), .int .i64 E]) rfl (by kernel_rfl) (by kernel_rfl) (by kernel_rfl) (fun _ _ _ h => h) (Or.inl ⟨by rfl, fun w' hSw => by go_simp⟩) hHeld ?_
      try simp only [Act.put, List.getElem_toArray, List.getElem_cons_succ, List.getElem_cons_zero, List.setIfInBounds_toArray, List.set_cons_zero, List.set_cons_succ]
      refine wpAnyH_take (i := 8) (v := .agg (bRow K)) rfl (by kernel_rfl) (by kernel_rfl) (by kernel_rfl) (fun _ _ _ h => h) (Or.inl ⟨by rfl, fun w' hSw => by go_simp⟩) hHeld ?_
      try simp only [Act.put, List.getElem_toArray, List.getElem_cons_succ, List.getElem_cons_zero, List.setIfInBounds_toArray, List.set_cons_zero, List.set_cons_succ]
      refine wpAnyH_take (i := 9) (v := .int .i64 E) rfl (by kernel_rfl) (by kernel_rfl) (by kernel_rfl) (fun _ _ _ h => h) (Or.inl ⟨by rfl, fun w' hSw => by go_simp⟩) hHeld ?_
      try simp only [Act.put, List.getElem_toArray, List.getElem_cons_succ, List.getElem_cons_zero, List.setIfInBounds_toArray, List.set_cons_zero, List.set_cons_succ]
      refine wpAnyH_ready (rs := [11]) (by kernel_rfl) (by simp) (AllReadyH.cons rfl (fun K1 hK1 => ?_) AllReadyH.nil)
      try simp only [Act.put, List.getElem_toArray, List.getElem_cons_succ, List.getElem_cons_zero, List.setIfInBounds_toArray, List.set_cons_zero, List.set_cons_succ]
      rw [if_pos (by rfl)]
      refine wp_store_at 42 (.tmp 7) (.tmp 22) rfl g2 0 (bRow K).toList (bRow Tx.zero).toList _ rfl rfl rA (by have := HZ32.out; have := HK32.out; omega) (by rw [hash_info, HK32.out]) HK1.out ?_
      intro w9 hr9 hg9
      rw [splice_all (HK32.out.trans HZ32.out.symm)] at hr9
      have hI9 : RfIn2 b0 C w9 := Row.kept hHeld hg9 (row_diff hHeld rA (by decide))
      have HSP9 := Lib.hid (HP.put rA hgA hg9)
      have HSQ9 := Lib.hid (HQ.put rA hgA hg9)
      have HI9 := Lib.hid hI9
      have HRA9 := Lib.hid hr9
      refine hK1.out _ _ hI9 (fun hHeld => ?_)
      clear hK1 K1
      try simp only [Act.put, List.getElem_toArray, List.getElem_cons_succ, List.getElem_cons_zero, List.setIfInBounds_toArray, List.set_cons_zero, List.set_cons_succ]
      refine wpAnyH_take (i := 12) (v := .int .i64 E) rfl (by kernel_rfl) (by kernel_rfl) (by kernel_rfl) (fun _ _ _ h => h) (Or.inl ⟨by rfl, fun w' hSw => by go_simp⟩) hHeld ?_
      try simp only [Act.put, List.getElem_toArray, List.getElem_cons_succ, List.getElem_cons_zero, List.setIfInBounds_toArray, List.set_cons_zero, List.set_cons_succ]
      refine wpAnyH_done (by kernel_rfl) ?_ _
      clear hHeld hI9 hr9 hg9 HP HQ rA
      go_wp2_with fail
      obtain ⟨HSP, HSQ, HI, HRB⟩ : Hid (StAt w w9 P dp de (Tr.mineL L yi sl)) ∧ Hid (RStAt w w9 Q dp de L) ∧ Hid (RfIn2 b0 C w9) ∧ Hid (Row w9 g2 42 (bRow K).toList) := ⟨HSP9, HSQ9, HI9, HRA9⟩
      clear HSP9 HSQ9 HI9 HRA9 hgA
      obtain ⟨wc, hwc⟩ : ∃ x, x = w9 := ⟨_, rfl⟩
      rw [← hwc] at HSP HSQ HI HRB ⊢
      clear hwc
      refine wp_region_held_drew (S := fun w' => RfIn2 b0 C w') (by kernel_rfl) (HI.out.below ((Below.refl _ _).drew)) (fun hHeld => ?_)
      have HP := HSP.out.below ((Below.refl wc.heap.size wc).drew)
      have HQ := HSQ.out.below ((Below.refl wc.heap.size wc).drew)
      have rB := HRB.out.below ((Below.refl wc.heap.size wc).drew)
      generalize wc.drew = wq at *
      refine wpAnyH_take (i := 0) (v := .pointer (some ⟨Q, 0, none⟩)) rfl (by kernel_rfl) (by kernel_rfl) (by kernel_rfl) (fun _ _ _ h => h) (Or.inl ⟨by rfl, fun w' hSw => by go_simp⟩) hHeld ?_
      try simp only [Act.put, List.getElem_toArray, List.getElem_cons_succ, List.getElem_cons_zero, List.setIfInBounds_toArray, List.set_cons_zero, List.set_cons_succ]
      refine wpAnyH_take (i := 1) (v := .pointer (some ⟨b0, 3, none⟩)) rfl (by kernel_rfl) (by kernel_rfl) (by kernel_rfl) (fun _ _ _ h => h) (Or.inl ⟨by rfl, fun w' hSw => by go_simp⟩) hHeld ?_
      try simp only [Act.put, List.getElem_toArray, List.getElem_cons_succ, List.getElem_cons_zero, List.setIfInBounds_toArray, List.set_cons_zero, List.set_cons_succ]
      refine wpAnyH_take (i := 2) (v := .slice Ax mx cx) rfl (by kernel_rfl) (by kernel_rfl) (by kernel_rfl) (fun _ _ _ h => h) (Or.inl ⟨by rfl, fun w' hSw => by have hq := hSw; have hd := (HCb.out _ hq).2.2; go_simp⟩) hHeld ?_
      try simp only [Act.put, List.getElem_toArray, List.getElem_cons_succ, List.getElem_cons_zero, List.setIfInBounds_toArray, List.set_cons_zero, List.set_cons_succ]
      refine wpAnyH_take (i := 4) (v := .pointer (some ⟨b0, 2, none⟩)) rfl (by kernel_rfl) (by kernel_rfl) (by kernel_rfl) (fun _ _ _ h => h) (Or.inl ⟨by rfl, fun w' hSw => by go_simp⟩) hHeld ?_
      try simp only [Act.put, List.getElem_toArray, List.getElem_cons_succ, List.getElem_cons_zero, List.setIfInBounds_toArray, List.set_cons_zero, List.set_cons_succ]
      refine wpAnyH_take (i := 5) (v := .int .i64 sl) rfl (by kernel_rfl) (by kernel_rfl) (by kernel_rfl) (fun _ _ _ h => h) (Or.inl ⟨by rfl, fun w' hSw => by have hq := hSw; have hd := (HCb.out _ hq).2.1; go_simp⟩) hHeld ?_
      try simp only [Act.put, List.getElem_toArray, List.getElem_cons_succ, List.getElem_cons_zero, List.setIfInBounds_toArray, List.set_cons_zero, List.set_cons_succ]
      refine wpAnyH_ready (rs := [3, 10]) (by kernel_rfl) (by simp) (AllReadyH.cons rfl (fun K1 hK1 => ?_) (AllReadyH.cons rfl (fun K1 hK1 => ?_) AllReadyH.nil))
      · skip
        try simp only [Act.put, List.getElem_toArray, List.getElem_cons_succ, List.getElem_cons_zero, List.setIfInBounds_toArray, List.set_cons_zero, List.set_cons_succ]
        go_simp
        refine Calls.mono (HF1.out _ HP.1) ?_
        rintro e w2 ⟨rfl, rfl⟩
        refine hK1.out _ _ hHeld (fun hHeld => ?_)
        clear hK1 K1
        try simp only [Act.put, List.getElem_toArray, List.getElem_cons_succ, List.getElem_cons_zero, List.setIfInBounds_toArray, List.set_cons_zero, List.set_cons_succ]
        refine wpAnyH_ready (rs := [6, 10]) (by kernel_rfl) (by simp) (AllReadyH.cons rfl (fun K1 hK1 => ?_) (AllReadyH.cons rfl (fun K1 hK1 => ?_) AllReadyH.nil))
        · skip
          try simp only [Act.put, List.getElem_toArray, List.getElem_cons_succ, List.getElem_cons_zero, List.setIfInBounds_toArray, List.set_cons_zero, List.set_cons_succ]
          go_simp
          refine Calls.mono (HM2.out _ HQ) ?_
          rintro e w3 ⟨rfl, hst, hkp⟩
          replace HP := HP.keepR hkp hst.1
          replace HQ := hst
          replace hHeld : RfIn2 b0 C w3 := hkp.row hHeld (by decide)
          replace rB := hkp.row rB (by decide)
          clear hst hkp
          refine hK1.out _ _ hHeld (fun hHeld => ?_)
          clear hK1 K1
          try simp only [Act.put, List.getElem_toArray, List.getElem_cons_succ, List.getElem_cons_zero, List.setIfInBounds_toArray, List.set_cons_zero, List.set_cons_succ]
          refine wpAnyH_take (i := 7) (v := .tuple #[.agg (bRow K), .int .i64 E]) rfl (by kernel_rfl) (by kernel_rfl) (by kernel_rfl) (fun _ _ _ h => h) (Or.inl ⟨by rfl, fun w' hSw => by go_simp⟩) hHeld ?_
          try simp only [Act.put, List.getElem_toArray, List.getElem_cons_succ, List.getElem_cons_zero, List.setIfInBounds_toArray, List.set_cons_zero, List.set_cons_succ]
          refine wpAnyH_take (i := 8) (v := .agg (bRow K)) rfl (by kernel_rfl) (by kernel_rfl) (by kernel_rfl) (fun _ _ _ h => h) (Or.inl ⟨by rfl, fun w' hSw => by go_simp⟩) hHeld ?_
          try simp only [Act.put, List.getElem_toArray, List.getElem_cons_succ, List.getElem_cons_zero, List.setIfInBounds_toArray, List.set_cons_zero, List.set_cons_succ]
          refine wpAnyH_take (i := 9) (v := .int .i64 E) rfl (by kernel_rfl) (by kernel_rfl) (by kernel_rfl) (fun _ _ _ h => h) (Or.inl ⟨by rfl, fun w' hSw => by go_simp⟩) hHeld ?_
          try simp only [Act.put, List.getElem_toArray, List.getElem_cons_succ, List.getElem_cons_zero, List.setIfInBounds_toArray, List.set_cons_zero, List.set_cons_succ]
          refine wpAnyH_ready (rs := [10]) (by kernel_rfl) (by simp) (AllReadyH.cons rfl (fun K1 hK1 => ?_) AllReadyH.nil)
          try simp only [Act.put, List.getElem_toArray, List.getElem_cons_succ, List.getElem_cons_zero, List.setIfInBounds_toArray, List.set_cons_zero, List.set_cons_succ]
          go_simp
          have hal := (Below.refl w3.heap.size w3).alloc (Nat.le_refl _) (.cells (bRow Tx.zero) 42)
          have rA := Row.new w3 42 (bRow Tx.zero).toList
          rw [Array.toArray_toList] at rA
          have hgA : w.heap.size ≤ w3.heap.size := HP.1.size
          have hlt2 := rB.lt
          obtain ⟨g3, hg⟩ : ∃ x, x = w3.heap.size := ⟨_, rfl⟩
          replace HP := HP.below hal
          replace HQ := HQ.below hal
          have hHeld2 : RfIn2 b0 C (w3.alloc (.cells (bRow Tx.zero) 42)) := RfIn2.below hHeld hal
          replace rB := rB.below hal
          rw [← hg] at rA hgA hlt2 ⊢
          clear hal hg hHeld
          generalize w3.alloc (.cells (bRow Tx.zero) 42) = wa at *
          refine hK1.out _ _ hHeld2 (fun hHeld => ?_)
          clear hHeld2
          clear hK1 K1
          try simp only [Act.put, List.getElem_toArray, List.getElem_cons_succ, List.getElem_cons_zero, List.setIfInBounds_toArray, List.set_cons_zero, List.set_cons_succ]
          refine wpAnyH_ready (rs := [11]) (by kernel_rfl) (by simp) (AllReadyH.cons rfl (fun K1 hK1 => ?_) AllReadyH.nil)
          try simp only [Act.put, List.getElem_toArray, List.getElem_cons_succ, List.getElem_cons_zero, List.setIfInBounds_toArray, List.set_cons_zero, List.set_cons_succ]
          rw [if_pos (by rfl)]
          refine wp_store_at 42 (.tmp 9) (.tmp 32) rfl g3 0 (bRow K).toList (bRow Tx.zero).toList _ rfl rfl rA (by have := HZ32.out; have := HK32.out; omega) (by rw [hash_info, HK32.out]) HK1.out ?_
          intro w9 hr9 hg9
          rw [splice_all (HK32.out.trans HZ32.out.symm)] at hr9
          have hI9 : RfIn2 b0 C w9 := Row.kept hHeld hg9 (row_diff hHeld rA (by decide))
          have HSP9 := Lib.hid (HP.put rA hgA hg9)
          have HSQ9 := Lib.hid (HQ.put rA hgA hg9)
          have HRB9 := Lib.hid (rB.kept hg9 (fun e => by cases e; omega))
          have HI9 := Lib.hid hI9
          have HRA9 := Lib.hid hr9
          refine hK1.out _ _ hI9 (fun hHeld => ?_)
          clear hK1 K1
          try simp only [Act.put, List.getElem_toArray, List.getElem_cons_succ, List.getElem_cons_zero, List.setIfInBounds_toArray, List.set_cons_zero, List.set_cons_succ]
          refine wpAnyH_take (i := 12) (v := .int .i64 E) rfl (by kernel_rfl) (by kernel_rfl) (by kernel_rfl) (fun _ _ _ h => h) (Or.inl ⟨by rfl, fun w' hSw => by go_simp⟩) hHeld ?_
          try simp only [Act.put, List.getElem_toArray, List.getElem_cons_succ, List.getElem_cons_zero, List.setIfInBounds_toArray, List.set_cons_zero, List.set_cons_succ]
          refine wpAnyH_done (by kernel_rfl) ?_ _
          clear hHeld hI9 hr9 hg9 HP HQ rA rB
          go_wp2_with (first
          | ((with_reducible show wpList _ _ _ (⟨_, .load 42 (.tmp 7), _, _, _, _⟩ :: _) _ _); refine wpList_load_tx rfl 42 (.tmp 7) rfl g2 0 rfl (bRow K).toList _ (row_range HRB9.out) Tryd.underlying42 rfl (by rw [hash_info, HK32.out]) ?_)
          | ((with_reducible show wpList _ _ _ (⟨_, .load 42 (.tmp 9), _, _, _, _⟩ :: _) _ _); refine wpList_load_tx rfl 42 (.tmp 9) rfl g3 0 rfl (bRow K).toList _ (row_range HRA9.out) Tryd.underlying42 rfl (by rw [hash_info, HK32.out]) ?_))
          go_ret
          exact ⟨rfl, _, _, HSP9.out, HSQ9.out⟩
        · skip
          try simp only [Act.put, List.getElem_toArray, List.getElem_cons_succ, List.getElem_cons_zero, List.setIfInBounds_toArray, List.set_cons_zero, List.set_cons_succ]
          go_simp
          have hal := (Below.refl wq.heap.size wq).alloc (Nat.le_refl _) (.cells (bRow Tx.zero) 42)
          have rA := Row.new wq 42 (bRow Tx.zero).toList
          rw [Array.toArray_toList] at rA
          have hgA : w.heap.size ≤ wq.heap.size := HP.1.size
          have hlt2 := rB.lt
          obtain ⟨g3, hg⟩ : ∃ x, x = wq.heap.size := ⟨_, rfl⟩
          replace HP := HP.below hal
          replace HQ := HQ.below hal
          have hHeld2 : RfIn2 b0 C (wq.alloc (.cells (bRow Tx.zero) 42)) := RfIn2.below hHeld hal
          replace rB := rB.below hal
          rw [← hg] at rA hgA hlt2 ⊢
          clear hal hg hHeld
          generalize wq.alloc (.cells (bRow Tx.zero) 42) = wa at *
          refine hK1.out _ _ hHeld2 (fun hHeld => ?_)
          clear hHeld2
          clear hK1 K1
          try simp only [Act.put, List.getElem_toArray, List.getElem_cons_succ, List.getElem_cons_zero, List.setIfInBounds_toArray, List.set_cons_zero, List.set_cons_succ]
          refine wpAnyH_ready (rs := [6]) (by kernel_rfl) (by simp) (AllReadyH.cons rfl (fun K1 hK1 => ?_) AllReadyH.nil)
          try simp only [Act.put, List.getElem_toArray, List.getElem_cons_succ, List.getElem_cons_zero, List.setIfInBounds_toArray, List.set_cons_zero, List.set_cons_succ]
          go_simp
          refine Calls.mono (HM2.out _ HQ) ?_
          rintro e w3 ⟨rfl, hst, hkp⟩
          replace HP := HP.keepR hkp hst.1
          replace HQ := hst
          replace hHeld : RfIn2 b0 C w3 := hkp.row hHeld (by decide)
          replace rB := hkp.row rB (by decide)
          replace rA := hkp.row rA (by decide)
          clear hst hkp
          refine hK1.out _ _ hHeld (fun hHeld => ?_)
          clear hK1 K1
          try simp only [Act.put, List.getElem_toArray, List.getElem_cons_succ, List.getElem_cons_zero, List.setIfInBounds_toArray, List.set_cons_zero, List.set_cons_succ]
          refine wpAnyH_take (i := 7) (v := .tuple #[.agg (bRow K), .int .i64 E]) rfl (by kernel_rfl) (by kernel_rfl) (by kernel_rfl) (fun _ _ _ h => h) (Or.inl ⟨by rfl, fun w' hSw => by go_simp⟩) hHeld ?_
          try simp only [Act.put, List.getElem_toArray, List.getElem_cons_succ, List.getElem_cons_zero, List.setIfInBounds_toArray, List.set_cons_zero, List.set_cons_succ]
          refine wpAnyH_take (i := 8) (v := .agg (bRow K)) rfl (by kernel_rfl) (by kernel_rfl) (by kernel_rfl) (fun _ _ _ h => h) (Or.inl ⟨by rfl, fun w' hSw => by go_simp⟩) hHeld ?_
          try simp only [Act.put, List.getElem_toArray, List.getElem_cons_succ, List.getElem_cons_zero, List.setIfInBounds_toArray, List.set_cons_zero, List.set_cons_succ]
          refine wpAnyH_take (i := 9) (v := .int .i64 E) rfl (by kernel_rfl) (by kernel_rfl) (by kernel_rfl) (fun _ _ _ h => h) (Or.inl ⟨by rfl, fun w' hSw => by go_simp⟩) hHeld ?_
          try simp only [Act.put, List.getElem_toArray, List.getElem_cons_succ, List.getElem_cons_zero, List.setIfInBounds_toArray, List.set_cons_zero, List.set_cons_succ]
          refine wpAnyH_ready (rs := [11]) (by kernel_rfl) (by simp) (AllReadyH.cons rfl (fun K1 hK1 => ?_) AllReadyH.nil)
          try simp only [Act.put, List.getElem_toArray, List.getElem_cons_succ, List.getElem_cons_zero, List.setIfInBounds_toArray, List.set_cons_zero, List.set_cons_succ]
          rw [if_pos (by rfl)]
          refine wp_store_at 42 (.tmp 9) (.tmp 32) rfl g3 0 (bRow K).toList (bRow Tx.zero).toList _ rfl rfl rA (by have := HZ32.out; have := HK32.out; omega) (by rw [hash_info, HK32.out]) HK1.out ?_
          intro w9 hr9 hg9
          rw [splice_all (HK32.out.trans HZ32.out.symm)] at hr9
          have hI9 : RfIn2 b0 C w9 := Row.kept hHeld hg9 (row_diff hHeld rA (by decide))
          have HSP9 := Lib.hid (HP.put rA hgA hg9)
          have HSQ9 := Lib.hid (HQ.put rA hgA hg9)
          have HRB9 := Lib.hid (rB.kept hg9 (fun e => by cases e; omega))
          have HI9 := Lib.hid hI9
          have HRA9 := Lib.hid hr9
          refine hK1.out _ _ hI9 (fun hHeld => ?_)
          clear hK1 K1
          try simp only [Act.put, List.getElem_toArray, List.getElem_cons_succ, List.getElem_cons_zero, List.setIfInBounds_toArray, List.set_cons_zero, List.set_cons_succ]
          refine wpAnyH_take (i := 12) (v := .int .i64 E) rfl (by kernel_rfl) (by kernel_rfl) (by kernel_rfl) (fun _ _ _ h => h) (Or.inl ⟨by rfl, fun w' hSw => by go_simp⟩) hHeld ?_
          try simp only [Act.put, List.getElem_toArray, List.getElem_cons_succ, List.getElem_cons_zero, List.setIfInBounds_toArray, List.set_cons_zero, List.set_cons_succ]
          refine wpAnyH_done (by kernel_rfl) ?_ _
          clear hHeld hI9 hr9 hg9 HP HQ rA rB
          go_wp2_with (first
          | ((with_reducible show wpList _ _ _ (⟨_, .load 42 (.tmp 7), _, _, _, _⟩ :: _) _ _); refine wpList_load_tx rfl 42 (.tmp 7) rfl g2 0 rfl (bRow K).toList _ (row_range HRB9.out) Tryd.underlying42 rfl (by rw [hash_info, HK32.out]) ?_)
          | ((with_reducible show wpList _ _ _ (⟨_, .load 42 (.tmp 9), _, _, _, _⟩ :: _) _ _); refine wpList_load_tx rfl 42 (.tmp 9) rfl g3 0 rfl (bRow K).toList _ (row_range HRA9.out) Tryd.underlying42 rfl (by rw [hash_info, HK32.out]) ?_))
          go_ret
          exact ⟨rfl, _, _, HSP9.out, HSQ9.out⟩
      · skip
        try simp only [Act.put, List.getElem_toArray, List.getElem_cons_succ, List.getElem_cons_zero, List.setIfInBounds_toArray, List.set_cons_zero, List.set_cons_succ]
        go_simp
        have hal := (Below.refl wq.heap.size wq).alloc (Nat.le_refl _) (.cells (bRow Tx.zero) 42)
        have rA := Row.new wq 42 (bRow Tx.zero).toList
        rw [Array.toArray_toList] at rA
        have hgA : w.heap.size ≤ wq.heap.size := HP.1.size
        have hlt2 := rB.lt
        obtain ⟨g3, hg⟩ : ∃ x, x = wq.heap.size := ⟨_, rfl⟩
        replace HP := HP.below hal
        replace HQ := HQ.below hal
        have hHeld2 : RfIn2 b0 C (wq.alloc (.cells (bRow Tx.zero) 42)) := RfIn2.below hHeld hal
        replace rB := rB.below hal
        rw [← hg] at rA hgA hlt2 ⊢
        clear hal hg hHeld
        generalize wq.alloc (.cells (bRow Tx.zero) 42) = wa at *
        refine hK1.out _ _ hHeld2 (fun hHeld => ?_)
        clear hHeld2
        clear hK1 K1
        try simp only [Act.put, List.getElem_toArray, List.getElem_cons_succ, List.getElem_cons_zero, List.setIfInBounds_toArray, List.set_cons_zero, List.set_cons_succ]
        refine wpAnyH_ready (rs := [3]) (by kernel_rfl) (by simp) (AllReadyH.cons rfl (fun K1 hK1 => ?_) AllReadyH.nil)
        try simp only [Act.put, List.getElem_toArray, List.getElem_cons_succ, List.getElem_cons_zero, List.setIfInBounds_toArray, List.set_cons_zero, List.set_cons_succ]
        go_simp
        refine Calls.mono (HF1.out _ HP.1) ?_
        rintro e w2 ⟨rfl, rfl⟩
        refine hK1.out _ _ hHeld (fun hHeld => ?_)
        clear hK1 K1
        try simp only [Act.put, List.getElem_toArray, List.getElem_cons_succ, List.getElem_cons_zero, List.setIfInBounds_toArray, List.set_cons_zero, List.set_cons_succ]
        refine wpAnyH_ready (rs := [6]) (by kernel_rfl) (by simp) (AllReadyH.cons rfl (fun K1 hK1 => ?_) AllReadyH.nil)
        try simp only [Act.put, List.getElem_toArray, List.getElem_cons_succ, List.getElem_cons_zero, List.setIfInBounds_toArray, List.set_cons_zero, List.set_cons_succ]
        go_simp
        refine Calls.mono (HM2.out _ HQ) ?_
        rintro e w3 ⟨rfl, hst, hkp⟩
        replace HP := HP.keepR hkp hst.1
        replace HQ := hst
        replace hHeld : RfIn2 b0 C w3 := hkp.row hHeld (by decide)
        replace rB := hkp.row rB (by decide)
        replace rA := hkp.row rA (by decide)
        clear hst hkp
        refine hK1.out _ _ hHeld (fun hHeld => ?_)
        clear hK1 K1
        try simp only [Act.put, List.getElem_toArray, List.getElem_cons_succ, List.getElem_cons_zero, List.setIfInBounds_toArray, List.set_cons_zero, List.set_cons_succ]
        refine wpAnyH_take (i := 7) (v := .tuple #[.agg (bRow K), .int .i64 E]) rfl (by kernel_rfl) (by kernel_rfl) (by kernel_rfl) (fun _ _ _ h => h) (Or.inl ⟨by rfl, fun w' hSw => by go_simp⟩) hHeld ?_
        try simp only [Act.put, List.getElem_toArray, List.getElem_cons_succ, List.getElem_cons_zero, List.setIfInBounds_toArray, List.set_cons_zero, List.set_cons_succ]
        refine wpAnyH_take (i := 8) (v := .agg (bRow K)) rfl (by kernel_rfl) (by kernel_rfl) (by kernel_rfl) (fun _ _ _ h => h) (Or.inl ⟨by rfl, fun w' hSw => by go_simp⟩) hHeld ?_
        try simp only [Act.put, List.getElem_toArray, List.getElem_cons_succ, List.getElem_cons_zero, List.setIfInBounds_toArray, List.set_cons_zero, List.set_cons_succ]
        refine wpAnyH_take (i := 9) (v := .int .i64 E) rfl (by kernel_rfl) (by kernel_rfl) (by kernel_rfl) (fun _ _ _ h => h) (Or.inl ⟨by rfl, fun w' hSw => by go_simp⟩) hHeld ?_
        try simp only [Act.put, List.getElem_toArray, List.getElem_cons_succ, List.getElem_cons_zero, List.setIfInBounds_toArray, List.set_cons_zero, List.set_cons_succ]
        refine wpAnyH_ready (rs := [11]) (by kernel_rfl) (by simp) (AllReadyH.cons rfl (fun K1 hK1 => ?_) AllReadyH.nil)
        try simp only [Act.put, List.getElem_toArray, List.getElem_cons_succ, List.getElem_cons_zero, List.setIfInBounds_toArray, List.set_cons_zero, List.set_cons_succ]
        rw [if_pos (by rfl)]
        refine wp_store_at 42 (.tmp 9) (.tmp 32) rfl g3 0 (bRow K).toList (bRow Tx.zero).toList _ rfl rfl rA (by have := HZ32.out; have := HK32.out; omega) (by rw [hash_info, HK32.out]) HK1.out ?_
        intro w9 hr9 hg9
        rw [splice_all (HK32.out.trans HZ32.out.symm)] at hr9
        have hI9 : RfIn2 b0 C w9 := Row.kept hHeld hg9 (row_diff hHeld rA (by decide))
        have HSP9 := Lib.hid (HP.put rA hgA hg9)
        have HSQ9 := Lib.hid (HQ.put rA hgA hg9)
        have HRB9 := Lib.hid (rB.kept hg9 (fun e => by cases e; omega))
        have HI9 := Lib.hid hI9
        have HRA9 := Lib.hid hr9
        refine hK1.out _ _ hI9 (fun hHeld => ?_)
        clear hK1 K1
        try simp only [Act.put, List.getElem_toArray, List.getElem_cons_succ, List.getElem_cons_zero, List.setIfInBounds_toArray, List.set_cons_zero, List.set_cons_succ]
        refine wpAnyH_take (i := 12) (v := .int .i64 E) rfl (by kernel_rfl) (by kernel_rfl) (by kernel_rfl) (fun _ _ _ h => h) (Or.inl ⟨by rfl, fun w' hSw => by go_simp⟩) hHeld ?_
        try simp only [Act.put, List.getElem_toArray, List.getElem_cons_succ, List.getElem_cons_zero, List.setIfInBounds_toArray, List.set_cons_zero, List.set_cons_succ]
        refine wpAnyH_done (by kernel_rfl) ?_ _
        clear hHeld hI9 hr9 hg9 HP HQ rA rB
        go_wp2_with (first
        | ((with_reducible show wpList _ _ _ (⟨_, .load 42 (.tmp 7), _, _, _, _⟩ :: _) _ _); refine wpList_load_tx rfl 42 (.tmp 7) rfl g2 0 rfl (bRow K).toList _ (row_range HRB9.out) Tryd.underlying42 rfl (by rw [hash_info, HK32.out]) ?_)
        | ((with_reducible show wpList _ _ _ (⟨_, .load 42 (.tmp 9), _, _, _, _⟩ :: _) _ _); refine wpList_load_tx rfl 42 (.tmp 9) rfl g3 0 rfl (bRow K).toList _ (row_range HRA9.out) Tryd.underlying42 rfl (by rw [hash_info, HK32.out]) ?_))
        go_ret
        exact ⟨rfl, _, _, HSP9.out, HSQ9.out⟩
  · have d3 : decide (kd < 2) = false := by simpa using hkd
    clear hkd
    go_enter Tryd.func17, Tryd.ntmps17
    go_wp2_with fail
    clear ck d3 heq
    generalize W.alloc (.cells C.toArray 34) = wc at *
    generalize W.heap.size = b0 at *
    refine wp_region_held_drew (S := fun w' => RfIn2 b0 C w') (by kernel_rfl) (HI.out.below ((Below.refl _ _).drew)) (fun hHeld => ?_)
    have HP := HSP.out.below ((Below.refl wc.heap.size wc).drew)
    have HQ := HSQ.out.below ((Below.refl wc.heap.size wc).drew)
    generalize wc.drew = wq at *
    refine wpAnyH_take (i := 0) (v := .pointer (some ⟨P, 0, none⟩)) rfl (by kernel_rfl) (by kernel_rfl) (by kernel_rfl) (fun _ _ _ h => h) (Or.inl ⟨by rfl, fun w' hSw => by go_simp⟩) hHeld ?_
    try simp only [Act.put, List.getElem_toArray, List.getElem_cons_succ, List.getElem_cons_zero, List.setIfInBounds_toArray, List.set_cons_zero, List.set_cons_succ]
    refine wpAnyH_take (i := 1) (v := .pointer (some ⟨b0, 1, none⟩)) rfl (by kernel_rfl) (by kernel_rfl) (by kernel_rfl) (fun _ _ _ h => h) (Or.inl ⟨by rfl, fun w' hSw => by go_simp⟩) hHeld ?_
    try simp only [Act.put, List.getElem_toArray, List.getElem_cons_succ, List.getElem_cons_zero, List.setIfInBounds_toArray, List.set_cons_zero, List.set_cons_succ]
    refine wpAnyH_take (i := 2) (v := .int .i64 und) rfl (by kernel_rfl) (by kernel_rfl) (by kernel_rfl) (fun _ _ _ h => h) (Or.inl ⟨by rfl, fun w' hSw => by have hq := hSw; have hd := (HCb.out _ hq).1; go_simp⟩) hHeld ?_
    try simp only [Act.put, List.getElem_toArray, List.getElem_cons_succ, List.getElem_cons_zero, List.setIfInBounds_toArray, List.set_cons_zero, List.set_cons_succ]
    refine wpAnyH_take (i := 3) (v := .pointer (some ⟨b0, 3, none⟩)) rfl (by kernel_rfl) (by kernel_rfl) (by kernel_rfl) (fun _ _ _ h => h) (Or.inl ⟨by rfl, fun w' hSw => by go_simp⟩) hHeld ?_
    try simp only [Act.put, List.getElem_toArray, List.getElem_cons_succ, List.getElem_cons_zero, List.setIfInBounds_toArray, List.set_cons_zero, List.set_cons_succ]
    refine wpAnyH_take (i := 4) (v := .slice Ax mx cx) rfl (by kernel_rfl) (by kernel_rfl) (by kernel_rfl) (fun _ _ _ h => h) (Or.inl ⟨by rfl, fun w' hSw => by have hq := hSw; have hd := (HCb.out _ hq).2.2; go_simp⟩) hHeld ?_
    try simp only [Act.put, List.getElem_toArray, List.getElem_cons_succ, List.getElem_cons_zero, List.setIfInBounds_toArray, List.set_cons_zero, List.set_cons_succ]
    refine wpAnyH_take (i := 6) (v := .pointer (some ⟨b0, 2, none⟩)) rfl (by kernel_rfl) (by kernel_rfl) (by kernel_rfl) (fun _ _ _ h => h) (Or.inl ⟨by rfl, fun w' hSw => by go_simp⟩) hHeld ?_
    try simp only [Act.put, List.getElem_toArray, List.getElem_cons_succ, List.getElem_cons_zero, List.setIfInBounds_toArray, List.set_cons_zero, List.set_cons_succ]
    refine wpAnyH_take (i := 7) (v := .int .i64 sl) rfl (by kernel_rfl) (by kernel_rfl) (by kernel_rfl) (fun _ _ _ h => h) (Or.inl ⟨by rfl, fun w' hSw => by have hq := hSw; have hd := (HCb.out _ hq).2.1; go_simp⟩) hHeld ?_
    try simp only [Act.put, List.getElem_toArray, List.getElem_cons_succ, List.getElem_cons_zero, List.setIfInBounds_toArray, List.set_cons_zero, List.set_cons_succ]
    refine wpAnyH_take (i := 9) (v := .pointer (some ⟨Q, 0, none⟩)) rfl (by kernel_rfl) (by kernel_rfl) (by kernel_rfl) (fun _ _ _ h => h) (Or.inl ⟨by rfl, fun w' hSw => by go_simp⟩) hHeld ?_
    try simp only [Act.put, List.getElem_toArray, List.getElem_cons_succ, List.getElem_cons_zero, List.setIfInBounds_toArray, List.set_cons_zero, List.set_cons_succ]
    refine wpAnyH_take (i := 10) (v := .pointer (some ⟨b0, 1, none⟩)) rfl (by kernel_rfl) (by kernel_rfl) (by kernel_rfl) (fun _ _ _ h => h) (Or.inl ⟨by rfl, fun w' hSw => by go_simp⟩) hHeld ?_
    try simp only [Act.put, List.getElem_toArray, List.getElem_cons_succ, List.getElem_cons_zero, List.setIfInBounds_toArray, List.set_cons_zero, List.set_cons_succ]
    refine wpAnyH_take (i := 11) (v := .int .i64 und) rfl (by kernel_rfl) (by kernel_rfl) (by kernel_rfl) (fun _ _ _ h => h) (Or.inl ⟨by rfl, fun w' hSw => by have hq := hSw; have hd := (HCb.out _ hq).1; go_simp⟩) hHeld ?_
    try simp only [Act.put, List.getElem_toArray, List.getElem_cons_succ, List.getElem_cons_zero, List.setIfInBounds_toArray, List.set_cons_zero, List.set_cons_succ]
    refine wpAnyH_take (i := 12) (v := .pointer (some ⟨b0, 3, none⟩)) rfl (by kernel_rfl) (by kernel_rfl) (by kernel_rfl) (fun _ _ _ h => h) (Or.inl ⟨by rfl, fun w' hSw => by go_simp⟩) hHeld ?_
    try simp only [Act.put, List.getElem_toArray, List.getElem_cons_succ, List.getElem_cons_zero, List.setIfInBounds_toArray, List.set_cons_zero, List.set_cons_succ]
    refine wpAnyH_take (i := 13) (v := .slice Ax mx cx) rfl (by kernel_rfl) (by kernel_rfl) (by kernel_rfl) (fun _ _ _ h => h) (Or.inl ⟨by rfl, fun w' hSw => by have hq := hSw; have hd := (HCb.out _ hq).2.2; go_simp⟩) hHeld ?_
    try simp only [Act.put, List.getElem_toArray, List.getElem_cons_succ, List.getElem_cons_zero, List.setIfInBounds_toArray, List.set_cons_zero, List.set_cons_succ]
    refine wpAnyH_take (i := 15) (v := .pointer (some ⟨b0, 2, none⟩)) rfl (by kernel_rfl) (by kernel_rfl) (by kernel_rfl) (fun _ _ _ h => h) (Or.inl ⟨by rfl, fun w' hSw => by go_simp⟩) hHeld ?_
    try simp only [Act.put, List.getElem_toArray, List.getElem_cons_succ, List.getElem_cons_zero, List.setIfInBounds_toArray, List.set_cons_zero, List.set_cons_succ]
    refine wpAnyH_take (i := 16) (v := .int .i64 sl) rfl (by kernel_rfl) (by kernel_rfl) (by kernel_rfl) (fun _ _ _ h => h) (Or.inl ⟨by rfl, fun w' hSw => by have hq := hSw; have hd := (HCb.out _ hq).2.1; go_simp⟩) hHeld ?_
    try simp only [Act.put, List.getElem_toArray, List.getElem_cons_succ, List.getElem_cons_zero, List.setIfInBounds_toArray, List.set_cons_zero, List.set_cons_succ]
    refine wpAnyH_ready (rs := [5]) (by kernel_rfl) (by simp) (AllReadyH.cons rfl (fun K1 hK1 => ?_) AllReadyH.nil)
    try simp only [Act.put, List.getElem_toArray, List.getElem_cons_succ, List.getElem_cons_zero, List.setIfInBounds_toArray, List.set_cons_zero, List.set_cons_succ]
    go_simp
    refine Calls.mono (HF2.out _ HP.1) ?_
    rintro e w2 ⟨rfl, rfl⟩
    refine hK1.out _ _ hHeld (fun hHeld => ?_)
    clear hK1 K1
    try simp only [Act.put, List.getElem_toArray, List.getElem_cons_succ, List.getElem_cons_zero, List.setIfInBounds_toArray, List.set_cons_zero, List.set_cons_succ]
    refine wpAnyH_ready (rs := [8]) (by kernel_rfl) (by simp) (AllReadyH.cons rfl (fun K1 hK1 => ?_) AllReadyH.nil)
    try simp only [Act.put, List.getElem_toArray, List.getElem_cons_succ, List.getElem_cons_zero, List.setIfInBounds_toArray, List.set_cons_zero, List.set_cons_succ]
    go_simp
    refine Calls.mono (HTu.out _ HP) ?_
    rintro e w3 ⟨rfl, hst, hkp⟩
    replace HQ := HQ.keep hkp hst.1
    replace HP := hst
    replace hHeld : RfIn2 b0 C w3 := hkp.row hHeld (by decide) (by decide)
    clear hst hkp
    refine hK1.out _ _ hHeld (fun hHeld => ?_)
    clear hK1 K1
    try simp only [Act.put, List.getElem_toArray, List.getElem_cons_succ, List.getElem_cons_zero, List.setIfInBounds_toArray, List.set_cons_zero, List.set_cons_succ]
    refine wpAnyH_ready (rs := [14]) (by kernel_rfl) (by simp) (AllReadyH.cons rfl (fun K1 hK1 => ?_) AllReadyH.nil)
    try simp only [Act.put, List.getElem_toArray, List.getElem_cons_succ, List.getElem_cons_zero, List.setIfInBounds_toArray, List.set_cons_zero, List.set_cons_succ]
    go_simp
    refine Calls.mono (HF2.out _ HP.1) ?_
    rintro e w2 ⟨rfl, rfl⟩
    refine hK1.out _ _ hHeld (fun hHeld => ?_)
    clear hK1 K1
    try simp only [Act.put, List.getElem_toArray, List.getElem_cons_succ, List.getElem_cons_zero, List.setIfInBounds_toArray, List.set_cons_zero, List.set_cons_succ]
    refine wpAnyH_ready (rs := [17]) (by kernel_rfl) (by simp) (AllReadyH.cons rfl (fun K1 hK1 => ?_) AllReadyH.nil)
    try simp only [Act.put, List.getElem_toArray, List.getElem_cons_succ, List.getElem_cons_zero, List.setIfInBounds_toArray, List.set_cons_zero, List.set_cons_succ]
    go_simp
    refine Calls.mono (HTu2.out _ HQ) ?_
    rintro e w4 ⟨rfl, hst, hkp⟩
    replace HP := HP.keepR hkp hst.1
    replace HQ := hst
    replace hHeld : RfIn2 b0 C w4 := hkp.row hHeld (by decide)
    clear hst hkp
    refine hK1.out _ _ hHeld (fun hHeld => ?_)
    clear hK1 K1
    try simp only [Act.put, List.getElem_toArray, List.getElem_cons_succ, List.getElem_cons_zero, List.setIfInBounds_toArray, List.set_cons_zero, List.set_cons_succ]
    refine wpAnyH_take (i := 18) (v := .bool true) rfl (by kernel_rfl) (by kernel_rfl) (by kernel_rfl) (fun _ _ _ h => h) (Or.inl ⟨by rfl, fun w' hSw => by go_simp⟩) hHeld ?_
    try simp only [Act.put, List.getElem_toArray, List.getElem_cons_succ, List.getElem_cons_zero, List.setIfInBounds_toArray, List.set_cons_zero, List.set_cons_succ]
    refine wpAnyH_take (i := 19) (v := .bool true) rfl (by kernel_rfl) (by kernel_rfl) (by kernel_rfl) (fun _ _ _ h => h) (Or.inl ⟨by rfl, fun w' hSw => by go_simp⟩) hHeld ?_
    try simp only [Act.put, List.getElem_toArray, List.getElem_cons_succ, List.getElem_cons_zero, List.setIfInBounds_toArray, List.set_cons_zero, List.set_cons_succ]
    refine wpAnyH_done (by kernel_rfl) ?_ _
    clear hHeld
    have HP9 := Lib.hid HP
    have HQ9 := Lib.hid HQ
    clear HP HQ
    go_wp2_with fail
    go_ret
    exact ⟨rfl, _, _, HP9.out, HQ9.out⟩
end Go.Proofs.YtjeooegkfjlejaaDoor
