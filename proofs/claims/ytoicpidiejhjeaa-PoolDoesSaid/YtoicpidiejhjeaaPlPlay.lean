/- play: all that comes, as a sequencer does it. -/
import Derived.Test.YtoicpidiejhjeaaPlPy
namespace Go.Proofs.Ytoicpidiejhjeaa
open Go.RowKit
set_option linter.unusedVariables false
set_option linter.unusedSimpArgs false
set_option maxRecDepth 100000

theorem next36 {w : World} {gN gX : Nat} {N : List Int} (hx : Row w gX 23 [.slice (some ⟨gN, 0, none⟩) 64 64]) (hn : Row w gN 3 (Is N)) (hl : N.length = 64) : NextFn w 36 (.pointer (some ⟨gX, 0, none⟩)) (Pl.nxf N) :=
  next_of 36 hx hn hl (enters_of Try.func36 (by kernel_rfl) rfl) (fun W i z hi c1 c2 => by
    have hi1 : (i : Int) < 64 := by omega
    have hi0 : (0 : Int) ≤ (i : Int) := by omega
    clear hx hn hl
    go_enter Try.func36, Try.ntmps36
    go_wp2_with fail
    go_ret
    exact ⟨rfl, rfl⟩)
theorem next16 {w : World} {gN gX : Nat} {N : List Int} (hx : Row w gX 23 [.slice (some ⟨gN, 0, none⟩) 64 64]) (hn : Row w gN 3 (Is N)) (hl : N.length = 64) : NextFn w 16 (.pointer (some ⟨gX, 0, none⟩)) (Pl.nxf N) :=
  next_of 16 hx hn hl (enters_of Try.func16 (by kernel_rfl) rfl) (fun W i z hi c1 c2 => by
    have hi1 : (i : Int) < 64 := by omega
    have hi0 : (0 : Int) ≤ (i : Int) := by omega
    clear hx hn hl
    go_enter Try.func16, Try.ntmps16
    go_wp2_with fail
    go_ret
    exact ⟨rfl, rfl⟩)
theorem next22 {w : World} {gN gX : Nat} {N : List Int} (hx : Row w gX 23 [.slice (some ⟨gN, 0, none⟩) 64 64]) (hn : Row w gN 3 (Is N)) (hl : N.length = 64) : NextFn w 22 (.pointer (some ⟨gX, 0, none⟩)) (Pl.nxf N) :=
  next_of 22 hx hn hl (enters_of Try.func22 (by kernel_rfl) rfl) (fun W i z hi c1 c2 => by
    have hi1 : (i : Int) < 64 := by omega
    have hi0 : (0 : Int) ≤ (i : Int) := by omega
    clear hx hn hl
    go_enter Try.func22, Try.ntmps22
    go_wp2_with fail
    go_ret
    exact ⟨rfl, rfl⟩)
theorem Pl.dr_gone (s : Pl.St) (k : Nat) : (Pl.dr s k).gone = s.gone := by
  induction k with
  | zero => rfl
  | succ k ih => unfold Pl.dr; rw [Pl.one_gone, ih]
/-- the cells of what comes -/
theorem come_cells {W : World} {g o : Nat} {x : Come18} (hx : x.Fits) (h : W.rangeAt g o x.cells) : W.cell? ⟨g, o, none⟩ = some (.bool x.tick) ∧ W.rangeAt g (o + 1) x.tx.cells ∧ W.cell? ⟨g, o + 73, none⟩ = some (.int .u8 x.delay) ∧ W.cell? ⟨g, o + 74, none⟩ = some (.int .u8 x.stay) := by
  have e : x.cells = .bool x.tick :: (x.tx.cells ++ [.int .u8 x.delay, .int .u8 x.stay]) := rfl
  have hl := Tx.cells_length hx.tx
  have at_ : ∀ j, x.cells[j + 1]? = (x.tx.cells ++ [Value.int .u8 x.delay, .int .u8 x.stay])[j]? := fun j => by rw [e]; rfl
  refine ⟨h 0 _ (by rw [e]; rfl), fun j v hv => ?_, h 73 _ ?_, h 74 _ ?_⟩
  · have := h (j + 1) v (by rw [at_, List.getElem?_append_left (List.getElem?_eq_some_iff.1 hv).1]; exact hv)
    rw [show o + 1 + j = o + (j + 1) by omega]
    exact this
  · rw [at_ 72, List.getElem?_append_right (by omega), hl]; rfl
  · rw [at_ 73, List.getElem?_append_right (by omega), hl]; rfl
theorem results_tmp4 {fn : Func} {t u v s : Tmp} (h : fn.results = #[.tmp t, .tmp u, .tmp v, .tmp s]) (tmps : Array Value) (P : Program) (w : World) :
    (results fn tmps).run P w = .ok (.tuple #[tmps.getD t undef, tmps.getD u undef, tmps.getD v undef, tmps.getD s undef]) w := by
  simp [results, h]
/-- what play ends with -/
def PlayEnd (w w' : World) (size : Nat) (l : List Come18) (e : Ending) : Prop := ∃ uo ug B base, e = .returned (.tuple #[uo, ug, .pointer (some ⟨B, 0, none⟩), .int .i64 (Pl.runs size l (min l.length 120)).put]) ∧
  PyE w w' base B size (Pl.runs size l (min l.length 120)).l uo (Pl.runs size l (min l.length 120)).out ug (Pl.runs size l (min l.length 120)).gone []
set_option maxHeartbeats 12800000 in
theorem play18_any (size : Nat) (h0 : 0 < size) (h1 : size ≤ 256) (l : List Come18) (A : Option Addr) (c : Nat) (w : World) (hin : Come18sAt w w.heap.size A l) :
    Calls Try.prog 20 #[.int .i64 size, .slice A l.length c] w fun e w' => PlayEnd w w' size l e := by
  have NW := Lib.hid (poolNew_ok size h0 h1 w)
  have HInv := Lib.hid (Pl.runs_inv h0 l hin.2.2.1)
  have HS0 : Hid (Pl.runs size l 0 = Pl.init) := Lib.hid rfl
  have HSs : Hid (∀ k, Pl.runs size l (k + 1) = Pl.step size l.length (l.getD k Pl.cz) k (Pl.runs size l k)) := Lib.hid (fun k => rfl)
  have HIn := Lib.hid hin
  have hmz := make_zeros18
  have HZ76 := Lib.hid (Wt.cells_len Wt.none_ok)
  have HZ1 := Lib.hid (Wt.cells_one Wt.none_ok)
  have hzv := wait_zv
  have Hp0 := Lib.hid h0
  have Hp1 := Lib.hid h1
  obtain ⟨n, hn⟩ : ∃ n, n = l.length := ⟨_, rfl⟩
  have hn1 : n ≤ 9223372036854775807 := by rw [hn]; exact hin.2.2.2
  have HPE : Hid (∀ w' e, PlayEnd w w' size l e ↔ ∃ uo ug B base, e = .returned (.tuple #[uo, ug, .pointer (some ⟨B, 0, none⟩), .int .i64 (Pl.runs size l (min n 120)).put]) ∧ PyE w w' base B size (Pl.runs size l (min n 120)).l uo (Pl.runs size l (min n 120)).out ug (Pl.runs size l (min n 120)).gone []) := Lib.hid (fun w' e => by rw [hn]; exact Iff.rfl)
  rw [← hn] at HSs HInv ⊢
  have HN := Lib.hid hn
  generalize Pl.runs size l = S at *
  obtain ⟨ZT, hZT⟩ : ∃ ZT, Wt.none.cells = ZT := ⟨_, rfl⟩
  rw [hZT] at HZ76 HZ1 hzv
  have HZT := Lib.hid hZT
  obtain ⟨Z64, hZ64⟩ : ∃ Z64, Is (List.replicate 64 0) = Z64 := ⟨_, rfl⟩
  rw [hZ64] at hmz
  have HZ64 := Lib.hid hZ64
  clear hin hn h0 h1 hZT hZ64
  go_enter Try.func20, Try.ntmps20
  go_wp2_with fail
  refine NW.out.mono ?_
  rintro _ w1 ⟨rfl, hp1, hb1⟩
  obtain ⟨B, hB⟩ : ∃ B, w.heap.size = B := ⟨_, rfl⟩
  have hpy : PyE w w1 B B size [] (.slice none 0 0) [] (.slice none 0 0) [] [] := by
    rw [← hB]
    exact ⟨_, ⟨hb1, Nat.le_refl _, hp1, OwnL.nil _ _ _ _ _, OwnL.nil _ _ _ _ _, by simp, by simp, fun k hk => ⟨fun e => (by cases e), fun e => (by cases e)⟩, fun k e => (by cases e)⟩⟩
  have HPz := Lib.hid ((hpy.alloc Z64 3).alloc [.slice none 0 0] 23)
  rw [show (w1.alloc (.cells Z64.toArray 3)).heap.size = w1.heap.size + 1 by simp] at HPz
  rw [hB]
  clear hp1 hb1 hpy NW hB
  go_wp2_with (first
  | ((with_reducible show wpList _ _ _ (⟨_, .store 23 (.tmp 12) _, _, _, _, _⟩ :: _) _ _)
     refine wpList_store_sl rfl 23 (.tmp 12) (.tmp 33) rfl (w1.heap.size + 1) 0 23 [.slice none 0 0] (some ⟨w1.heap.size, 0, none⟩) 64 64 rfl rfl (HPz.out.row (x := (w1.heap.size + 1, 23, [.slice none 0 0])) (by simp)) (by simp) rfl ?_
     intro w2 hr hg
     have HP2 := Lib.hid (HPz.out.write (rows' := [(w1.heap.size, 3, Z64), (w1.heap.size + 1, 23, [.slice (some ⟨w1.heap.size, 0, none⟩) 64 64])]) hg hr ⟨_, _, List.mem_cons_self⟩ (by
       intro x hx
       simp only [List.mem_cons, List.not_mem_nil, or_false] at hx
       rcases hx with rfl | rfl
       · exact .inr ⟨by simp, by simp⟩
       · exact .inl rfl))
     clear hr hg))
  clear HPz hmz
  obtain ⟨gN, hgN⟩ : ∃ gN, w1.heap.size = gN := ⟨_, rfl⟩
  obtain ⟨gX, hgX⟩ : ∃ gX, w1.heap.size + 1 = gX := ⟨_, rfl⟩
  rw [hgX, hgN] at HP2 ⊢
  have HNNX : Hid (gN ≠ gX) := Lib.hid (by omega)
  clear hgN hgX
  go_loopw [10, 11, 13, 14, 15] (fun so sg s13 s14 s15 wr => ∃ k : Nat, k ≤ n ∧ k ≤ 120 ∧ s15 = .int .i64 k ∧ s13 = .int .i64 (S k).now ∧ s14 = .int .i64 (S k).put ∧ PyE w wr B B size (S k).l so (S k).out sg (S k).gone [(gN, 3, Is (S k).nx), (gX, 23, [.slice (some ⟨gN, 0, none⟩) 64 64])]) (fun _ _ _ _ i _ => n - (intOf i).toNat)
  case atStart => exact ⟨0, Nat.zero_le _, by decide, rfl, by rw [HS0.out]; rfl, by rw [HS0.out]; rfl, by rw [HS0.out]; show PyE _ _ _ _ _ _ _ _ _ _ [(gN, 3, Is (List.replicate 64 0)), _]; rw [HZ64.out]; exact HP2.out⟩
  case round =>
    obtain ⟨k, hk, hk120, rfl, rfl, rfl, hp⟩ := hrel
    have HP := Lib.hid hp
    clear hp HP2
    obtain ⟨hinv, _⟩ := HInv.out k (by omega) (by have := HN.out; omega)
    by_cases hkn : k < n ∧ k < 120
    · obtain ⟨hk1, hk2⟩ := hkn
      have hinv2 := hinv.dr
      have hlt : k < l.length := by have := HN.out; omega
      have hsk := HSs.out k
      have hdf : ∃ D : Nat → Pl.St, D = Pl.dr (S k) := ⟨_, rfl⟩
      obtain ⟨D, hD⟩ := hdf
      rw [← hD] at hinv2
      have HDi := Lib.hid hinv2
      have HDf : Hid (Pl.dr (S k) = D) := Lib.hid hD.symm
      have HD0 : Hid (D 0 = S k) := Lib.hid (by rw [hD]; rfl)
      have HDs : Hid (∀ j, D (j + 1) = Pl.one (D j)) := Lib.hid (fun j => by rw [hD]; rfl)
      have HDn : Hid (∀ j, (D j).now = (S k).now) := Lib.hid (fun j => by rw [hD]; exact Pl.dr_now _ _)
      have HDg : Hid (∀ j, (D j).gone = (S k).gone) := Lib.hid (fun j => by rw [hD]; exact Pl.dr_gone _ _)
      have HDp : Hid (∀ j, (D j).put = (S k).put) := Lib.hid (fun j => by rw [hD]; exact Pl.dr_put _ _)
      have HDst : Hid (∀ j, Pl.best (D j).l (D j).now (Pl.nxf (D j).nx) (D j).l.length = none → ∀ m, j ≤ m → D m = D j) := Lib.hid (fun j hj m hm => by rw [hD] at hj ⊢; exact Pl.dr_stop _ _ hj m hm)
      clear hinv2 hD
      obtain ⟨x, hx⟩ : ∃ x, l.getD k Pl.cz = x := ⟨_, rfl⟩
      rw [hx] at hsk
      have HSk := Lib.hid hsk
      have hxl : l[k] = x := by rw [← hx, List.getD_eq_getElem?_getD, List.getElem?_eq_getElem hlt]; rfl
      have hxf : x.Fits := by rw [← hxl]; exact HIn.out.2.2.1 _ (List.getElem_mem hlt)
      obtain ⟨ga, off, rfl, hgB, hcs⟩ := HIn.out.1 (by intro hl; rw [hl] at hlt; exact absurd hlt (by simp))
      have hrg := hcs k hlt
      rw [hxl] at hrg
      obtain ⟨CT, hCT⟩ : ∃ CT, x.tx.cells = CT := ⟨_, rfl⟩
      obtain ⟨dl, hdl⟩ : ∃ dl, x.delay = dl := ⟨_, rfl⟩
      obtain ⟨st, hst0⟩ : ∃ st, x.stay = st := ⟨_, rfl⟩
      have hcm : ∀ W, Below w.heap.size w W → W.cell? ⟨ga, off + k * 75, none⟩ = some (.bool x.tick) ∧ W.rangeAt ga (off + k * 75 + 1) CT ∧ W.cell? ⟨ga, off + k * 75 + 73, none⟩ = some (.int .u8 dl) ∧ W.cell? ⟨ga, off + k * 75 + 74, none⟩ = some (.int .u8 st) := fun W hW => by
        rw [← hCT, ← hdl, ← hst0]
        exact come_cells hxf (fun j v hv => by rw [← hrg j v hv]; exact hW.cell (p := ⟨ga, off + k * 75 + j, none⟩) hgB)
      have HCm := Lib.hid hcm
      have HCTe := Lib.hid hCT
      have HDl := Lib.hid hdl
      have HSt := Lib.hid hst0
      have HU8 : Hid (0 ≤ dl ∧ dl ≤ 255 ∧ 0 ≤ st ∧ st ≤ 255) := Lib.hid (by have := hxf.delay; have := hxf.stay; omega)
      have HT72 : Hid (CT.length = 72) := Lib.hid (by rw [← hCT]; exact Tx.cells_length hxf.tx)
      have hki : (k : Int) < (n : Int) := by omega
      have hk0 : (0 : Int) ≤ (k : Int) := by omega
      have hk5 : (k : Int) < 120 := by omega
      have hsn := hinv.now
      have hsp := hinv.put
      have hslen := hinv.ok.len
      have hssum := hinv.sum
      have hp256 := Hp1.out
      obtain ⟨so, hso⟩ : ∃ v, v = u10 := ⟨_, rfl⟩
      subst hso
      obtain ⟨sg, hsg⟩ : ∃ v, v = u11 := ⟨_, rfl⟩
      subst hsg
      clear hsk hx hxl hlt hcs hrg hCT hdl hst0 hcm hgB HS0
      generalize S k = s at *
      obtain ⟨sl, snx, sout, sgone, snow, sput⟩ := s
      simp only at HP HSk HDf HD0 HDn HDg HDp hsn hsp hslen hssum ⊢
      have hs5 : sl.length ≤ 256 ∧ sout.length ≤ 120 ∧ sgone.length ≤ 120 := by omega
      clear hslen hssum hp256
      have hsn5 : (snow : Int) ≤ 120 := by omega
      have hsp5 : (sput : Int) ≤ 120 := by omega
      cases htk : x.tick with
      | false =>
        clear HDi HDf HD0 HDs HDn HDg HDp HDst
        have hwok : (Pl.wt x k snow).Ok := by
          refine ⟨hxf.tx, ?_, ?_, ?_, ?_⟩ <;> (have := hxf.delay; have := hxf.stay; unfold Pl.wt Tx.fits; simp only; omega)
        have hBu := wait_built5 (Pl.wt x k snow) hwok
        have hI : Pl.putE size sl (Pl.wt x k snow) = 0 → InsOk (if Pl.full size sl = true then sl.eraseIdx (Pl.poor sl sl.length) else sl) (Pl.wt x k snow) := fun _ => by
          refine insOk_last _ _ hwok ?_ (Pl.pos_last (fun y hy => ?_))
          · split
            · rw [List.length_eraseIdx]; split <;> omega
            · omega
          · refine hinv.ix y ?_
            split at hy
            · exact List.mem_of_mem_eraseIdx hy
            · exact hy
        have PUTC := Lib.hid (fun W rows (h : PyE w W B B size sl so sout sg sgone rows) => h.put (Pl.wt x k snow) hwok hI)
        have hGo : (Pl.putG size sl (Pl.wt x k snow)).Ok := by
          unfold Pl.putG
          split
          · rename_i q
            have hlt : Pl.poor sl sl.length < sl.length := Pl.poor_lt _ _ (by have h0 := Hp0.out; have := q.2; unfold Pl.full at this; simp at this; omega)
            rw [Pl.g_eq hlt]
            exact (hinv.ok.may _ (List.getElem_mem hlt)).1
          · exact Wt.none_ok
        have HE0 : Hid (S (k + 1) = Pl.putS size (Pl.wt x k snow) ⟨sl, snx, sout, sgone, snow, sput⟩) := Lib.hid (by rw [HSk.out]; unfold Pl.step; rw [if_neg (by rw [htk]; decide)])
        have hfe : Pl.putF size sl (Pl.wt x k snow) = true → Pl.putE size sl (Pl.wt x k snow) = 0 := fun q => by unfold Pl.putF at q; simp at q; exact q.1
        unfold Pl.putS at HE0
        simp only at HE0
        have hWc : (Pl.wt x k snow).tx = x.tx ∧ (Pl.wt x k snow).ix = k ∧ (Pl.wt x k snow).place = k ∧ (Pl.wt x k snow).at_ = snow + x.delay ∧ (Pl.wt x k snow).till = snow + x.stay := ⟨rfl, rfl, rfl, rfl, rfl⟩
        rw [hWc.1, hWc.2.1, hWc.2.2.1, hWc.2.2.2.1, hWc.2.2.2.2, HCTe.out, HDl.out, HSt.out] at hBu
        have HLg : Hid (sgone.length ≤ 100000) := Lib.hid (by omega)
        have ewd : IntKind.i64.wrap dl = dl := IntWalk.i64_in _ (by have := HU8.out; omega)
        have ews : IntKind.i64.wrap st = st := IntWalk.i64_in _ (by have := HU8.out; omega)
        have ewd2 : IntKind.i64.wrap ((snow : Int) + dl) = (snow : Int) + dl := IntWalk.i64_in _ (by have := HU8.out; omega)
        have ews2 : IntKind.i64.wrap ((snow : Int) + st) = (snow : Int) + st := IntWalk.i64_in _ (by have := HU8.out; omega)
        clear hI hwok hWc
        generalize Pl.putE size sl (Pl.wt x k snow) = ee at *
        generalize Pl.putF size sl (Pl.wt x k snow) = fl at *
        generalize Pl.put size sl (Pl.wt x k snow) = L2 at *
        obtain ⟨CW, hCW⟩ : ∃ CW, (Pl.wt x k snow).cells = CW := ⟨_, rfl⟩
        rw [hCW] at hBu PUTC
        have HBu := Lib.hid hBu
        obtain ⟨G, hG⟩ : ∃ G, Pl.putG size sl (Pl.wt x k snow) = G := ⟨_, rfl⟩
        rw [hG] at PUTC hGo HE0
        have HGo := Lib.hid hGo
        have HG76 := Lib.hid (Wt.cells_len hGo)
        have HG1 := Lib.hid (Wt.cells_one hGo)
        obtain ⟨CG, hCG⟩ : ∃ CG, G.cells = CG := ⟨_, rfl⟩
        rw [hCG] at PUTC HG76 HG1
        have HCG := Lib.hid hCG
        have ctk := (HCm.out _ HP.out.low).1
        rw [htk] at ctk
        clear hBu hCW hG hGo hCG hinv hxf
        by_cases he : ee = 0
        rotate_left
        · have hee : (ee == 0) = false := by simpa using he
          have hfl : fl = false := by
            cases fl with
            | false => rfl
            | true => exact absurd (hfe rfl) he
          subst hfl
          have hE := HE0.out
          rw [if_neg he, if_neg (by decide)] at hE
          have HE := Lib.hid hE
          clear hE he hfe HE0
          go_wp2_with fail
          clear ctk
          have hT := HP.out.below (Below.refl _ _).drew
          refine wp_region_noPanic ?_
          refine wp_region_held_drew (S := fun w' => Below w.heap.size w w') (by kernel_rfl) (HP.out.low.drew) (fun hHeld => ?_)
          generalize wr.drew = wq at *
          refine wpAnyH_take (i := 0) (v := .pointer (some ⟨B, 0, none⟩)) rfl (by kernel_rfl) (by kernel_rfl) (by kernel_rfl) (fun _ _ _ h => h) (Or.inl ⟨by rfl, fun w' hSw => by go_simp⟩) hHeld ?_
          try simp only [Act.put, List.getElem_toArray, List.getElem_cons_succ, List.getElem_cons_zero, List.setIfInBounds_toArray, List.set_cons_zero, List.set_cons_succ]
          refine wpAnyH_take (i := 1) (v := .slice (some ⟨ga, off, none⟩) n c) rfl (by kernel_rfl) (by kernel_rfl) (by kernel_rfl) (fun _ _ _ h => h) (Or.inl ⟨by rfl, fun w' hSw => by go_simp⟩) hHeld ?_
          try simp only [Act.put, List.getElem_toArray, List.getElem_cons_succ, List.getElem_cons_zero, List.setIfInBounds_toArray, List.set_cons_zero, List.set_cons_succ]
          refine wpAnyH_take (i := 2) (v := .int .i64 k) rfl (by kernel_rfl) (by kernel_rfl) (by kernel_rfl) (fun _ _ _ h => h) (Or.inl ⟨by rfl, fun w' hSw => by go_simp⟩) hHeld ?_
          try simp only [Act.put, List.getElem_toArray, List.getElem_cons_succ, List.getElem_cons_zero, List.setIfInBounds_toArray, List.set_cons_zero, List.set_cons_succ]
          refine wpAnyH_take (i := 3) (v := .pointer (some ⟨ga, (off + k * 75), none⟩)) rfl (by kernel_rfl) (by kernel_rfl) (by kernel_rfl) (fun _ _ _ h => h) (Or.inl ⟨by rfl, fun w' hSw => by go_simp⟩) hHeld ?_
          try simp only [Act.put, List.getElem_toArray, List.getElem_cons_succ, List.getElem_cons_zero, List.setIfInBounds_toArray, List.set_cons_zero, List.set_cons_succ]
          refine wpAnyH_take (i := 4) (v := .pointer (some ⟨ga, (off + k * 75 + 1), none⟩)) rfl (by kernel_rfl) (by kernel_rfl) (by kernel_rfl) (fun _ _ _ h => h) (Or.inl ⟨by rfl, fun w' hSw => by go_simp⟩) hHeld ?_
          try simp only [Act.put, List.getElem_toArray, List.getElem_cons_succ, List.getElem_cons_zero, List.setIfInBounds_toArray, List.set_cons_zero, List.set_cons_succ]
          refine' wpAnyH_take (i := 5) (v := _) rfl (by kernel_rfl) (by kernel_rfl) (by kernel_rfl) (fun _ _ _ h => h) (yieldsIf_load_mid (by rfl) _ _ rfl ga (off + k * 75 + 1) rfl CT _ (fun w' hSw => HCm.out _ hSw |>.2.1) Try.underlying36 rfl (by rw [tx_info, HT72.out])) hHeld ?_
          try simp only [Act.put, List.getElem_toArray, List.getElem_cons_succ, List.getElem_cons_zero, List.setIfInBounds_toArray, List.set_cons_zero, List.set_cons_succ]
          refine wpAnyH_take (i := 6) (v := .int .i64 k) rfl (by kernel_rfl) (by kernel_rfl) (by kernel_rfl) (fun _ _ _ h => h) (Or.inl ⟨by rfl, fun w' hSw => by go_simp⟩) hHeld ?_
          try simp only [Act.put, List.getElem_toArray, List.getElem_cons_succ, List.getElem_cons_zero, List.setIfInBounds_toArray, List.set_cons_zero, List.set_cons_succ]
          refine wpAnyH_take (i := 7) (v := .int .i64 k) rfl (by kernel_rfl) (by kernel_rfl) (by kernel_rfl) (fun _ _ _ h => h) (Or.inl ⟨by rfl, fun w' hSw => by go_simp⟩) hHeld ?_
          try simp only [Act.put, List.getElem_toArray, List.getElem_cons_succ, List.getElem_cons_zero, List.setIfInBounds_toArray, List.set_cons_zero, List.set_cons_succ]
          refine wpAnyH_take (i := 8) (v := .int .i64 snow) rfl (by kernel_rfl) (by kernel_rfl) (by kernel_rfl) (fun _ _ _ h => h) (Or.inl ⟨by rfl, fun w' hSw => by go_simp⟩) hHeld ?_
          try simp only [Act.put, List.getElem_toArray, List.getElem_cons_succ, List.getElem_cons_zero, List.setIfInBounds_toArray, List.set_cons_zero, List.set_cons_succ]
          refine wpAnyH_take (i := 9) (v := .slice (some ⟨ga, off, none⟩) n c) rfl (by kernel_rfl) (by kernel_rfl) (by kernel_rfl) (fun _ _ _ h => h) (Or.inl ⟨by rfl, fun w' hSw => by go_simp⟩) hHeld ?_
          try simp only [Act.put, List.getElem_toArray, List.getElem_cons_succ, List.getElem_cons_zero, List.setIfInBounds_toArray, List.set_cons_zero, List.set_cons_succ]
          refine wpAnyH_take (i := 10) (v := .int .i64 k) rfl (by kernel_rfl) (by kernel_rfl) (by kernel_rfl) (fun _ _ _ h => h) (Or.inl ⟨by rfl, fun w' hSw => by go_simp⟩) hHeld ?_
          try simp only [Act.put, List.getElem_toArray, List.getElem_cons_succ, List.getElem_cons_zero, List.setIfInBounds_toArray, List.set_cons_zero, List.set_cons_succ]
          refine wpAnyH_take (i := 11) (v := .pointer (some ⟨ga, (off + k * 75), none⟩)) rfl (by kernel_rfl) (by kernel_rfl) (by kernel_rfl) (fun _ _ _ h => h) (Or.inl ⟨by rfl, fun w' hSw => by go_simp⟩) hHeld ?_
          try simp only [Act.put, List.getElem_toArray, List.getElem_cons_succ, List.getElem_cons_zero, List.setIfInBounds_toArray, List.set_cons_zero, List.set_cons_succ]
          refine wpAnyH_take (i := 12) (v := .pointer (some ⟨ga, (off + k * 75 + 73), none⟩)) rfl (by kernel_rfl) (by kernel_rfl) (by kernel_rfl) (fun _ _ _ h => h) (Or.inl ⟨by rfl, fun w' hSw => by go_simp⟩) hHeld ?_
          try simp only [Act.put, List.getElem_toArray, List.getElem_cons_succ, List.getElem_cons_zero, List.setIfInBounds_toArray, List.set_cons_zero, List.set_cons_succ]
          refine wpAnyH_take (i := 13) (v := .int .u8 dl) rfl (by kernel_rfl) (by kernel_rfl) (by kernel_rfl) (fun _ _ _ h => h) (Or.inl ⟨by rfl, fun w' hSw => by have hq := hSw; have hd := (HCm.out _ hq).2.2.1; go_simp⟩) hHeld ?_
          try simp only [Act.put, List.getElem_toArray, List.getElem_cons_succ, List.getElem_cons_zero, List.setIfInBounds_toArray, List.set_cons_zero, List.set_cons_succ]
          refine wpAnyH_take (i := 14) (v := .int .i64 dl) rfl (by kernel_rfl) (by kernel_rfl) (by kernel_rfl) (fun _ _ _ h => h) (Or.inl ⟨by rfl, fun w' hSw => by go_simp⟩) hHeld ?_
          try simp only [Act.put, List.getElem_toArray, List.getElem_cons_succ, List.getElem_cons_zero, List.setIfInBounds_toArray, List.set_cons_zero, List.set_cons_succ]
          refine wpAnyH_take (i := 15) (v := .int .i64 (snow + dl)) rfl (by kernel_rfl) (by kernel_rfl) (by kernel_rfl) (fun _ _ _ h => h) (Or.inl ⟨by rfl, fun w' hSw => by go_simp⟩) hHeld ?_
          try simp only [Act.put, List.getElem_toArray, List.getElem_cons_succ, List.getElem_cons_zero, List.setIfInBounds_toArray, List.set_cons_zero, List.set_cons_succ]
          refine wpAnyH_take (i := 16) (v := .int .i64 snow) rfl (by kernel_rfl) (by kernel_rfl) (by kernel_rfl) (fun _ _ _ h => h) (Or.inl ⟨by rfl, fun w' hSw => by go_simp⟩) hHeld ?_
          try simp only [Act.put, List.getElem_toArray, List.getElem_cons_succ, List.getElem_cons_zero, List.setIfInBounds_toArray, List.set_cons_zero, List.set_cons_succ]
          refine wpAnyH_take (i := 17) (v := .slice (some ⟨ga, off, none⟩) n c) rfl (by kernel_rfl) (by kernel_rfl) (by kernel_rfl) (fun _ _ _ h => h) (Or.inl ⟨by rfl, fun w' hSw => by go_simp⟩) hHeld ?_
          try simp only [Act.put, List.getElem_toArray, List.getElem_cons_succ, List.getElem_cons_zero, List.setIfInBounds_toArray, List.set_cons_zero, List.set_cons_succ]
          refine wpAnyH_take (i := 18) (v := .int .i64 k) rfl (by kernel_rfl) (by kernel_rfl) (by kernel_rfl) (fun _ _ _ h => h) (Or.inl ⟨by rfl, fun w' hSw => by go_simp⟩) hHeld ?_
          try simp only [Act.put, List.getElem_toArray, List.getElem_cons_succ, List.getElem_cons_zero, List.setIfInBounds_toArray, List.set_cons_zero, List.set_cons_succ]
          refine wpAnyH_take (i := 19) (v := .pointer (some ⟨ga, (off + k * 75), none⟩)) rfl (by kernel_rfl) (by kernel_rfl) (by kernel_rfl) (fun _ _ _ h => h) (Or.inl ⟨by rfl, fun w' hSw => by go_simp⟩) hHeld ?_
          try simp only [Act.put, List.getElem_toArray, List.getElem_cons_succ, List.getElem_cons_zero, List.setIfInBounds_toArray, List.set_cons_zero, List.set_cons_succ]
          refine wpAnyH_take (i := 20) (v := .pointer (some ⟨ga, (off + k * 75 + 74), none⟩)) rfl (by kernel_rfl) (by kernel_rfl) (by kernel_rfl) (fun _ _ _ h => h) (Or.inl ⟨by rfl, fun w' hSw => by go_simp⟩) hHeld ?_
          try simp only [Act.put, List.getElem_toArray, List.getElem_cons_succ, List.getElem_cons_zero, List.setIfInBounds_toArray, List.set_cons_zero, List.set_cons_succ]
          refine wpAnyH_take (i := 21) (v := .int .u8 st) rfl (by kernel_rfl) (by kernel_rfl) (by kernel_rfl) (fun _ _ _ h => h) (Or.inl ⟨by rfl, fun w' hSw => by have hq := hSw; have hd := (HCm.out _ hq).2.2.2; go_simp⟩) hHeld ?_
          try simp only [Act.put, List.getElem_toArray, List.getElem_cons_succ, List.getElem_cons_zero, List.setIfInBounds_toArray, List.set_cons_zero, List.set_cons_succ]
          refine wpAnyH_take (i := 22) (v := .int .i64 st) rfl (by kernel_rfl) (by kernel_rfl) (by kernel_rfl) (fun _ _ _ h => h) (Or.inl ⟨by rfl, fun w' hSw => by go_simp⟩) hHeld ?_
          try simp only [Act.put, List.getElem_toArray, List.getElem_cons_succ, List.getElem_cons_zero, List.setIfInBounds_toArray, List.set_cons_zero, List.set_cons_succ]
          refine wpAnyH_take (i := 23) (v := .int .i64 (snow + st)) rfl (by kernel_rfl) (by kernel_rfl) (by kernel_rfl) (fun _ _ _ h => h) (Or.inl ⟨by rfl, fun w' hSw => by go_simp⟩) hHeld ?_
          try simp only [Act.put, List.getElem_toArray, List.getElem_cons_succ, List.getElem_cons_zero, List.setIfInBounds_toArray, List.set_cons_zero, List.set_cons_succ]
          refine' wpAnyH_take (i := 24) (v := .agg CW.toArray) rfl (by kernel_rfl) (by kernel_rfl) (by kernel_rfl) (fun _ _ _ h => h) (yieldsIf_buildL (by rfl) 38 [(0, .tmp 56), (1, .tmp 57), (4, .tmp 58), (3, .tmp 66), (2, .tmp 74)] rfl [(0, .agg CT.toArray), (1, .int .i64 k), (4, .int .i64 k), (3, .int .i64 (snow + dl)), (2, .int .i64 (snow + st))] rfl CW.toArray HBu.out) hHeld ?_
          try simp only [Act.put, List.getElem_toArray, List.getElem_cons_succ, List.getElem_cons_zero, List.setIfInBounds_toArray, List.set_cons_zero, List.set_cons_succ]
          refine wpAnyH_ready (rs := [25, 30]) (by kernel_rfl) (by simp) (AllReadyH.cons rfl (fun K1 hK1 => ?_) (AllReadyH.cons rfl (fun K1 hK1 => ?_) AllReadyH.nil))
          · skip
            try simp only [Act.put, List.getElem_toArray, List.getElem_cons_succ, List.getElem_cons_zero, List.setIfInBounds_toArray, List.set_cons_zero, List.set_cons_succ]
            go_simp
            refine Calls.mono (PUTC.out _ _ hT) ?_
            clear hT
            rintro e wp1 ⟨rfl, hT⟩
            refine hK1.out _ _ (hT.low) (fun hHeld => ?_)
            clear hK1 K1
            try simp only [Act.put, List.getElem_toArray, List.getElem_cons_succ, List.getElem_cons_zero, List.setIfInBounds_toArray, List.set_cons_zero, List.set_cons_succ]
            refine wpAnyH_take (i := 26) (v := .tuple #[.agg CG.toArray, .bool false, .int .i64 ee]) rfl (by kernel_rfl) (by kernel_rfl) (by kernel_rfl) (fun _ _ _ h => h) (Or.inl ⟨by rfl, fun w' hSw => by go_simp⟩) hHeld ?_
            try simp only [Act.put, List.getElem_toArray, List.getElem_cons_succ, List.getElem_cons_zero, List.setIfInBounds_toArray, List.set_cons_zero, List.set_cons_succ]
            refine wpAnyH_take (i := 27) (v := .agg CG.toArray) rfl (by kernel_rfl) (by kernel_rfl) (by kernel_rfl) (fun _ _ _ h => h) (Or.inl ⟨by rfl, fun w' hSw => by go_simp⟩) hHeld ?_
            try simp only [Act.put, List.getElem_toArray, List.getElem_cons_succ, List.getElem_cons_zero, List.setIfInBounds_toArray, List.set_cons_zero, List.set_cons_succ]
            refine wpAnyH_take (i := 28) (v := .bool false) rfl (by kernel_rfl) (by kernel_rfl) (by kernel_rfl) (fun _ _ _ h => h) (Or.inl ⟨by rfl, fun w' hSw => by go_simp⟩) hHeld ?_
            try simp only [Act.put, List.getElem_toArray, List.getElem_cons_succ, List.getElem_cons_zero, List.setIfInBounds_toArray, List.set_cons_zero, List.set_cons_succ]
            refine wpAnyH_take (i := 29) (v := .int .i64 ee) rfl (by kernel_rfl) (by kernel_rfl) (by kernel_rfl) (fun _ _ _ h => h) (Or.inl ⟨by rfl, fun w' hSw => by go_simp⟩) hHeld ?_
            try simp only [Act.put, List.getElem_toArray, List.getElem_cons_succ, List.getElem_cons_zero, List.setIfInBounds_toArray, List.set_cons_zero, List.set_cons_succ]
            refine wpAnyH_ready (rs := [30]) (by kernel_rfl) (by simp) (AllReadyH.cons rfl (fun K1 hK1 => ?_) AllReadyH.nil)
            try simp only [Act.put, List.getElem_toArray, List.getElem_cons_succ, List.getElem_cons_zero, List.setIfInBounds_toArray, List.set_cons_zero, List.set_cons_succ]
            go_simp
            have hne16 : wp1.heap.size ≠ gN ∧ wp1.heap.size ≠ gX := ⟨Nat.ne_of_gt (hT.apart (x := (gN, 3, Is snx)) (by simp)).2, Nat.ne_of_gt (hT.apart (x := (gX, 23, [.slice (some ⟨gN, 0, none⟩) 64 64])) (by simp)).2⟩
            replace hT := hT.alloc ZT 38
            have hHeld2 := hT.low
            generalize wp1.alloc (.cells ZT.toArray 38) = wa2 at *
            generalize wp1.heap.size = g16 at *
            refine hK1.out _ _ (hHeld2) (fun hHeld => ?_)
            clear hK1 K1
            try simp only [Act.put, List.getElem_toArray, List.getElem_cons_succ, List.getElem_cons_zero, List.setIfInBounds_toArray, List.set_cons_zero, List.set_cons_succ]
            clear hHeld2
            refine wpAnyH_ready (rs := [31]) (by kernel_rfl) (by simp) (AllReadyH.cons rfl (fun K1 hK1 => ?_) AllReadyH.nil)
            try simp only [Act.put, List.getElem_toArray, List.getElem_cons_succ, List.getElem_cons_zero, List.setIfInBounds_toArray, List.set_cons_zero, List.set_cons_succ]
            rw [if_pos (by rfl)]
            refine wp_store_at 38 (.tmp 16) (.tmp 77) rfl g16 0 CG ZT _ rfl rfl (hT.row (x := (g16, 38, ZT)) (by simp)) (by have := HZ76.out; have := HG76.out; omega) (by rw [wait_info, HG76.out]) HG1.out ?_
            intro ws3 hrS hgS
            rw [splice_all (HG76.out.trans HZ76.out.symm)] at hrS
            have hT2 := hT.write (rows' := [(g16, 38, CG), (gN, 3, Is snx), (gX, 23, [.slice (some ⟨gN, 0, none⟩) 64 64])]) hgS hrS ⟨_, _, List.mem_cons_self⟩ (by
              intro x hx
              simp only [List.mem_cons, List.not_mem_nil, or_false] at hx
              rcases hx with rfl | rfl | rfl
              · exact .inl rfl
              · exact .inr ⟨by simp, hne16.1.symm⟩
              · exact .inr ⟨by simp, hne16.2.symm⟩)
            clear hT hrS hgS
            have hT := hT2
            clear hT2
            refine hK1.out _ _ (hT.low) (fun hHeld => ?_)
            clear hK1 K1
            try simp only [Act.put, List.getElem_toArray, List.getElem_cons_succ, List.getElem_cons_zero, List.setIfInBounds_toArray, List.set_cons_zero, List.set_cons_succ]
            refine wpAnyH_take (i := 32) (v := .bool false) rfl (by kernel_rfl) (by kernel_rfl) (by kernel_rfl) (fun _ _ _ h => h) (Or.inl ⟨by rfl, fun w' hSw => by go_simp⟩) hHeld ?_
            try simp only [Act.put, List.getElem_toArray, List.getElem_cons_succ, List.getElem_cons_zero, List.setIfInBounds_toArray, List.set_cons_zero, List.set_cons_succ]
            refine wpAnyH_take (i := 33) (v := .int .i64 ee) rfl (by kernel_rfl) (by kernel_rfl) (by kernel_rfl) (fun _ _ _ h => h) (Or.inl ⟨by rfl, fun w' hSw => by go_simp⟩) hHeld ?_
            try simp only [Act.put, List.getElem_toArray, List.getElem_cons_succ, List.getElem_cons_zero, List.setIfInBounds_toArray, List.set_cons_zero, List.set_cons_succ]
            refine wpAnyH_done (by kernel_rfl) ?_ _
            refine NoPanic.normal ?_
            have HT := Lib.hid hT
            clear hT hHeld
            go_wp2_with fail
            exact ⟨⟨k + 1, by omega, by omega, by go_num, by rw [HE.out], by rw [HE.out], by rw [HE.out]; exact HT.out.sub (fun x hx => List.mem_cons_of_mem _ hx)⟩, by simp [intOf]; omega⟩
          · skip
            try simp only [Act.put, List.getElem_toArray, List.getElem_cons_succ, List.getElem_cons_zero, List.setIfInBounds_toArray, List.set_cons_zero, List.set_cons_succ]
            go_simp
            have hne16 : wq.heap.size ≠ gN ∧ wq.heap.size ≠ gX := ⟨Nat.ne_of_gt (hT.apart (x := (gN, 3, Is snx)) (by simp)).2, Nat.ne_of_gt (hT.apart (x := (gX, 23, [.slice (some ⟨gN, 0, none⟩) 64 64])) (by simp)).2⟩
            replace hT := hT.alloc ZT 38
            have hHeld2 := hT.low
            generalize wq.alloc (.cells ZT.toArray 38) = wa4 at *
            generalize wq.heap.size = g16 at *
            refine hK1.out _ _ (hHeld2) (fun hHeld => ?_)
            clear hK1 K1
            try simp only [Act.put, List.getElem_toArray, List.getElem_cons_succ, List.getElem_cons_zero, List.setIfInBounds_toArray, List.set_cons_zero, List.set_cons_succ]
            clear hHeld2
            refine wpAnyH_ready (rs := [25]) (by kernel_rfl) (by simp) (AllReadyH.cons rfl (fun K1 hK1 => ?_) AllReadyH.nil)
            try simp only [Act.put, List.getElem_toArray, List.getElem_cons_succ, List.getElem_cons_zero, List.setIfInBounds_toArray, List.set_cons_zero, List.set_cons_succ]
            go_simp
            refine Calls.mono (PUTC.out _ _ hT) ?_
            clear hT
            rintro e wp5 ⟨rfl, hT⟩
            refine hK1.out _ _ (hT.low) (fun hHeld => ?_)
            clear hK1 K1
            try simp only [Act.put, List.getElem_toArray, List.getElem_cons_succ, List.getElem_cons_zero, List.setIfInBounds_toArray, List.set_cons_zero, List.set_cons_succ]
            refine wpAnyH_take (i := 26) (v := .tuple #[.agg CG.toArray, .bool false, .int .i64 ee]) rfl (by kernel_rfl) (by kernel_rfl) (by kernel_rfl) (fun _ _ _ h => h) (Or.inl ⟨by rfl, fun w' hSw => by go_simp⟩) hHeld ?_
            try simp only [Act.put, List.getElem_toArray, List.getElem_cons_succ, List.getElem_cons_zero, List.setIfInBounds_toArray, List.set_cons_zero, List.set_cons_succ]
            refine wpAnyH_take (i := 27) (v := .agg CG.toArray) rfl (by kernel_rfl) (by kernel_rfl) (by kernel_rfl) (fun _ _ _ h => h) (Or.inl ⟨by rfl, fun w' hSw => by go_simp⟩) hHeld ?_
            try simp only [Act.put, List.getElem_toArray, List.getElem_cons_succ, List.getElem_cons_zero, List.setIfInBounds_toArray, List.set_cons_zero, List.set_cons_succ]
            refine wpAnyH_take (i := 28) (v := .bool false) rfl (by kernel_rfl) (by kernel_rfl) (by kernel_rfl) (fun _ _ _ h => h) (Or.inl ⟨by rfl, fun w' hSw => by go_simp⟩) hHeld ?_
            try simp only [Act.put, List.getElem_toArray, List.getElem_cons_succ, List.getElem_cons_zero, List.setIfInBounds_toArray, List.set_cons_zero, List.set_cons_succ]
            refine wpAnyH_take (i := 29) (v := .int .i64 ee) rfl (by kernel_rfl) (by kernel_rfl) (by kernel_rfl) (fun _ _ _ h => h) (Or.inl ⟨by rfl, fun w' hSw => by go_simp⟩) hHeld ?_
            try simp only [Act.put, List.getElem_toArray, List.getElem_cons_succ, List.getElem_cons_zero, List.setIfInBounds_toArray, List.set_cons_zero, List.set_cons_succ]
            refine wpAnyH_ready (rs := [31]) (by kernel_rfl) (by simp) (AllReadyH.cons rfl (fun K1 hK1 => ?_) AllReadyH.nil)
            try simp only [Act.put, List.getElem_toArray, List.getElem_cons_succ, List.getElem_cons_zero, List.setIfInBounds_toArray, List.set_cons_zero, List.set_cons_succ]
            rw [if_pos (by rfl)]
            refine wp_store_at 38 (.tmp 16) (.tmp 77) rfl g16 0 CG ZT _ rfl rfl (hT.row (x := (g16, 38, ZT)) (by simp)) (by have := HZ76.out; have := HG76.out; omega) (by rw [wait_info, HG76.out]) HG1.out ?_
            intro ws6 hrS hgS
            rw [splice_all (HG76.out.trans HZ76.out.symm)] at hrS
            have hT2 := hT.write (rows' := [(g16, 38, CG), (gN, 3, Is snx), (gX, 23, [.slice (some ⟨gN, 0, none⟩) 64 64])]) hgS hrS ⟨_, _, List.mem_cons_self⟩ (by
              intro x hx
              simp only [List.mem_cons, List.not_mem_nil, or_false] at hx
              rcases hx with rfl | rfl | rfl
              · exact .inl rfl
              · exact .inr ⟨by simp, hne16.1.symm⟩
              · exact .inr ⟨by simp, hne16.2.symm⟩)
            clear hT hrS hgS
            have hT := hT2
            clear hT2
            refine hK1.out _ _ (hT.low) (fun hHeld => ?_)
            clear hK1 K1
            try simp only [Act.put, List.getElem_toArray, List.getElem_cons_succ, List.getElem_cons_zero, List.setIfInBounds_toArray, List.set_cons_zero, List.set_cons_succ]
            refine wpAnyH_take (i := 32) (v := .bool false) rfl (by kernel_rfl) (by kernel_rfl) (by kernel_rfl) (fun _ _ _ h => h) (Or.inl ⟨by rfl, fun w' hSw => by go_simp⟩) hHeld ?_
            try simp only [Act.put, List.getElem_toArray, List.getElem_cons_succ, List.getElem_cons_zero, List.setIfInBounds_toArray, List.set_cons_zero, List.set_cons_succ]
            refine wpAnyH_take (i := 33) (v := .int .i64 ee) rfl (by kernel_rfl) (by kernel_rfl) (by kernel_rfl) (fun _ _ _ h => h) (Or.inl ⟨by rfl, fun w' hSw => by go_simp⟩) hHeld ?_
            try simp only [Act.put, List.getElem_toArray, List.getElem_cons_succ, List.getElem_cons_zero, List.setIfInBounds_toArray, List.set_cons_zero, List.set_cons_succ]
            refine wpAnyH_done (by kernel_rfl) ?_ _
            refine NoPanic.normal ?_
            have HT := Lib.hid hT
            clear hT hHeld
            go_wp2_with fail
            exact ⟨⟨k + 1, by omega, by omega, by go_num, by rw [HE.out], by rw [HE.out], by rw [HE.out]; exact HT.out.sub (fun x hx => List.mem_cons_of_mem _ hx)⟩, by simp [intOf]; omega⟩
        · subst he
          cases fl with
          | false =>
            have hE := HE0.out
            rw [if_pos rfl, if_neg (by decide)] at hE
            have HE := Lib.hid hE
            clear hE hfe HE0
            go_wp2_with fail
            clear ctk
            have hT := HP.out.below (Below.refl _ _).drew
            refine wp_region_noPanic ?_
            refine wp_region_held_drew (S := fun w' => Below w.heap.size w w') (by kernel_rfl) (HP.out.low.drew) (fun hHeld => ?_)
            generalize wr.drew = wq at *
            refine wpAnyH_take (i := 0) (v := .pointer (some ⟨B, 0, none⟩)) rfl (by kernel_rfl) (by kernel_rfl) (by kernel_rfl) (fun _ _ _ h => h) (Or.inl ⟨by rfl, fun w' hSw => by go_simp⟩) hHeld ?_
            try simp only [Act.put, List.getElem_toArray, List.getElem_cons_succ, List.getElem_cons_zero, List.setIfInBounds_toArray, List.set_cons_zero, List.set_cons_succ]
            refine wpAnyH_take (i := 1) (v := .slice (some ⟨ga, off, none⟩) n c) rfl (by kernel_rfl) (by kernel_rfl) (by kernel_rfl) (fun _ _ _ h => h) (Or.inl ⟨by rfl, fun w' hSw => by go_simp⟩) hHeld ?_
            try simp only [Act.put, List.getElem_toArray, List.getElem_cons_succ, List.getElem_cons_zero, List.setIfInBounds_toArray, List.set_cons_zero, List.set_cons_succ]
            refine wpAnyH_take (i := 2) (v := .int .i64 k) rfl (by kernel_rfl) (by kernel_rfl) (by kernel_rfl) (fun _ _ _ h => h) (Or.inl ⟨by rfl, fun w' hSw => by go_simp⟩) hHeld ?_
            try simp only [Act.put, List.getElem_toArray, List.getElem_cons_succ, List.getElem_cons_zero, List.setIfInBounds_toArray, List.set_cons_zero, List.set_cons_succ]
            refine wpAnyH_take (i := 3) (v := .pointer (some ⟨ga, (off + k * 75), none⟩)) rfl (by kernel_rfl) (by kernel_rfl) (by kernel_rfl) (fun _ _ _ h => h) (Or.inl ⟨by rfl, fun w' hSw => by go_simp⟩) hHeld ?_
            try simp only [Act.put, List.getElem_toArray, List.getElem_cons_succ, List.getElem_cons_zero, List.setIfInBounds_toArray, List.set_cons_zero, List.set_cons_succ]
            refine wpAnyH_take (i := 4) (v := .pointer (some ⟨ga, (off + k * 75 + 1), none⟩)) rfl (by kernel_rfl) (by kernel_rfl) (by kernel_rfl) (fun _ _ _ h => h) (Or.inl ⟨by rfl, fun w' hSw => by go_simp⟩) hHeld ?_
            try simp only [Act.put, List.getElem_toArray, List.getElem_cons_succ, List.getElem_cons_zero, List.setIfInBounds_toArray, List.set_cons_zero, List.set_cons_succ]
            refine' wpAnyH_take (i := 5) (v := _) rfl (by kernel_rfl) (by kernel_rfl) (by kernel_rfl) (fun _ _ _ h => h) (yieldsIf_load_mid (by rfl) _ _ rfl ga (off + k * 75 + 1) rfl CT _ (fun w' hSw => HCm.out _ hSw |>.2.1) Try.underlying36 rfl (by rw [tx_info, HT72.out])) hHeld ?_
            try simp only [Act.put, List.getElem_toArray, List.getElem_cons_succ, List.getElem_cons_zero, List.setIfInBounds_toArray, List.set_cons_zero, List.set_cons_succ]
            refine wpAnyH_take (i := 6) (v := .int .i64 k) rfl (by kernel_rfl) (by kernel_rfl) (by kernel_rfl) (fun _ _ _ h => h) (Or.inl ⟨by rfl, fun w' hSw => by go_simp⟩) hHeld ?_
            try simp only [Act.put, List.getElem_toArray, List.getElem_cons_succ, List.getElem_cons_zero, List.setIfInBounds_toArray, List.set_cons_zero, List.set_cons_succ]
            refine wpAnyH_take (i := 7) (v := .int .i64 k) rfl (by kernel_rfl) (by kernel_rfl) (by kernel_rfl) (fun _ _ _ h => h) (Or.inl ⟨by rfl, fun w' hSw => by go_simp⟩) hHeld ?_
            try simp only [Act.put, List.getElem_toArray, List.getElem_cons_succ, List.getElem_cons_zero, List.setIfInBounds_toArray, List.set_cons_zero, List.set_cons_succ]
            refine wpAnyH_take (i := 8) (v := .int .i64 snow) rfl (by kernel_rfl) (by kernel_rfl) (by kernel_rfl) (fun _ _ _ h => h) (Or.inl ⟨by rfl, fun w' hSw => by go_simp⟩) hHeld ?_
            try simp only [Act.put, List.getElem_toArray, List.getElem_cons_succ, List.getElem_cons_zero, List.setIfInBounds_toArray, List.set_cons_zero, List.set_cons_succ]
            refine wpAnyH_take (i := 9) (v := .slice (some ⟨ga, off, none⟩) n c) rfl (by kernel_rfl) (by kernel_rfl) (by kernel_rfl) (fun _ _ _ h => h) (Or.inl ⟨by rfl, fun w' hSw => by go_simp⟩) hHeld ?_
            try simp only [Act.put, List.getElem_toArray, List.getElem_cons_succ, List.getElem_cons_zero, List.setIfInBounds_toArray, List.set_cons_zero, List.set_cons_succ]
            refine wpAnyH_take (i := 10) (v := .int .i64 k) rfl (by kernel_rfl) (by kernel_rfl) (by kernel_rfl) (fun _ _ _ h => h) (Or.inl ⟨by rfl, fun w' hSw => by go_simp⟩) hHeld ?_
            try simp only [Act.put, List.getElem_toArray, List.getElem_cons_succ, List.getElem_cons_zero, List.setIfInBounds_toArray, List.set_cons_zero, List.set_cons_succ]
            refine wpAnyH_take (i := 11) (v := .pointer (some ⟨ga, (off + k * 75), none⟩)) rfl (by kernel_rfl) (by kernel_rfl) (by kernel_rfl) (fun _ _ _ h => h) (Or.inl ⟨by rfl, fun w' hSw => by go_simp⟩) hHeld ?_
            try simp only [Act.put, List.getElem_toArray, List.getElem_cons_succ, List.getElem_cons_zero, List.setIfInBounds_toArray, List.set_cons_zero, List.set_cons_succ]
            refine wpAnyH_take (i := 12) (v := .pointer (some ⟨ga, (off + k * 75 + 73), none⟩)) rfl (by kernel_rfl) (by kernel_rfl) (by kernel_rfl) (fun _ _ _ h => h) (Or.inl ⟨by rfl, fun w' hSw => by go_simp⟩) hHeld ?_
            try simp only [Act.put, List.getElem_toArray, List.getElem_cons_succ, List.getElem_cons_zero, List.setIfInBounds_toArray, List.set_cons_zero, List.set_cons_succ]
            refine wpAnyH_take (i := 13) (v := .int .u8 dl) rfl (by kernel_rfl) (by kernel_rfl) (by kernel_rfl) (fun _ _ _ h => h) (Or.inl ⟨by rfl, fun w' hSw => by have hq := hSw; have hd := (HCm.out _ hq).2.2.1; go_simp⟩) hHeld ?_
            try simp only [Act.put, List.getElem_toArray, List.getElem_cons_succ, List.getElem_cons_zero, List.setIfInBounds_toArray, List.set_cons_zero, List.set_cons_succ]
            refine wpAnyH_take (i := 14) (v := .int .i64 dl) rfl (by kernel_rfl) (by kernel_rfl) (by kernel_rfl) (fun _ _ _ h => h) (Or.inl ⟨by rfl, fun w' hSw => by go_simp⟩) hHeld ?_
            try simp only [Act.put, List.getElem_toArray, List.getElem_cons_succ, List.getElem_cons_zero, List.setIfInBounds_toArray, List.set_cons_zero, List.set_cons_succ]
            refine wpAnyH_take (i := 15) (v := .int .i64 (snow + dl)) rfl (by kernel_rfl) (by kernel_rfl) (by kernel_rfl) (fun _ _ _ h => h) (Or.inl ⟨by rfl, fun w' hSw => by go_simp⟩) hHeld ?_
            try simp only [Act.put, List.getElem_toArray, List.getElem_cons_succ, List.getElem_cons_zero, List.setIfInBounds_toArray, List.set_cons_zero, List.set_cons_succ]
            refine wpAnyH_take (i := 16) (v := .int .i64 snow) rfl (by kernel_rfl) (by kernel_rfl) (by kernel_rfl) (fun _ _ _ h => h) (Or.inl ⟨by rfl, fun w' hSw => by go_simp⟩) hHeld ?_
            try simp only [Act.put, List.getElem_toArray, List.getElem_cons_succ, List.getElem_cons_zero, List.setIfInBounds_toArray, List.set_cons_zero, List.set_cons_succ]
            refine wpAnyH_take (i := 17) (v := .slice (some ⟨ga, off, none⟩) n c) rfl (by kernel_rfl) (by kernel_rfl) (by kernel_rfl) (fun _ _ _ h => h) (Or.inl ⟨by rfl, fun w' hSw => by go_simp⟩) hHeld ?_
            try simp only [Act.put, List.getElem_toArray, List.getElem_cons_succ, List.getElem_cons_zero, List.setIfInBounds_toArray, List.set_cons_zero, List.set_cons_succ]
            refine wpAnyH_take (i := 18) (v := .int .i64 k) rfl (by kernel_rfl) (by kernel_rfl) (by kernel_rfl) (fun _ _ _ h => h) (Or.inl ⟨by rfl, fun w' hSw => by go_simp⟩) hHeld ?_
            try simp only [Act.put, List.getElem_toArray, List.getElem_cons_succ, List.getElem_cons_zero, List.setIfInBounds_toArray, List.set_cons_zero, List.set_cons_succ]
            refine wpAnyH_take (i := 19) (v := .pointer (some ⟨ga, (off + k * 75), none⟩)) rfl (by kernel_rfl) (by kernel_rfl) (by kernel_rfl) (fun _ _ _ h => h) (Or.inl ⟨by rfl, fun w' hSw => by go_simp⟩) hHeld ?_
            try simp only [Act.put, List.getElem_toArray, List.getElem_cons_succ, List.getElem_cons_zero, List.setIfInBounds_toArray, List.set_cons_zero, List.set_cons_succ]
            refine wpAnyH_take (i := 20) (v := .pointer (some ⟨ga, (off + k * 75 + 74), none⟩)) rfl (by kernel_rfl) (by kernel_rfl) (by kernel_rfl) (fun _ _ _ h => h) (Or.inl ⟨by rfl, fun w' hSw => by go_simp⟩) hHeld ?_
            try simp only [Act.put, List.getElem_toArray, List.getElem_cons_succ, List.getElem_cons_zero, List.setIfInBounds_toArray, List.set_cons_zero, List.set_cons_succ]
            refine wpAnyH_take (i := 21) (v := .int .u8 st) rfl (by kernel_rfl) (by kernel_rfl) (by kernel_rfl) (fun _ _ _ h => h) (Or.inl ⟨by rfl, fun w' hSw => by have hq := hSw; have hd := (HCm.out _ hq).2.2.2; go_simp⟩) hHeld ?_
            try simp only [Act.put, List.getElem_toArray, List.getElem_cons_succ, List.getElem_cons_zero, List.setIfInBounds_toArray, List.set_cons_zero, List.set_cons_succ]
            refine wpAnyH_take (i := 22) (v := .int .i64 st) rfl (by kernel_rfl) (by kernel_rfl) (by kernel_rfl) (fun _ _ _ h => h) (Or.inl ⟨by rfl, fun w' hSw => by go_simp⟩) hHeld ?_
            try simp only [Act.put, List.getElem_toArray, List.getElem_cons_succ, List.getElem_cons_zero, List.setIfInBounds_toArray, List.set_cons_zero, List.set_cons_succ]
            refine wpAnyH_take (i := 23) (v := .int .i64 (snow + st)) rfl (by kernel_rfl) (by kernel_rfl) (by kernel_rfl) (fun _ _ _ h => h) (Or.inl ⟨by rfl, fun w' hSw => by go_simp⟩) hHeld ?_
            try simp only [Act.put, List.getElem_toArray, List.getElem_cons_succ, List.getElem_cons_zero, List.setIfInBounds_toArray, List.set_cons_zero, List.set_cons_succ]
            refine' wpAnyH_take (i := 24) (v := .agg CW.toArray) rfl (by kernel_rfl) (by kernel_rfl) (by kernel_rfl) (fun _ _ _ h => h) (yieldsIf_buildL (by rfl) 38 [(0, .tmp 56), (1, .tmp 57), (4, .tmp 58), (3, .tmp 66), (2, .tmp 74)] rfl [(0, .agg CT.toArray), (1, .int .i64 k), (4, .int .i64 k), (3, .int .i64 (snow + dl)), (2, .int .i64 (snow + st))] rfl CW.toArray HBu.out) hHeld ?_
            try simp only [Act.put, List.getElem_toArray, List.getElem_cons_succ, List.getElem_cons_zero, List.setIfInBounds_toArray, List.set_cons_zero, List.set_cons_succ]
            refine wpAnyH_ready (rs := [25, 30]) (by kernel_rfl) (by simp) (AllReadyH.cons rfl (fun K1 hK1 => ?_) (AllReadyH.cons rfl (fun K1 hK1 => ?_) AllReadyH.nil))
            · skip
              try simp only [Act.put, List.getElem_toArray, List.getElem_cons_succ, List.getElem_cons_zero, List.setIfInBounds_toArray, List.set_cons_zero, List.set_cons_succ]
              go_simp
              refine Calls.mono (PUTC.out _ _ hT) ?_
              clear hT
              rintro e wp1 ⟨rfl, hT⟩
              refine hK1.out _ _ (hT.low) (fun hHeld => ?_)
              clear hK1 K1
              try simp only [Act.put, List.getElem_toArray, List.getElem_cons_succ, List.getElem_cons_zero, List.setIfInBounds_toArray, List.set_cons_zero, List.set_cons_succ]
              refine wpAnyH_take (i := 26) (v := .tuple #[.agg CG.toArray, .bool false, .int .i64 0]) rfl (by kernel_rfl) (by kernel_rfl) (by kernel_rfl) (fun _ _ _ h => h) (Or.inl ⟨by rfl, fun w' hSw => by go_simp⟩) hHeld ?_
              try simp only [Act.put, List.getElem_toArray, List.getElem_cons_succ, List.getElem_cons_zero, List.setIfInBounds_toArray, List.set_cons_zero, List.set_cons_succ]
              refine wpAnyH_take (i := 27) (v := .agg CG.toArray) rfl (by kernel_rfl) (by kernel_rfl) (by kernel_rfl) (fun _ _ _ h => h) (Or.inl ⟨by rfl, fun w' hSw => by go_simp⟩) hHeld ?_
              try simp only [Act.put, List.getElem_toArray, List.getElem_cons_succ, List.getElem_cons_zero, List.setIfInBounds_toArray, List.set_cons_zero, List.set_cons_succ]
              refine wpAnyH_take (i := 28) (v := .bool false) rfl (by kernel_rfl) (by kernel_rfl) (by kernel_rfl) (fun _ _ _ h => h) (Or.inl ⟨by rfl, fun w' hSw => by go_simp⟩) hHeld ?_
              try simp only [Act.put, List.getElem_toArray, List.getElem_cons_succ, List.getElem_cons_zero, List.setIfInBounds_toArray, List.set_cons_zero, List.set_cons_succ]
              refine wpAnyH_take (i := 29) (v := .int .i64 0) rfl (by kernel_rfl) (by kernel_rfl) (by kernel_rfl) (fun _ _ _ h => h) (Or.inl ⟨by rfl, fun w' hSw => by go_simp⟩) hHeld ?_
              try simp only [Act.put, List.getElem_toArray, List.getElem_cons_succ, List.getElem_cons_zero, List.setIfInBounds_toArray, List.set_cons_zero, List.set_cons_succ]
              refine wpAnyH_ready (rs := [30]) (by kernel_rfl) (by simp) (AllReadyH.cons rfl (fun K1 hK1 => ?_) AllReadyH.nil)
              try simp only [Act.put, List.getElem_toArray, List.getElem_cons_succ, List.getElem_cons_zero, List.setIfInBounds_toArray, List.set_cons_zero, List.set_cons_succ]
              go_simp
              have hne16 : wp1.heap.size ≠ gN ∧ wp1.heap.size ≠ gX := ⟨Nat.ne_of_gt (hT.apart (x := (gN, 3, Is snx)) (by simp)).2, Nat.ne_of_gt (hT.apart (x := (gX, 23, [.slice (some ⟨gN, 0, none⟩) 64 64])) (by simp)).2⟩
              replace hT := hT.alloc ZT 38
              have hHeld2 := hT.low
              generalize wp1.alloc (.cells ZT.toArray 38) = wa2 at *
              generalize wp1.heap.size = g16 at *
              refine hK1.out _ _ (hHeld2) (fun hHeld => ?_)
              clear hK1 K1
              try simp only [Act.put, List.getElem_toArray, List.getElem_cons_succ, List.getElem_cons_zero, List.setIfInBounds_toArray, List.set_cons_zero, List.set_cons_succ]
              clear hHeld2
              refine wpAnyH_ready (rs := [31]) (by kernel_rfl) (by simp) (AllReadyH.cons rfl (fun K1 hK1 => ?_) AllReadyH.nil)
              try simp only [Act.put, List.getElem_toArray, List.getElem_cons_succ, List.getElem_cons_zero, List.setIfInBounds_toArray, List.set_cons_zero, List.set_cons_succ]
              rw [if_pos (by rfl)]
              refine wp_store_at 38 (.tmp 16) (.tmp 77) rfl g16 0 CG ZT _ rfl rfl (hT.row (x := (g16, 38, ZT)) (by simp)) (by have := HZ76.out; have := HG76.out; omega) (by rw [wait_info, HG76.out]) HG1.out ?_
              intro ws3 hrS hgS
              rw [splice_all (HG76.out.trans HZ76.out.symm)] at hrS
              have hT2 := hT.write (rows' := [(g16, 38, CG), (gN, 3, Is snx), (gX, 23, [.slice (some ⟨gN, 0, none⟩) 64 64])]) hgS hrS ⟨_, _, List.mem_cons_self⟩ (by
                intro x hx
                simp only [List.mem_cons, List.not_mem_nil, or_false] at hx
                rcases hx with rfl | rfl | rfl
                · exact .inl rfl
                · exact .inr ⟨by simp, hne16.1.symm⟩
                · exact .inr ⟨by simp, hne16.2.symm⟩)
              clear hT hrS hgS
              have hT := hT2
              clear hT2
              refine hK1.out _ _ (hT.low) (fun hHeld => ?_)
              clear hK1 K1
              try simp only [Act.put, List.getElem_toArray, List.getElem_cons_succ, List.getElem_cons_zero, List.setIfInBounds_toArray, List.set_cons_zero, List.set_cons_succ]
              refine wpAnyH_take (i := 32) (v := .bool false) rfl (by kernel_rfl) (by kernel_rfl) (by kernel_rfl) (fun _ _ _ h => h) (Or.inl ⟨by rfl, fun w' hSw => by go_simp⟩) hHeld ?_
              try simp only [Act.put, List.getElem_toArray, List.getElem_cons_succ, List.getElem_cons_zero, List.setIfInBounds_toArray, List.set_cons_zero, List.set_cons_succ]
              refine wpAnyH_take (i := 33) (v := .int .i64 0) rfl (by kernel_rfl) (by kernel_rfl) (by kernel_rfl) (fun _ _ _ h => h) (Or.inl ⟨by rfl, fun w' hSw => by go_simp⟩) hHeld ?_
              try simp only [Act.put, List.getElem_toArray, List.getElem_cons_succ, List.getElem_cons_zero, List.setIfInBounds_toArray, List.set_cons_zero, List.set_cons_succ]
              refine wpAnyH_done (by kernel_rfl) ?_ _
              refine NoPanic.normal ?_
              have HT := Lib.hid hT
              clear hT hHeld
              go_wp2_with fail
              exact ⟨⟨k + 1, by omega, by omega, by go_num, by rw [HE.out], by rw [HE.out]; go_num, by rw [HE.out]; exact HT.out.sub (fun x hx => List.mem_cons_of_mem _ hx)⟩, by simp [intOf]; omega⟩
            · skip
              try simp only [Act.put, List.getElem_toArray, List.getElem_cons_succ, List.getElem_cons_zero, List.setIfInBounds_toArray, List.set_cons_zero, List.set_cons_succ]
              go_simp
              have hne16 : wq.heap.size ≠ gN ∧ wq.heap.size ≠ gX := ⟨Nat.ne_of_gt (hT.apart (x := (gN, 3, Is snx)) (by simp)).2, Nat.ne_of_gt (hT.apart (x := (gX, 23, [.slice (some ⟨gN, 0, none⟩) 64 64])) (by simp)).2⟩
              replace hT := hT.alloc ZT 38
              have hHeld2 := hT.low
              generalize wq.alloc (.cells ZT.toArray 38) = wa4 at *
              generalize wq.heap.size = g16 at *
              refine hK1.out _ _ (hHeld2) (fun hHeld => ?_)
              clear hK1 K1
              try simp only [Act.put, List.getElem_toArray, List.getElem_cons_succ, List.getElem_cons_zero, List.setIfInBounds_toArray, List.set_cons_zero, List.set_cons_succ]
              clear hHeld2
              refine wpAnyH_ready (rs := [25]) (by kernel_rfl) (by simp) (AllReadyH.cons rfl (fun K1 hK1 => ?_) AllReadyH.nil)
              try simp only [Act.put, List.getElem_toArray, List.getElem_cons_succ, List.getElem_cons_zero, List.setIfInBounds_toArray, List.set_cons_zero, List.set_cons_succ]
              go_simp
              refine Calls.mono (PUTC.out _ _ hT) ?_
              clear hT
              rintro e wp5 ⟨rfl, hT⟩
              refine hK1.out _ _ (hT.low) (fun hHeld => ?_)
              clear hK1 K1
              try simp only [Act.put, List.getElem_toArray, List.getElem_cons_succ, List.getElem_cons_zero, List.setIfInBounds_toArray, List.set_cons_zero, List.set_cons_succ]
              refine wpAnyH_take (i := 26) (v := .tuple #[.agg CG.toArray, .bool false, .int .i64 0]) rfl (by kernel_rfl) (by kernel_rfl) (by kernel_rfl) (fun _ _ _ h => h) (Or.inl ⟨by rfl, fun w' hSw => by go_simp⟩) hHeld ?_
              try simp only [Act.put, List.getElem_toArray, List.getElem_cons_succ, List.getElem_cons_zero, List.setIfInBounds_toArray, List.set_cons_zero, List.set_cons_succ]
              refine wpAnyH_take (i := 27) (v := .agg CG.toArray) rfl (by kernel_rfl) (by kernel_rfl) (by kernel_rfl) (fun _ _ _ h => h) (Or.inl ⟨by rfl, fun w' hSw => by go_simp⟩) hHeld ?_
              try simp only [Act.put, List.getElem_toArray, List.getElem_cons_succ, List.getElem_cons_zero, List.setIfInBounds_toArray, List.set_cons_zero, List.set_cons_succ]
              refine wpAnyH_take (i := 28) (v := .bool false) rfl (by kernel_rfl) (by kernel_rfl) (by kernel_rfl) (fun _ _ _ h => h) (Or.inl ⟨by rfl, fun w' hSw => by go_simp⟩) hHeld ?_
              try simp only [Act.put, List.getElem_toArray, List.getElem_cons_succ, List.getElem_cons_zero, List.setIfInBounds_toArray, List.set_cons_zero, List.set_cons_succ]
              refine wpAnyH_take (i := 29) (v := .int .i64 0) rfl (by kernel_rfl) (by kernel_rfl) (by kernel_rfl) (fun _ _ _ h => h) (Or.inl ⟨by rfl, fun w' hSw => by go_simp⟩) hHeld ?_
              try simp only [Act.put, List.getElem_toArray, List.getElem_cons_succ, List.getElem_cons_zero, List.setIfInBounds_toArray, List.set_cons_zero, List.set_cons_succ]
              refine wpAnyH_ready (rs := [31]) (by kernel_rfl) (by simp) (AllReadyH.cons rfl (fun K1 hK1 => ?_) AllReadyH.nil)
              try simp only [Act.put, List.getElem_toArray, List.getElem_cons_succ, List.getElem_cons_zero, List.setIfInBounds_toArray, List.set_cons_zero, List.set_cons_succ]
              rw [if_pos (by rfl)]
              refine wp_store_at 38 (.tmp 16) (.tmp 77) rfl g16 0 CG ZT _ rfl rfl (hT.row (x := (g16, 38, ZT)) (by simp)) (by have := HZ76.out; have := HG76.out; omega) (by rw [wait_info, HG76.out]) HG1.out ?_
              intro ws6 hrS hgS
              rw [splice_all (HG76.out.trans HZ76.out.symm)] at hrS
              have hT2 := hT.write (rows' := [(g16, 38, CG), (gN, 3, Is snx), (gX, 23, [.slice (some ⟨gN, 0, none⟩) 64 64])]) hgS hrS ⟨_, _, List.mem_cons_self⟩ (by
                intro x hx
                simp only [List.mem_cons, List.not_mem_nil, or_false] at hx
                rcases hx with rfl | rfl | rfl
                · exact .inl rfl
                · exact .inr ⟨by simp, hne16.1.symm⟩
                · exact .inr ⟨by simp, hne16.2.symm⟩)
              clear hT hrS hgS
              have hT := hT2
              clear hT2
              refine hK1.out _ _ (hT.low) (fun hHeld => ?_)
              clear hK1 K1
              try simp only [Act.put, List.getElem_toArray, List.getElem_cons_succ, List.getElem_cons_zero, List.setIfInBounds_toArray, List.set_cons_zero, List.set_cons_succ]
              refine wpAnyH_take (i := 32) (v := .bool false) rfl (by kernel_rfl) (by kernel_rfl) (by kernel_rfl) (fun _ _ _ h => h) (Or.inl ⟨by rfl, fun w' hSw => by go_simp⟩) hHeld ?_
              try simp only [Act.put, List.getElem_toArray, List.getElem_cons_succ, List.getElem_cons_zero, List.setIfInBounds_toArray, List.set_cons_zero, List.set_cons_succ]
              refine wpAnyH_take (i := 33) (v := .int .i64 0) rfl (by kernel_rfl) (by kernel_rfl) (by kernel_rfl) (fun _ _ _ h => h) (Or.inl ⟨by rfl, fun w' hSw => by go_simp⟩) hHeld ?_
              try simp only [Act.put, List.getElem_toArray, List.getElem_cons_succ, List.getElem_cons_zero, List.setIfInBounds_toArray, List.set_cons_zero, List.set_cons_succ]
              refine wpAnyH_done (by kernel_rfl) ?_ _
              refine NoPanic.normal ?_
              have HT := Lib.hid hT
              clear hT hHeld
              go_wp2_with fail
              exact ⟨⟨k + 1, by omega, by omega, by go_num, by rw [HE.out], by rw [HE.out]; go_num, by rw [HE.out]; exact HT.out.sub (fun x hx => List.mem_cons_of_mem _ hx)⟩, by simp [intOf]; omega⟩
          | true =>
            have hE := HE0.out
            rw [if_pos rfl, if_pos rfl] at hE
            have HE := Lib.hid hE
            clear hE hfe HE0
            go_wp2_with fail
            clear ctk
            have hT := HP.out.below (Below.refl _ _).drew
            refine wp_region_noPanic ?_
            refine wp_region_held_drew (S := fun w' => Below w.heap.size w w') (by kernel_rfl) (HP.out.low.drew) (fun hHeld => ?_)
            generalize wr.drew = wq at *
            refine wpAnyH_take (i := 0) (v := .pointer (some ⟨B, 0, none⟩)) rfl (by kernel_rfl) (by kernel_rfl) (by kernel_rfl) (fun _ _ _ h => h) (Or.inl ⟨by rfl, fun w' hSw => by go_simp⟩) hHeld ?_
            try simp only [Act.put, List.getElem_toArray, List.getElem_cons_succ, List.getElem_cons_zero, List.setIfInBounds_toArray, List.set_cons_zero, List.set_cons_succ]
            refine wpAnyH_take (i := 1) (v := .slice (some ⟨ga, off, none⟩) n c) rfl (by kernel_rfl) (by kernel_rfl) (by kernel_rfl) (fun _ _ _ h => h) (Or.inl ⟨by rfl, fun w' hSw => by go_simp⟩) hHeld ?_
            try simp only [Act.put, List.getElem_toArray, List.getElem_cons_succ, List.getElem_cons_zero, List.setIfInBounds_toArray, List.set_cons_zero, List.set_cons_succ]
            refine wpAnyH_take (i := 2) (v := .int .i64 k) rfl (by kernel_rfl) (by kernel_rfl) (by kernel_rfl) (fun _ _ _ h => h) (Or.inl ⟨by rfl, fun w' hSw => by go_simp⟩) hHeld ?_
            try simp only [Act.put, List.getElem_toArray, List.getElem_cons_succ, List.getElem_cons_zero, List.setIfInBounds_toArray, List.set_cons_zero, List.set_cons_succ]
            refine wpAnyH_take (i := 3) (v := .pointer (some ⟨ga, (off + k * 75), none⟩)) rfl (by kernel_rfl) (by kernel_rfl) (by kernel_rfl) (fun _ _ _ h => h) (Or.inl ⟨by rfl, fun w' hSw => by go_simp⟩) hHeld ?_
            try simp only [Act.put, List.getElem_toArray, List.getElem_cons_succ, List.getElem_cons_zero, List.setIfInBounds_toArray, List.set_cons_zero, List.set_cons_succ]
            refine wpAnyH_take (i := 4) (v := .pointer (some ⟨ga, (off + k * 75 + 1), none⟩)) rfl (by kernel_rfl) (by kernel_rfl) (by kernel_rfl) (fun _ _ _ h => h) (Or.inl ⟨by rfl, fun w' hSw => by go_simp⟩) hHeld ?_
            try simp only [Act.put, List.getElem_toArray, List.getElem_cons_succ, List.getElem_cons_zero, List.setIfInBounds_toArray, List.set_cons_zero, List.set_cons_succ]
            refine' wpAnyH_take (i := 5) (v := _) rfl (by kernel_rfl) (by kernel_rfl) (by kernel_rfl) (fun _ _ _ h => h) (yieldsIf_load_mid (by rfl) _ _ rfl ga (off + k * 75 + 1) rfl CT _ (fun w' hSw => HCm.out _ hSw |>.2.1) Try.underlying36 rfl (by rw [tx_info, HT72.out])) hHeld ?_
            try simp only [Act.put, List.getElem_toArray, List.getElem_cons_succ, List.getElem_cons_zero, List.setIfInBounds_toArray, List.set_cons_zero, List.set_cons_succ]
            refine wpAnyH_take (i := 6) (v := .int .i64 k) rfl (by kernel_rfl) (by kernel_rfl) (by kernel_rfl) (fun _ _ _ h => h) (Or.inl ⟨by rfl, fun w' hSw => by go_simp⟩) hHeld ?_
            try simp only [Act.put, List.getElem_toArray, List.getElem_cons_succ, List.getElem_cons_zero, List.setIfInBounds_toArray, List.set_cons_zero, List.set_cons_succ]
            refine wpAnyH_take (i := 7) (v := .int .i64 k) rfl (by kernel_rfl) (by kernel_rfl) (by kernel_rfl) (fun _ _ _ h => h) (Or.inl ⟨by rfl, fun w' hSw => by go_simp⟩) hHeld ?_
            try simp only [Act.put, List.getElem_toArray, List.getElem_cons_succ, List.getElem_cons_zero, List.setIfInBounds_toArray, List.set_cons_zero, List.set_cons_succ]
            refine wpAnyH_take (i := 8) (v := .int .i64 snow) rfl (by kernel_rfl) (by kernel_rfl) (by kernel_rfl) (fun _ _ _ h => h) (Or.inl ⟨by rfl, fun w' hSw => by go_simp⟩) hHeld ?_
            try simp only [Act.put, List.getElem_toArray, List.getElem_cons_succ, List.getElem_cons_zero, List.setIfInBounds_toArray, List.set_cons_zero, List.set_cons_succ]
            refine wpAnyH_take (i := 9) (v := .slice (some ⟨ga, off, none⟩) n c) rfl (by kernel_rfl) (by kernel_rfl) (by kernel_rfl) (fun _ _ _ h => h) (Or.inl ⟨by rfl, fun w' hSw => by go_simp⟩) hHeld ?_
            try simp only [Act.put, List.getElem_toArray, List.getElem_cons_succ, List.getElem_cons_zero, List.setIfInBounds_toArray, List.set_cons_zero, List.set_cons_succ]
            refine wpAnyH_take (i := 10) (v := .int .i64 k) rfl (by kernel_rfl) (by kernel_rfl) (by kernel_rfl) (fun _ _ _ h => h) (Or.inl ⟨by rfl, fun w' hSw => by go_simp⟩) hHeld ?_
            try simp only [Act.put, List.getElem_toArray, List.getElem_cons_succ, List.getElem_cons_zero, List.setIfInBounds_toArray, List.set_cons_zero, List.set_cons_succ]
            refine wpAnyH_take (i := 11) (v := .pointer (some ⟨ga, (off + k * 75), none⟩)) rfl (by kernel_rfl) (by kernel_rfl) (by kernel_rfl) (fun _ _ _ h => h) (Or.inl ⟨by rfl, fun w' hSw => by go_simp⟩) hHeld ?_
            try simp only [Act.put, List.getElem_toArray, List.getElem_cons_succ, List.getElem_cons_zero, List.setIfInBounds_toArray, List.set_cons_zero, List.set_cons_succ]
            refine wpAnyH_take (i := 12) (v := .pointer (some ⟨ga, (off + k * 75 + 73), none⟩)) rfl (by kernel_rfl) (by kernel_rfl) (by kernel_rfl) (fun _ _ _ h => h) (Or.inl ⟨by rfl, fun w' hSw => by go_simp⟩) hHeld ?_
            try simp only [Act.put, List.getElem_toArray, List.getElem_cons_succ, List.getElem_cons_zero, List.setIfInBounds_toArray, List.set_cons_zero, List.set_cons_succ]
            refine wpAnyH_take (i := 13) (v := .int .u8 dl) rfl (by kernel_rfl) (by kernel_rfl) (by kernel_rfl) (fun _ _ _ h => h) (Or.inl ⟨by rfl, fun w' hSw => by have hq := hSw; have hd := (HCm.out _ hq).2.2.1; go_simp⟩) hHeld ?_
            try simp only [Act.put, List.getElem_toArray, List.getElem_cons_succ, List.getElem_cons_zero, List.setIfInBounds_toArray, List.set_cons_zero, List.set_cons_succ]
            refine wpAnyH_take (i := 14) (v := .int .i64 dl) rfl (by kernel_rfl) (by kernel_rfl) (by kernel_rfl) (fun _ _ _ h => h) (Or.inl ⟨by rfl, fun w' hSw => by go_simp⟩) hHeld ?_
            try simp only [Act.put, List.getElem_toArray, List.getElem_cons_succ, List.getElem_cons_zero, List.setIfInBounds_toArray, List.set_cons_zero, List.set_cons_succ]
            refine wpAnyH_take (i := 15) (v := .int .i64 (snow + dl)) rfl (by kernel_rfl) (by kernel_rfl) (by kernel_rfl) (fun _ _ _ h => h) (Or.inl ⟨by rfl, fun w' hSw => by go_simp⟩) hHeld ?_
            try simp only [Act.put, List.getElem_toArray, List.getElem_cons_succ, List.getElem_cons_zero, List.setIfInBounds_toArray, List.set_cons_zero, List.set_cons_succ]
            refine wpAnyH_take (i := 16) (v := .int .i64 snow) rfl (by kernel_rfl) (by kernel_rfl) (by kernel_rfl) (fun _ _ _ h => h) (Or.inl ⟨by rfl, fun w' hSw => by go_simp⟩) hHeld ?_
            try simp only [Act.put, List.getElem_toArray, List.getElem_cons_succ, List.getElem_cons_zero, List.setIfInBounds_toArray, List.set_cons_zero, List.set_cons_succ]
            refine wpAnyH_take (i := 17) (v := .slice (some ⟨ga, off, none⟩) n c) rfl (by kernel_rfl) (by kernel_rfl) (by kernel_rfl) (fun _ _ _ h => h) (Or.inl ⟨by rfl, fun w' hSw => by go_simp⟩) hHeld ?_
            try simp only [Act.put, List.getElem_toArray, List.getElem_cons_succ, List.getElem_cons_zero, List.setIfInBounds_toArray, List.set_cons_zero, List.set_cons_succ]
            refine wpAnyH_take (i := 18) (v := .int .i64 k) rfl (by kernel_rfl) (by kernel_rfl) (by kernel_rfl) (fun _ _ _ h => h) (Or.inl ⟨by rfl, fun w' hSw => by go_simp⟩) hHeld ?_
            try simp only [Act.put, List.getElem_toArray, List.getElem_cons_succ, List.getElem_cons_zero, List.setIfInBounds_toArray, List.set_cons_zero, List.set_cons_succ]
            refine wpAnyH_take (i := 19) (v := .pointer (some ⟨ga, (off + k * 75), none⟩)) rfl (by kernel_rfl) (by kernel_rfl) (by kernel_rfl) (fun _ _ _ h => h) (Or.inl ⟨by rfl, fun w' hSw => by go_simp⟩) hHeld ?_
            try simp only [Act.put, List.getElem_toArray, List.getElem_cons_succ, List.getElem_cons_zero, List.setIfInBounds_toArray, List.set_cons_zero, List.set_cons_succ]
            refine wpAnyH_take (i := 20) (v := .pointer (some ⟨ga, (off + k * 75 + 74), none⟩)) rfl (by kernel_rfl) (by kernel_rfl) (by kernel_rfl) (fun _ _ _ h => h) (Or.inl ⟨by rfl, fun w' hSw => by go_simp⟩) hHeld ?_
            try simp only [Act.put, List.getElem_toArray, List.getElem_cons_succ, List.getElem_cons_zero, List.setIfInBounds_toArray, List.set_cons_zero, List.set_cons_succ]
            refine wpAnyH_take (i := 21) (v := .int .u8 st) rfl (by kernel_rfl) (by kernel_rfl) (by kernel_rfl) (fun _ _ _ h => h) (Or.inl ⟨by rfl, fun w' hSw => by have hq := hSw; have hd := (HCm.out _ hq).2.2.2; go_simp⟩) hHeld ?_
            try simp only [Act.put, List.getElem_toArray, List.getElem_cons_succ, List.getElem_cons_zero, List.setIfInBounds_toArray, List.set_cons_zero, List.set_cons_succ]
            refine wpAnyH_take (i := 22) (v := .int .i64 st) rfl (by kernel_rfl) (by kernel_rfl) (by kernel_rfl) (fun _ _ _ h => h) (Or.inl ⟨by rfl, fun w' hSw => by go_simp⟩) hHeld ?_
            try simp only [Act.put, List.getElem_toArray, List.getElem_cons_succ, List.getElem_cons_zero, List.setIfInBounds_toArray, List.set_cons_zero, List.set_cons_succ]
            refine wpAnyH_take (i := 23) (v := .int .i64 (snow + st)) rfl (by kernel_rfl) (by kernel_rfl) (by kernel_rfl) (fun _ _ _ h => h) (Or.inl ⟨by rfl, fun w' hSw => by go_simp⟩) hHeld ?_
            try simp only [Act.put, List.getElem_toArray, List.getElem_cons_succ, List.getElem_cons_zero, List.setIfInBounds_toArray, List.set_cons_zero, List.set_cons_succ]
            refine' wpAnyH_take (i := 24) (v := .agg CW.toArray) rfl (by kernel_rfl) (by kernel_rfl) (by kernel_rfl) (fun _ _ _ h => h) (yieldsIf_buildL (by rfl) 38 [(0, .tmp 56), (1, .tmp 57), (4, .tmp 58), (3, .tmp 66), (2, .tmp 74)] rfl [(0, .agg CT.toArray), (1, .int .i64 k), (4, .int .i64 k), (3, .int .i64 (snow + dl)), (2, .int .i64 (snow + st))] rfl CW.toArray HBu.out) hHeld ?_
            try simp only [Act.put, List.getElem_toArray, List.getElem_cons_succ, List.getElem_cons_zero, List.setIfInBounds_toArray, List.set_cons_zero, List.set_cons_succ]
            refine wpAnyH_ready (rs := [25, 30]) (by kernel_rfl) (by simp) (AllReadyH.cons rfl (fun K1 hK1 => ?_) (AllReadyH.cons rfl (fun K1 hK1 => ?_) AllReadyH.nil))
            · skip
              try simp only [Act.put, List.getElem_toArray, List.getElem_cons_succ, List.getElem_cons_zero, List.setIfInBounds_toArray, List.set_cons_zero, List.set_cons_succ]
              go_simp
              refine Calls.mono (PUTC.out _ _ hT) ?_
              clear hT
              rintro e wp1 ⟨rfl, hT⟩
              refine hK1.out _ _ (hT.low) (fun hHeld => ?_)
              clear hK1 K1
              try simp only [Act.put, List.getElem_toArray, List.getElem_cons_succ, List.getElem_cons_zero, List.setIfInBounds_toArray, List.set_cons_zero, List.set_cons_succ]
              refine wpAnyH_take (i := 26) (v := .tuple #[.agg CG.toArray, .bool true, .int .i64 0]) rfl (by kernel_rfl) (by kernel_rfl) (by kernel_rfl) (fun _ _ _ h => h) (Or.inl ⟨by rfl, fun w' hSw => by go_simp⟩) hHeld ?_
              try simp only [Act.put, List.getElem_toArray, List.getElem_cons_succ, List.getElem_cons_zero, List.setIfInBounds_toArray, List.set_cons_zero, List.set_cons_succ]
              refine wpAnyH_take (i := 27) (v := .agg CG.toArray) rfl (by kernel_rfl) (by kernel_rfl) (by kernel_rfl) (fun _ _ _ h => h) (Or.inl ⟨by rfl, fun w' hSw => by go_simp⟩) hHeld ?_
              try simp only [Act.put, List.getElem_toArray, List.getElem_cons_succ, List.getElem_cons_zero, List.setIfInBounds_toArray, List.set_cons_zero, List.set_cons_succ]
              refine wpAnyH_take (i := 28) (v := .bool true) rfl (by kernel_rfl) (by kernel_rfl) (by kernel_rfl) (fun _ _ _ h => h) (Or.inl ⟨by rfl, fun w' hSw => by go_simp⟩) hHeld ?_
              try simp only [Act.put, List.getElem_toArray, List.getElem_cons_succ, List.getElem_cons_zero, List.setIfInBounds_toArray, List.set_cons_zero, List.set_cons_succ]
              refine wpAnyH_take (i := 29) (v := .int .i64 0) rfl (by kernel_rfl) (by kernel_rfl) (by kernel_rfl) (fun _ _ _ h => h) (Or.inl ⟨by rfl, fun w' hSw => by go_simp⟩) hHeld ?_
              try simp only [Act.put, List.getElem_toArray, List.getElem_cons_succ, List.getElem_cons_zero, List.setIfInBounds_toArray, List.set_cons_zero, List.set_cons_succ]
              refine wpAnyH_ready (rs := [30]) (by kernel_rfl) (by simp) (AllReadyH.cons rfl (fun K1 hK1 => ?_) AllReadyH.nil)
              try simp only [Act.put, List.getElem_toArray, List.getElem_cons_succ, List.getElem_cons_zero, List.setIfInBounds_toArray, List.set_cons_zero, List.set_cons_succ]
              go_simp
              have hne16 : wp1.heap.size ≠ gN ∧ wp1.heap.size ≠ gX := ⟨Nat.ne_of_gt (hT.apart (x := (gN, 3, Is snx)) (by simp)).2, Nat.ne_of_gt (hT.apart (x := (gX, 23, [.slice (some ⟨gN, 0, none⟩) 64 64])) (by simp)).2⟩
              replace hT := hT.alloc ZT 38
              have hHeld2 := hT.low
              generalize wp1.alloc (.cells ZT.toArray 38) = wa2 at *
              generalize wp1.heap.size = g16 at *
              refine hK1.out _ _ (hHeld2) (fun hHeld => ?_)
              clear hK1 K1
              try simp only [Act.put, List.getElem_toArray, List.getElem_cons_succ, List.getElem_cons_zero, List.setIfInBounds_toArray, List.set_cons_zero, List.set_cons_succ]
              clear hHeld2
              refine wpAnyH_ready (rs := [31]) (by kernel_rfl) (by simp) (AllReadyH.cons rfl (fun K1 hK1 => ?_) AllReadyH.nil)
              try simp only [Act.put, List.getElem_toArray, List.getElem_cons_succ, List.getElem_cons_zero, List.setIfInBounds_toArray, List.set_cons_zero, List.set_cons_succ]
              rw [if_pos (by rfl)]
              refine wp_store_at 38 (.tmp 16) (.tmp 77) rfl g16 0 CG ZT _ rfl rfl (hT.row (x := (g16, 38, ZT)) (by simp)) (by have := HZ76.out; have := HG76.out; omega) (by rw [wait_info, HG76.out]) HG1.out ?_
              intro ws3 hrS hgS
              rw [splice_all (HG76.out.trans HZ76.out.symm)] at hrS
              have hT2 := hT.write (rows' := [(g16, 38, CG), (gN, 3, Is snx), (gX, 23, [.slice (some ⟨gN, 0, none⟩) 64 64])]) hgS hrS ⟨_, _, List.mem_cons_self⟩ (by
                intro x hx
                simp only [List.mem_cons, List.not_mem_nil, or_false] at hx
                rcases hx with rfl | rfl | rfl
                · exact .inl rfl
                · exact .inr ⟨by simp, hne16.1.symm⟩
                · exact .inr ⟨by simp, hne16.2.symm⟩)
              clear hT hrS hgS
              have hT := hT2
              clear hT2
              refine hK1.out _ _ (hT.low) (fun hHeld => ?_)
              clear hK1 K1
              try simp only [Act.put, List.getElem_toArray, List.getElem_cons_succ, List.getElem_cons_zero, List.setIfInBounds_toArray, List.set_cons_zero, List.set_cons_succ]
              refine wpAnyH_take (i := 32) (v := .bool true) rfl (by kernel_rfl) (by kernel_rfl) (by kernel_rfl) (fun _ _ _ h => h) (Or.inl ⟨by rfl, fun w' hSw => by go_simp⟩) hHeld ?_
              try simp only [Act.put, List.getElem_toArray, List.getElem_cons_succ, List.getElem_cons_zero, List.setIfInBounds_toArray, List.set_cons_zero, List.set_cons_succ]
              refine wpAnyH_take (i := 33) (v := .int .i64 0) rfl (by kernel_rfl) (by kernel_rfl) (by kernel_rfl) (fun _ _ _ h => h) (Or.inl ⟨by rfl, fun w' hSw => by go_simp⟩) hHeld ?_
              try simp only [Act.put, List.getElem_toArray, List.getElem_cons_succ, List.getElem_cons_zero, List.setIfInBounds_toArray, List.set_cons_zero, List.set_cons_succ]
              refine wpAnyH_done (by kernel_rfl) ?_ _
              refine NoPanic.normal ?_
              have HT := Lib.hid hT
              clear hT hHeld
              go_wp2_with (first
                | ((with_reducible show wpList _ _ _ (⟨_, .load 38 (.tmp 16), _, _, _, _⟩ :: _) _ _); refine wpList_load_tx rfl 38 (.tmp 16) rfl g16 0 (rfl) CG _ (row_range (HT.out.row (x := (g16, 38, CG)) (by simp))) Try.underlying38 rfl (by rw [wait_info, HG76.out]) ?_)
                | ((with_reducible show wpList _ _ _ (⟨some 87, .buildSlice 30 _ _, _, _, _, _⟩ :: _) _ _)
                   refine wpList_push rfl rfl (.tmp 86) 87 (.tmp 85) rfl rfl rfl (G) (HGo.out) CG (HCG.out) rfl (w.heap.size) _ _ (HT.out.gone) (HT.out.low.size) (HLg.out) rfl rfl ?_
                   intro v9 w9 ho9 hc9 hk9
                   have HT9 := Lib.hid (HT.out.pushG ho9 hc9 hk9)
                   clear ho9 hc9 hk9))
              exact ⟨⟨k + 1, by omega, by omega, by go_num, by rw [HE.out], by rw [HE.out]; go_num, by rw [HE.out]; exact HT9.out.sub (fun x hx => List.mem_cons_of_mem _ hx)⟩, by simp [intOf]; omega⟩
            · skip
              try simp only [Act.put, List.getElem_toArray, List.getElem_cons_succ, List.getElem_cons_zero, List.setIfInBounds_toArray, List.set_cons_zero, List.set_cons_succ]
              go_simp
              have hne16 : wq.heap.size ≠ gN ∧ wq.heap.size ≠ gX := ⟨Nat.ne_of_gt (hT.apart (x := (gN, 3, Is snx)) (by simp)).2, Nat.ne_of_gt (hT.apart (x := (gX, 23, [.slice (some ⟨gN, 0, none⟩) 64 64])) (by simp)).2⟩
              replace hT := hT.alloc ZT 38
              have hHeld2 := hT.low
              generalize wq.alloc (.cells ZT.toArray 38) = wa4 at *
              generalize wq.heap.size = g16 at *
              refine hK1.out _ _ (hHeld2) (fun hHeld => ?_)
              clear hK1 K1
              try simp only [Act.put, List.getElem_toArray, List.getElem_cons_succ, List.getElem_cons_zero, List.setIfInBounds_toArray, List.set_cons_zero, List.set_cons_succ]
              clear hHeld2
              refine wpAnyH_ready (rs := [25]) (by kernel_rfl) (by simp) (AllReadyH.cons rfl (fun K1 hK1 => ?_) AllReadyH.nil)
              try simp only [Act.put, List.getElem_toArray, List.getElem_cons_succ, List.getElem_cons_zero, List.setIfInBounds_toArray, List.set_cons_zero, List.set_cons_succ]
              go_simp
              refine Calls.mono (PUTC.out _ _ hT) ?_
              clear hT
              rintro e wp5 ⟨rfl, hT⟩
              refine hK1.out _ _ (hT.low) (fun hHeld => ?_)
              clear hK1 K1
              try simp only [Act.put, List.getElem_toArray, List.getElem_cons_succ, List.getElem_cons_zero, List.setIfInBounds_toArray, List.set_cons_zero, List.set_cons_succ]
              refine wpAnyH_take (i := 26) (v := .tuple #[.agg CG.toArray, .bool true, .int .i64 0]) rfl (by kernel_rfl) (by kernel_rfl) (by kernel_rfl) (fun _ _ _ h => h) (Or.inl ⟨by rfl, fun w' hSw => by go_simp⟩) hHeld ?_
              try simp only [Act.put, List.getElem_toArray, List.getElem_cons_succ, List.getElem_cons_zero, List.setIfInBounds_toArray, List.set_cons_zero, List.set_cons_succ]
              refine wpAnyH_take (i := 27) (v := .agg CG.toArray) rfl (by kernel_rfl) (by kernel_rfl) (by kernel_rfl) (fun _ _ _ h => h) (Or.inl ⟨by rfl, fun w' hSw => by go_simp⟩) hHeld ?_
              try simp only [Act.put, List.getElem_toArray, List.getElem_cons_succ, List.getElem_cons_zero, List.setIfInBounds_toArray, List.set_cons_zero, List.set_cons_succ]
              refine wpAnyH_take (i := 28) (v := .bool true) rfl (by kernel_rfl) (by kernel_rfl) (by kernel_rfl) (fun _ _ _ h => h) (Or.inl ⟨by rfl, fun w' hSw => by go_simp⟩) hHeld ?_
              try simp only [Act.put, List.getElem_toArray, List.getElem_cons_succ, List.getElem_cons_zero, List.setIfInBounds_toArray, List.set_cons_zero, List.set_cons_succ]
              refine wpAnyH_take (i := 29) (v := .int .i64 0) rfl (by kernel_rfl) (by kernel_rfl) (by kernel_rfl) (fun _ _ _ h => h) (Or.inl ⟨by rfl, fun w' hSw => by go_simp⟩) hHeld ?_
              try simp only [Act.put, List.getElem_toArray, List.getElem_cons_succ, List.getElem_cons_zero, List.setIfInBounds_toArray, List.set_cons_zero, List.set_cons_succ]
              refine wpAnyH_ready (rs := [31]) (by kernel_rfl) (by simp) (AllReadyH.cons rfl (fun K1 hK1 => ?_) AllReadyH.nil)
              try simp only [Act.put, List.getElem_toArray, List.getElem_cons_succ, List.getElem_cons_zero, List.setIfInBounds_toArray, List.set_cons_zero, List.set_cons_succ]
              rw [if_pos (by rfl)]
              refine wp_store_at 38 (.tmp 16) (.tmp 77) rfl g16 0 CG ZT _ rfl rfl (hT.row (x := (g16, 38, ZT)) (by simp)) (by have := HZ76.out; have := HG76.out; omega) (by rw [wait_info, HG76.out]) HG1.out ?_
              intro ws6 hrS hgS
              rw [splice_all (HG76.out.trans HZ76.out.symm)] at hrS
              have hT2 := hT.write (rows' := [(g16, 38, CG), (gN, 3, Is snx), (gX, 23, [.slice (some ⟨gN, 0, none⟩) 64 64])]) hgS hrS ⟨_, _, List.mem_cons_self⟩ (by
                intro x hx
                simp only [List.mem_cons, List.not_mem_nil, or_false] at hx
                rcases hx with rfl | rfl | rfl
                · exact .inl rfl
                · exact .inr ⟨by simp, hne16.1.symm⟩
                · exact .inr ⟨by simp, hne16.2.symm⟩)
              clear hT hrS hgS
              have hT := hT2
              clear hT2
              refine hK1.out _ _ (hT.low) (fun hHeld => ?_)
              clear hK1 K1
              try simp only [Act.put, List.getElem_toArray, List.getElem_cons_succ, List.getElem_cons_zero, List.setIfInBounds_toArray, List.set_cons_zero, List.set_cons_succ]
              refine wpAnyH_take (i := 32) (v := .bool true) rfl (by kernel_rfl) (by kernel_rfl) (by kernel_rfl) (fun _ _ _ h => h) (Or.inl ⟨by rfl, fun w' hSw => by go_simp⟩) hHeld ?_
              try simp only [Act.put, List.getElem_toArray, List.getElem_cons_succ, List.getElem_cons_zero, List.setIfInBounds_toArray, List.set_cons_zero, List.set_cons_succ]
              refine wpAnyH_take (i := 33) (v := .int .i64 0) rfl (by kernel_rfl) (by kernel_rfl) (by kernel_rfl) (fun _ _ _ h => h) (Or.inl ⟨by rfl, fun w' hSw => by go_simp⟩) hHeld ?_
              try simp only [Act.put, List.getElem_toArray, List.getElem_cons_succ, List.getElem_cons_zero, List.setIfInBounds_toArray, List.set_cons_zero, List.set_cons_succ]
              refine wpAnyH_done (by kernel_rfl) ?_ _
              refine NoPanic.normal ?_
              have HT := Lib.hid hT
              clear hT hHeld
              go_wp2_with (first
                | ((with_reducible show wpList _ _ _ (⟨_, .load 38 (.tmp 16), _, _, _, _⟩ :: _) _ _); refine wpList_load_tx rfl 38 (.tmp 16) rfl g16 0 (rfl) CG _ (row_range (HT.out.row (x := (g16, 38, CG)) (by simp))) Try.underlying38 rfl (by rw [wait_info, HG76.out]) ?_)
                | ((with_reducible show wpList _ _ _ (⟨some 87, .buildSlice 30 _ _, _, _, _, _⟩ :: _) _ _)
                   refine wpList_push rfl rfl (.tmp 86) 87 (.tmp 85) rfl rfl rfl (G) (HGo.out) CG (HCG.out) rfl (w.heap.size) _ _ (HT.out.gone) (HT.out.low.size) (HLg.out) rfl rfl ?_
                   intro v9 w9 ho9 hc9 hk9
                   have HT9 := Lib.hid (HT.out.pushG ho9 hc9 hk9)
                   clear ho9 hc9 hk9))
              exact ⟨⟨k + 1, by omega, by omega, by go_num, by rw [HE.out], by rw [HE.out]; go_num, by rw [HE.out]; exact HT9.out.sub (fun x hx => List.mem_cons_of_mem _ hx)⟩, by simp [intOf]; omega⟩
      | true =>
        have HE0 : Hid (S (k + 1) = Pl.tickE (D (n + 1))) := Lib.hid (by rw [HSk.out]; unfold Pl.step; rw [if_pos htk, HDf.out])
        have HLg : Hid (sgone.length ≤ 100000) := Lib.hid (by omega)
        have OL := Lib.hid (fun W L uo lo rows (h : PyE w W B B size L uo lo sg sgone rows) => h.old ((snow : Int) + 1))
        have HPd : Hid (PyE w wr B B size (D 0).l so (D 0).out sg sgone [(gN, 3, Is (D 0).nx), (gX, 23, [.slice (some ⟨gN, 0, none⟩) 64 64])]) := Lib.hid (by rw [HD0.out]; exact HP.out)
        have ctk := (HCm.out _ HP.out.low).1
        rw [htk] at ctk
        clear hinv hxf
        have HKm : Hid (n - (k + 1) < n - k) := Lib.hid (by omega)
        go_wp2_with fail
        clear ctk
        generalize wr = wo at *
        go_loopw [10, 19] (fun s10 s19 wi => ∃ j : Nat, j ≤ n + 1 ∧ (D j).out.length = sout.length + j ∧ s19 = .int .i64 j ∧ PyE w wi B B size (D j).l s10 (D j).out sg sgone [(gN, 3, Is (D j).nx), (gX, 23, [.slice (some ⟨gN, 0, none⟩) 64 64])]) (fun _ i _ => n + 1 - (intOf i).toNat)
        case atStart => exact ⟨0, by omega, by rw [HD0.out]; rfl, rfl, HPd.out⟩
        case round =>
          obtain ⟨j, hj, hol, rfl, hp⟩ := hrel
          obtain ⟨s10, hs10⟩ : ∃ v, v = u10 := ⟨_, rfl⟩
          subst hs10
          have HPj := Lib.hid hp
          have hij := HDi.out j
          have hnowj := HDn.out j
          have hgj := HDg.out j
          have hpj := HDp.out j
          have hsj := HDs.out j
          have hst := HDst.out j
          clear hp HPd HP
          by_cases hjn : j ≤ n
          · have hji : (j : Int) ≤ (n : Int) := by omega
            cases hb : Pl.best (D j).l (D j).now (Pl.nxf (D j).nx) (D j).l.length with
            | none =>
              have hE := HE0.out
              rw [hst hb (n + 1) (by omega)] at hE
              rw [hnowj] at hb
              have N0 := Lib.hid (fun W (h : PyE w W B B size (D j).l s10 (D j).out sg sgone [(gN, 3, Is (D j).nx), (gX, 23, [.slice (some ⟨gN, 0, none⟩) 64 64])]) => h.next0 snow _ _ _ (next36 (h.row (x := (gX, 23, [.slice (some ⟨gN, 0, none⟩) 64 64])) (by simp)) (h.row (x := (gN, 3, Is (D j).nx)) (by simp)) hij.nx) hb)
              rw [HZT.out] at N0
              generalize D j = d at *
              obtain ⟨el, enx, eout, egone, enow, eput⟩ := d
              simp only at hE hnowj hgj hpj HPj N0 hol
              have hnowj := hnowj.symm
              subst hnowj
              have hgj := hgj.symm
              subst hgj
              have hpj := hpj.symm
              subst hpj
              unfold Pl.tickE at hE
              simp only [Int.natCast_add, Int.natCast_one, Int.cast_ofNat_Int] at hE
              have HE := Lib.hid hE
              clear hE hij hsj hst hb
              go_wp2_with fail
              refine (N0.out _ HPj.out).mono ?_
              rintro _ w3 ⟨rfl, hp3⟩
              have HP3 := Lib.hid hp3
              clear hp3 N0
              go_wp2_with (first
              | (
                 with_reducible show wpList _ _ _ (⟨_, .store 38 (.tmp 20) _, _, _, _, _⟩ :: _) _ _
                 refine wpList_store_at rfl 38 (.tmp 20) (.tmp 100) rfl w3.heap.size 0 ZT ZT _ rfl rfl (Row.new w3 38 ZT) (by have := HZ76.out; have := HZ76.out; omega) (by rw [wait_info, HZ76.out]) HZ1.out ?_
                 intro w4 hr hg
                 rw [splice_all (HZ76.out.trans HZ76.out.symm)] at hr

                 go_loud (have hbx := below_own ((Below.refl w3.heap.size w3).alloc (Nat.le_refl _) (.cells ZT.toArray 38)) hg (fun k hk => by cases hk; exact Nat.le_refl _))
                 have HPe := Lib.hid (HP3.out.below hbx)
                 clear hbx
                 clear hr hg))
              go_wp2_with fail
              refine (OL.out _ _ _ _ _ HPe.out).mono ?_
              rintro _ w5 ⟨A5, c5, rfl, hp5, hs5⟩
              have HP5 := Lib.hid hp5
              have HS5 := Lib.hid hs5
              clear hp5 hs5
              obtain ⟨n5, hn5⟩ : ∃ n5, (Pl.old el ((snow : Int) + 1)).length = n5 := ⟨_, rfl⟩
              rw [hn5]
              have HN5 := Lib.hid hn5
              clear hn5
              go_wp2_with (first
                | ((with_reducible show wpList _ _ _ (⟨_, .call { callee := .builtin .append, args := #[.tmp 118, .tmp 121], argTypes := _ }, _, _, _, _⟩ :: _) _ _)
                   refine wpList_appL rfl (.tmp 118) (.tmp 121) rfl (Pl.old el ((snow : Int) + 1)) A5 c5 HS5.out w.heap.size _ sgone HP5.out.gone HP5.out.low.size (Nat.le_trans HLg.out (by decide)) rfl (by rw [HN5.out]; rfl) ?_
                   intro v9 w9 ho9 hc9 hk9
                   have HP9 := Lib.hid (HP5.out.pushG ho9 hc9 hk9)
                   clear ho9 hc9 hk9))
              exact ⟨⟨k + 1, by omega, by omega, by go_num, by rw [HE.out]; go_num, by rw [HE.out], by rw [HE.out]; exact HP9.out⟩, by simp [intOf]; omega⟩
            | some b =>
              have hbm := (Pl.best_mem (Nat.le_refl _) hb).1
              have hbo := hij.ok.may b hbm
              have hbr := (Pl.best_mem (Nat.le_refl _) hb).2
              have hone := Pl.one_some hb
              rw [← hsj] at hone
              rw [hnowj] at hb
              have N1 := Lib.hid (fun W (h : PyE w W B B size (D j).l s10 (D j).out sg sgone [(gN, 3, Is (D j).nx), (gX, 23, [.slice (some ⟨gN, 0, none⟩) 64 64])]) => h.next1 snow _ _ _ (next36 (h.row (x := (gX, 23, [.slice (some ⟨gN, 0, none⟩) 64 64])) (by simp)) (h.row (x := (gN, 3, Is (D j).nx)) (by simp)) hij.nx) b hb)
              have hfr := hbo.2.frm
              obtain ⟨fr, hfre⟩ : ∃ fr : Nat, b.tx.frm = fr := ⟨b.tx.frm.toNat, by omega⟩
              have hfr64 : fr < 64 := by omega
              have hnl := hij.nx
              have hsum := hij.sum
              have hput := hij.put
              have hnc := hbo.2.nonce
              have hbr2 := hbr.2
              generalize D j = d at *
              obtain ⟨el, enx, eout, egone, enow, eput⟩ := d
              simp only at hone hnowj hgj hpj HPj N1 hnl hsum hput hbr2 hol
              have hnowj := hnowj.symm
              subst hnowj
              have hgj := hgj.symm
              subst hgj
              have hpj := hpj.symm
              subst hpj
              have hcn : (Is enx)[fr]? = some (.int .i64 b.tx.nonce) := by
                rw [← hbr2, hfre]
                unfold Pl.nxf Is
                rw [List.getElem?_map, Int.toNat_natCast, List.getElem?_eq_getElem (by omega), List.getD_eq_getElem?_getD, List.getElem?_eq_getElem (by omega)]
                rfl
              have HCn := Lib.hid hcn
              have hset : (Is enx).set fr (.int .i64 (b.tx.nonce + 1)) = Is (enx.set b.tx.frm.toNat (Pl.nxf enx b.tx.frm + 1)) := by
                rw [hbr2, hfre, Int.toNat_natCast]
                unfold Is
                rw [List.map_set]
              have HSet := Lib.hid hset
              have HDj := Lib.hid hone
              have hj5 : (j : Int) ≤ 120 := by omega
              have HLo : Hid (eout.length ≤ 100000) := Lib.hid (by omega)
              have HIl : Hid ((Is enx).length = 64) := Lib.hid (by unfold Is; rw [List.length_map]; exact hnl)
              have HBo := Lib.hid hbo.1
              have HB76 := Lib.hid (Wt.cells_len hbo.1)
              have HB1 := Lib.hid (Wt.cells_one hbo.1)
              have HBx := Lib.hid (fun W b0 (hr : Row W b0 38 b.cells) => WBox.row hbo.1 hr)
              have ewn : IntKind.i64.wrap (b.tx.nonce + 1) = b.tx.nonce + 1 := IntWalk.i64_in _ (by unfold Pl.small at hnc; omega)
              have hf1 : (fr : Int) < 64 := by omega
              have hf0 : (0 : Int) ≤ (fr : Int) := by omega
              generalize Pl.nxf enx b.tx.frm = nv at *
              rw [hfre] at HBx
              have HFr := Lib.hid hfre
              obtain ⟨CB, hCB⟩ : ∃ CB, b.cells = CB := ⟨_, rfl⟩
              rw [hCB] at HB76 HB1 HBx N1
              have HCB := Lib.hid hCB
              generalize b.tx.nonce = bn at *
              clear hbm hbo hbr hone hb hfr hfre hnl hsum hput hnc hbr2 hcn hset hCB hij hsj hst
              go_wp2_with fail
              refine (N1.out _ HPj.out).mono ?_
              rintro _ w3 ⟨rfl, hp3⟩
              have HP3 := Lib.hid hp3
              clear hp3 N1
              have HPz := Lib.hid (HP3.out.alloc ZT 38)
              have HN20 : Hid (w3.heap.size ≠ gN ∧ w3.heap.size ≠ gX) := Lib.hid ⟨Nat.ne_of_gt (HP3.out.apart (x := (gN, 3, Is enx)) (by simp)).2, Nat.ne_of_gt (HP3.out.apart (x := (gX, 23, [.slice (some ⟨gN, 0, none⟩) 64 64])) (by simp)).2⟩
              have HNX : Hid (gN ≠ gX) := HNNX
              go_wp2_with (first
              | (
                 with_reducible show wpList _ _ _ (⟨_, .store 38 (.tmp 20) _, _, _, _, _⟩ :: _) _ _
                 refine wpList_store_at rfl 38 (.tmp 20) (.tmp 100) rfl w3.heap.size 0 CB ZT _ rfl rfl (HPz.out.row (x := (w3.heap.size, 38, ZT)) (by simp)) (by have := HZ76.out; have := HB76.out; omega) (by rw [wait_info, HB76.out]) HB1.out ?_
                 intro w4 hr hg
                 rw [splice_all (HB76.out.trans HZ76.out.symm)] at hr
                 have HP4 := Lib.hid (HPz.out.write (rows' := [(w3.heap.size, 38, CB), (gN, 3, Is enx), (gX, 23, [.slice (some ⟨gN, 0, none⟩) 64 64])]) hg hr ⟨_, _, List.mem_cons_self⟩ (by
                   intro x hx
                   simp only [List.mem_cons, List.not_mem_nil, or_false] at hx
                   rcases hx with rfl | rfl | rfl
                   · exact .inl rfl
                   · exact .inr ⟨by simp, HN20.out.1.symm⟩
                   · exact .inr ⟨by simp, HN20.out.2.symm⟩))
                 have cx := (HP4.out.row (x := (gX, 23, [.slice (some ⟨gN, 0, none⟩) 64 64])) (by simp)).cell 0 (by simp)
                 have cn : w4.cell? ⟨gN, fr, none⟩ = some (.int .i64 bn) := by
                   have h1 := (HP4.out.row (x := (gN, 3, Is enx)) (by simp)).cell fr (by rw [HIl.out]; omega)
                   have h2 := HCn.out
                   rw [List.getElem?_eq_getElem (by rw [HIl.out]; omega)] at h2
                   injection h2 with h2
                   rw [h1, h2]
                 have cf := (HBx.out _ _ (HP4.out.row (x := (w3.heap.size, 38, CB)) (by simp))).1
                 simp only [List.getElem_cons_zero] at cx
                 clear hr hg)
              | ((with_reducible show wpList _ _ _ (⟨_, .store 3 (.tmp 111) _, _, _, _, _⟩ :: _) _ _)
                 go_loud (refine wpList_store_int rfl 3 (.tmp 111) (.tmp 110) rfl gN fr 3 (Is enx) (bn + 1) (by first | rfl | simp) rfl (HP4.out.row (x := (gN, 3, Is enx)) (by simp)) (by rw [HIl.out]; omega) rfl ?_)
                 intro w6 hr hg
                 rw [HSet.out] at hr
                 have HP6 := Lib.hid (HP4.out.write (rows' := [(w3.heap.size, 38, CB), (gN, 3, Is (enx.set b.tx.frm.toNat (nv + 1))), (gX, 23, [.slice (some ⟨gN, 0, none⟩) 64 64])]) hg hr ⟨_, _, List.mem_cons_of_mem _ List.mem_cons_self⟩ (by
                   intro x hx
                   simp only [List.mem_cons, List.not_mem_nil, or_false] at hx
                   rcases hx with rfl | rfl | rfl
                   · exact .inr ⟨by simp, HN20.out.1⟩
                   · exact .inl rfl
                   · exact .inr ⟨by simp, HNX.out.symm⟩))
                 clear hr hg)
              | ((with_reducible show wpList _ _ _ (⟨_, .load 38 (.tmp 20), _, _, _, _⟩ :: _) _ _); refine wpList_load_tx rfl 38 (.tmp 20) rfl w3.heap.size 0 (rfl) CB _ (row_range (HP6.out.row (x := (w3.heap.size, 38, CB)) (by simp))) Try.underlying38 rfl (by rw [wait_info, HB76.out]) ?_)
              | ((with_reducible show wpList _ _ _ (⟨some 114, .buildSlice 30 _ _, _, _, _, _⟩ :: _) _ _)
                 refine wpList_push rfl rfl (.tmp 113) 114 (.tmp 112) rfl rfl rfl (b) (HBo.out) CB (HCB.out) rfl (w.heap.size) _ _ (HP6.out.out) (HP6.out.low.size) (HLo.out) rfl rfl ?_
                 intro v9 w9 ho9 hc9 hk9
                 have HP8 := Lib.hid (HP6.out.pushO ho9 hc9 hk9)
                 clear ho9 hc9 hk9))
              exact ⟨⟨j + 1, by omega, by rw [HDj.out]; simp; omega, by go_num, by rw [HDj.out]; exact HP8.out.sub (fun x hx => List.mem_cons_of_mem _ hx)⟩, by simp [intOf]; omega⟩
          · have hjn' : j = n + 1 := by omega
            have hji : ¬ (j : Int) ≤ (n : Int) := by omega
            have hE := HE0.out
            rw [← hjn'] at hE
            generalize D j = d at *
            obtain ⟨el, enx, eout, egone, enow, eput⟩ := d
            simp only at hE hnowj hgj hpj HPj
            have hnowj := hnowj.symm
            subst hnowj
            have hgj := hgj.symm
            subst hgj
            have hpj := hpj.symm
            subst hpj
            unfold Pl.tickE at hE
            simp only [Int.natCast_add, Int.natCast_one, Int.cast_ofNat_Int] at hE
            have HE := Lib.hid hE
            have HPe := HPj
            clear hE hij hsj hst hjn hjn'
            go_wp2_with fail
            refine (OL.out _ _ _ _ _ HPe.out).mono ?_
            rintro _ w5 ⟨A5, c5, rfl, hp5, hs5⟩
            have HP5 := Lib.hid hp5
            have HS5 := Lib.hid hs5
            clear hp5 hs5
            obtain ⟨n5, hn5⟩ : ∃ n5, (Pl.old el ((snow : Int) + 1)).length = n5 := ⟨_, rfl⟩
            rw [hn5]
            have HN5 := Lib.hid hn5
            clear hn5
            go_wp2_with (first
              | ((with_reducible show wpList _ _ _ (⟨_, .call { callee := .builtin .append, args := #[.tmp 118, .tmp 121], argTypes := _ }, _, _, _, _⟩ :: _) _ _)
                 refine wpList_appL rfl (.tmp 118) (.tmp 121) rfl (Pl.old el ((snow : Int) + 1)) A5 c5 HS5.out w.heap.size _ sgone HP5.out.gone HP5.out.low.size (Nat.le_trans HLg.out (by decide)) rfl (by rw [HN5.out]; rfl) ?_
                 intro v9 w9 ho9 hc9 hk9
                 have HP9 := Lib.hid (HP5.out.pushG ho9 hc9 hk9)
                 clear ho9 hc9 hk9))
            exact ⟨⟨k + 1, by omega, by omega, by go_num, by rw [HE.out]; go_num, by rw [HE.out], by rw [HE.out]; exact HP9.out⟩, by simp [intOf]; omega⟩
    · have hkm : k = min n 120 := by omega
      have hki : ¬ ((k : Int) < (n : Int) ∧ (k : Int) < 120) := by omega
      have HPk := HPE.out
      rw [← hkm] at HPk
      have HPK := Lib.hid HPk
      clear hinv HPk HPE hkn hkm
      go_wp2_with fail
      all_goals
        (try simp only [Exit.inBlock, Exit.then])
        refine bodyPost_ret (results_tmp4 rfl _ _ _) rfl ?_
        exact (HPK.out _ _).2 ⟨_, _, _, _, rfl, HP.out.sub (fun x hx => by simp at hx)⟩
end Go.Proofs.Ytoicpidiejhjeaa
