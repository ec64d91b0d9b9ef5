/- The reference's Next. -/
import Derived.Test.YtoicpidiejhjeaaPlWout
namespace Go.Proofs.Ytoicpidiejhjeaa
open Go.RowKit
set_option linter.unusedVariables false
set_option linter.unusedSimpArgs false
set_option maxRecDepth 100000

/-- what is left, raised -/
def Pl.rm (b : Wt) (l : List Wt) (k : Nat) : List Wt := (Pl.wout (l.take k) b.ix).map (Pl.raise b)
theorem Pl.rm_succ (b : Wt) (l : List Wt) (k : Nat) (hk : k < l.length) : Pl.rm b l (k + 1) = Pl.rm b l k ++ (if l[k].ix != b.ix then [Pl.raise b l[k]] else []) := by
  unfold Pl.rm
  rw [Pl.wout_take l b.ix k hk, List.map_append]
  split <;> rfl
theorem Pl.rm_len (b : Wt) (l : List Wt) (k : Nat) : (Pl.rm b l k).length ≤ k := by
  unfold Pl.rm
  rw [List.length_map]
  exact Nat.le_trans (Pl.wout_len _ _) (by rw [List.length_take]; omega)
theorem Pl.rm_end {size : Nat} {b : Wt} {l : List Wt} (h : Pl.Ok size l) (hb : b ∈ l) : Pl.rm b l l.length = (l.eraseIdx (Pl.pos l b.ix)).map (Pl.raise b) := by
  obtain ⟨i, hi, rfl⟩ := List.mem_iff_getElem.1 hb
  unfold Pl.rm
  rw [List.take_length, Pl.wout_erase h.srt i hi, Pl.pos_has h.srt hi]
theorem RNext.of {w wr w1 w2 : World} {base B size g6 : Nat} {v s : Value} {l L2 : List Wt} (h : PAt 32 w base B v size l) (hb : Below w.heap.size w wr) (ho : OwnL wr w.heap.size 38 76 Wt.cells s L2) (hr : Row w1 B 32 ([.int .i64 size, v].set 1 s)) (hg : wr.grownBy w1 (some B)) (hg2 : w1.grownBy w2 (some g6)) (h6 : w.heap.size ≤ g6) (h6s : s.ownBlock ≠ some g6) (hok : Pl.Ok size L2) : PTo 32 w w2 base B v size L2 := by
  have hB := h.row.lt
  have hs : s.ownBlock ≠ some B := fun e => by have := (ho.lt _ e).1; omega
  refine ⟨s, ⟨hr.kept hg2 (by intro e; injection e with e; omega), ((ho.kept hg (.inr hs)).kept hg2 (.inr h6s)).mono (Nat.le_trans h.lo (Nat.le_of_lt hB)), hok, h.size, h.lo⟩, ?_, ?_⟩
  · exact ((Chg.of_below hb).trans (Chg.of_grown (S := PS B v) hg (fun k hk => by cases hk; exact .inl (.inl rfl))) (fun i hi => .inl hi)).trans (Chg.of_grown (S := fun k => k = g6) hg2 (fun k hk => by cases hk; exact .inl rfl)) (fun i hi => .inr (by subst hi; exact h6))
  · rintro k (rfl | hk)
    · exact .inl (.inl rfl)
    · exact .inr (ho.lt k hk).1
/-- what the reference's Next ends with -/
def RNextEnd (w w' : World) (base B size : Nat) (v : Value) (l : List Wt) (o : Option Wt) (e : Ending) : Prop := e = .returned (.tuple #[.agg (o.getD Wt.none).cells.toArray, .bool o.isSome]) ∧
  match o with
  | none => Below w.heap.size w w'
  | some b => PTo 32 w w' base B v size ((l.eraseIdx (Pl.pos l b.ix)).map (Pl.raise b))
set_option maxHeartbeats 12800000 in
theorem PAt.rnext {w : World} {base B size gN : Nat} {v : Value} {l : List Wt} (now : Int) (N : List Int) (hN : N.length = 64) (hrow : Row w gN 3 (Is N)) (h : PAt 32 w base B v size l) :
    Calls Try.prog 17 #[.pointer (some ⟨B, 0, none⟩), .int .i64 now, .slice (some ⟨gN, 0, none⟩) 64 64] w fun e w' => RNextEnd w w' base B size v l (Pl.best l now (Pl.nxf N) l.length) e := by
  obtain ⟨A, c, rfl, _, _⟩ := h.own.form
  have HA := Lib.hid (h.own.lsAt (Wt.lens h.wok))
  have HL := Lib.hid h.ok.may
  have hn256 := h.n256
  have HP0 : Hid (Pl.best l now (Pl.nxf N) 0 = none) := Lib.hid rfl
  have HPn : Hid (∀ k (hk : k < l.length), Pl.best l now (Pl.nxf N) k = none → ((l[k].at_ ≤ now ∧ Pl.nxf N l[k].tx.frm = l[k].tx.nonce) → Pl.best l now (Pl.nxf N) (k + 1) = some l[k]) ∧ (¬ (l[k].at_ ≤ now ∧ Pl.nxf N l[k].tx.frm = l[k].tx.nonce) → Pl.best l now (Pl.nxf N) (k + 1) = none)) := Lib.hid (fun k hk => Pl.best_n hk)
  have HPb : Hid (∀ k (hk : k < l.length) b, Pl.best l now (Pl.nxf N) k = some b → (((l[k].at_ ≤ now ∧ Pl.nxf N l[k].tx.frm = l[k].tx.nonce) ∧ Pl.Lt l[k] b) → Pl.best l now (Pl.nxf N) (k + 1) = some l[k]) ∧ (¬ ((l[k].at_ ≤ now ∧ Pl.nxf N l[k].tx.frm = l[k].tx.nonce) ∧ Pl.Lt l[k] b) → Pl.best l now (Pl.nxf N) (k + 1) = some b)) := Lib.hid (fun k hk b => Pl.best_s hk)
  have HBM : Hid (∀ k b, k ≤ l.length → Pl.best l now (Pl.nxf N) k = some b → b.Ok ∧ Pl.May b ∧ b ∈ l) := Lib.hid (fun k b hk hb => ⟨(h.ok.may b (Pl.best_mem hk hb).1).1, (h.ok.may b (Pl.best_mem hk hb).1).2, (Pl.best_mem hk hb).1⟩)
  have HNc : Hid (∀ W, Below w.heap.size w W → ∀ i : Nat, i < 64 → W.cell? ⟨gN, i, none⟩ = some (.int .i64 (Pl.nxf N (i : Int)))) := Lib.hid (fun W hW i hi => rowIs (hrow.below hW) hN i hi)
  have HZ76 := Lib.hid (Wt.cells_len Wt.none_ok)
  have HZ1 := Lib.hid (Wt.cells_one Wt.none_ok)
  have HZw := Lib.hid Wt.none_ok
  have hzv := wait_zv
  have HBt : Hid (Try.prog.built 38 [] = some Wt.none.cells.toArray) := Lib.hid wait_built0
  have hcell1 : Hid (∀ W, Below w.heap.size w W → W.cell? ⟨B, 1, none⟩ = some (.slice A l.length c)) := Lib.hid (fun W hW => (h.below hW).c1)
  have hR6 := (Row.new w 38 Wt.none.cells).below ((Below.refl _ _).alloc (Nat.le_refl _) (.cells Wt.none.cells.toArray 38))
  have hRb := Row.new (w.alloc (.cells Wt.none.cells.toArray 38)) 38 Wt.none.cells
  have hB2 := ((Below.refl w.heap.size w).alloc (Nat.le_refl _) (.cells Wt.none.cells.toArray 38)).alloc (by simp) (.cells Wt.none.cells.toArray 38)
  rw [show (w.alloc (.cells Wt.none.cells.toArray 38)).heap.size = w.heap.size + 1 by simp] at hRb
  have HZe : Hid ((none : Option Wt).getD Wt.none = Wt.none) := Lib.hid rfl
  have HH0 := Lib.hid h
  obtain ⟨n, hn⟩ : ∃ n, l.length = n := ⟨_, rfl⟩
  have HN : Hid (n = l.length) := Lib.hid hn.symm
  have hn0 : n ≤ 256 := by omega
  rw [hn] at hcell1 HH0 ⊢
  have HH := HH0
  have c1 := hcell1.out w (Below.refl _ _)
  clear hn h hn256 hrow HH0
  have hnx : ∃ nx, Pl.nxf N = nx := ⟨_, rfl⟩
  obtain ⟨nx, hnx⟩ := hnx
  rw [hnx] at HPn HPb HBM HP0 HNc ⊢
  generalize hP : Pl.best l now nx = P at *
  clear hP hnx
  obtain ⟨ZT, hZT⟩ : ∃ ZT, Wt.none.cells = ZT := ⟨_, rfl⟩
  rw [hZT] at HZ76 HZ1 hzv HBt hR6 hRb hB2
  have HZT := Lib.hid hZT
  have HR6a := Lib.hid hR6
  have HRba := Lib.hid hRb
  have HB2 := Lib.hid hB2
  clear hZT hR6 hRb hB2
  go_enter Try.func17, Try.ntmps17
  go_wp2_with (first
  | ((with_reducible show wpList _ _ _ (⟨_, .build 38 _, _, _, _, _⟩ :: _) _ _); refine wpList_buildL rfl 38 [] rfl (some 15) rfl _ rfl ZT.toArray HBt.out ?_)
  | (
     with_reducible show wpList _ _ _ (⟨_, .store 38 (.tmp 8) _, _, _, _, _⟩ :: _) _ _
     refine wpList_store_at rfl 38 (.tmp 8) (.tmp 15) rfl (w.heap.size + 1) 0 ZT ZT _ rfl rfl (HRba.out) (by have := HZ76.out; have := HZ76.out; omega) (by rw [wait_info, HZ76.out]) HZ1.out ?_
     intro w3 hr hg
     rw [splice_all (HZ76.out.trans HZ76.out.symm)] at hr
     have HB3 := Lib.hid (below_own HB2.out hg (fun k hk => by cases hk; exact Nat.le_succ _))
     have HR63 := Lib.hid (HR6a.out.kept hg (by simp))
     have HRb3 := Lib.hid hr
     clear hr hg))
  obtain ⟨g6, hg6⟩ : ∃ g6, w.heap.size = g6 := ⟨_, rfl⟩
  have HG6 : Hid (g6 ≠ w.heap.size + 1) := Lib.hid (by omega)
  have HGb : Hid (w.heap.size ≤ w.heap.size + 1) := Lib.hid (by omega)
  have HGs : Hid (w.heap.size ≤ g6) := Lib.hid (by omega)
  have HR63' : Hid (Row w3 g6 38 ZT) := by rw [← hg6]; exact HR63
  have HGe := Lib.hid hg6
  generalize w.heap.size + 1 = gb at *
  rw [hg6]
  have hgo : ∀ {X : Prop}, X → X := fun q => q
  clear hgo HR63 hg6 c1
  go_loopw [9, 10] (fun s9 si wr => ∃ k : Nat, k ≤ n ∧ si = .int .i64 k ∧ s9 = .bool (P k).isSome ∧ Row wr gb 38 ((P k).getD Wt.none).cells ∧ Row wr g6 38 ZT ∧ Below w.heap.size w wr) (fun _ i _ => n - (intOf i).toNat)
  case atStart => exact ⟨0, Nat.zero_le _, rfl, (by rw [HP0.out]; rfl), (by rw [HP0.out, HZe.out, HZT.out]; exact HRb3.out), HR63'.out, HB3.out⟩
  case round =>
    obtain ⟨k, hk, rfl, rfl, hrb, hr6, hb⟩ := hrel
    have HB := Lib.hid hb
    have HRb := Lib.hid hrb
    have HR6 := Lib.hid hr6
    clear hb hrb hr6 HRb3 HR63' HB3
    have c1 := hcell1.out _ HB.out
    by_cases hkn : k < n
    · have hki : (k : Int) < (n : Int) := by omega
      have hk0 : (0 : Int) ≤ (k : Int) := by omega
      have hkl : k < l.length := by have := HN.out; omega
      obtain ⟨g, rfl, hg, hat0⟩ := HA.out (by intro e; rw [e] at hkl; simp at hkl)
      have hX := HL.out _ (List.getElem_mem hkl)
      have HR : Hid (wr.rangeAt g (k * 76) l[k].cells) := Lib.hid (fun q u hu => (HB.out.cell (p := ⟨g, k * 76 + q, none⟩) hg).trans (hat0 k hkl q u hu))
      have HPN := Lib.hid (HPn.out k hkl)
      have HPB := Lib.hid (HPb.out k hkl)
      obtain ⟨X, hXe⟩ : ∃ X, l[k] = X := ⟨_, rfl⟩
      rw [hXe] at hX HR HPN HPB
      have HXo := Lib.hid hX.1
      have hfr0 := (Pl.err_zero hX.2.1).1
      obtain ⟨fr, hfre⟩ : ∃ fr : Nat, X.tx.frm = fr := ⟨X.tx.frm.toNat, by omega⟩
      have hf0 : (0 : Int) ≤ (fr : Int) := by omega
      have hf1 : (fr : Int) < 64 := by omega
      have HNv0 := Lib.hid (fun W hW => HNc.out W hW fr (by omega))
      have HC76 := Lib.hid (Wt.cells_len hX.1)
      have HC1 := Lib.hid (Wt.cells_one hX.1)
      have HBx := Lib.hid (fun W b (hr : Row W b 38 X.cells) => WBox.row hX.1 hr)
      rw [hfre] at HPN HPB HBx
      generalize nx (fr : Int) = nv at *
      have HLs := Lib.hid (fun (b : Wt) (hb : b.Ok) W => less18_any hX.1 hb W)
      obtain ⟨C, hC⟩ : ∃ C, X.cells = C := ⟨_, rfl⟩
      rw [hC] at HC76 HC1 HR HBx HLs
      have HCx := Lib.hid hC
      obtain ⟨xat, hxat⟩ : ∃ q, X.at_ = q := ⟨_, rfl⟩
      obtain ⟨xn, hxn⟩ : ∃ q, X.tx.nonce = q := ⟨_, rfl⟩
      rw [hxat, hxn] at HPN HPB HBx
      have hCB := Wt.cells_len (w := (P k).getD Wt.none) (by
        cases hb : P k with
        | none => exact HZw.out
        | some b => exact (HBM.out k b (by have := HN.out; omega) hb).1)
      obtain ⟨CB, hCBe⟩ : ∃ CB, ((P k).getD Wt.none).cells = CB := ⟨_, rfl⟩
      rw [hCBe] at hCB HRb
      have HCB76 := Lib.hid hCB
      have HCBe := Lib.hid hCBe
      have hkl2 : k ≤ l.length := Nat.le_of_lt hkl
      clear hat0 hX hXe hC hfr0 hfre hCB hCBe hkl hxat hxn hg
      cases hb : P k with
      | none =>
        have HPS := Lib.hid (HPN.out hb)
        rw [hb] at HCBe
        clear hb HPN HPB HLs
        simp only [Option.isSome_none]
        by_cases hat : xat ≤ now
        · have dA : decide (xat ≤ now) = true := decide_eq_true hat
          by_cases hnv : nv = xn
          · have dN : (xn == nv) = true := by simpa using hnv.symm
            have hP1 : P (k + 1) = some X := HPS.out.1 ⟨hat, hnv⟩
            have HP1 := Lib.hid hP1
            clear hP1 hnv hat
            go_wp2_with (first
            | ((with_reducible show wpList _ _ _ (⟨_, .load 38 (.tmp 30), _, _, _, _⟩ :: _) _ _); refine wpList_load_tx rfl 38 (.tmp 30) rfl g (k * 76) (by first | rfl | simp) C _ (HR.out) Try.underlying38 rfl (by rw [wait_info, HC76.out]) ?_)
            | (
               with_reducible show wpList _ _ _ (⟨_, .store 38 (.tmp 11) _, _, _, _, _⟩ :: _) _ _
               refine wpList_store_at rfl 38 (.tmp 11) (.tmp 31) rfl wr.heap.size 0 C ZT _ rfl rfl (Row.new wr 38 ZT) (by have := HZ76.out; have := HC76.out; omega) (by rw [wait_info, HC76.out]) HC1.out ?_
               intro w4 hr hg
               rw [splice_all (HC76.out.trans HZ76.out.symm)] at hr
               have hbx := below_own ((Below.refl wr.heap.size wr).alloc (Nat.le_refl _) (.cells ZT.toArray 38)) hg (fun k hk => by cases hk; exact Nat.le_refl _)
               have HB4 := Lib.hid (two_below' HB.out hbx)
               have HRb4 := Lib.hid (HRb.out.below hbx)
               have HR64 := Lib.hid (HR6.out.below hbx)
               have HNv := Lib.hid (fun W (hW : Below w4.heap.size w4 W) => HNv0.out W (two_below' HB4.out hW))
               have HRx4 := Lib.hid hr
               clear hbx
               clear hr hg))
            generalize wr.heap.size = gx at *
            refine wp_region_noPanic ?_
            refine wp_region_held_drew (S := fun w' => Below w4.heap.size w4 w') (by kernel_rfl) ((Below.refl _ _).drew) (fun hHeld => ?_)
            generalize w4.drew = wq at *
            refine wpAnyH_take (i := 0) (v := .pointer (some ⟨gx, 74, none⟩)) rfl (by kernel_rfl) (by kernel_rfl) (by kernel_rfl) (fun _ _ _ h => h) (Or.inl ⟨by rfl, fun w' hSw => by go_simp⟩) hHeld ?_
            try simp only [Act.put, List.getElem_toArray, List.getElem_cons_succ, List.getElem_cons_zero, List.setIfInBounds_toArray, List.set_cons_zero, List.set_cons_succ]
            refine wpAnyH_take (i := 1) (v := .int .i64 xat) rfl (by kernel_rfl) (by kernel_rfl) (by kernel_rfl) (fun _ _ _ h => h) (Or.inl ⟨by rfl, fun w' hSw => by have hq := hSw; have hd := (HBx.out _ _ (HRx4.out.below hq)).2.2.2.2.2.1; go_simp⟩) hHeld ?_
            try simp only [Act.put, List.getElem_toArray, List.getElem_cons_succ, List.getElem_cons_zero, List.setIfInBounds_toArray, List.set_cons_zero, List.set_cons_succ]
            refine wpAnyH_take (i := 2) (v := .int .i64 now) rfl (by kernel_rfl) (by kernel_rfl) (by kernel_rfl) (fun _ _ _ h => h) (Or.inl ⟨by rfl, fun w' hSw => by go_simp⟩) hHeld ?_
            try simp only [Act.put, List.getElem_toArray, List.getElem_cons_succ, List.getElem_cons_zero, List.setIfInBounds_toArray, List.set_cons_zero, List.set_cons_succ]
            refine wpAnyH_take (i := 3) (v := .bool true) rfl (by kernel_rfl) (by kernel_rfl) (by kernel_rfl) (fun _ _ _ h => h) (Or.inl ⟨by rfl, fun w' hSw => by go_simp⟩) hHeld ?_
            try simp only [Act.put, List.getElem_toArray, List.getElem_cons_succ, List.getElem_cons_zero, List.setIfInBounds_toArray, List.set_cons_zero, List.set_cons_succ]
            refine wpAnyH_take (i := 4) (v := .bool true) rfl (by kernel_rfl) (by kernel_rfl) (by kernel_rfl) (fun _ _ _ h => h) (Or.inl ⟨by rfl, fun w' hSw => by go_simp⟩) hHeld ?_
            try simp only [Act.put, List.getElem_toArray, List.getElem_cons_succ, List.getElem_cons_zero, List.setIfInBounds_toArray, List.set_cons_zero, List.set_cons_succ]
            refine wpAnyH_take (i := 5) (v := .pointer (some ⟨gx, 0, none⟩)) rfl (by kernel_rfl) (by kernel_rfl) (by kernel_rfl) (fun _ _ _ h => h) (Or.inl ⟨by rfl, fun w' hSw => by go_simp⟩) hHeld ?_
            try simp only [Act.put, List.getElem_toArray, List.getElem_cons_succ, List.getElem_cons_zero, List.setIfInBounds_toArray, List.set_cons_zero, List.set_cons_succ]
            refine wpAnyH_take (i := 6) (v := .pointer (some ⟨gx, 1, none⟩)) rfl (by kernel_rfl) (by kernel_rfl) (by kernel_rfl) (fun _ _ _ h => h) (Or.inl ⟨by rfl, fun w' hSw => by go_simp⟩) hHeld ?_
            try simp only [Act.put, List.getElem_toArray, List.getElem_cons_succ, List.getElem_cons_zero, List.setIfInBounds_toArray, List.set_cons_zero, List.set_cons_succ]
            refine wpAnyH_take (i := 7) (v := .int .i64 xn) rfl (by kernel_rfl) (by kernel_rfl) (by kernel_rfl) (fun _ _ _ h => h) (Or.inl ⟨by rfl, fun w' hSw => by have hq := hSw; have hd := (HBx.out _ _ (HRx4.out.below hq)).2.1; go_simp⟩) hHeld ?_
            try simp only [Act.put, List.getElem_toArray, List.getElem_cons_succ, List.getElem_cons_zero, List.setIfInBounds_toArray, List.set_cons_zero, List.set_cons_succ]
            refine wpAnyH_take (i := 8) (v := .slice (some ⟨gN, 0, none⟩) 64 64) rfl (by kernel_rfl) (by kernel_rfl) (by kernel_rfl) (fun _ _ _ h => h) (Or.inl ⟨by rfl, fun w' hSw => by go_simp⟩) hHeld ?_
            try simp only [Act.put, List.getElem_toArray, List.getElem_cons_succ, List.getElem_cons_zero, List.setIfInBounds_toArray, List.set_cons_zero, List.set_cons_succ]
            refine wpAnyH_take (i := 9) (v := .pointer (some ⟨gx, 0, none⟩)) rfl (by kernel_rfl) (by kernel_rfl) (by kernel_rfl) (fun _ _ _ h => h) (Or.inl ⟨by rfl, fun w' hSw => by go_simp⟩) hHeld ?_
            try simp only [Act.put, List.getElem_toArray, List.getElem_cons_succ, List.getElem_cons_zero, List.setIfInBounds_toArray, List.set_cons_zero, List.set_cons_succ]
            refine wpAnyH_take (i := 10) (v := .pointer (some ⟨gx, 0, none⟩)) rfl (by kernel_rfl) (by kernel_rfl) (by kernel_rfl) (fun _ _ _ h => h) (Or.inl ⟨by rfl, fun w' hSw => by go_simp⟩) hHeld ?_
            try simp only [Act.put, List.getElem_toArray, List.getElem_cons_succ, List.getElem_cons_zero, List.setIfInBounds_toArray, List.set_cons_zero, List.set_cons_succ]
            refine wpAnyH_take (i := 11) (v := .int .i64 fr) rfl (by kernel_rfl) (by kernel_rfl) (by kernel_rfl) (fun _ _ _ h => h) (Or.inl ⟨by rfl, fun w' hSw => by have hq := hSw; have hd := (HBx.out _ _ (HRx4.out.below hq)).1; go_simp⟩) hHeld ?_
            try simp only [Act.put, List.getElem_toArray, List.getElem_cons_succ, List.getElem_cons_zero, List.setIfInBounds_toArray, List.set_cons_zero, List.set_cons_succ]
            refine wpAnyH_take (i := 12) (v := .pointer (some ⟨gN, fr, none⟩)) rfl (by kernel_rfl) (by kernel_rfl) (by kernel_rfl) (fun _ _ _ h => h) (Or.inl ⟨by rfl, fun w' hSw => by go_simp⟩) hHeld ?_
            try simp only [Act.put, List.getElem_toArray, List.getElem_cons_succ, List.getElem_cons_zero, List.setIfInBounds_toArray, List.set_cons_zero, List.set_cons_succ]
            refine wpAnyH_take (i := 13) (v := .int .i64 nv) rfl (by kernel_rfl) (by kernel_rfl) (by kernel_rfl) (fun _ _ _ h => h) (Or.inl ⟨by rfl, fun w' hSw => by have hq := hSw; have hd := HNv.out _ hq; go_simp⟩) hHeld ?_
            try simp only [Act.put, List.getElem_toArray, List.getElem_cons_succ, List.getElem_cons_zero, List.setIfInBounds_toArray, List.set_cons_zero, List.set_cons_succ]
            refine wpAnyH_take (i := 14) (v := .bool true) rfl (by kernel_rfl) (by kernel_rfl) (by kernel_rfl) (fun _ _ _ h => h) (Or.inl ⟨by rfl, fun w' hSw => by go_simp⟩) hHeld ?_
            try simp only [Act.put, List.getElem_toArray, List.getElem_cons_succ, List.getElem_cons_zero, List.setIfInBounds_toArray, List.set_cons_zero, List.set_cons_succ]
            refine wpAnyH_take (i := 15) (v := .bool true) rfl (by kernel_rfl) (by kernel_rfl) (by kernel_rfl) (fun _ _ _ h => h) (Or.inl ⟨by rfl, fun w' hSw => by go_simp⟩) hHeld ?_
            try simp only [Act.put, List.getElem_toArray, List.getElem_cons_succ, List.getElem_cons_zero, List.setIfInBounds_toArray, List.set_cons_zero, List.set_cons_succ]
            refine wpAnyH_take (i := 16) (v := .bool true) rfl (by kernel_rfl) (by kernel_rfl) (by kernel_rfl) (fun _ _ _ h => h) (Or.inl ⟨by rfl, fun w' hSw => by go_simp⟩) hHeld ?_
            try simp only [Act.put, List.getElem_toArray, List.getElem_cons_succ, List.getElem_cons_zero, List.setIfInBounds_toArray, List.set_cons_zero, List.set_cons_succ]
            refine wpAnyH_take (i := 17) (v := .bool false) rfl (by kernel_rfl) (by kernel_rfl) (by kernel_rfl) (fun _ _ _ h => h) (Or.inl ⟨by rfl, fun w' hSw => by go_simp⟩) hHeld ?_
            try simp only [Act.put, List.getElem_toArray, List.getElem_cons_succ, List.getElem_cons_zero, List.setIfInBounds_toArray, List.set_cons_zero, List.set_cons_succ]
            refine wpAnyH_take (i := 18) (v := .bool true) rfl (by kernel_rfl) (by kernel_rfl) (by kernel_rfl) (fun _ _ _ h => h) (Or.inl ⟨by rfl, fun w' hSw => by go_simp⟩) hHeld ?_
            try simp only [Act.put, List.getElem_toArray, List.getElem_cons_succ, List.getElem_cons_zero, List.setIfInBounds_toArray, List.set_cons_zero, List.set_cons_succ]
            refine wpAnyH_take (i := 19) (v := .bool true) rfl (by kernel_rfl) (by kernel_rfl) (by kernel_rfl) (fun _ _ _ h => h) (Or.inl ⟨by rfl, fun w' hSw => by go_simp⟩) hHeld ?_
            try simp only [Act.put, List.getElem_toArray, List.getElem_cons_succ, List.getElem_cons_zero, List.setIfInBounds_toArray, List.set_cons_zero, List.set_cons_succ]
            refine wpAnyH_take (i := 20) (v := undef) rfl (by kernel_rfl) (by kernel_rfl) (by kernel_rfl) (fun _ _ _ h => h) (Or.inr ⟨by rfl, rfl⟩) hHeld ?_
            try simp only [Act.put, List.getElem_toArray, List.getElem_cons_succ, List.getElem_cons_zero, List.setIfInBounds_toArray, List.set_cons_zero, List.set_cons_succ]
            refine wpAnyH_take (i := 21) (v := undef) rfl (by kernel_rfl) (by kernel_rfl) (by kernel_rfl) (fun _ _ _ h => h) (Or.inr ⟨by rfl, rfl⟩) hHeld ?_
            try simp only [Act.put, List.getElem_toArray, List.getElem_cons_succ, List.getElem_cons_zero, List.setIfInBounds_toArray, List.set_cons_zero, List.set_cons_succ]
            refine wpAnyH_take (i := 22) (v := undef) rfl (by kernel_rfl) (by kernel_rfl) (by kernel_rfl) (fun _ _ _ h => h) (Or.inr ⟨by rfl, rfl⟩) hHeld ?_
            try simp only [Act.put, List.getElem_toArray, List.getElem_cons_succ, List.getElem_cons_zero, List.setIfInBounds_toArray, List.set_cons_zero, List.set_cons_succ]
            refine wpAnyH_take (i := 23) (v := .bool true) rfl (by kernel_rfl) (by kernel_rfl) (by kernel_rfl) (fun _ _ _ h => h) (Or.inl ⟨by rfl, fun w' hSw => by go_simp⟩) hHeld ?_
            try simp only [Act.put, List.getElem_toArray, List.getElem_cons_succ, List.getElem_cons_zero, List.setIfInBounds_toArray, List.set_cons_zero, List.set_cons_succ]
            refine wpAnyH_take (i := 24) (v := .bool true) rfl (by kernel_rfl) (by kernel_rfl) (by kernel_rfl) (fun _ _ _ h => h) (Or.inl ⟨by rfl, fun w' hSw => by go_simp⟩) hHeld ?_
            try simp only [Act.put, List.getElem_toArray, List.getElem_cons_succ, List.getElem_cons_zero, List.setIfInBounds_toArray, List.set_cons_zero, List.set_cons_succ]
            refine wpAnyH_done (by kernel_rfl) ?_ _
            refine NoPanic.normal ?_
            have HB9 := Lib.hid (two_below' HB4.out hHeld)
            have HR9 := Lib.hid (HRb4.out.below hHeld)
            have HX9 := Lib.hid (HRx4.out.below hHeld)
            have HS9 := Lib.hid (HR64.out.below hHeld)
            clear hHeld
            go_wp2_with (first
              | ((with_reducible show wpList _ _ _ (⟨_, .load 38 (.tmp 11), _, _, _, _⟩ :: _) _ _); refine wpList_load_tx rfl 38 (.tmp 11) rfl gx 0 (rfl) C _ (row_range HX9.out) Try.underlying38 rfl (by rw [wait_info, HC76.out]) ?_)
              | (
                 with_reducible show wpList _ _ _ (⟨_, .store 38 (.tmp 8) _, _, _, _, _⟩ :: _) _ _
                 refine wpList_store_at rfl 38 (.tmp 8) (.tmp 57) rfl gb 0 C CB _ rfl rfl (HR9.out) (by have := HCB76.out; have := HC76.out; omega) (by rw [wait_info, HC76.out]) HC1.out ?_
                 intro w8 hr hg
                 rw [splice_all (HC76.out.trans HCB76.out.symm)] at hr
                 have HB8 := Lib.hid (below_own HB9.out hg (fun k hk => by cases hk; exact HGb.out))
                 have HS8 := Lib.hid (HS9.out.kept hg (by intro e; injection e with e; exact HG6.out e))
                 have HR8 := Lib.hid hr
                 clear hr hg))
            exact ⟨⟨k + 1, by omega, by go_num, by rw [HP1.out]; rfl, by rw [HP1.out]; show Row _ _ _ X.cells; rw [HCx.out]; exact HR8.out, HS8.out, HB8.out⟩, by simp [intOf]; omega⟩
          · have dN : (xn == nv) = false := by simpa using fun e => hnv e.symm
            have hP1 : P (k + 1) = none := HPS.out.2 (fun q => hnv q.2)
            have HP1 := Lib.hid hP1
            clear hP1 hnv hat
            go_wp2_with (first
            | ((with_reducible show wpList _ _ _ (⟨_, .load 38 (.tmp 30), _, _, _, _⟩ :: _) _ _); refine wpList_load_tx rfl 38 (.tmp 30) rfl g (k * 76) (by first | rfl | simp) C _ (HR.out) Try.underlying38 rfl (by rw [wait_info, HC76.out]) ?_)
            | (
               with_reducible show wpList _ _ _ (⟨_, .store 38 (.tmp 11) _, _, _, _, _⟩ :: _) _ _
               refine wpList_store_at rfl 38 (.tmp 11) (.tmp 31) rfl wr.heap.size 0 C ZT _ rfl rfl (Row.new wr 38 ZT) (by have := HZ76.out; have := HC76.out; omega) (by rw [wait_info, HC76.out]) HC1.out ?_
               intro w4 hr hg
               rw [splice_all (HC76.out.trans HZ76.out.symm)] at hr
               have hbx := below_own ((Below.refl wr.heap.size wr).alloc (Nat.le_refl _) (.cells ZT.toArray 38)) hg (fun k hk => by cases hk; exact Nat.le_refl _)
               have HB4 := Lib.hid (two_below' HB.out hbx)
               have HRb4 := Lib.hid (HRb.out.below hbx)
               have HR64 := Lib.hid (HR6.out.below hbx)
               have HNv := Lib.hid (fun W (hW : Below w4.heap.size w4 W) => HNv0.out W (two_below' HB4.out hW))
               have HRx4 := Lib.hid hr
               clear hbx
               clear hr hg))
            generalize wr.heap.size = gx at *
            refine wp_region_noPanic ?_
            refine wp_region_held_drew (S := fun w' => Below w4.heap.size w4 w') (by kernel_rfl) ((Below.refl _ _).drew) (fun hHeld => ?_)
            generalize w4.drew = wq at *
            refine wpAnyH_take (i := 0) (v := .pointer (some ⟨gx, 74, none⟩)) rfl (by kernel_rfl) (by kernel_rfl) (by kernel_rfl) (fun _ _ _ h => h) (Or.inl ⟨by rfl, fun w' hSw => by go_simp⟩) hHeld ?_
            try simp only [Act.put, List.getElem_toArray, List.getElem_cons_succ, List.getElem_cons_zero, List.setIfInBounds_toArray, List.set_cons_zero, List.set_cons_succ]
            refine wpAnyH_take (i := 1) (v := .int .i64 xat) rfl (by kernel_rfl) (by kernel_rfl) (by kernel_rfl) (fun _ _ _ h => h) (Or.inl ⟨by rfl, fun w' hSw => by have hq := hSw; have hd := (HBx.out _ _ (HRx4.out.below hq)).2.2.2.2.2.1; go_simp⟩) hHeld ?_
            try simp only [Act.put, List.getElem_toArray, List.getElem_cons_succ, List.getElem_cons_zero, List.setIfInBounds_toArray, List.set_cons_zero, List.set_cons_succ]
            refine wpAnyH_take (i := 2) (v := .int .i64 now) rfl (by kernel_rfl) (by kernel_rfl) (by kernel_rfl) (fun _ _ _ h => h) (Or.inl ⟨by rfl, fun w' hSw => by go_simp⟩) hHeld ?_
            try simp only [Act.put, List.getElem_toArray, List.getElem_cons_succ, List.getElem_cons_zero, List.setIfInBounds_toArray, List.set_cons_zero, List.set_cons_succ]
            refine wpAnyH_take (i := 3) (v := .bool true) rfl (by kernel_rfl) (by kernel_rfl) (by kernel_rfl) (fun _ _ _ h => h) (Or.inl ⟨by rfl, fun w' hSw => by go_simp⟩) hHeld ?_
            try simp only [Act.put, List.getElem_toArray, List.getElem_cons_succ, List.getElem_cons_zero, List.setIfInBounds_toArray, List.set_cons_zero, List.set_cons_succ]
            refine wpAnyH_take (i := 4) (v := .bool true) rfl (by kernel_rfl) (by kernel_rfl) (by kernel_rfl) (fun _ _ _ h => h) (Or.inl ⟨by rfl, fun w' hSw => by go_simp⟩) hHeld ?_
            try simp only [Act.put, List.getElem_toArray, List.getElem_cons_succ, List.getElem_cons_zero, List.setIfInBounds_toArray, List.set_cons_zero, List.set_cons_succ]
            refine wpAnyH_take (i := 5) (v := .pointer (some ⟨gx, 0, none⟩)) rfl (by kernel_rfl) (by kernel_rfl) (by kernel_rfl) (fun _ _ _ h => h) (Or.inl ⟨by rfl, fun w' hSw => by go_simp⟩) hHeld ?_
            try simp only [Act.put, List.getElem_toArray, List.getElem_cons_succ, List.getElem_cons_zero, List.setIfInBounds_toArray, List.set_cons_zero, List.set_cons_succ]
            refine wpAnyH_take (i := 6) (v := .pointer (some ⟨gx, 1, none⟩)) rfl (by kernel_rfl) (by kernel_rfl) (by kernel_rfl) (fun _ _ _ h => h) (Or.inl ⟨by rfl, fun w' hSw => by go_simp⟩) hHeld ?_
            try simp only [Act.put, List.getElem_toArray, List.getElem_cons_succ, List.getElem_cons_zero, List.setIfInBounds_toArray, List.set_cons_zero, List.set_cons_succ]
            refine wpAnyH_take (i := 7) (v := .int .i64 xn) rfl (by kernel_rfl) (by kernel_rfl) (by kernel_rfl) (fun _ _ _ h => h) (Or.inl ⟨by rfl, fun w' hSw => by have hq := hSw; have hd := (HBx.out _ _ (HRx4.out.below hq)).2.1; go_simp⟩) hHeld ?_
            try simp only [Act.put, List.getElem_toArray, List.getElem_cons_succ, List.getElem_cons_zero, List.setIfInBounds_toArray, List.set_cons_zero, List.set_cons_succ]
            refine wpAnyH_take (i := 8) (v := .slice (some ⟨gN, 0, none⟩) 64 64) rfl (by kernel_rfl) (by kernel_rfl) (by kernel_rfl) (fun _ _ _ h => h) (Or.inl ⟨by rfl, fun w' hSw => by go_simp⟩) hHeld ?_
            try simp only [Act.put, List.getElem_toArray, List.getElem_cons_succ, List.getElem_cons_zero, List.setIfInBounds_toArray, List.set_cons_zero, List.set_cons_succ]
            refine wpAnyH_take (i := 9) (v := .pointer (some ⟨gx, 0, none⟩)) rfl (by kernel_rfl) (by kernel_rfl) (by kernel_rfl) (fun _ _ _ h => h) (Or.inl ⟨by rfl, fun w' hSw => by go_simp⟩) hHeld ?_
            try simp only [Act.put, List.getElem_toArray, List.getElem_cons_succ, List.getElem_cons_zero, List.setIfInBounds_toArray, List.set_cons_zero, List.set_cons_succ]
            refine wpAnyH_take (i := 10) (v := .pointer (some ⟨gx, 0, none⟩)) rfl (by kernel_rfl) (by kernel_rfl) (by kernel_rfl) (fun _ _ _ h => h) (Or.inl ⟨by rfl, fun w' hSw => by go_simp⟩) hHeld ?_
            try simp only [Act.put, List.getElem_toArray, List.getElem_cons_succ, List.getElem_cons_zero, List.setIfInBounds_toArray, List.set_cons_zero, List.set_cons_succ]
            refine wpAnyH_take (i := 11) (v := .int .i64 fr) rfl (by kernel_rfl) (by kernel_rfl) (by kernel_rfl) (fun _ _ _ h => h) (Or.inl ⟨by rfl, fun w' hSw => by have hq := hSw; have hd := (HBx.out _ _ (HRx4.out.below hq)).1; go_simp⟩) hHeld ?_
            try simp only [Act.put, List.getElem_toArray, List.getElem_cons_succ, List.getElem_cons_zero, List.setIfInBounds_toArray, List.set_cons_zero, List.set_cons_succ]
            refine wpAnyH_take (i := 12) (v := .pointer (some ⟨gN, fr, none⟩)) rfl (by kernel_rfl) (by kernel_rfl) (by kernel_rfl) (fun _ _ _ h => h) (Or.inl ⟨by rfl, fun w' hSw => by go_simp⟩) hHeld ?_
            try simp only [Act.put, List.getElem_toArray, List.getElem_cons_succ, List.getElem_cons_zero, List.setIfInBounds_toArray, List.set_cons_zero, List.set_cons_succ]
            refine wpAnyH_take (i := 13) (v := .int .i64 nv) rfl (by kernel_rfl) (by kernel_rfl) (by kernel_rfl) (fun _ _ _ h => h) (Or.inl ⟨by rfl, fun w' hSw => by have hq := hSw; have hd := HNv.out _ hq; go_simp⟩) hHeld ?_
            try simp only [Act.put, List.getElem_toArray, List.getElem_cons_succ, List.getElem_cons_zero, List.setIfInBounds_toArray, List.set_cons_zero, List.set_cons_succ]
            refine wpAnyH_take (i := 14) (v := .bool false) rfl (by kernel_rfl) (by kernel_rfl) (by kernel_rfl) (fun _ _ _ h => h) (Or.inl ⟨by rfl, fun w' hSw => by go_simp⟩) hHeld ?_
            try simp only [Act.put, List.getElem_toArray, List.getElem_cons_succ, List.getElem_cons_zero, List.setIfInBounds_toArray, List.set_cons_zero, List.set_cons_succ]
            refine wpAnyH_take (i := 15) (v := .bool false) rfl (by kernel_rfl) (by kernel_rfl) (by kernel_rfl) (fun _ _ _ h => h) (Or.inl ⟨by rfl, fun w' hSw => by go_simp⟩) hHeld ?_
            try simp only [Act.put, List.getElem_toArray, List.getElem_cons_succ, List.getElem_cons_zero, List.setIfInBounds_toArray, List.set_cons_zero, List.set_cons_succ]
            refine wpAnyH_take (i := 16) (v := .bool false) rfl (by kernel_rfl) (by kernel_rfl) (by kernel_rfl) (fun _ _ _ h => h) (Or.inl ⟨by rfl, fun w' hSw => by go_simp⟩) hHeld ?_
            try simp only [Act.put, List.getElem_toArray, List.getElem_cons_succ, List.getElem_cons_zero, List.setIfInBounds_toArray, List.set_cons_zero, List.set_cons_succ]
            refine wpAnyH_take (i := 17) (v := undef) rfl (by kernel_rfl) (by kernel_rfl) (by kernel_rfl) (fun _ _ _ h => h) (Or.inr ⟨by rfl, rfl⟩) hHeld ?_
            try simp only [Act.put, List.getElem_toArray, List.getElem_cons_succ, List.getElem_cons_zero, List.setIfInBounds_toArray, List.set_cons_zero, List.set_cons_succ]
            refine wpAnyH_take (i := 18) (v := undef) rfl (by kernel_rfl) (by kernel_rfl) (by kernel_rfl) (fun _ _ _ h => h) (Or.inr ⟨by rfl, rfl⟩) hHeld ?_
            try simp only [Act.put, List.getElem_toArray, List.getElem_cons_succ, List.getElem_cons_zero, List.setIfInBounds_toArray, List.set_cons_zero, List.set_cons_succ]
            refine wpAnyH_take (i := 19) (v := undef) rfl (by kernel_rfl) (by kernel_rfl) (by kernel_rfl) (fun _ _ _ h => h) (Or.inr ⟨by rfl, rfl⟩) hHeld ?_
            try simp only [Act.put, List.getElem_toArray, List.getElem_cons_succ, List.getElem_cons_zero, List.setIfInBounds_toArray, List.set_cons_zero, List.set_cons_succ]
            refine wpAnyH_take (i := 20) (v := undef) rfl (by kernel_rfl) (by kernel_rfl) (by kernel_rfl) (fun _ _ _ h => h) (Or.inr ⟨by rfl, rfl⟩) hHeld ?_
            try simp only [Act.put, List.getElem_toArray, List.getElem_cons_succ, List.getElem_cons_zero, List.setIfInBounds_toArray, List.set_cons_zero, List.set_cons_succ]
            refine wpAnyH_take (i := 21) (v := undef) rfl (by kernel_rfl) (by kernel_rfl) (by kernel_rfl) (fun _ _ _ h => h) (Or.inr ⟨by rfl, rfl⟩) hHeld ?_
            try simp only [Act.put, List.getElem_toArray, List.getElem_cons_succ, List.getElem_cons_zero, List.setIfInBounds_toArray, List.set_cons_zero, List.set_cons_succ]
            refine wpAnyH_take (i := 22) (v := undef) rfl (by kernel_rfl) (by kernel_rfl) (by kernel_rfl) (fun _ _ _ h => h) (Or.inr ⟨by rfl, rfl⟩) hHeld ?_
            try simp only [Act.put, List.getElem_toArray, List.getElem_cons_succ, List.getElem_cons_zero, List.setIfInBounds_toArray, List.set_cons_zero, List.set_cons_succ]
            refine wpAnyH_take (i := 23) (v := undef) rfl (by kernel_rfl) (by kernel_rfl) (by kernel_rfl) (fun _ _ _ h => h) (Or.inr ⟨by rfl, rfl⟩) hHeld ?_
            try simp only [Act.put, List.getElem_toArray, List.getElem_cons_succ, List.getElem_cons_zero, List.setIfInBounds_toArray, List.set_cons_zero, List.set_cons_succ]
            refine wpAnyH_take (i := 24) (v := .bool false) rfl (by kernel_rfl) (by kernel_rfl) (by kernel_rfl) (fun _ _ _ h => h) (Or.inl ⟨by rfl, fun w' hSw => by go_simp⟩) hHeld ?_
            try simp only [Act.put, List.getElem_toArray, List.getElem_cons_succ, List.getElem_cons_zero, List.setIfInBounds_toArray, List.set_cons_zero, List.set_cons_succ]
            refine wpAnyH_done (by kernel_rfl) ?_ _
            refine NoPanic.normal ?_
            have HB9 := Lib.hid (two_below' HB4.out hHeld)
            have HR9 := Lib.hid (HRb4.out.below hHeld)
            have HX9 := Lib.hid (HRx4.out.below hHeld)
            have HS9 := Lib.hid (HR64.out.below hHeld)
            clear hHeld
            go_wp2_with fail
            exact ⟨⟨k + 1, by omega, by go_num, by rw [HP1.out]; rfl, by rw [HP1.out]; show Row _ _ _ (Wt.cells _); rw [HCBe.out]; exact HR9.out, HS9.out, HB9.out⟩, by simp [intOf]; omega⟩
        · have dA : decide (xat ≤ now) = false := decide_eq_false hat
          have hP1 : P (k + 1) = none := HPS.out.2 (fun q => hat q.1)
          have HP1 := Lib.hid hP1
          clear hP1 hat
          go_wp2_with (first
          | ((with_reducible show wpList _ _ _ (⟨_, .load 38 (.tmp 30), _, _, _, _⟩ :: _) _ _); refine wpList_load_tx rfl 38 (.tmp 30) rfl g (k * 76) (by first | rfl | simp) C _ (HR.out) Try.underlying38 rfl (by rw [wait_info, HC76.out]) ?_)
          | (
             with_reducible show wpList _ _ _ (⟨_, .store 38 (.tmp 11) _, _, _, _, _⟩ :: _) _ _
             refine wpList_store_at rfl 38 (.tmp 11) (.tmp 31) rfl wr.heap.size 0 C ZT _ rfl rfl (Row.new wr 38 ZT) (by have := HZ76.out; have := HC76.out; omega) (by rw [wait_info, HC76.out]) HC1.out ?_
             intro w4 hr hg
             rw [splice_all (HC76.out.trans HZ76.out.symm)] at hr
             have hbx := below_own ((Below.refl wr.heap.size wr).alloc (Nat.le_refl _) (.cells ZT.toArray 38)) hg (fun k hk => by cases hk; exact Nat.le_refl _)
             have HB4 := Lib.hid (two_below' HB.out hbx)
             have HRb4 := Lib.hid (HRb.out.below hbx)
             have HR64 := Lib.hid (HR6.out.below hbx)
             have HNv := Lib.hid (fun W (hW : Below w4.heap.size w4 W) => HNv0.out W (two_below' HB4.out hW))
             have HRx4 := Lib.hid hr
             clear hbx
             clear hr hg))
          generalize wr.heap.size = gx at *
          refine wp_region_noPanic ?_
          refine wp_region_held_drew (S := fun w' => Below w4.heap.size w4 w') (by kernel_rfl) ((Below.refl _ _).drew) (fun hHeld => ?_)
          generalize w4.drew = wq at *
          refine wpAnyH_take (i := 0) (v := .pointer (some ⟨gx, 74, none⟩)) rfl (by kernel_rfl) (by kernel_rfl) (by kernel_rfl) (fun _ _ _ h => h) (Or.inl ⟨by rfl, fun w' hSw => by go_simp⟩) hHeld ?_
          try simp only [Act.put, List.getElem_toArray, List.getElem_cons_succ, List.getElem_cons_zero, List.setIfInBounds_toArray, List.set_cons_zero, List.set_cons_succ]
          refine wpAnyH_take (i := 1) (v := .int .i64 xat) rfl (by kernel_rfl) (by kernel_rfl) (by kernel_rfl) (fun _ _ _ h => h) (Or.inl ⟨by rfl, fun w' hSw => by have hq := hSw; have hd := (HBx.out _ _ (HRx4.out.below hq)).2.2.2.2.2.1; go_simp⟩) hHeld ?_
          try simp only [Act.put, List.getElem_toArray, List.getElem_cons_succ, List.getElem_cons_zero, List.setIfInBounds_toArray, List.set_cons_zero, List.set_cons_succ]
          refine wpAnyH_take (i := 2) (v := .int .i64 now) rfl (by kernel_rfl) (by kernel_rfl) (by kernel_rfl) (fun _ _ _ h => h) (Or.inl ⟨by rfl, fun w' hSw => by go_simp⟩) hHeld ?_
          try simp only [Act.put, List.getElem_toArray, List.getElem_cons_succ, List.getElem_cons_zero, List.setIfInBounds_toArray, List.set_cons_zero, List.set_cons_succ]
          refine wpAnyH_take (i := 3) (v := .bool false) rfl (by kernel_rfl) (by kernel_rfl) (by kernel_rfl) (fun _ _ _ h => h) (Or.inl ⟨by rfl, fun w' hSw => by go_simp⟩) hHeld ?_
          try simp only [Act.put, List.getElem_toArray, List.getElem_cons_succ, List.getElem_cons_zero, List.setIfInBounds_toArray, List.set_cons_zero, List.set_cons_succ]
          refine wpAnyH_take (i := 4) (v := .bool false) rfl (by kernel_rfl) (by kernel_rfl) (by kernel_rfl) (fun _ _ _ h => h) (Or.inl ⟨by rfl, fun w' hSw => by go_simp⟩) hHeld ?_
          try simp only [Act.put, List.getElem_toArray, List.getElem_cons_succ, List.getElem_cons_zero, List.setIfInBounds_toArray, List.set_cons_zero, List.set_cons_succ]
          refine wpAnyH_take (i := 5) (v := undef) rfl (by kernel_rfl) (by kernel_rfl) (by kernel_rfl) (fun _ _ _ h => h) (Or.inr ⟨by rfl, rfl⟩) hHeld ?_
          try simp only [Act.put, List.getElem_toArray, List.getElem_cons_succ, List.getElem_cons_zero, List.setIfInBounds_toArray, List.set_cons_zero, List.set_cons_succ]
          refine wpAnyH_take (i := 6) (v := undef) rfl (by kernel_rfl) (by kernel_rfl) (by kernel_rfl) (fun _ _ _ h => h) (Or.inr ⟨by rfl, rfl⟩) hHeld ?_
          try simp only [Act.put, List.getElem_toArray, List.getElem_cons_succ, List.getElem_cons_zero, List.setIfInBounds_toArray, List.set_cons_zero, List.set_cons_succ]
          refine wpAnyH_take (i := 7) (v := undef) rfl (by kernel_rfl) (by kernel_rfl) (by kernel_rfl) (fun _ _ _ h => h) (Or.inr ⟨by rfl, rfl⟩) hHeld ?_
          try simp only [Act.put, List.getElem_toArray, List.getElem_cons_succ, List.getElem_cons_zero, List.setIfInBounds_toArray, List.set_cons_zero, List.set_cons_succ]
          refine wpAnyH_take (i := 8) (v := undef) rfl (by kernel_rfl) (by kernel_rfl) (by kernel_rfl) (fun _ _ _ h => h) (Or.inr ⟨by rfl, rfl⟩) hHeld ?_
          try simp only [Act.put, List.getElem_toArray, List.getElem_cons_succ, List.getElem_cons_zero, List.setIfInBounds_toArray, List.set_cons_zero, List.set_cons_succ]
          refine wpAnyH_take (i := 9) (v := undef) rfl (by kernel_rfl) (by kernel_rfl) (by kernel_rfl) (fun _ _ _ h => h) (Or.inr ⟨by rfl, rfl⟩) hHeld ?_
          try simp only [Act.put, List.getElem_toArray, List.getElem_cons_succ, List.getElem_cons_zero, List.setIfInBounds_toArray, List.set_cons_zero, List.set_cons_succ]
          refine wpAnyH_take (i := 10) (v := undef) rfl (by kernel_rfl) (by kernel_rfl) (by kernel_rfl) (fun _ _ _ h => h) (Or.inr ⟨by rfl, rfl⟩) hHeld ?_
          try simp only [Act.put, List.getElem_toArray, List.getElem_cons_succ, List.getElem_cons_zero, List.setIfInBounds_toArray, List.set_cons_zero, List.set_cons_succ]
          refine wpAnyH_take (i := 11) (v := undef) rfl (by kernel_rfl) (by kernel_rfl) (by kernel_rfl) (fun _ _ _ h => h) (Or.inr ⟨by rfl, rfl⟩) hHeld ?_
          try simp only [Act.put, List.getElem_toArray, List.getElem_cons_succ, List.getElem_cons_zero, List.setIfInBounds_toArray, List.set_cons_zero, List.set_cons_succ]
          refine wpAnyH_take (i := 12) (v := undef) rfl (by kernel_rfl) (by kernel_rfl) (by kernel_rfl) (fun _ _ _ h => h) (Or.inr ⟨by rfl, rfl⟩) hHeld ?_
          try simp only [Act.put, List.getElem_toArray, List.getElem_cons_succ, List.getElem_cons_zero, List.setIfInBounds_toArray, List.set_cons_zero, List.set_cons_succ]
          refine wpAnyH_take (i := 13) (v := undef) rfl (by kernel_rfl) (by kernel_rfl) (by kernel_rfl) (fun _ _ _ h => h) (Or.inr ⟨by rfl, rfl⟩) hHeld ?_
          try simp only [Act.put, List.getElem_toArray, List.getElem_cons_succ, List.getElem_cons_zero, List.setIfInBounds_toArray, List.set_cons_zero, List.set_cons_succ]
          refine wpAnyH_take (i := 14) (v := undef) rfl (by kernel_rfl) (by kernel_rfl) (by kernel_rfl) (fun _ _ _ h => h) (Or.inr ⟨by rfl, rfl⟩) hHeld ?_
          try simp only [Act.put, List.getElem_toArray, List.getElem_cons_succ, List.getElem_cons_zero, List.setIfInBounds_toArray, List.set_cons_zero, List.set_cons_succ]
          refine wpAnyH_take (i := 15) (v := .bool false) rfl (by kernel_rfl) (by kernel_rfl) (by kernel_rfl) (fun _ _ _ h => h) (Or.inl ⟨by rfl, fun w' hSw => by go_simp⟩) hHeld ?_
          try simp only [Act.put, List.getElem_toArray, List.getElem_cons_succ, List.getElem_cons_zero, List.setIfInBounds_toArray, List.set_cons_zero, List.set_cons_succ]
          refine wpAnyH_take (i := 16) (v := .bool false) rfl (by kernel_rfl) (by kernel_rfl) (by kernel_rfl) (fun _ _ _ h => h) (Or.inl ⟨by rfl, fun w' hSw => by go_simp⟩) hHeld ?_
          try simp only [Act.put, List.getElem_toArray, List.getElem_cons_succ, List.getElem_cons_zero, List.setIfInBounds_toArray, List.set_cons_zero, List.set_cons_succ]
          refine wpAnyH_take (i := 17) (v := undef) rfl (by kernel_rfl) (by kernel_rfl) (by kernel_rfl) (fun _ _ _ h => h) (Or.inr ⟨by rfl, rfl⟩) hHeld ?_
          try simp only [Act.put, List.getElem_toArray, List.getElem_cons_succ, List.getElem_cons_zero, List.setIfInBounds_toArray, List.set_cons_zero, List.set_cons_succ]
          refine wpAnyH_take (i := 18) (v := undef) rfl (by kernel_rfl) (by kernel_rfl) (by kernel_rfl) (fun _ _ _ h => h) (Or.inr ⟨by rfl, rfl⟩) hHeld ?_
          try simp only [Act.put, List.getElem_toArray, List.getElem_cons_succ, List.getElem_cons_zero, List.setIfInBounds_toArray, List.set_cons_zero, List.set_cons_succ]
          refine wpAnyH_take (i := 19) (v := undef) rfl (by kernel_rfl) (by kernel_rfl) (by kernel_rfl) (fun _ _ _ h => h) (Or.inr ⟨by rfl, rfl⟩) hHeld ?_
          try simp only [Act.put, List.getElem_toArray, List.getElem_cons_succ, List.getElem_cons_zero, List.setIfInBounds_toArray, List.set_cons_zero, List.set_cons_succ]
          refine wpAnyH_take (i := 20) (v := undef) rfl (by kernel_rfl) (by kernel_rfl) (by kernel_rfl) (fun _ _ _ h => h) (Or.inr ⟨by rfl, rfl⟩) hHeld ?_
          try simp only [Act.put, List.getElem_toArray, List.getElem_cons_succ, List.getElem_cons_zero, List.setIfInBounds_toArray, List.set_cons_zero, List.set_cons_succ]
          refine wpAnyH_take (i := 21) (v := undef) rfl (by kernel_rfl) (by kernel_rfl) (by kernel_rfl) (fun _ _ _ h => h) (Or.inr ⟨by rfl, rfl⟩) hHeld ?_
          try simp only [Act.put, List.getElem_toArray, List.getElem_cons_succ, List.getElem_cons_zero, List.setIfInBounds_toArray, List.set_cons_zero, List.set_cons_succ]
          refine wpAnyH_take (i := 22) (v := undef) rfl (by kernel_rfl) (by kernel_rfl) (by kernel_rfl) (fun _ _ _ h => h) (Or.inr ⟨by rfl, rfl⟩) hHeld ?_
          try simp only [Act.put, List.getElem_toArray, List.getElem_cons_succ, List.getElem_cons_zero, List.setIfInBounds_toArray, List.set_cons_zero, List.set_cons_succ]
          refine wpAnyH_take (i := 23) (v := undef) rfl (by kernel_rfl) (by kernel_rfl) (by kernel_rfl) (fun _ _ _ h => h) (Or.inr ⟨by rfl, rfl⟩) hHeld ?_
          try simp only [Act.put, List.getElem_toArray, List.getElem_cons_succ, List.getElem_cons_zero, List.setIfInBounds_toArray, List.set_cons_zero, List.set_cons_succ]
          refine wpAnyH_take (i := 24) (v := .bool false) rfl (by kernel_rfl) (by kernel_rfl) (by kernel_rfl) (fun _ _ _ h => h) (Or.inl ⟨by rfl, fun w' hSw => by go_simp⟩) hHeld ?_
          try simp only [Act.put, List.getElem_toArray, List.getElem_cons_succ, List.getElem_cons_zero, List.setIfInBounds_toArray, List.set_cons_zero, List.set_cons_succ]
          refine wpAnyH_done (by kernel_rfl) ?_ _
          refine NoPanic.normal ?_
          have HB9 := Lib.hid (two_below' HB4.out hHeld)
          have HR9 := Lib.hid (HRb4.out.below hHeld)
          have HX9 := Lib.hid (HRx4.out.below hHeld)
          have HS9 := Lib.hid (HR64.out.below hHeld)
          clear hHeld
          go_wp2_with fail
          exact ⟨⟨k + 1, by omega, by go_num, by rw [HP1.out]; rfl, by rw [HP1.out]; show Row _ _ _ (Wt.cells _); rw [HCBe.out]; exact HR9.out, HS9.out, HB9.out⟩, by simp [intOf]; omega⟩
      | some b =>
        have HPS := Lib.hid (HPB.out b hb)
        have HLT := Lib.hid (HLs.out b (HBM.out k b hkl2 hb).1)
        rw [hb] at HCBe
        have HCb2 : Hid (b.cells = CB) := HCBe
        rw [HCb2.out] at HLT
        clear hb HPN HPB HLs
        simp only [Option.isSome_some]
        by_cases hat : xat ≤ now
        · have dA : decide (xat ≤ now) = true := decide_eq_true hat
          by_cases hnv : nv = xn
          · have dN : (xn == nv) = true := by simpa using hnv.symm
            by_cases hlt : Pl.Lt X b
            · rw [decide_eq_true hlt] at HLT
              have hP1 : P (k + 1) = some X := HPS.out.1 ⟨⟨hat, hnv⟩, hlt⟩
              have HP1 := Lib.hid hP1
              clear hP1 hnv hat hlt
              go_wp2_with (first
              | ((with_reducible show wpList _ _ _ (⟨_, .load 38 (.tmp 30), _, _, _, _⟩ :: _) _ _); refine wpList_load_tx rfl 38 (.tmp 30) rfl g (k * 76) (by first | rfl | simp) C _ (HR.out) Try.underlying38 rfl (by rw [wait_info, HC76.out]) ?_)
              | (
                 with_reducible show wpList _ _ _ (⟨_, .store 38 (.tmp 11) _, _, _, _, _⟩ :: _) _ _
                 refine wpList_store_at rfl 38 (.tmp 11) (.tmp 31) rfl wr.heap.size 0 C ZT _ rfl rfl (Row.new wr 38 ZT) (by have := HZ76.out; have := HC76.out; omega) (by rw [wait_info, HC76.out]) HC1.out ?_
                 intro w4 hr hg
                 rw [splice_all (HC76.out.trans HZ76.out.symm)] at hr
                 have hbx := below_own ((Below.refl wr.heap.size wr).alloc (Nat.le_refl _) (.cells ZT.toArray 38)) hg (fun k hk => by cases hk; exact Nat.le_refl _)
                 have HB4 := Lib.hid (two_below' HB.out hbx)
                 have HRb4 := Lib.hid (HRb.out.below hbx)
                 have HR64 := Lib.hid (HR6.out.below hbx)
                 have HNv := Lib.hid (fun W (hW : Below w4.heap.size w4 W) => HNv0.out W (two_below' HB4.out hW))
                 have HRx4 := Lib.hid hr
                 clear hbx
                 clear hr hg))
              generalize wr.heap.size = gx at *
              refine wp_region_noPanic ?_
              refine wp_region_held_drew (S := fun w' => Below w4.heap.size w4 w') (by kernel_rfl) ((Below.refl _ _).drew) (fun hHeld => ?_)
              generalize w4.drew = wq at *
              refine wpAnyH_take (i := 0) (v := .pointer (some ⟨gx, 74, none⟩)) rfl (by kernel_rfl) (by kernel_rfl) (by kernel_rfl) (fun _ _ _ h => h) (Or.inl ⟨by rfl, fun w' hSw => by go_simp⟩) hHeld ?_
              try simp only [Act.put, List.getElem_toArray, List.getElem_cons_succ, List.getElem_cons_zero, List.setIfInBounds_toArray, List.set_cons_zero, List.set_cons_succ]
              refine wpAnyH_take (i := 1) (v := .int .i64 xat) rfl (by kernel_rfl) (by kernel_rfl) (by kernel_rfl) (fun _ _ _ h => h) (Or.inl ⟨by rfl, fun w' hSw => by have hq := hSw; have hd := (HBx.out _ _ (HRx4.out.below hq)).2.2.2.2.2.1; go_simp⟩) hHeld ?_
              try simp only [Act.put, List.getElem_toArray, List.getElem_cons_succ, List.getElem_cons_zero, List.setIfInBounds_toArray, List.set_cons_zero, List.set_cons_succ]
              refine wpAnyH_take (i := 2) (v := .int .i64 now) rfl (by kernel_rfl) (by kernel_rfl) (by kernel_rfl) (fun _ _ _ h => h) (Or.inl ⟨by rfl, fun w' hSw => by go_simp⟩) hHeld ?_
              try simp only [Act.put, List.getElem_toArray, List.getElem_cons_succ, List.getElem_cons_zero, List.setIfInBounds_toArray, List.set_cons_zero, List.set_cons_succ]
              refine wpAnyH_take (i := 3) (v := .bool true) rfl (by kernel_rfl) (by kernel_rfl) (by kernel_rfl) (fun _ _ _ h => h) (Or.inl ⟨by rfl, fun w' hSw => by go_simp⟩) hHeld ?_
              try simp only [Act.put, List.getElem_toArray, List.getElem_cons_succ, List.getElem_cons_zero, List.setIfInBounds_toArray, List.set_cons_zero, List.set_cons_succ]
              refine wpAnyH_take (i := 4) (v := .bool true) rfl (by kernel_rfl) (by kernel_rfl) (by kernel_rfl) (fun _ _ _ h => h) (Or.inl ⟨by rfl, fun w' hSw => by go_simp⟩) hHeld ?_
              try simp only [Act.put, List.getElem_toArray, List.getElem_cons_succ, List.getElem_cons_zero, List.setIfInBounds_toArray, List.set_cons_zero, List.set_cons_succ]
              refine wpAnyH_take (i := 5) (v := .pointer (some ⟨gx, 0, none⟩)) rfl (by kernel_rfl) (by kernel_rfl) (by kernel_rfl) (fun _ _ _ h => h) (Or.inl ⟨by rfl, fun w' hSw => by go_simp⟩) hHeld ?_
              try simp only [Act.put, List.getElem_toArray, List.getElem_cons_succ, List.getElem_cons_zero, List.setIfInBounds_toArray, List.set_cons_zero, List.set_cons_succ]
              refine wpAnyH_take (i := 6) (v := .pointer (some ⟨gx, 1, none⟩)) rfl (by kernel_rfl) (by kernel_rfl) (by kernel_rfl) (fun _ _ _ h => h) (Or.inl ⟨by rfl, fun w' hSw => by go_simp⟩) hHeld ?_
              try simp only [Act.put, List.getElem_toArray, List.getElem_cons_succ, List.getElem_cons_zero, List.setIfInBounds_toArray, List.set_cons_zero, List.set_cons_succ]
              refine wpAnyH_take (i := 7) (v := .int .i64 xn) rfl (by kernel_rfl) (by kernel_rfl) (by kernel_rfl) (fun _ _ _ h => h) (Or.inl ⟨by rfl, fun w' hSw => by have hq := hSw; have hd := (HBx.out _ _ (HRx4.out.below hq)).2.1; go_simp⟩) hHeld ?_
              try simp only [Act.put, List.getElem_toArray, List.getElem_cons_succ, List.getElem_cons_zero, List.setIfInBounds_toArray, List.set_cons_zero, List.set_cons_succ]
              refine wpAnyH_take (i := 8) (v := .slice (some ⟨gN, 0, none⟩) 64 64) rfl (by kernel_rfl) (by kernel_rfl) (by kernel_rfl) (fun _ _ _ h => h) (Or.inl ⟨by rfl, fun w' hSw => by go_simp⟩) hHeld ?_
              try simp only [Act.put, List.getElem_toArray, List.getElem_cons_succ, List.getElem_cons_zero, List.setIfInBounds_toArray, List.set_cons_zero, List.set_cons_succ]
              refine wpAnyH_take (i := 9) (v := .pointer (some ⟨gx, 0, none⟩)) rfl (by kernel_rfl) (by kernel_rfl) (by kernel_rfl) (fun _ _ _ h => h) (Or.inl ⟨by rfl, fun w' hSw => by go_simp⟩) hHeld ?_
              try simp only [Act.put, List.getElem_toArray, List.getElem_cons_succ, List.getElem_cons_zero, List.setIfInBounds_toArray, List.set_cons_zero, List.set_cons_succ]
              refine wpAnyH_take (i := 10) (v := .pointer (some ⟨gx, 0, none⟩)) rfl (by kernel_rfl) (by kernel_rfl) (by kernel_rfl) (fun _ _ _ h => h) (Or.inl ⟨by rfl, fun w' hSw => by go_simp⟩) hHeld ?_
              try simp only [Act.put, List.getElem_toArray, List.getElem_cons_succ, List.getElem_cons_zero, List.setIfInBounds_toArray, List.set_cons_zero, List.set_cons_succ]
              refine wpAnyH_take (i := 11) (v := .int .i64 fr) rfl (by kernel_rfl) (by kernel_rfl) (by kernel_rfl) (fun _ _ _ h => h) (Or.inl ⟨by rfl, fun w' hSw => by have hq := hSw; have hd := (HBx.out _ _ (HRx4.out.below hq)).1; go_simp⟩) hHeld ?_
              try simp only [Act.put, List.getElem_toArray, List.getElem_cons_succ, List.getElem_cons_zero, List.setIfInBounds_toArray, List.set_cons_zero, List.set_cons_succ]
              refine wpAnyH_take (i := 12) (v := .pointer (some ⟨gN, fr, none⟩)) rfl (by kernel_rfl) (by kernel_rfl) (by kernel_rfl) (fun _ _ _ h => h) (Or.inl ⟨by rfl, fun w' hSw => by go_simp⟩) hHeld ?_
              try simp only [Act.put, List.getElem_toArray, List.getElem_cons_succ, List.getElem_cons_zero, List.setIfInBounds_toArray, List.set_cons_zero, List.set_cons_succ]
              refine wpAnyH_take (i := 13) (v := .int .i64 nv) rfl (by kernel_rfl) (by kernel_rfl) (by kernel_rfl) (fun _ _ _ h => h) (Or.inl ⟨by rfl, fun w' hSw => by have hq := hSw; have hd := HNv.out _ hq; go_simp⟩) hHeld ?_
              try simp only [Act.put, List.getElem_toArray, List.getElem_cons_succ, List.getElem_cons_zero, List.setIfInBounds_toArray, List.set_cons_zero, List.set_cons_succ]
              refine wpAnyH_take (i := 14) (v := .bool true) rfl (by kernel_rfl) (by kernel_rfl) (by kernel_rfl) (fun _ _ _ h => h) (Or.inl ⟨by rfl, fun w' hSw => by go_simp⟩) hHeld ?_
              try simp only [Act.put, List.getElem_toArray, List.getElem_cons_succ, List.getElem_cons_zero, List.setIfInBounds_toArray, List.set_cons_zero, List.set_cons_succ]
              refine wpAnyH_take (i := 15) (v := .bool true) rfl (by kernel_rfl) (by kernel_rfl) (by kernel_rfl) (fun _ _ _ h => h) (Or.inl ⟨by rfl, fun w' hSw => by go_simp⟩) hHeld ?_
              try simp only [Act.put, List.getElem_toArray, List.getElem_cons_succ, List.getElem_cons_zero, List.setIfInBounds_toArray, List.set_cons_zero, List.set_cons_succ]
              refine wpAnyH_take (i := 16) (v := .bool true) rfl (by kernel_rfl) (by kernel_rfl) (by kernel_rfl) (fun _ _ _ h => h) (Or.inl ⟨by rfl, fun w' hSw => by go_simp⟩) hHeld ?_
              try simp only [Act.put, List.getElem_toArray, List.getElem_cons_succ, List.getElem_cons_zero, List.setIfInBounds_toArray, List.set_cons_zero, List.set_cons_succ]
              refine wpAnyH_take (i := 17) (v := .bool true) rfl (by kernel_rfl) (by kernel_rfl) (by kernel_rfl) (fun _ _ _ h => h) (Or.inl ⟨by rfl, fun w' hSw => by go_simp⟩) hHeld ?_
              try simp only [Act.put, List.getElem_toArray, List.getElem_cons_succ, List.getElem_cons_zero, List.setIfInBounds_toArray, List.set_cons_zero, List.set_cons_succ]
              refine wpAnyH_take (i := 18) (v := .bool false) rfl (by kernel_rfl) (by kernel_rfl) (by kernel_rfl) (fun _ _ _ h => h) (Or.inl ⟨by rfl, fun w' hSw => by go_simp⟩) hHeld ?_
              try simp only [Act.put, List.getElem_toArray, List.getElem_cons_succ, List.getElem_cons_zero, List.setIfInBounds_toArray, List.set_cons_zero, List.set_cons_succ]
              refine wpAnyH_take (i := 19) (v := .bool false) rfl (by kernel_rfl) (by kernel_rfl) (by kernel_rfl) (fun _ _ _ h => h) (Or.inl ⟨by rfl, fun w' hSw => by go_simp⟩) hHeld ?_
              try simp only [Act.put, List.getElem_toArray, List.getElem_cons_succ, List.getElem_cons_zero, List.setIfInBounds_toArray, List.set_cons_zero, List.set_cons_succ]
              refine' wpAnyH_take (i := 20) (v := _) rfl (by kernel_rfl) (by kernel_rfl) (by kernel_rfl) (fun _ _ _ h => h) (yieldsIf_load_mid (by rfl) _ _ rfl gx 0 rfl C _ (fun w' hSw => row_range (HRx4.out.below hSw)) Try.underlying38 rfl (by rw [wait_info, HC76.out])) hHeld ?_
              try simp only [Act.put, List.getElem_toArray, List.getElem_cons_succ, List.getElem_cons_zero, List.setIfInBounds_toArray, List.set_cons_zero, List.set_cons_succ]
              refine' wpAnyH_take (i := 21) (v := _) rfl (by kernel_rfl) (by kernel_rfl) (by kernel_rfl) (fun _ _ _ h => h) (yieldsIf_load_mid (by rfl) _ _ rfl gb 0 rfl CB _ (fun w' hSw => row_range (HRb4.out.below hSw)) Try.underlying38 rfl (by rw [wait_info, HCB76.out])) hHeld ?_
              try simp only [Act.put, List.getElem_toArray, List.getElem_cons_succ, List.getElem_cons_zero, List.setIfInBounds_toArray, List.set_cons_zero, List.set_cons_succ]
              refine wpAnyH_ready (rs := [22]) (by kernel_rfl) (by simp) (AllReadyH.cons rfl (fun K1 hK1 => ?_) AllReadyH.nil)
              try simp only [Act.put, List.getElem_toArray, List.getElem_cons_succ, List.getElem_cons_zero, List.setIfInBounds_toArray, List.set_cons_zero, List.set_cons_succ]
              go_simp
              refine Calls.mono (HLT.out _) ?_
              rintro e wc1 ⟨rfl, hc2⟩
              refine hK1.out _ _ (two_below' hHeld hc2) (fun hHeld => ?_)
              clear hK1 K1
              try simp only [Act.put, List.getElem_toArray, List.getElem_cons_succ, List.getElem_cons_zero, List.setIfInBounds_toArray, List.set_cons_zero, List.set_cons_succ]
              refine wpAnyH_take (i := 23) (v := .bool true) rfl (by kernel_rfl) (by kernel_rfl) (by kernel_rfl) (fun _ _ _ h => h) (Or.inl ⟨by rfl, fun w' hSw => by go_simp⟩) hHeld ?_
              try simp only [Act.put, List.getElem_toArray, List.getElem_cons_succ, List.getElem_cons_zero, List.setIfInBounds_toArray, List.set_cons_zero, List.set_cons_succ]
              refine wpAnyH_take (i := 24) (v := .bool true) rfl (by kernel_rfl) (by kernel_rfl) (by kernel_rfl) (fun _ _ _ h => h) (Or.inl ⟨by rfl, fun w' hSw => by go_simp⟩) hHeld ?_
              try simp only [Act.put, List.getElem_toArray, List.getElem_cons_succ, List.getElem_cons_zero, List.setIfInBounds_toArray, List.set_cons_zero, List.set_cons_succ]
              refine wpAnyH_done (by kernel_rfl) ?_ _
              refine NoPanic.normal ?_
              have HB9 := Lib.hid (two_below' HB4.out hHeld)
              have HR9 := Lib.hid (HRb4.out.below hHeld)
              have HX9 := Lib.hid (HRx4.out.below hHeld)
              have HS9 := Lib.hid (HR64.out.below hHeld)
              clear hHeld
              go_wp2_with (first
                | ((with_reducible show wpList _ _ _ (⟨_, .load 38 (.tmp 11), _, _, _, _⟩ :: _) _ _); refine wpList_load_tx rfl 38 (.tmp 11) rfl gx 0 (rfl) C _ (row_range HX9.out) Try.underlying38 rfl (by rw [wait_info, HC76.out]) ?_)
                | (
                   with_reducible show wpList _ _ _ (⟨_, .store 38 (.tmp 8) _, _, _, _, _⟩ :: _) _ _
                   refine wpList_store_at rfl 38 (.tmp 8) (.tmp 57) rfl gb 0 C CB _ rfl rfl (HR9.out) (by have := HCB76.out; have := HC76.out; omega) (by rw [wait_info, HC76.out]) HC1.out ?_
                   intro w8 hr hg
                   rw [splice_all (HC76.out.trans HCB76.out.symm)] at hr
                   have HB8 := Lib.hid (below_own HB9.out hg (fun k hk => by cases hk; exact HGb.out))
                   have HS8 := Lib.hid (HS9.out.kept hg (by intro e; injection e with e; exact HG6.out e))
                   have HR8 := Lib.hid hr
                   clear hr hg))
              exact ⟨⟨k + 1, by omega, by go_num, by rw [HP1.out]; rfl, by rw [HP1.out]; show Row _ _ _ X.cells; rw [HCx.out]; exact HR8.out, HS8.out, HB8.out⟩, by simp [intOf]; omega⟩
            · rw [decide_eq_false hlt] at HLT
              have hP1 : P (k + 1) = some b := HPS.out.2 (fun q => hlt q.2)
              have HP1 := Lib.hid hP1
              clear hP1 hnv hat hlt
              go_wp2_with (first
              | ((with_reducible show wpList _ _ _ (⟨_, .load 38 (.tmp 30), _, _, _, _⟩ :: _) _ _); refine wpList_load_tx rfl 38 (.tmp 30) rfl g (k * 76) (by first | rfl | simp) C _ (HR.out) Try.underlying38 rfl (by rw [wait_info, HC76.out]) ?_)
              | (
                 with_reducible show wpList _ _ _ (⟨_, .store 38 (.tmp 11) _, _, _, _, _⟩ :: _) _ _
                 refine wpList_store_at rfl 38 (.tmp 11) (.tmp 31) rfl wr.heap.size 0 C ZT _ rfl rfl (Row.new wr 38 ZT) (by have := HZ76.out; have := HC76.out; omega) (by rw [wait_info, HC76.out]) HC1.out ?_
                 intro w4 hr hg
                 rw [splice_all (HC76.out.trans HZ76.out.symm)] at hr
                 have hbx := below_own ((Below.refl wr.heap.size wr).alloc (Nat.le_refl _) (.cells ZT.toArray 38)) hg (fun k hk => by cases hk; exact Nat.le_refl _)
                 have HB4 := Lib.hid (two_below' HB.out hbx)
                 have HRb4 := Lib.hid (HRb.out.below hbx)
                 have HR64 := Lib.hid (HR6.out.below hbx)
                 have HNv := Lib.hid (fun W (hW : Below w4.heap.size w4 W) => HNv0.out W (two_below' HB4.out hW))
                 have HRx4 := Lib.hid hr
                 clear hbx
                 clear hr hg))
              generalize wr.heap.size = gx at *
              refine wp_region_noPanic ?_
              refine wp_region_held_drew (S := fun w' => Below w4.heap.size w4 w') (by kernel_rfl) ((Below.refl _ _).drew) (fun hHeld => ?_)
              generalize w4.drew = wq at *
              refine wpAnyH_take (i := 0) (v := .pointer (some ⟨gx, 74, none⟩)) rfl (by kernel_rfl) (by kernel_rfl) (by kernel_rfl) (fun _ _ _ h => h) (Or.inl ⟨by rfl, fun w' hSw => by go_simp⟩) hHeld ?_
              try simp only [Act.put, List.getElem_toArray, List.getElem_cons_succ, List.getElem_cons_zero, List.setIfInBounds_toArray, List.set_cons_zero, List.set_cons_succ]
              refine wpAnyH_take (i := 1) (v := .int .i64 xat) rfl (by kernel_rfl) (by kernel_rfl) (by kernel_rfl) (fun _ _ _ h => h) (Or.inl ⟨by rfl, fun w' hSw => by have hq := hSw; have hd := (HBx.out _ _ (HRx4.out.below hq)).2.2.2.2.2.1; go_simp⟩) hHeld ?_
              try simp only [Act.put, List.getElem_toArray, List.getElem_cons_succ, List.getElem_cons_zero, List.setIfInBounds_toArray, List.set_cons_zero, List.set_cons_succ]
              refine wpAnyH_take (i := 2) (v := .int .i64 now) rfl (by kernel_rfl) (by kernel_rfl) (by kernel_rfl) (fun _ _ _ h => h) (Or.inl ⟨by rfl, fun w' hSw => by go_simp⟩) hHeld ?_
              try simp only [Act.put, List.getElem_toArray, List.getElem_cons_succ, List.getElem_cons_zero, List.setIfInBounds_toArray, List.set_cons_zero, List.set_cons_succ]
              refine wpAnyH_take (i := 3) (v := .bool true) rfl (by kernel_rfl) (by kernel_rfl) (by kernel_rfl) (fun _ _ _ h => h) (Or.inl ⟨by rfl, fun w' hSw => by go_simp⟩) hHeld ?_
              try simp only [Act.put, List.getElem_toArray, List.getElem_cons_succ, List.getElem_cons_zero, List.setIfInBounds_toArray, List.set_cons_zero, List.set_cons_succ]
              refine wpAnyH_take (i := 4) (v := .bool true) rfl (by kernel_rfl) (by kernel_rfl) (by kernel_rfl) (fun _ _ _ h => h) (Or.inl ⟨by rfl, fun w' hSw => by go_simp⟩) hHeld ?_
              try simp only [Act.put, List.getElem_toArray, List.getElem_cons_succ, List.getElem_cons_zero, List.setIfInBounds_toArray, List.set_cons_zero, List.set_cons_succ]
              refine wpAnyH_take (i := 5) (v := .pointer (some ⟨gx, 0, none⟩)) rfl (by kernel_rfl) (by kernel_rfl) (by kernel_rfl) (fun _ _ _ h => h) (Or.inl ⟨by rfl, fun w' hSw => by go_simp⟩) hHeld ?_
              try simp only [Act.put, List.getElem_toArray, List.getElem_cons_succ, List.getElem_cons_zero, List.setIfInBounds_toArray, List.set_cons_zero, List.set_cons_succ]
              refine wpAnyH_take (i := 6) (v := .pointer (some ⟨gx, 1, none⟩)) rfl (by kernel_rfl) (by kernel_rfl) (by kernel_rfl) (fun _ _ _ h => h) (Or.inl ⟨by rfl, fun w' hSw => by go_simp⟩) hHeld ?_
              try simp only [Act.put, List.getElem_toArray, List.getElem_cons_succ, List.getElem_cons_zero, List.setIfInBounds_toArray, List.set_cons_zero, List.set_cons_succ]
              refine wpAnyH_take (i := 7) (v := .int .i64 xn) rfl (by kernel_rfl) (by kernel_rfl) (by kernel_rfl) (fun _ _ _ h => h) (Or.inl ⟨by rfl, fun w' hSw => by have hq := hSw; have hd := (HBx.out _ _ (HRx4.out.below hq)).2.1; go_simp⟩) hHeld ?_
              try simp only [Act.put, List.getElem_toArray, List.getElem_cons_succ, List.getElem_cons_zero, List.setIfInBounds_toArray, List.set_cons_zero, List.set_cons_succ]
              refine wpAnyH_take (i := 8) (v := .slice (some ⟨gN, 0, none⟩) 64 64) rfl (by kernel_rfl) (by kernel_rfl) (by kernel_rfl) (fun _ _ _ h => h) (Or.inl ⟨by rfl, fun w' hSw => by go_simp⟩) hHeld ?_
              try simp only [Act.put, List.getElem_toArray, List.getElem_cons_succ, List.getElem_cons_zero, List.setIfInBounds_toArray, List.set_cons_zero, List.set_cons_succ]
              refine wpAnyH_take (i := 9) (v := .pointer (some ⟨gx, 0, none⟩)) rfl (by kernel_rfl) (by kernel_rfl) (by kernel_rfl) (fun _ _ _ h => h) (Or.inl ⟨by rfl, fun w' hSw => by go_simp⟩) hHeld ?_
              try simp only [Act.put, List.getElem_toArray, List.getElem_cons_succ, List.getElem_cons_zero, List.setIfInBounds_toArray, List.set_cons_zero, List.set_cons_succ]
              refine wpAnyH_take (i := 10) (v := .pointer (some ⟨gx, 0, none⟩)) rfl (by kernel_rfl) (by kernel_rfl) (by kernel_rfl) (fun _ _ _ h => h) (Or.inl ⟨by rfl, fun w' hSw => by go_simp⟩) hHeld ?_
              try simp only [Act.put, List.getElem_toArray, List.getElem_cons_succ, List.getElem_cons_zero, List.setIfInBounds_toArray, List.set_cons_zero, List.set_cons_succ]
              refine wpAnyH_take (i := 11) (v := .int .i64 fr) rfl (by kernel_rfl) (by kernel_rfl) (by kernel_rfl) (fun _ _ _ h => h) (Or.inl ⟨by rfl, fun w' hSw => by have hq := hSw; have hd := (HBx.out _ _ (HRx4.out.below hq)).1; go_simp⟩) hHeld ?_
              try simp only [Act.put, List.getElem_toArray, List.getElem_cons_succ, List.getElem_cons_zero, List.setIfInBounds_toArray, List.set_cons_zero, List.set_cons_succ]
              refine wpAnyH_take (i := 12) (v := .pointer (some ⟨gN, fr, none⟩)) rfl (by kernel_rfl) (by kernel_rfl) (by kernel_rfl) (fun _ _ _ h => h) (Or.inl ⟨by rfl, fun w' hSw => by go_simp⟩) hHeld ?_
              try simp only [Act.put, List.getElem_toArray, List.getElem_cons_succ, List.getElem_cons_zero, List.setIfInBounds_toArray, List.set_cons_zero, List.set_cons_succ]
              refine wpAnyH_take (i := 13) (v := .int .i64 nv) rfl (by kernel_rfl) (by kernel_rfl) (by kernel_rfl) (fun _ _ _ h => h) (Or.inl ⟨by rfl, fun w' hSw => by have hq := hSw; have hd := HNv.out _ hq; go_simp⟩) hHeld ?_
              try simp only [Act.put, List.getElem_toArray, List.getElem_cons_succ, List.getElem_cons_zero, List.setIfInBounds_toArray, List.set_cons_zero, List.set_cons_succ]
              refine wpAnyH_take (i := 14) (v := .bool true) rfl (by kernel_rfl) (by kernel_rfl) (by kernel_rfl) (fun _ _ _ h => h) (Or.inl ⟨by rfl, fun w' hSw => by go_simp⟩) hHeld ?_
              try simp only [Act.put, List.getElem_toArray, List.getElem_cons_succ, List.getElem_cons_zero, List.setIfInBounds_toArray, List.set_cons_zero, List.set_cons_succ]
              refine wpAnyH_take (i := 15) (v := .bool true) rfl (by kernel_rfl) (by kernel_rfl) (by kernel_rfl) (fun _ _ _ h => h) (Or.inl ⟨by rfl, fun w' hSw => by go_simp⟩) hHeld ?_
              try simp only [Act.put, List.getElem_toArray, List.getElem_cons_succ, List.getElem_cons_zero, List.setIfInBounds_toArray, List.set_cons_zero, List.set_cons_succ]
              refine wpAnyH_take (i := 16) (v := .bool true) rfl (by kernel_rfl) (by kernel_rfl) (by kernel_rfl) (fun _ _ _ h => h) (Or.inl ⟨by rfl, fun w' hSw => by go_simp⟩) hHeld ?_
              try simp only [Act.put, List.getElem_toArray, List.getElem_cons_succ, List.getElem_cons_zero, List.setIfInBounds_toArray, List.set_cons_zero, List.set_cons_succ]
              refine wpAnyH_take (i := 17) (v := .bool true) rfl (by kernel_rfl) (by kernel_rfl) (by kernel_rfl) (fun _ _ _ h => h) (Or.inl ⟨by rfl, fun w' hSw => by go_simp⟩) hHeld ?_
              try simp only [Act.put, List.getElem_toArray, List.getElem_cons_succ, List.getElem_cons_zero, List.setIfInBounds_toArray, List.set_cons_zero, List.set_cons_succ]
              refine wpAnyH_take (i := 18) (v := .bool false) rfl (by kernel_rfl) (by kernel_rfl) (by kernel_rfl) (fun _ _ _ h => h) (Or.inl ⟨by rfl, fun w' hSw => by go_simp⟩) hHeld ?_
              try simp only [Act.put, List.getElem_toArray, List.getElem_cons_succ, List.getElem_cons_zero, List.setIfInBounds_toArray, List.set_cons_zero, List.set_cons_succ]
              refine wpAnyH_take (i := 19) (v := .bool false) rfl (by kernel_rfl) (by kernel_rfl) (by kernel_rfl) (fun _ _ _ h => h) (Or.inl ⟨by rfl, fun w' hSw => by go_simp⟩) hHeld ?_
              try simp only [Act.put, List.getElem_toArray, List.getElem_cons_succ, List.getElem_cons_zero, List.setIfInBounds_toArray, List.set_cons_zero, List.set_cons_succ]
              refine' wpAnyH_take (i := 20) (v := _) rfl (by kernel_rfl) (by kernel_rfl) (by kernel_rfl) (fun _ _ _ h => h) (yieldsIf_load_mid (by rfl) _ _ rfl gx 0 rfl C _ (fun w' hSw => row_range (HRx4.out.below hSw)) Try.underlying38 rfl (by rw [wait_info, HC76.out])) hHeld ?_
              try simp only [Act.put, List.getElem_toArray, List.getElem_cons_succ, List.getElem_cons_zero, List.setIfInBounds_toArray, List.set_cons_zero, List.set_cons_succ]
              refine' wpAnyH_take (i := 21) (v := _) rfl (by kernel_rfl) (by kernel_rfl) (by kernel_rfl) (fun _ _ _ h => h) (yieldsIf_load_mid (by rfl) _ _ rfl gb 0 rfl CB _ (fun w' hSw => row_range (HRb4.out.below hSw)) Try.underlying38 rfl (by rw [wait_info, HCB76.out])) hHeld ?_
              try simp only [Act.put, List.getElem_toArray, List.getElem_cons_succ, List.getElem_cons_zero, List.setIfInBounds_toArray, List.set_cons_zero, List.set_cons_succ]
              refine wpAnyH_ready (rs := [22]) (by kernel_rfl) (by simp) (AllReadyH.cons rfl (fun K1 hK1 => ?_) AllReadyH.nil)
              try simp only [Act.put, List.getElem_toArray, List.getElem_cons_succ, List.getElem_cons_zero, List.setIfInBounds_toArray, List.set_cons_zero, List.set_cons_succ]
              go_simp
              refine Calls.mono (HLT.out _) ?_
              rintro e wc1 ⟨rfl, hc2⟩
              refine hK1.out _ _ (two_below' hHeld hc2) (fun hHeld => ?_)
              clear hK1 K1
              try simp only [Act.put, List.getElem_toArray, List.getElem_cons_succ, List.getElem_cons_zero, List.setIfInBounds_toArray, List.set_cons_zero, List.set_cons_succ]
              refine wpAnyH_take (i := 23) (v := .bool false) rfl (by kernel_rfl) (by kernel_rfl) (by kernel_rfl) (fun _ _ _ h => h) (Or.inl ⟨by rfl, fun w' hSw => by go_simp⟩) hHeld ?_
              try simp only [Act.put, List.getElem_toArray, List.getElem_cons_succ, List.getElem_cons_zero, List.setIfInBounds_toArray, List.set_cons_zero, List.set_cons_succ]
              refine wpAnyH_take (i := 24) (v := .bool false) rfl (by kernel_rfl) (by kernel_rfl) (by kernel_rfl) (fun _ _ _ h => h) (Or.inl ⟨by rfl, fun w' hSw => by go_simp⟩) hHeld ?_
              try simp only [Act.put, List.getElem_toArray, List.getElem_cons_succ, List.getElem_cons_zero, List.setIfInBounds_toArray, List.set_cons_zero, List.set_cons_succ]
              refine wpAnyH_done (by kernel_rfl) ?_ _
              refine NoPanic.normal ?_
              have HB9 := Lib.hid (two_below' HB4.out hHeld)
              have HR9 := Lib.hid (HRb4.out.below hHeld)
              have HX9 := Lib.hid (HRx4.out.below hHeld)
              have HS9 := Lib.hid (HR64.out.below hHeld)
              clear hHeld
              go_wp2_with fail
              exact ⟨⟨k + 1, by omega, by go_num, by rw [HP1.out]; rfl, by rw [HP1.out]; show Row _ _ _ (Wt.cells _); rw [HCBe.out]; exact HR9.out, HS9.out, HB9.out⟩, by simp [intOf]; omega⟩
          · have dN : (xn == nv) = false := by simpa using fun e => hnv e.symm
            have hP1 : P (k + 1) = some b := HPS.out.2 (fun q => hnv q.1.2)
            have HP1 := Lib.hid hP1
            clear hP1 hnv hat HLT
            go_wp2_with (first
            | ((with_reducible show wpList _ _ _ (⟨_, .load 38 (.tmp 30), _, _, _, _⟩ :: _) _ _); refine wpList_load_tx rfl 38 (.tmp 30) rfl g (k * 76) (by first | rfl | simp) C _ (HR.out) Try.underlying38 rfl (by rw [wait_info, HC76.out]) ?_)
            | (
               with_reducible show wpList _ _ _ (⟨_, .store 38 (.tmp 11) _, _, _, _, _⟩ :: _) _ _
               refine wpList_store_at rfl 38 (.tmp 11) (.tmp 31) rfl wr.heap.size 0 C ZT _ rfl rfl (Row.new wr 38 ZT) (by have := HZ76.out; have := HC76.out; omega) (by rw [wait_info, HC76.out]) HC1.out ?_
               intro w4 hr hg
               rw [splice_all (HC76.out.trans HZ76.out.symm)] at hr
               have hbx := below_own ((Below.refl wr.heap.size wr).alloc (Nat.le_refl _) (.cells ZT.toArray 38)) hg (fun k hk => by cases hk; exact Nat.le_refl _)
               have HB4 := Lib.hid (two_below' HB.out hbx)
               have HRb4 := Lib.hid (HRb.out.below hbx)
               have HR64 := Lib.hid (HR6.out.below hbx)
               have HNv := Lib.hid (fun W (hW : Below w4.heap.size w4 W) => HNv0.out W (two_below' HB4.out hW))
               have HRx4 := Lib.hid hr
               clear hbx
               clear hr hg))
            generalize wr.heap.size = gx at *
            refine wp_region_noPanic ?_
            refine wp_region_held_drew (S := fun w' => Below w4.heap.size w4 w') (by kernel_rfl) ((Below.refl _ _).drew) (fun hHeld => ?_)
            generalize w4.drew = wq at *
            refine wpAnyH_take (i := 0) (v := .pointer (some ⟨gx, 74, none⟩)) rfl (by kernel_rfl) (by kernel_rfl) (by kernel_rfl) (fun _ _ _ h => h) (Or.inl ⟨by rfl, fun w' hSw => by go_simp⟩) hHeld ?_
            try simp only [Act.put, List.getElem_toArray, List.getElem_cons_succ, List.getElem_cons_zero, List.setIfInBounds_toArray, List.set_cons_zero, List.set_cons_succ]
            refine wpAnyH_take (i := 1) (v := .int .i64 xat) rfl (by kernel_rfl) (by kernel_rfl) (by kernel_rfl) (fun _ _ _ h => h) (Or.inl ⟨by rfl, fun w' hSw => by have hq := hSw; have hd := (HBx.out _ _ (HRx4.out.below hq)).2.2.2.2.2.1; go_simp⟩) hHeld ?_
            try simp only [Act.put, List.getElem_toArray, List.getElem_cons_succ, List.getElem_cons_zero, List.setIfInBounds_toArray, List.set_cons_zero, List.set_cons_succ]
            refine wpAnyH_take (i := 2) (v := .int .i64 now) rfl (by kernel_rfl) (by kernel_rfl) (by kernel_rfl) (fun _ _ _ h => h) (Or.inl ⟨by rfl, fun w' hSw => by go_simp⟩) hHeld ?_
            try simp only [Act.put, List.getElem_toArray, List.getElem_cons_succ, List.getElem_cons_zero, List.setIfInBounds_toArray, List.set_cons_zero, List.set_cons_succ]
            refine wpAnyH_take (i := 3) (v := .bool true) rfl (by kernel_rfl) (by kernel_rfl) (by kernel_rfl) (fun _ _ _ h => h) (Or.inl ⟨by rfl, fun w' hSw => by go_simp⟩) hHeld ?_
            try simp only [Act.put, List.getElem_toArray, List.getElem_cons_succ, List.getElem_cons_zero, List.setIfInBounds_toArray, List.set_cons_zero, List.set_cons_succ]
            refine wpAnyH_take (i := 4) (v := .bool true) rfl (by kernel_rfl) (by kernel_rfl) (by kernel_rfl) (fun _ _ _ h => h) (Or.inl ⟨by rfl, fun w' hSw => by go_simp⟩) hHeld ?_
            try simp only [Act.put, List.getElem_toArray, List.getElem_cons_succ, List.getElem_cons_zero, List.setIfInBounds_toArray, List.set_cons_zero, List.set_cons_succ]
            refine wpAnyH_take (i := 5) (v := .pointer (some ⟨gx, 0, none⟩)) rfl (by kernel_rfl) (by kernel_rfl) (by kernel_rfl) (fun _ _ _ h => h) (Or.inl ⟨by rfl, fun w' hSw => by go_simp⟩) hHeld ?_
            try simp only [Act.put, List.getElem_toArray, List.getElem_cons_succ, List.getElem_cons_zero, List.setIfInBounds_toArray, List.set_cons_zero, List.set_cons_succ]
            refine wpAnyH_take (i := 6) (v := .pointer (some ⟨gx, 1, none⟩)) rfl (by kernel_rfl) (by kernel_rfl) (by kernel_rfl) (fun _ _ _ h => h) (Or.inl ⟨by rfl, fun w' hSw => by go_simp⟩) hHeld ?_
            try simp only [Act.put, List.getElem_toArray, List.getElem_cons_succ, List.getElem_cons_zero, List.setIfInBounds_toArray, List.set_cons_zero, List.set_cons_succ]
            refine wpAnyH_take (i := 7) (v := .int .i64 xn) rfl (by kernel_rfl) (by kernel_rfl) (by kernel_rfl) (fun _ _ _ h => h) (Or.inl ⟨by rfl, fun w' hSw => by have hq := hSw; have hd := (HBx.out _ _ (HRx4.out.below hq)).2.1; go_simp⟩) hHeld ?_
            try simp only [Act.put, List.getElem_toArray, List.getElem_cons_succ, List.getElem_cons_zero, List.setIfInBounds_toArray, List.set_cons_zero, List.set_cons_succ]
            refine wpAnyH_take (i := 8) (v := .slice (some ⟨gN, 0, none⟩) 64 64) rfl (by kernel_rfl) (by kernel_rfl) (by kernel_rfl) (fun _ _ _ h => h) (Or.inl ⟨by rfl, fun w' hSw => by go_simp⟩) hHeld ?_
            try simp only [Act.put, List.getElem_toArray, List.getElem_cons_succ, List.getElem_cons_zero, List.setIfInBounds_toArray, List.set_cons_zero, List.set_cons_succ]
            refine wpAnyH_take (i := 9) (v := .pointer (some ⟨gx, 0, none⟩)) rfl (by kernel_rfl) (by kernel_rfl) (by kernel_rfl) (fun _ _ _ h => h) (Or.inl ⟨by rfl, fun w' hSw => by go_simp⟩) hHeld ?_
            try simp only [Act.put, List.getElem_toArray, List.getElem_cons_succ, List.getElem_cons_zero, List.setIfInBounds_toArray, List.set_cons_zero, List.set_cons_succ]
            refine wpAnyH_take (i := 10) (v := .pointer (some ⟨gx, 0, none⟩)) rfl (by kernel_rfl) (by kernel_rfl) (by kernel_rfl) (fun _ _ _ h => h) (Or.inl ⟨by rfl, fun w' hSw => by go_simp⟩) hHeld ?_
            try simp only [Act.put, List.getElem_toArray, List.getElem_cons_succ, List.getElem_cons_zero, List.setIfInBounds_toArray, List.set_cons_zero, List.set_cons_succ]
            refine wpAnyH_take (i := 11) (v := .int .i64 fr) rfl (by kernel_rfl) (by kernel_rfl) (by kernel_rfl) (fun _ _ _ h => h) (Or.inl ⟨by rfl, fun w' hSw => by have hq := hSw; have hd := (HBx.out _ _ (HRx4.out.below hq)).1; go_simp⟩) hHeld ?_
            try simp only [Act.put, List.getElem_toArray, List.getElem_cons_succ, List.getElem_cons_zero, List.setIfInBounds_toArray, List.set_cons_zero, List.set_cons_succ]
            refine wpAnyH_take (i := 12) (v := .pointer (some ⟨gN, fr, none⟩)) rfl (by kernel_rfl) (by kernel_rfl) (by kernel_rfl) (fun _ _ _ h => h) (Or.inl ⟨by rfl, fun w' hSw => by go_simp⟩) hHeld ?_
            try simp only [Act.put, List.getElem_toArray, List.getElem_cons_succ, List.getElem_cons_zero, List.setIfInBounds_toArray, List.set_cons_zero, List.set_cons_succ]
            refine wpAnyH_take (i := 13) (v := .int .i64 nv) rfl (by kernel_rfl) (by kernel_rfl) (by kernel_rfl) (fun _ _ _ h => h) (Or.inl ⟨by rfl, fun w' hSw => by have hq := hSw; have hd := HNv.out _ hq; go_simp⟩) hHeld ?_
            try simp only [Act.put, List.getElem_toArray, List.getElem_cons_succ, List.getElem_cons_zero, List.setIfInBounds_toArray, List.set_cons_zero, List.set_cons_succ]
            refine wpAnyH_take (i := 14) (v := .bool false) rfl (by kernel_rfl) (by kernel_rfl) (by kernel_rfl) (fun _ _ _ h => h) (Or.inl ⟨by rfl, fun w' hSw => by go_simp⟩) hHeld ?_
            try simp only [Act.put, List.getElem_toArray, List.getElem_cons_succ, List.getElem_cons_zero, List.setIfInBounds_toArray, List.set_cons_zero, List.set_cons_succ]
            refine wpAnyH_take (i := 15) (v := .bool false) rfl (by kernel_rfl) (by kernel_rfl) (by kernel_rfl) (fun _ _ _ h => h) (Or.inl ⟨by rfl, fun w' hSw => by go_simp⟩) hHeld ?_
            try simp only [Act.put, List.getElem_toArray, List.getElem_cons_succ, List.getElem_cons_zero, List.setIfInBounds_toArray, List.set_cons_zero, List.set_cons_succ]
            refine wpAnyH_take (i := 16) (v := .bool false) rfl (by kernel_rfl) (by kernel_rfl) (by kernel_rfl) (fun _ _ _ h => h) (Or.inl ⟨by rfl, fun w' hSw => by go_simp⟩) hHeld ?_
            try simp only [Act.put, List.getElem_toArray, List.getElem_cons_succ, List.getElem_cons_zero, List.setIfInBounds_toArray, List.set_cons_zero, List.set_cons_succ]
            refine wpAnyH_take (i := 17) (v := undef) rfl (by kernel_rfl) (by kernel_rfl) (by kernel_rfl) (fun _ _ _ h => h) (Or.inr ⟨by rfl, rfl⟩) hHeld ?_
            try simp only [Act.put, List.getElem_toArray, List.getElem_cons_succ, List.getElem_cons_zero, List.setIfInBounds_toArray, List.set_cons_zero, List.set_cons_succ]
            refine wpAnyH_take (i := 18) (v := undef) rfl (by kernel_rfl) (by kernel_rfl) (by kernel_rfl) (fun _ _ _ h => h) (Or.inr ⟨by rfl, rfl⟩) hHeld ?_
            try simp only [Act.put, List.getElem_toArray, List.getElem_cons_succ, List.getElem_cons_zero, List.setIfInBounds_toArray, List.set_cons_zero, List.set_cons_succ]
            refine wpAnyH_take (i := 19) (v := undef) rfl (by kernel_rfl) (by kernel_rfl) (by kernel_rfl) (fun _ _ _ h => h) (Or.inr ⟨by rfl, rfl⟩) hHeld ?_
            try simp only [Act.put, List.getElem_toArray, List.getElem_cons_succ, List.getElem_cons_zero, List.setIfInBounds_toArray, List.set_cons_zero, List.set_cons_succ]
            refine wpAnyH_take (i := 20) (v := undef) rfl (by kernel_rfl) (by kernel_rfl) (by kernel_rfl) (fun _ _ _ h => h) (Or.inr ⟨by rfl, rfl⟩) hHeld ?_
            try simp only [Act.put, List.getElem_toArray, List.getElem_cons_succ, List.getElem_cons_zero, List.setIfInBounds_toArray, List.set_cons_zero, List.set_cons_succ]
            refine wpAnyH_take (i := 21) (v := undef) rfl (by kernel_rfl) (by kernel_rfl) (by kernel_rfl) (fun _ _ _ h => h) (Or.inr ⟨by rfl, rfl⟩) hHeld ?_
            try simp only [Act.put, List.getElem_toArray, List.getElem_cons_succ, List.getElem_cons_zero, List.setIfInBounds_toArray, List.set_cons_zero, List.set_cons_succ]
            refine wpAnyH_take (i := 22) (v := undef) rfl (by kernel_rfl) (by kernel_rfl) (by kernel_rfl) (fun _ _ _ h => h) (Or.inr ⟨by rfl, rfl⟩) hHeld ?_
            try simp only [Act.put, List.getElem_toArray, List.getElem_cons_succ, List.getElem_cons_zero, List.setIfInBounds_toArray, List.set_cons_zero, List.set_cons_succ]
            refine wpAnyH_take (i := 23) (v := undef) rfl (by kernel_rfl) (by kernel_rfl) (by kernel_rfl) (fun _ _ _ h => h) (Or.inr ⟨by rfl, rfl⟩) hHeld ?_
            try simp only [Act.put, List.getElem_toArray, List.getElem_cons_succ, List.getElem_cons_zero, List.setIfInBounds_toArray, List.set_cons_zero, List.set_cons_succ]
            refine wpAnyH_take (i := 24) (v := .bool false) rfl (by kernel_rfl) (by kernel_rfl) (by kernel_rfl) (fun _ _ _ h => h) (Or.inl ⟨by rfl, fun w' hSw => by go_simp⟩) hHeld ?_
            try simp only [Act.put, List.getElem_toArray, List.getElem_cons_succ, List.getElem_cons_zero, List.setIfInBounds_toArray, List.set_cons_zero, List.set_cons_succ]
            refine wpAnyH_done (by kernel_rfl) ?_ _
            refine NoPanic.normal ?_
            have HB9 := Lib.hid (two_below' HB4.out hHeld)
            have HR9 := Lib.hid (HRb4.out.below hHeld)
            have HX9 := Lib.hid (HRx4.out.below hHeld)
            have HS9 := Lib.hid (HR64.out.below hHeld)
            clear hHeld
            go_wp2_with fail
            exact ⟨⟨k + 1, by omega, by go_num, by rw [HP1.out]; rfl, by rw [HP1.out]; show Row _ _ _ (Wt.cells _); rw [HCBe.out]; exact HR9.out, HS9.out, HB9.out⟩, by simp [intOf]; omega⟩
        · have dA : decide (xat ≤ now) = false := decide_eq_false hat
          have hP1 : P (k + 1) = some b := HPS.out.2 (fun q => hat q.1.1)
          have HP1 := Lib.hid hP1
          clear hP1 hat HLT
          go_wp2_with (first
          | ((with_reducible show wpList _ _ _ (⟨_, .load 38 (.tmp 30), _, _, _, _⟩ :: _) _ _); refine wpList_load_tx rfl 38 (.tmp 30) rfl g (k * 76) (by first | rfl | simp) C _ (HR.out) Try.underlying38 rfl (by rw [wait_info, HC76.out]) ?_)
          | (
             with_reducible show wpList _ _ _ (⟨_, .store 38 (.tmp 11) _, _, _, _, _⟩ :: _) _ _
             refine wpList_store_at rfl 38 (.tmp 11) (.tmp 31) rfl wr.heap.size 0 C ZT _ rfl rfl (Row.new wr 38 ZT) (by have := HZ76.out; have := HC76.out; omega) (by rw [wait_info, HC76.out]) HC1.out ?_
             intro w4 hr hg
             rw [splice_all (HC76.out.trans HZ76.out.symm)] at hr
             have hbx := below_own ((Below.refl wr.heap.size wr).alloc (Nat.le_refl _) (.cells ZT.toArray 38)) hg (fun k hk => by cases hk; exact Nat.le_refl _)
             have HB4 := Lib.hid (two_below' HB.out hbx)
             have HRb4 := Lib.hid (HRb.out.below hbx)
             have HR64 := Lib.hid (HR6.out.below hbx)
             have HNv := Lib.hid (fun W (hW : Below w4.heap.size w4 W) => HNv0.out W (two_below' HB4.out hW))
             have HRx4 := Lib.hid hr
             clear hbx
             clear hr hg))
          generalize wr.heap.size = gx at *
          refine wp_region_noPanic ?_
          refine wp_region_held_drew (S := fun w' => Below w4.heap.size w4 w') (by kernel_rfl) ((Below.refl _ _).drew) (fun hHeld => ?_)
          generalize w4.drew = wq at *
          refine wpAnyH_take (i := 0) (v := .pointer (some ⟨gx, 74, none⟩)) rfl (by kernel_rfl) (by kernel_rfl) (by kernel_rfl) (fun _ _ _ h => h) (Or.inl ⟨by rfl, fun w' hSw => by go_simp⟩) hHeld ?_
          try simp only [Act.put, List.getElem_toArray, List.getElem_cons_succ, List.getElem_cons_zero, List.setIfInBounds_toArray, List.set_cons_zero, List.set_cons_succ]
          refine wpAnyH_take (i := 1) (v := .int .i64 xat) rfl (by kernel_rfl) (by kernel_rfl) (by kernel_rfl) (fun _ _ _ h => h) (Or.inl ⟨by rfl, fun w' hSw => by have hq := hSw; have hd := (HBx.out _ _ (HRx4.out.below hq)).2.2.2.2.2.1; go_simp⟩) hHeld ?_
          try simp only [Act.put, List.getElem_toArray, List.getElem_cons_succ, List.getElem_cons_zero, List.setIfInBounds_toArray, List.set_cons_zero, List.set_cons_succ]
          refine wpAnyH_take (i := 2) (v := .int .i64 now) rfl (by kernel_rfl) (by kernel_rfl) (by kernel_rfl) (fun _ _ _ h => h) (Or.inl ⟨by rfl, fun w' hSw => by go_simp⟩) hHeld ?_
          try simp only [Act.put, List.getElem_toArray, List.getElem_cons_succ, List.getElem_cons_zero, List.setIfInBounds_toArray, List.set_cons_zero, List.set_cons_succ]
          refine wpAnyH_take (i := 3) (v := .bool false) rfl (by kernel_rfl) (by kernel_rfl) (by kernel_rfl) (fun _ _ _ h => h) (Or.inl ⟨by rfl, fun w' hSw => by go_simp⟩) hHeld ?_
          try simp only [Act.put, List.getElem_toArray, List.getElem_cons_succ, List.getElem_cons_zero, List.setIfInBounds_toArray, List.set_cons_zero, List.set_cons_succ]
          refine wpAnyH_take (i := 4) (v := .bool false) rfl (by kernel_rfl) (by kernel_rfl) (by kernel_rfl) (fun _ _ _ h => h) (Or.inl ⟨by rfl, fun w' hSw => by go_simp⟩) hHeld ?_
          try simp only [Act.put, List.getElem_toArray, List.getElem_cons_succ, List.getElem_cons_zero, List.setIfInBounds_toArray, List.set_cons_zero, List.set_cons_succ]
          refine wpAnyH_take (i := 5) (v := undef) rfl (by kernel_rfl) (by kernel_rfl) (by kernel_rfl) (fun _ _ _ h => h) (Or.inr ⟨by rfl, rfl⟩) hHeld ?_
          try simp only [Act.put, List.getElem_toArray, List.getElem_cons_succ, List.getElem_cons_zero, List.setIfInBounds_toArray, List.set_cons_zero, List.set_cons_succ]
          refine wpAnyH_take (i := 6) (v := undef) rfl (by kernel_rfl) (by kernel_rfl) (by kernel_rfl) (fun _ _ _ h => h) (Or.inr ⟨by rfl, rfl⟩) hHeld ?_
          try simp only [Act.put, List.getElem_toArray, List.getElem_cons_succ, List.getElem_cons_zero, List.setIfInBounds_toArray, List.set_cons_zero, List.set_cons_succ]
          refine wpAnyH_take (i := 7) (v := undef) rfl (by kernel_rfl) (by kernel_rfl) (by kernel_rfl) (fun _ _ _ h => h) (Or.inr ⟨by rfl, rfl⟩) hHeld ?_
          try simp only [Act.put, List.getElem_toArray, List.getElem_cons_succ, List.getElem_cons_zero, List.setIfInBounds_toArray, List.set_cons_zero, List.set_cons_succ]
          refine wpAnyH_take (i := 8) (v := undef) rfl (by kernel_rfl) (by kernel_rfl) (by kernel_rfl) (fun _ _ _ h => h) (Or.inr ⟨by rfl, rfl⟩) hHeld ?_
          try simp only [Act.put, List.getElem_toArray, List.getElem_cons_succ, List.getElem_cons_zero, List.setIfInBounds_toArray, List.set_cons_zero, List.set_cons_succ]
          refine wpAnyH_take (i := 9) (v := undef) rfl (by kernel_rfl) (by kernel_rfl) (by kernel_rfl) (fun _ _ _ h => h) (Or.inr ⟨by rfl, rfl⟩) hHeld ?_
          try simp only [Act.put, List.getElem_toArray, List.getElem_cons_succ, List.getElem_cons_zero, List.setIfInBounds_toArray, List.set_cons_zero, List.set_cons_succ]
          refine wpAnyH_take (i := 10) (v := undef) rfl (by kernel_rfl) (by kernel_rfl) (by kernel_rfl) (fun _ _ _ h => h) (Or.inr ⟨by rfl, rfl⟩) hHeld ?_
          try simp only [Act.put, List.getElem_toArray, List.getElem_cons_succ, List.getElem_cons_zero, List.setIfInBounds_toArray, List.set_cons_zero, List.set_cons_succ]
          refine wpAnyH_take (i := 11) (v := undef) rfl (by kernel_rfl) (by kernel_rfl) (by kernel_rfl) (fun _ _ _ h => h) (Or.inr ⟨by rfl, rfl⟩) hHeld ?_
          try simp only [Act.put, List.getElem_toArray, List.getElem_cons_succ, List.getElem_cons_zero, List.setIfInBounds_toArray, List.set_cons_zero, List.set_cons_succ]
          refine wpAnyH_take (i := 12) (v := undef) rfl (by kernel_rfl) (by kernel_rfl) (by kernel_rfl) (fun _ _ _ h => h) (Or.inr ⟨by rfl, rfl⟩) hHeld ?_
          try simp only [Act.put, List.getElem_toArray, List.getElem_cons_succ, List.getElem_cons_zero, List.setIfInBounds_toArray, List.set_cons_zero, List.set_cons_succ]
          refine wpAnyH_take (i := 13) (v := undef) rfl (by kernel_rfl) (by kernel_rfl) (by kernel_rfl) (fun _ _ _ h => h) (Or.inr ⟨by rfl, rfl⟩) hHeld ?_
          try simp only [Act.put, List.getElem_toArray, List.getElem_cons_succ, List.getElem_cons_zero, List.setIfInBounds_toArray, List.set_cons_zero, List.set_cons_succ]
          refine wpAnyH_take (i := 14) (v := undef) rfl (by kernel_rfl) (by kernel_rfl) (by kernel_rfl) (fun _ _ _ h => h) (Or.inr ⟨by rfl, rfl⟩) hHeld ?_
          try simp only [Act.put, List.getElem_toArray, List.getElem_cons_succ, List.getElem_cons_zero, List.setIfInBounds_toArray, List.set_cons_zero, List.set_cons_succ]
          refine wpAnyH_take (i := 15) (v := .bool false) rfl (by kernel_rfl) (by kernel_rfl) (by kernel_rfl) (fun _ _ _ h => h) (Or.inl ⟨by rfl, fun w' hSw => by go_simp⟩) hHeld ?_
          try simp only [Act.put, List.getElem_toArray, List.getElem_cons_succ, List.getElem_cons_zero, List.setIfInBounds_toArray, List.set_cons_zero, List.set_cons_succ]
          refine wpAnyH_take (i := 16) (v := .bool false) rfl (by kernel_rfl) (by kernel_rfl) (by kernel_rfl) (fun _ _ _ h => h) (Or.inl ⟨by rfl, fun w' hSw => by go_simp⟩) hHeld ?_
          try simp only [Act.put, List.getElem_toArray, List.getElem_cons_succ, List.getElem_cons_zero, List.setIfInBounds_toArray, List.set_cons_zero, List.set_cons_succ]
          refine wpAnyH_take (i := 17) (v := undef) rfl (by kernel_rfl) (by kernel_rfl) (by kernel_rfl) (fun _ _ _ h => h) (Or.inr ⟨by rfl, rfl⟩) hHeld ?_
          try simp only [Act.put, List.getElem_toArray, List.getElem_cons_succ, List.getElem_cons_zero, List.setIfInBounds_toArray, List.set_cons_zero, List.set_cons_succ]
          refine wpAnyH_take (i := 18) (v := undef) rfl (by kernel_rfl) (by kernel_rfl) (by kernel_rfl) (fun _ _ _ h => h) (Or.inr ⟨by rfl, rfl⟩) hHeld ?_
          try simp only [Act.put, List.getElem_toArray, List.getElem_cons_succ, List.getElem_cons_zero, List.setIfInBounds_toArray, List.set_cons_zero, List.set_cons_succ]
          refine wpAnyH_take (i := 19) (v := undef) rfl (by kernel_rfl) (by kernel_rfl) (by kernel_rfl) (fun _ _ _ h => h) (Or.inr ⟨by rfl, rfl⟩) hHeld ?_
          try simp only [Act.put, List.getElem_toArray, List.getElem_cons_succ, List.getElem_cons_zero, List.setIfInBounds_toArray, List.set_cons_zero, List.set_cons_succ]
          refine wpAnyH_take (i := 20) (v := undef) rfl (by kernel_rfl) (by kernel_rfl) (by kernel_rfl) (fun _ _ _ h => h) (Or.inr ⟨by rfl, rfl⟩) hHeld ?_
          try simp only [Act.put, List.getElem_toArray, List.getElem_cons_succ, List.getElem_cons_zero, List.setIfInBounds_toArray, List.set_cons_zero, List.set_cons_succ]
          refine wpAnyH_take (i := 21) (v := undef) rfl (by kernel_rfl) (by kernel_rfl) (by kernel_rfl) (fun _ _ _ h => h) (Or.inr ⟨by rfl, rfl⟩) hHeld ?_
          try simp only [Act.put, List.getElem_toArray, List.getElem_cons_succ, List.getElem_cons_zero, List.setIfInBounds_toArray, List.set_cons_zero, List.set_cons_succ]
          refine wpAnyH_take (i := 22) (v := undef) rfl (by kernel_rfl) (by kernel_rfl) (by kernel_rfl) (fun _ _ _ h => h) (Or.inr ⟨by rfl, rfl⟩) hHeld ?_
          try simp only [Act.put, List.getElem_toArray, List.getElem_cons_succ, List.getElem_cons_zero, List.setIfInBounds_toArray, List.set_cons_zero, List.set_cons_succ]
          refine wpAnyH_take (i := 23) (v := undef) rfl (by kernel_rfl) (by kernel_rfl) (by kernel_rfl) (fun _ _ _ h => h) (Or.inr ⟨by rfl, rfl⟩) hHeld ?_
          try simp only [Act.put, List.getElem_toArray, List.getElem_cons_succ, List.getElem_cons_zero, List.setIfInBounds_toArray, List.set_cons_zero, List.set_cons_succ]
          refine wpAnyH_take (i := 24) (v := .bool false) rfl (by kernel_rfl) (by kernel_rfl) (by kernel_rfl) (fun _ _ _ h => h) (Or.inl ⟨by rfl, fun w' hSw => by go_simp⟩) hHeld ?_
          try simp only [Act.put, List.getElem_toArray, List.getElem_cons_succ, List.getElem_cons_zero, List.setIfInBounds_toArray, List.set_cons_zero, List.set_cons_succ]
          refine wpAnyH_done (by kernel_rfl) ?_ _
          refine NoPanic.normal ?_
          have HB9 := Lib.hid (two_below' HB4.out hHeld)
          have HR9 := Lib.hid (HRb4.out.below hHeld)
          have HX9 := Lib.hid (HRx4.out.below hHeld)
          have HS9 := Lib.hid (HR64.out.below hHeld)
          clear hHeld
          go_wp2_with fail
          exact ⟨⟨k + 1, by omega, by go_num, by rw [HP1.out]; rfl, by rw [HP1.out]; show Row _ _ _ (Wt.cells _); rw [HCBe.out]; exact HR9.out, HS9.out, HB9.out⟩, by simp [intOf]; omega⟩
    · have hki : ¬ (k : Int) < (n : Int) := by omega
      have hkn2 : k = n := by omega
      have HPl := Lib.hid HP0
      clear HPl
      rw [hkn2] at HRb hki ⊢
      clear hk hkn hkn2
      cases hb : P n with
      | none =>
        rw [hb] at HRb
        simp only [Option.isSome_none]
        rw [HZe.out, HZT.out] at HRb
        have HbP := Lib.hid hb
        clear hb
        go_wp2_with (first
        | ((with_reducible show wpList _ _ _ (⟨_, .build 38 _, _, _, _, _⟩ :: _) _ _); refine wpList_buildL rfl 38 [] rfl (some 60) rfl _ rfl ZT.toArray HBt.out ?_)
        | (
           with_reducible show wpList _ _ _ (⟨_, .store 38 (.tmp 6) _, _, _, _, _⟩ :: _) _ _
           refine wpList_store_at rfl 38 (.tmp 6) (.tmp 60) rfl g6 0 ZT ZT _ rfl rfl (HR6.out) (by have := HZ76.out; have := HZ76.out; omega) (by rw [wait_info, HZ76.out]) HZ1.out ?_
           intro w8 hr hg
           rw [splice_all (HZ76.out.trans HZ76.out.symm)] at hr
           have HB8 := Lib.hid (below_own HB.out hg (fun k hk => by cases hk; exact HGs.out))
           have HS8 := Lib.hid hr
           clear hr hg))
        (try simp only [Exit.inBlock, Exit.then])
        refine bodyPost_ret (results_rowL rfl _ _ g6 38 ZT _ rfl HS8.out Try.underlying38 rfl (by rw [wait_info]; simp [HZ76.out]) _ rfl) rfl ?_
        show RNextEnd w w8 base B size (.slice A n c) l (P n) _
        rw [HbP.out]
        refine ⟨?_, HB8.out⟩
        show _ = Ending.returned (.tuple #[.agg Wt.none.cells.toArray, .bool false])
        rw [HZT.out]
        rfl
      | some b =>
        rw [hb] at HRb
        simp only [Option.isSome_some]
        obtain ⟨hbo, hbm, hbl⟩ := HBM.out n b (by have := HN.out; omega) hb
        have HbP := Lib.hid hb
        have HRS := Lib.hid (Pl.rm_succ b l)
        have HRl := Lib.hid (Pl.rm_len b l)
        have HR0 : Hid (Pl.rm b l 0 = []) := Lib.hid rfl
        have HRE : Hid (Pl.rm b l n = (l.eraseIdx (Pl.pos l b.ix)).map (Pl.raise b)) := Lib.hid (by rw [HN.out]; exact Pl.rm_end HH.out.ok hbl)
        have HOk2 : Hid (Pl.Ok size ((l.eraseIdx (Pl.pos l b.ix)).map (Pl.raise b))) := Lib.hid ((HH.out.ok.sub (List.eraseIdx_sublist ..)).map_raise b hbo hbm)
        have HRow : Hid (∀ W, Below w.heap.size w W → Row W B 32 [.int .i64 size, .slice A n c]) := Lib.hid (fun W hW => (HH.out.below hW).row)
        have hsmn : 0 ≤ b.tx.nonce ∧ b.tx.nonce ≤ 1099511627776 := (Pl.err_zero hbm.1).2.1
        have HBo := Lib.hid hbo
        have HBb := Lib.hid (fun W g0 (hr : Row W g0 38 b.cells) => WBox.row hbo hr)
        have HCB76 := Lib.hid (Wt.cells_len hbo)
        have HCB1 := Lib.hid (Wt.cells_one hbo)
        have HLs := Lib.hid (fun (x : Wt) (hx : x.Ok) W => less18_any hx hbo W)
        have hRb1 : Row wr gb 38 b.cells := HRb.out
        obtain ⟨CB, hCB⟩ : ∃ CB, b.cells = CB := ⟨_, rfl⟩
        rw [hCB] at hRb1 HBb HCB76 HLs HCB1
        have HRb1 := Lib.hid hRb1
        have HCBe := Lib.hid hCB
        obtain ⟨bf, hbf⟩ : ∃ q, b.tx.frm = q := ⟨_, rfl⟩
        obtain ⟨bn, hbn⟩ : ∃ q, b.tx.nonce = q := ⟨_, rfl⟩
        obtain ⟨bi, hbi⟩ : ∃ q, b.ix = q := ⟨_, rfl⟩
        obtain ⟨bat, hbat⟩ : ∃ q, b.at_ = q := ⟨_, rfl⟩
        obtain ⟨bpl, hbpl⟩ : ∃ q, b.place = q := ⟨_, rfl⟩
        have HBi := Lib.hid hbi
        have HRz : Hid (∀ x : Wt, Pl.raise b x = if x.tx.frm = bf ∧ x.tx.nonce = bn + 1 ∧ Pl.Lt x b then { x with at_ := bat, place := bpl } else x) := Lib.hid (fun x => by unfold Pl.raise; rw [hbf, hbn, hbat, hbpl])
        have HOx : Hid (∀ x : Wt, x.Ok → ({ x with at_ := bat, place := bpl } : Wt).Ok) := Lib.hid (fun x hx => ⟨hx.tx, hx.ix, hx.till, by rw [← hbat]; exact hbo.at_, by rw [← hbpl]; exact hbo.place⟩)
        rw [hbf, hbn, hbi, hbat, hbpl] at HBb
        rw [hbn] at hsmn
        have ewb : IntKind.i64.wrap (bn + 1) = bn + 1 := IntWalk.i64_in _ (by omega)
        clear hb hbo hbm hbl HRb hRb1 hCB hbf hbn hbi hbat hbpl hsmn hki
        go_wp2_with fail
        clear c1
        go_loopw [12, 13] (fun s12 si wr => ∃ k : Nat, k ≤ n ∧ si = .int .i64 k ∧ OwnL wr w.heap.size 38 76 Wt.cells s12 (Pl.rm b l k) ∧ Row wr gb 38 CB ∧ Row wr g6 38 ZT ∧ Below w.heap.size w wr ∧ s12.ownBlock ≠ some gb ∧ s12.ownBlock ≠ some g6) (fun _ i _ => n - (intOf i).toNat)
        case atStart => exact ⟨0, Nat.zero_le _, rfl, by rw [HR0.out]; exact OwnL.nil _ _ _ _ _, HRb1.out, HR6.out, HB.out, (by intro e; cases e), (by intro e; cases e)⟩
        case round =>
          obtain ⟨k, hk, rfl, hown, hrb, hr6, hbz, hab, ha6⟩ := hrel
          have HBz := Lib.hid hbz
          have HRbz := Lib.hid hrb
          have HR6z := Lib.hid hr6
          have HOw := Lib.hid hown
          have HAb := Lib.hid hab
          have HA6 := Lib.hid ha6
          clear hbz hrb hr6 hown hab ha6 HRb1 HR6 HB
          have c1 := hcell1.out _ HBz.out
          have hk0 : (0 : Int) ≤ (k : Int) := by omega
          by_cases hkn : k < n
          · have hki : (k : Int) < (n : Int) := by omega
            have hkl : k < l.length := by have := HN.out; omega
            obtain ⟨g, rfl, hg, hat0⟩ := HA.out (by intro e; rw [e] at hkl; simp at hkl)
            have hxo := (HL.out _ (List.getElem_mem hkl)).1
            have HR : Hid (wr.rangeAt g (k * 76) l[k].cells) := Lib.hid (fun q u hu => (HBz.out.cell (p := ⟨g, k * 76 + q, none⟩) hg).trans (hat0 k hkl q u hu))
            have hks := HRS.out k hkl
            obtain ⟨X, hXe⟩ : ∃ X, l[k] = X := ⟨_, rfl⟩
            rw [hXe] at hxo HR hks
            rw [HBi.out] at hks
            have hrz := HRz.out X
            have HXo := Lib.hid hxo
            have HLT := Lib.hid (HLs.out X hxo)
            have HC76 := Lib.hid (Wt.cells_len hxo)
            have HC1 := Lib.hid (Wt.cells_one hxo)
            have HXb := Lib.hid (fun W g0 (hr : Row W g0 38 X.cells) => WBox.row hxo hr)
            have HXo2 := Lib.hid (HOx.out X hxo)
            obtain ⟨X2, hX2⟩ : ∃ X2 : Wt, { X with at_ := bat, place := bpl } = X2 := ⟨_, rfl⟩
            have hc2 : (X.cells.set 74 (.int .i64 bat)).set 75 (.int .i64 bpl) = X2.cells := by
              rw [← hX2, ← Wt.cells_at hxo bat]
              have q : ({ X with at_ := bat } : Wt).Ok := ⟨hxo.tx, hxo.ix, hxo.till, HXo2.out.at_, hxo.place⟩
              exact (Wt.cells_place q bpl).symm
            have hx2i : X2.ix = X.ix := by rw [← hX2]
            rw [hX2] at hrz HXo2
            have HX2b := Lib.hid (fun W g0 (hr : Row W g0 38 X2.cells) => (WBox.row HXo2.out hr).2.2.2.1)
            rw [hx2i] at HX2b
            have HC276 := Lib.hid (Wt.cells_len HXo2.out)
            obtain ⟨C2, hC2⟩ : ∃ C2, X2.cells = C2 := ⟨_, rfl⟩
            rw [hC2] at hc2 HX2b HC276
            have HC2x := Lib.hid hC2
            obtain ⟨C, hC⟩ : ∃ C, X.cells = C := ⟨_, rfl⟩
            rw [hC] at HC76 HC1 HR HXb HLT hc2
            have HCx := Lib.hid hC
            have HC2 := Lib.hid hc2
            obtain ⟨xf, hxf⟩ : ∃ q, X.tx.frm = q := ⟨_, rfl⟩
            obtain ⟨xn, hxn⟩ : ∃ q, X.tx.nonce = q := ⟨_, rfl⟩
            obtain ⟨xi, hxi⟩ : ∃ q, X.ix = q := ⟨_, rfl⟩
            rw [hxf, hxn, hxi] at HXb
            rw [hxi] at hks
            rw [hxf, hxn] at hrz
            rw [hxi] at HX2b
            have HLr : Hid ((Pl.rm b l k).length ≤ 100000) := Lib.hid (Nat.le_trans (HRl.out k) (by omega))
            have HNb : Hid (some gb ≠ some wr.heap.size) := Lib.hid (by have := HRbz.out.lt; intro e; injection e with e; omega)
            have HN6 : Hid (some g6 ≠ some wr.heap.size) := Lib.hid (by have := HR6z.out.lt; intro e; injection e with e; omega)
            have HNo : Hid (u12.ownBlock ≠ some wr.heap.size) := Lib.hid (fun e => by have := (HOw.out.lt _ e).2; omega)
            have HSz : Hid (w.heap.size ≤ wr.heap.size) := Lib.hid HBz.out.size
            clear hg hat0 hxo hXe hX2 hc2 hx2i hC2 hC hxf hxn hxi hkl
            by_cases hF : xf = bf
            · have dF : (xf == bf) = true := by simpa using hF
              by_cases hNn : xn = bn + 1
              · have dN : (xn == bn + 1) = true := by simpa using hNn
                by_cases hLt : Pl.Lt X b
                · rw [if_pos ⟨hF, hNn, hLt⟩] at hrz
                  rw [hrz] at hks
                  clear hrz
                  rw [decide_eq_true hLt] at HLT
                  clear hLt
                  by_cases hxi : xi = bi
                  · have dI : (xi != bi) = false := by simpa using hxi
                    rw [dI, if_neg (by decide), List.append_nil] at hks
                    have HKS := Lib.hid hks
                    clear hks hxi
                    go_wp2_with (first
                      | ((with_reducible show wpList _ _ _ (⟨_, .load 38 (.tmp 75), _, _, _, _⟩ :: _) _ _); refine wpList_load_tx rfl 38 (.tmp 75) rfl g (k * 76) (by first | rfl | simp) C _ (HR.out) Try.underlying38 rfl (by rw [wait_info, HC76.out]) ?_)
                      | (
                         with_reducible show wpList _ _ _ (⟨_, .store 38 (.tmp 14) _, _, _, _, _⟩ :: _) _ _
                         refine wpList_store_at rfl 38 (.tmp 14) (.tmp 76) rfl wr.heap.size 0 C ZT _ rfl rfl (Row.new wr 38 ZT) (by have := HZ76.out; have := HC76.out; omega) (by rw [wait_info, HC76.out]) HC1.out ?_
                         intro w4 hr hg
                         rw [splice_all (HC76.out.trans HZ76.out.symm)] at hr
                         have hbx := below_own ((Below.refl wr.heap.size wr).alloc (Nat.le_refl _) (.cells ZT.toArray 38)) hg (fun k hk => by cases hk; exact Nat.le_refl _)
                         have HB4 := Lib.hid (two_below' HBz.out hbx)
                         have HRb4 := Lib.hid (HRbz.out.below hbx)
                         have HR64 := Lib.hid (HR6z.out.below hbx)
                         have HO4 := Lib.hid (HOw.out.below hbx)
                         have HX4 := Lib.hid hr
                         obtain ⟨x0, x1, _, x72, _, _, _⟩ := HXb.out _ _ HX4.out
                         obtain ⟨b0, b1, _, b72, _, b74, b75⟩ := HBb.out _ _ HRb4.out
                         clear hbx
                         clear hr hg)
                      | ((with_reducible show wpList _ _ _ (⟨_, .load 38 (.tmp 14), _, _, _, _⟩ :: _) _ _); refine wpList_load_tx rfl 38 (.tmp 14) rfl wr.heap.size 0 (rfl) C _ (row_range HX4.out) Try.underlying38 rfl (by rw [wait_info, HC76.out]) ?_)
                      | ((with_reducible show wpList _ _ _ (⟨_, .load 38 (.tmp 8), _, _, _, _⟩ :: _) _ _); refine wpList_load_tx rfl 38 (.tmp 8) rfl gb 0 (rfl) CB _ (row_range HRb4.out) Try.underlying38 rfl (by rw [wait_info, HCB76.out]) ?_))
                    refine (HLT.out _).mono ?_
                    rintro _ w5 ⟨rfl, hb5⟩
                    have HB5 := Lib.hid (two_below' HB4.out hb5)
                    have HRb5 := Lib.hid (HRb4.out.below hb5)
                    have HR65 := Lib.hid (HR64.out.below hb5)
                    have HO5 := Lib.hid (HO4.out.below hb5)
                    have HX5 := Lib.hid (HX4.out.below hb5)
                    clear hb5 x0 x1 x72 b0 b1 b72 b74 b75
                    obtain ⟨x0, x1, _, x72, _, _, _⟩ := HXb.out _ _ HX5.out
                    obtain ⟨b0, b1, _, b72, _, b74, b75⟩ := HBb.out _ _ HRb5.out
                    go_wp2_with (first
                      | ((with_reducible show wpList _ _ _ (⟨_, .store 3 (.tmp 101) _, _, _, _, _⟩ :: _) _ _)
                         refine wpList_store_int rfl 3 (.tmp 101) (.tmp 100) rfl wr.heap.size 74 38 (C) bat rfl rfl (HX5.out) (by rw [HC76.out]; decide) rfl ?_
                         intro w6 hr hg
                         have HB6 := Lib.hid (below_own HB5.out hg (fun k hk => by cases hk; exact HSz.out))
                         have HRb6 := Lib.hid (HRb5.out.kept hg HNb.out)
                         have HR66 := Lib.hid (HR65.out.kept hg HN6.out)
                         have HO6 := Lib.hid (HO5.out.kept hg (.inr HNo.out))
                         have HX6 := Lib.hid hr
                         obtain ⟨e0, e1, _, e72, _, e74, e75⟩ := HBb.out _ _ HRb6.out
                         clear hr hg)
                      | ((with_reducible show wpList _ _ _ (⟨_, .store 3 (.tmp 104) _, _, _, _, _⟩ :: _) _ _)
                         refine wpList_store_int rfl 3 (.tmp 104) (.tmp 103) rfl wr.heap.size 75 38 (C.set 74 (.int .i64 bat)) bpl rfl rfl (HX6.out) (by rw [List.length_set, HC76.out]; decide) rfl ?_
                         intro w7 hr hg
                         have HB7 := Lib.hid (below_own HB6.out hg (fun k hk => by cases hk; exact HSz.out))
                         have HRb7 := Lib.hid (HRb6.out.kept hg HNb.out)
                         have HR67 := Lib.hid (HR66.out.kept hg HN6.out)
                         have HO7 := Lib.hid (HO6.out.kept hg (.inr HNo.out))
                         rw [HC2.out] at hr
                         have HX7 := Lib.hid hr
                         obtain ⟨f0, f1, _, f72, _, f74, f75⟩ := HBb.out _ _ HRb7.out
                         have y72 := HX2b.out _ _ hr
                         clear hr hg)
                      | ((with_reducible show wpList _ _ _ (⟨_, .load 38 (.tmp 14), _, _, _, _⟩ :: _) _ _); refine wpList_load_tx rfl 38 (.tmp 14) rfl wr.heap.size 0 (rfl) C2 _ (row_range HX7.out) Try.underlying38 rfl (by rw [wait_info, HC276.out]) ?_)
                      | ((with_reducible show wpList _ _ _ (⟨some 112, .buildSlice 30 _ _, _, _, _, _⟩ :: _) _ _)
                         refine wpList_push rfl rfl (.tmp 111) 112 (.tmp 110) rfl rfl rfl (X2) (HXo2.out) C2 (HC2x.out) rfl (w.heap.size) _ _ (HO7.out) (HB7.out.size) (HLr.out) rfl rfl ?_
                         intro v9 w9 ho9 hc9 hk9
                         have HO9 := Lib.hid ho9
                         have HB9 := Lib.hid (below_chg HB7.out hc9 HB7.out.size (fun k hk => (HO7.out.lt k hk).1))
                         have HRb9 := Lib.hid (hc9.row HRb7.out HAb.out)
                         have HR69 := Lib.hid (hc9.row HR67.out HA6.out)
                         have HAb9 := Lib.hid (fun e => (show False from by
                           rcases hk9 gb e with q | q
                           · exact HAb.out q
                           · have := HRb7.out.lt; omega))
                         have HA69 := Lib.hid (fun e => (show False from by
                           rcases hk9 g6 e with q | q
                           · exact HA6.out q
                           · have := HR67.out.lt; omega))
                         clear ho9 hc9 hk9))
                    exact ⟨⟨k + 1, by omega, by go_num, by rw [HKS.out]; exact HO7.out, HRb7.out, HR67.out, HB7.out, HAb.out, HA6.out⟩, by simp [intOf]; omega⟩
                  · have dI : (xi != bi) = true := by simpa using hxi
                    rw [dI, if_pos rfl] at hks
                    have HKS := Lib.hid hks
                    clear hks hxi
                    go_wp2_with (first
                      | ((with_reducible show wpList _ _ _ (⟨_, .load 38 (.tmp 75), _, _, _, _⟩ :: _) _ _); refine wpList_load_tx rfl 38 (.tmp 75) rfl g (k * 76) (by first | rfl | simp) C _ (HR.out) Try.underlying38 rfl (by rw [wait_info, HC76.out]) ?_)
                      | (
                         with_reducible show wpList _ _ _ (⟨_, .store 38 (.tmp 14) _, _, _, _, _⟩ :: _) _ _
                         refine wpList_store_at rfl 38 (.tmp 14) (.tmp 76) rfl wr.heap.size 0 C ZT _ rfl rfl (Row.new wr 38 ZT) (by have := HZ76.out; have := HC76.out; omega) (by rw [wait_info, HC76.out]) HC1.out ?_
                         intro w4 hr hg
                         rw [splice_all (HC76.out.trans HZ76.out.symm)] at hr
                         have hbx := below_own ((Below.refl wr.heap.size wr).alloc (Nat.le_refl _) (.cells ZT.toArray 38)) hg (fun k hk => by cases hk; exact Nat.le_refl _)
                         have HB4 := Lib.hid (two_below' HBz.out hbx)
                         have HRb4 := Lib.hid (HRbz.out.below hbx)
                         have HR64 := Lib.hid (HR6z.out.below hbx)
                         have HO4 := Lib.hid (HOw.out.below hbx)
                         have HX4 := Lib.hid hr
                         obtain ⟨x0, x1, _, x72, _, _, _⟩ := HXb.out _ _ HX4.out
                         obtain ⟨b0, b1, _, b72, _, b74, b75⟩ := HBb.out _ _ HRb4.out
                         clear hbx
                         clear hr hg)
                      | ((with_reducible show wpList _ _ _ (⟨_, .load 38 (.tmp 14), _, _, _, _⟩ :: _) _ _); refine wpList_load_tx rfl 38 (.tmp 14) rfl wr.heap.size 0 (rfl) C _ (row_range HX4.out) Try.underlying38 rfl (by rw [wait_info, HC76.out]) ?_)
                      | ((with_reducible show wpList _ _ _ (⟨_, .load 38 (.tmp 8), _, _, _, _⟩ :: _) _ _); refine wpList_load_tx rfl 38 (.tmp 8) rfl gb 0 (rfl) CB _ (row_range HRb4.out) Try.underlying38 rfl (by rw [wait_info, HCB76.out]) ?_))
                    refine (HLT.out _).mono ?_
                    rintro _ w5 ⟨rfl, hb5⟩
                    have HB5 := Lib.hid (two_below' HB4.out hb5)
                    have HRb5 := Lib.hid (HRb4.out.below hb5)
                    have HR65 := Lib.hid (HR64.out.below hb5)
                    have HO5 := Lib.hid (HO4.out.below hb5)
                    have HX5 := Lib.hid (HX4.out.below hb5)
                    clear hb5 x0 x1 x72 b0 b1 b72 b74 b75
                    obtain ⟨x0, x1, _, x72, _, _, _⟩ := HXb.out _ _ HX5.out
                    obtain ⟨b0, b1, _, b72, _, b74, b75⟩ := HBb.out _ _ HRb5.out
                    go_wp2_with (first
                      | ((with_reducible show wpList _ _ _ (⟨_, .store 3 (.tmp 101) _, _, _, _, _⟩ :: _) _ _)
                         refine wpList_store_int rfl 3 (.tmp 101) (.tmp 100) rfl wr.heap.size 74 38 (C) bat rfl rfl (HX5.out) (by rw [HC76.out]; decide) rfl ?_
                         intro w6 hr hg
                         have HB6 := Lib.hid (below_own HB5.out hg (fun k hk => by cases hk; exact HSz.out))
                         have HRb6 := Lib.hid (HRb5.out.kept hg HNb.out)
                         have HR66 := Lib.hid (HR65.out.kept hg HN6.out)
                         have HO6 := Lib.hid (HO5.out.kept hg (.inr HNo.out))
                         have HX6 := Lib.hid hr
                         obtain ⟨e0, e1, _, e72, _, e74, e75⟩ := HBb.out _ _ HRb6.out
                         clear hr hg)
                      | ((with_reducible show wpList _ _ _ (⟨_, .store 3 (.tmp 104) _, _, _, _, _⟩ :: _) _ _)
                         refine wpList_store_int rfl 3 (.tmp 104) (.tmp 103) rfl wr.heap.size 75 38 (C.set 74 (.int .i64 bat)) bpl rfl rfl (HX6.out) (by rw [List.length_set, HC76.out]; decide) rfl ?_
                         intro w7 hr hg
                         have HB7 := Lib.hid (below_own HB6.out hg (fun k hk => by cases hk; exact HSz.out))
                         have HRb7 := Lib.hid (HRb6.out.kept hg HNb.out)
                         have HR67 := Lib.hid (HR66.out.kept hg HN6.out)
                         have HO7 := Lib.hid (HO6.out.kept hg (.inr HNo.out))
                         rw [HC2.out] at hr
                         have HX7 := Lib.hid hr
                         obtain ⟨f0, f1, _, f72, _, f74, f75⟩ := HBb.out _ _ HRb7.out
                         have y72 := HX2b.out _ _ hr
                         clear hr hg)
                      | ((with_reducible show wpList _ _ _ (⟨_, .load 38 (.tmp 14), _, _, _, _⟩ :: _) _ _); refine wpList_load_tx rfl 38 (.tmp 14) rfl wr.heap.size 0 (rfl) C2 _ (row_range HX7.out) Try.underlying38 rfl (by rw [wait_info, HC276.out]) ?_)
                      | ((with_reducible show wpList _ _ _ (⟨some 112, .buildSlice 30 _ _, _, _, _, _⟩ :: _) _ _)
                         refine wpList_push rfl rfl (.tmp 111) 112 (.tmp 110) rfl rfl rfl (X2) (HXo2.out) C2 (HC2x.out) rfl (w.heap.size) _ _ (HO7.out) (HB7.out.size) (HLr.out) rfl rfl ?_
                         intro v9 w9 ho9 hc9 hk9
                         have HO9 := Lib.hid ho9
                         have HB9 := Lib.hid (below_chg HB7.out hc9 HB7.out.size (fun k hk => (HO7.out.lt k hk).1))
                         have HRb9 := Lib.hid (hc9.row HRb7.out HAb.out)
                         have HR69 := Lib.hid (hc9.row HR67.out HA6.out)
                         have HAb9 := Lib.hid (fun e => (show False from by
                           rcases hk9 gb e with q | q
                           · exact HAb.out q
                           · have := HRb7.out.lt; omega))
                         have HA69 := Lib.hid (fun e => (show False from by
                           rcases hk9 g6 e with q | q
                           · exact HA6.out q
                           · have := HR67.out.lt; omega))
                         clear ho9 hc9 hk9))
                    exact ⟨⟨k + 1, by omega, by go_num, by rw [HKS.out]; exact HO9.out, HRb9.out, HR69.out, HB9.out, HAb9.out, HA69.out⟩, by simp [intOf]; omega⟩
                · rw [if_neg (fun q => hLt q.2.2)] at hrz
                  rw [hrz] at hks
                  clear hrz
                  rw [decide_eq_false hLt] at HLT
                  clear hLt
                  by_cases hxi : xi = bi
                  · have dI : (xi != bi) = false := by simpa using hxi
                    rw [dI, if_neg (by decide), List.append_nil] at hks
                    have HKS := Lib.hid hks
                    clear hks hxi
                    go_wp2_with (first
                      | ((with_reducible show wpList _ _ _ (⟨_, .load 38 (.tmp 75), _, _, _, _⟩ :: _) _ _); refine wpList_load_tx rfl 38 (.tmp 75) rfl g (k * 76) (by first | rfl | simp) C _ (HR.out) Try.underlying38 rfl (by rw [wait_info, HC76.out]) ?_)
                      | (
                         with_reducible show wpList _ _ _ (⟨_, .store 38 (.tmp 14) _, _, _, _, _⟩ :: _) _ _
                         refine wpList_store_at rfl 38 (.tmp 14) (.tmp 76) rfl wr.heap.size 0 C ZT _ rfl rfl (Row.new wr 38 ZT) (by have := HZ76.out; have := HC76.out; omega) (by rw [wait_info, HC76.out]) HC1.out ?_
                         intro w4 hr hg
                         rw [splice_all (HC76.out.trans HZ76.out.symm)] at hr
                         have hbx := below_own ((Below.refl wr.heap.size wr).alloc (Nat.le_refl _) (.cells ZT.toArray 38)) hg (fun k hk => by cases hk; exact Nat.le_refl _)
                         have HB4 := Lib.hid (two_below' HBz.out hbx)
                         have HRb4 := Lib.hid (HRbz.out.below hbx)
                         have HR64 := Lib.hid (HR6z.out.below hbx)
                         have HO4 := Lib.hid (HOw.out.below hbx)
                         have HX4 := Lib.hid hr
                         obtain ⟨x0, x1, _, x72, _, _, _⟩ := HXb.out _ _ HX4.out
                         obtain ⟨b0, b1, _, b72, _, b74, b75⟩ := HBb.out _ _ HRb4.out
                         clear hbx
                         clear hr hg)
                      | ((with_reducible show wpList _ _ _ (⟨_, .load 38 (.tmp 14), _, _, _, _⟩ :: _) _ _); refine wpList_load_tx rfl 38 (.tmp 14) rfl wr.heap.size 0 (rfl) C _ (row_range HX4.out) Try.underlying38 rfl (by rw [wait_info, HC76.out]) ?_)
                      | ((with_reducible show wpList _ _ _ (⟨_, .load 38 (.tmp 8), _, _, _, _⟩ :: _) _ _); refine wpList_load_tx rfl 38 (.tmp 8) rfl gb 0 (rfl) CB _ (row_range HRb4.out) Try.underlying38 rfl (by rw [wait_info, HCB76.out]) ?_))
                    refine (HLT.out _).mono ?_
                    rintro _ w5 ⟨rfl, hb5⟩
                    have HB5 := Lib.hid (two_below' HB4.out hb5)
                    have HRb5 := Lib.hid (HRb4.out.below hb5)
                    have HR65 := Lib.hid (HR64.out.below hb5)
                    have HO5 := Lib.hid (HO4.out.below hb5)
                    have HX5 := Lib.hid (HX4.out.below hb5)
                    clear hb5 x0 x1 x72 b0 b1 b72 b74 b75
                    obtain ⟨x0, x1, _, x72, _, _, _⟩ := HXb.out _ _ HX5.out
                    obtain ⟨b0, b1, _, b72, _, b74, b75⟩ := HBb.out _ _ HRb5.out
                    go_wp2_with (first
                      | ((with_reducible show wpList _ _ _ (⟨_, .load 38 (.tmp 14), _, _, _, _⟩ :: _) _ _); refine wpList_load_tx rfl 38 (.tmp 14) rfl wr.heap.size 0 (rfl) C _ (row_range HX5.out) Try.underlying38 rfl (by rw [wait_info, HC76.out]) ?_)
                      | ((with_reducible show wpList _ _ _ (⟨some 112, .buildSlice 30 _ _, _, _, _, _⟩ :: _) _ _)
                         refine wpList_push rfl rfl (.tmp 111) 112 (.tmp 110) rfl rfl rfl (X) (HXo.out) C (HCx.out) rfl (w.heap.size) _ _ (HO5.out) (HB5.out.size) (HLr.out) rfl rfl ?_
                         intro v9 w9 ho9 hc9 hk9
                         have HO9 := Lib.hid ho9
                         have HB9 := Lib.hid (below_chg HB5.out hc9 HB5.out.size (fun k hk => (HO5.out.lt k hk).1))
                         have HRb9 := Lib.hid (hc9.row HRb5.out HAb.out)
                         have HR69 := Lib.hid (hc9.row HR65.out HA6.out)
                         have HAb9 := Lib.hid (fun e => (show False from by
                           rcases hk9 gb e with q | q
                           · exact HAb.out q
                           · have := HRb5.out.lt; omega))
                         have HA69 := Lib.hid (fun e => (show False from by
                           rcases hk9 g6 e with q | q
                           · exact HA6.out q
                           · have := HR65.out.lt; omega))
                         clear ho9 hc9 hk9))
                    exact ⟨⟨k + 1, by omega, by go_num, by rw [HKS.out]; exact HO5.out, HRb5.out, HR65.out, HB5.out, HAb.out, HA6.out⟩, by simp [intOf]; omega⟩
                  · have dI : (xi != bi) = true := by simpa using hxi
                    rw [dI, if_pos rfl] at hks
                    have HKS := Lib.hid hks
                    clear hks hxi
                    go_wp2_with (first
                      | ((with_reducible show wpList _ _ _ (⟨_, .load 38 (.tmp 75), _, _, _, _⟩ :: _) _ _); refine wpList_load_tx rfl 38 (.tmp 75) rfl g (k * 76) (by first | rfl | simp) C _ (HR.out) Try.underlying38 rfl (by rw [wait_info, HC76.out]) ?_)
                      | (
                         with_reducible show wpList _ _ _ (⟨_, .store 38 (.tmp 14) _, _, _, _, _⟩ :: _) _ _
                         refine wpList_store_at rfl 38 (.tmp 14) (.tmp 76) rfl wr.heap.size 0 C ZT _ rfl rfl (Row.new wr 38 ZT) (by have := HZ76.out; have := HC76.out; omega) (by rw [wait_info, HC76.out]) HC1.out ?_
                         intro w4 hr hg
                         rw [splice_all (HC76.out.trans HZ76.out.symm)] at hr
                         have hbx := below_own ((Below.refl wr.heap.size wr).alloc (Nat.le_refl _) (.cells ZT.toArray 38)) hg (fun k hk => by cases hk; exact Nat.le_refl _)
                         have HB4 := Lib.hid (two_below' HBz.out hbx)
                         have HRb4 := Lib.hid (HRbz.out.below hbx)
                         have HR64 := Lib.hid (HR6z.out.below hbx)
                         have HO4 := Lib.hid (HOw.out.below hbx)
                         have HX4 := Lib.hid hr
                         obtain ⟨x0, x1, _, x72, _, _, _⟩ := HXb.out _ _ HX4.out
                         obtain ⟨b0, b1, _, b72, _, b74, b75⟩ := HBb.out _ _ HRb4.out
                         clear hbx
                         clear hr hg)
                      | ((with_reducible show wpList _ _ _ (⟨_, .load 38 (.tmp 14), _, _, _, _⟩ :: _) _ _); refine wpList_load_tx rfl 38 (.tmp 14) rfl wr.heap.size 0 (rfl) C _ (row_range HX4.out) Try.underlying38 rfl (by rw [wait_info, HC76.out]) ?_)
                      | ((with_reducible show wpList _ _ _ (⟨_, .load 38 (.tmp 8), _, _, _, _⟩ :: _) _ _); refine wpList_load_tx rfl 38 (.tmp 8) rfl gb 0 (rfl) CB _ (row_range HRb4.out) Try.underlying38 rfl (by rw [wait_info, HCB76.out]) ?_))
                    refine (HLT.out _).mono ?_
                    rintro _ w5 ⟨rfl, hb5⟩
                    have HB5 := Lib.hid (two_below' HB4.out hb5)
                    have HRb5 := Lib.hid (HRb4.out.below hb5)
                    have HR65 := Lib.hid (HR64.out.below hb5)
                    have HO5 := Lib.hid (HO4.out.below hb5)
                    have HX5 := Lib.hid (HX4.out.below hb5)
                    clear hb5 x0 x1 x72 b0 b1 b72 b74 b75
                    obtain ⟨x0, x1, _, x72, _, _, _⟩ := HXb.out _ _ HX5.out
                    obtain ⟨b0, b1, _, b72, _, b74, b75⟩ := HBb.out _ _ HRb5.out
                    go_wp2_with (first
                      | ((with_reducible show wpList _ _ _ (⟨_, .load 38 (.tmp 14), _, _, _, _⟩ :: _) _ _); refine wpList_load_tx rfl 38 (.tmp 14) rfl wr.heap.size 0 (rfl) C _ (row_range HX5.out) Try.underlying38 rfl (by rw [wait_info, HC76.out]) ?_)
                      | ((with_reducible show wpList _ _ _ (⟨some 112, .buildSlice 30 _ _, _, _, _, _⟩ :: _) _ _)
                         refine wpList_push rfl rfl (.tmp 111) 112 (.tmp 110) rfl rfl rfl (X) (HXo.out) C (HCx.out) rfl (w.heap.size) _ _ (HO5.out) (HB5.out.size) (HLr.out) rfl rfl ?_
                         intro v9 w9 ho9 hc9 hk9
                         have HO9 := Lib.hid ho9
                         have HB9 := Lib.hid (below_chg HB5.out hc9 HB5.out.size (fun k hk => (HO5.out.lt k hk).1))
                         have HRb9 := Lib.hid (hc9.row HRb5.out HAb.out)
                         have HR69 := Lib.hid (hc9.row HR65.out HA6.out)
                         have HAb9 := Lib.hid (fun e => (show False from by
                           rcases hk9 gb e with q | q
                           · exact HAb.out q
                           · have := HRb5.out.lt; omega))
                         have HA69 := Lib.hid (fun e => (show False from by
                           rcases hk9 g6 e with q | q
                           · exact HA6.out q
                           · have := HR65.out.lt; omega))
                         clear ho9 hc9 hk9))
                    exact ⟨⟨k + 1, by omega, by go_num, by rw [HKS.out]; exact HO9.out, HRb9.out, HR69.out, HB9.out, HAb9.out, HA69.out⟩, by simp [intOf]; omega⟩
              · have dN : (xn == bn + 1) = false := by simpa using hNn
                rw [if_neg (fun q => hNn q.2.1)] at hrz
                rw [hrz] at hks
                clear hrz hNn HLT
                by_cases hxi : xi = bi
                · have dI : (xi != bi) = false := by simpa using hxi
                  rw [dI, if_neg (by decide), List.append_nil] at hks
                  have HKS := Lib.hid hks
                  clear hks hxi
                  go_wp2_with (first
                    | ((with_reducible show wpList _ _ _ (⟨_, .load 38 (.tmp 75), _, _, _, _⟩ :: _) _ _); refine wpList_load_tx rfl 38 (.tmp 75) rfl g (k * 76) (by first | rfl | simp) C _ (HR.out) Try.underlying38 rfl (by rw [wait_info, HC76.out]) ?_)
                    | (
                       with_reducible show wpList _ _ _ (⟨_, .store 38 (.tmp 14) _, _, _, _, _⟩ :: _) _ _
                       refine wpList_store_at rfl 38 (.tmp 14) (.tmp 76) rfl wr.heap.size 0 C ZT _ rfl rfl (Row.new wr 38 ZT) (by have := HZ76.out; have := HC76.out; omega) (by rw [wait_info, HC76.out]) HC1.out ?_
                       intro w4 hr hg
                       rw [splice_all (HC76.out.trans HZ76.out.symm)] at hr
                       have hbx := below_own ((Below.refl wr.heap.size wr).alloc (Nat.le_refl _) (.cells ZT.toArray 38)) hg (fun k hk => by cases hk; exact Nat.le_refl _)
                       have HB4 := Lib.hid (two_below' HBz.out hbx)
                       have HRb4 := Lib.hid (HRbz.out.below hbx)
                       have HR64 := Lib.hid (HR6z.out.below hbx)
                       have HO4 := Lib.hid (HOw.out.below hbx)
                       have HX4 := Lib.hid hr
                       obtain ⟨x0, x1, _, x72, _, _, _⟩ := HXb.out _ _ HX4.out
                       obtain ⟨b0, b1, _, b72, _, b74, b75⟩ := HBb.out _ _ HRb4.out
                       clear hbx
                       clear hr hg)
                    | ((with_reducible show wpList _ _ _ (⟨_, .load 38 (.tmp 14), _, _, _, _⟩ :: _) _ _); refine wpList_load_tx rfl 38 (.tmp 14) rfl wr.heap.size 0 (rfl) C _ (row_range HX4.out) Try.underlying38 rfl (by rw [wait_info, HC76.out]) ?_)
                    | ((with_reducible show wpList _ _ _ (⟨some 112, .buildSlice 30 _ _, _, _, _, _⟩ :: _) _ _)
                       refine wpList_push rfl rfl (.tmp 111) 112 (.tmp 110) rfl rfl rfl (X) (HXo.out) C (HCx.out) rfl (w.heap.size) _ _ (HO4.out) (HB4.out.size) (HLr.out) rfl rfl ?_
                       intro v9 w9 ho9 hc9 hk9
                       have HO9 := Lib.hid ho9
                       have HB9 := Lib.hid (below_chg HB4.out hc9 HB4.out.size (fun k hk => (HO4.out.lt k hk).1))
                       have HRb9 := Lib.hid (hc9.row HRb4.out HAb.out)
                       have HR69 := Lib.hid (hc9.row HR64.out HA6.out)
                       have HAb9 := Lib.hid (fun e => (show False from by
                         rcases hk9 gb e with q | q
                         · exact HAb.out q
                         · have := HRb4.out.lt; omega))
                       have HA69 := Lib.hid (fun e => (show False from by
                         rcases hk9 g6 e with q | q
                         · exact HA6.out q
                         · have := HR64.out.lt; omega))
                       clear ho9 hc9 hk9))
                  exact ⟨⟨k + 1, by omega, by go_num, by rw [HKS.out]; exact HO4.out, HRb4.out, HR64.out, HB4.out, HAb.out, HA6.out⟩, by simp [intOf]; omega⟩
                · have dI : (xi != bi) = true := by simpa using hxi
                  rw [dI, if_pos rfl] at hks
                  have HKS := Lib.hid hks
                  clear hks hxi
                  go_wp2_with (first
                    | ((with_reducible show wpList _ _ _ (⟨_, .load 38 (.tmp 75), _, _, _, _⟩ :: _) _ _); refine wpList_load_tx rfl 38 (.tmp 75) rfl g (k * 76) (by first | rfl | simp) C _ (HR.out) Try.underlying38 rfl (by rw [wait_info, HC76.out]) ?_)
                    | (
                       with_reducible show wpList _ _ _ (⟨_, .store 38 (.tmp 14) _, _, _, _, _⟩ :: _) _ _
                       refine wpList_store_at rfl 38 (.tmp 14) (.tmp 76) rfl wr.heap.size 0 C ZT _ rfl rfl (Row.new wr 38 ZT) (by have := HZ76.out; have := HC76.out; omega) (by rw [wait_info, HC76.out]) HC1.out ?_
                       intro w4 hr hg
                       rw [splice_all (HC76.out.trans HZ76.out.symm)] at hr
                       have hbx := below_own ((Below.refl wr.heap.size wr).alloc (Nat.le_refl _) (.cells ZT.toArray 38)) hg (fun k hk => by cases hk; exact Nat.le_refl _)
                       have HB4 := Lib.hid (two_below' HBz.out hbx)
                       have HRb4 := Lib.hid (HRbz.out.below hbx)
                       have HR64 := Lib.hid (HR6z.out.below hbx)
                       have HO4 := Lib.hid (HOw.out.below hbx)
                       have HX4 := Lib.hid hr
                       obtain ⟨x0, x1, _, x72, _, _, _⟩ := HXb.out _ _ HX4.out
                       obtain ⟨b0, b1, _, b72, _, b74, b75⟩ := HBb.out _ _ HRb4.out
                       clear hbx
                       clear hr hg)
                    | ((with_reducible show wpList _ _ _ (⟨_, .load 38 (.tmp 14), _, _, _, _⟩ :: _) _ _); refine wpList_load_tx rfl 38 (.tmp 14) rfl wr.heap.size 0 (rfl) C _ (row_range HX4.out) Try.underlying38 rfl (by rw [wait_info, HC76.out]) ?_)
                    | ((with_reducible show wpList _ _ _ (⟨some 112, .buildSlice 30 _ _, _, _, _, _⟩ :: _) _ _)
                       refine wpList_push rfl rfl (.tmp 111) 112 (.tmp 110) rfl rfl rfl (X) (HXo.out) C (HCx.out) rfl (w.heap.size) _ _ (HO4.out) (HB4.out.size) (HLr.out) rfl rfl ?_
                       intro v9 w9 ho9 hc9 hk9
                       have HO9 := Lib.hid ho9
                       have HB9 := Lib.hid (below_chg HB4.out hc9 HB4.out.size (fun k hk => (HO4.out.lt k hk).1))
                       have HRb9 := Lib.hid (hc9.row HRb4.out HAb.out)
                       have HR69 := Lib.hid (hc9.row HR64.out HA6.out)
                       have HAb9 := Lib.hid (fun e => (show False from by
                         rcases hk9 gb e with q | q
                         · exact HAb.out q
                         · have := HRb4.out.lt; omega))
                       have HA69 := Lib.hid (fun e => (show False from by
                         rcases hk9 g6 e with q | q
                         · exact HA6.out q
                         · have := HR64.out.lt; omega))
                       clear ho9 hc9 hk9))
                  exact ⟨⟨k + 1, by omega, by go_num, by rw [HKS.out]; exact HO9.out, HRb9.out, HR69.out, HB9.out, HAb9.out, HA69.out⟩, by simp [intOf]; omega⟩
            · have dF : (xf == bf) = false := by simpa using hF
              rw [if_neg (fun q => hF q.1)] at hrz
              rw [hrz] at hks
              clear hrz hF HLT
              by_cases hxi : xi = bi
              · have dI : (xi != bi) = false := by simpa using hxi
                rw [dI, if_neg (by decide), List.append_nil] at hks
                have HKS := Lib.hid hks
                clear hks hxi
                go_wp2_with (first
                  | ((with_reducible show wpList _ _ _ (⟨_, .load 38 (.tmp 75), _, _, _, _⟩ :: _) _ _); refine wpList_load_tx rfl 38 (.tmp 75) rfl g (k * 76) (by first | rfl | simp) C _ (HR.out) Try.underlying38 rfl (by rw [wait_info, HC76.out]) ?_)
                  | (
                     with_reducible show wpList _ _ _ (⟨_, .store 38 (.tmp 14) _, _, _, _, _⟩ :: _) _ _
                     refine wpList_store_at rfl 38 (.tmp 14) (.tmp 76) rfl wr.heap.size 0 C ZT _ rfl rfl (Row.new wr 38 ZT) (by have := HZ76.out; have := HC76.out; omega) (by rw [wait_info, HC76.out]) HC1.out ?_
                     intro w4 hr hg
                     rw [splice_all (HC76.out.trans HZ76.out.symm)] at hr
                     have hbx := below_own ((Below.refl wr.heap.size wr).alloc (Nat.le_refl _) (.cells ZT.toArray 38)) hg (fun k hk => by cases hk; exact Nat.le_refl _)
                     have HB4 := Lib.hid (two_below' HBz.out hbx)
                     have HRb4 := Lib.hid (HRbz.out.below hbx)
                     have HR64 := Lib.hid (HR6z.out.below hbx)
                     have HO4 := Lib.hid (HOw.out.below hbx)
                     have HX4 := Lib.hid hr
                     obtain ⟨x0, x1, _, x72, _, _, _⟩ := HXb.out _ _ HX4.out
                     obtain ⟨b0, b1, _, b72, _, b74, b75⟩ := HBb.out _ _ HRb4.out
                     clear hbx
                     clear hr hg)
                  | ((with_reducible show wpList _ _ _ (⟨_, .load 38 (.tmp 14), _, _, _, _⟩ :: _) _ _); refine wpList_load_tx rfl 38 (.tmp 14) rfl wr.heap.size 0 (rfl) C _ (row_range HX4.out) Try.underlying38 rfl (by rw [wait_info, HC76.out]) ?_)
                  | ((with_reducible show wpList _ _ _ (⟨some 112, .buildSlice 30 _ _, _, _, _, _⟩ :: _) _ _)
                     refine wpList_push rfl rfl (.tmp 111) 112 (.tmp 110) rfl rfl rfl (X) (HXo.out) C (HCx.out) rfl (w.heap.size) _ _ (HO4.out) (HB4.out.size) (HLr.out) rfl rfl ?_
                     intro v9 w9 ho9 hc9 hk9
                     have HO9 := Lib.hid ho9
                     have HB9 := Lib.hid (below_chg HB4.out hc9 HB4.out.size (fun k hk => (HO4.out.lt k hk).1))
                     have HRb9 := Lib.hid (hc9.row HRb4.out HAb.out)
                     have HR69 := Lib.hid (hc9.row HR64.out HA6.out)
                     have HAb9 := Lib.hid (fun e => (show False from by
                       rcases hk9 gb e with q | q
                       · exact HAb.out q
                       · have := HRb4.out.lt; omega))
                     have HA69 := Lib.hid (fun e => (show False from by
                       rcases hk9 g6 e with q | q
                       · exact HA6.out q
                       · have := HR64.out.lt; omega))
                     clear ho9 hc9 hk9))
                exact ⟨⟨k + 1, by omega, by go_num, by rw [HKS.out]; exact HO4.out, HRb4.out, HR64.out, HB4.out, HAb.out, HA6.out⟩, by simp [intOf]; omega⟩
              · have dI : (xi != bi) = true := by simpa using hxi
                rw [dI, if_pos rfl] at hks
                have HKS := Lib.hid hks
                clear hks hxi
                go_wp2_with (first
                  | ((with_reducible show wpList _ _ _ (⟨_, .load 38 (.tmp 75), _, _, _, _⟩ :: _) _ _); refine wpList_load_tx rfl 38 (.tmp 75) rfl g (k * 76) (by first | rfl | simp) C _ (HR.out) Try.underlying38 rfl (by rw [wait_info, HC76.out]) ?_)
                  | (
                     with_reducible show wpList _ _ _ (⟨_, .store 38 (.tmp 14) _, _, _, _, _⟩ :: _) _ _
                     refine wpList_store_at rfl 38 (.tmp 14) (.tmp 76) rfl wr.heap.size 0 C ZT _ rfl rfl (Row.new wr 38 ZT) (by have := HZ76.out; have := HC76.out; omega) (by rw [wait_info, HC76.out]) HC1.out ?_
                     intro w4 hr hg
                     rw [splice_all (HC76.out.trans HZ76.out.symm)] at hr
                     have hbx := below_own ((Below.refl wr.heap.size wr).alloc (Nat.le_refl _) (.cells ZT.toArray 38)) hg (fun k hk => by cases hk; exact Nat.le_refl _)
                     have HB4 := Lib.hid (two_below' HBz.out hbx)
                     have HRb4 := Lib.hid (HRbz.out.below hbx)
                     have HR64 := Lib.hid (HR6z.out.below hbx)
                     have HO4 := Lib.hid (HOw.out.below hbx)
                     have HX4 := Lib.hid hr
                     obtain ⟨x0, x1, _, x72, _, _, _⟩ := HXb.out _ _ HX4.out
                     obtain ⟨b0, b1, _, b72, _, b74, b75⟩ := HBb.out _ _ HRb4.out
                     clear hbx
                     clear hr hg)
                  | ((with_reducible show wpList _ _ _ (⟨_, .load 38 (.tmp 14), _, _, _, _⟩ :: _) _ _); refine wpList_load_tx rfl 38 (.tmp 14) rfl wr.heap.size 0 (rfl) C _ (row_range HX4.out) Try.underlying38 rfl (by rw [wait_info, HC76.out]) ?_)
                  | ((with_reducible show wpList _ _ _ (⟨some 112, .buildSlice 30 _ _, _, _, _, _⟩ :: _) _ _)
                     refine wpList_push rfl rfl (.tmp 111) 112 (.tmp 110) rfl rfl rfl (X) (HXo.out) C (HCx.out) rfl (w.heap.size) _ _ (HO4.out) (HB4.out.size) (HLr.out) rfl rfl ?_
                     intro v9 w9 ho9 hc9 hk9
                     have HO9 := Lib.hid ho9
                     have HB9 := Lib.hid (below_chg HB4.out hc9 HB4.out.size (fun k hk => (HO4.out.lt k hk).1))
                     have HRb9 := Lib.hid (hc9.row HRb4.out HAb.out)
                     have HR69 := Lib.hid (hc9.row HR64.out HA6.out)
                     have HAb9 := Lib.hid (fun e => (show False from by
                       rcases hk9 gb e with q | q
                       · exact HAb.out q
                       · have := HRb4.out.lt; omega))
                     have HA69 := Lib.hid (fun e => (show False from by
                       rcases hk9 g6 e with q | q
                       · exact HA6.out q
                       · have := HR64.out.lt; omega))
                     clear ho9 hc9 hk9))
                exact ⟨⟨k + 1, by omega, by go_num, by rw [HKS.out]; exact HO9.out, HRb9.out, HR69.out, HB9.out, HAb9.out, HA69.out⟩, by simp [intOf]; omega⟩
          · have hki : ¬ (k : Int) < (n : Int) := by omega
            have hkn2 : k = n := by omega
            rw [hkn2, HRE.out] at HOw
            have HRw := Lib.hid (HRow.out _ HBz.out)
            clear hkn hk hkn2
            obtain ⟨A2, c2, hs12, _, _⟩ := HOw.out.form
            obtain ⟨n2, hn2⟩ : ∃ n2, ((l.eraseIdx (Pl.pos l b.ix)).map (Pl.raise b)).length = n2 := ⟨_, rfl⟩
            rw [hn2] at hs12
            subst hs12
            clear hn2
            go_wp2_with (first
            | ((with_reducible show wpList _ _ _ (⟨_, .store 30 _ _, _, _, _, _⟩ :: _) _ _)
               refine wpList_store_sl rfl 30 (.tmp 117) (.tmp 115) rfl B 1 32 [.int .i64 size, .slice A n c] A2 n2 c2 rfl rfl (HRw.out) (by simp) rfl ?_
               intro w8 hr8 hg8
               have HR68 := Lib.hid (HR6z.out.kept hg8 (by intro e; injection e with e; have := HH.out.row.lt; have := HGs.out; omega))
               have HRb8 := Lib.hid (HRbz.out.kept hg8 (by intro e; injection e with e; have := HH.out.row.lt; have := HGb.out; omega))
               have HRB8 := Lib.hid hr8
               have HG8 := Lib.hid hg8
               clear hr8 hg8)
            | ((with_reducible show wpList _ _ _ (⟨_, .load 38 (.tmp 8), _, _, _, _⟩ :: _) _ _); refine wpList_load_tx rfl 38 (.tmp 8) rfl gb 0 (rfl) CB _ (row_range HRb8.out) Try.underlying38 rfl (by rw [wait_info, HCB76.out]) ?_)
            | (
               with_reducible show wpList _ _ _ (⟨_, .store 38 (.tmp 6) _, _, _, _, _⟩ :: _) _ _
               refine wpList_store_at rfl 38 (.tmp 6) (.tmp 118) rfl g6 0 CB ZT _ rfl rfl (HR68.out) (by have := HZ76.out; have := HCB76.out; omega) (by rw [wait_info, HCB76.out]) HCB1.out ?_
               intro w9 hr hg
               rw [splice_all (HCB76.out.trans HZ76.out.symm)] at hr
               have HS9 := Lib.hid hr
               have HF9 := Lib.hid (RNext.of HH.out HBz.out HOw.out HRB8.out HG8.out hg HGs.out HA6.out HOk2.out)
               clear hr hg))
            (try simp only [Exit.inBlock, Exit.then])
            refine bodyPost_ret (results_rowL rfl _ _ g6 38 CB _ rfl HS9.out Try.underlying38 rfl (by rw [wait_info]; simp [HCB76.out]) _ rfl) rfl ?_
            show RNextEnd w w9 base B size (.slice A n c) l (P n) _
            rw [HbP.out]
            refine ⟨?_, HF9.out⟩
            show _ = Ending.returned (.tuple #[.agg b.cells.toArray, .bool true])
            rw [HCBe.out]
            rfl
end Go.Proofs.Ytoicpidiejhjeaa
