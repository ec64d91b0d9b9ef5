/- Put: something waits. -/
import Derived.Test.YtoicpidiejhjeaaPlPut0
namespace Go.Proofs.Ytoicpidiejhjeaa
open Go.RowKit
set_option linter.unusedVariables false
set_option linter.unusedSimpArgs false
set_option maxRecDepth 100000

namespace Pl
theorem put_no {size : Nat} {l : List Wt} {x : Wt} (h : ¬ May x) : putG size l x = Wt.none ∧ putF size l x = false ∧ putE size l x = 2 ∧ put size l x = l := by
  have e : putE size l x = 2 := by unfold putE; rw [if_pos h]
  refine ⟨?_, ?_, e, ?_⟩
  · unfold putG; rw [if_neg (by rw [e]; simp)]
  · unfold putF; rw [e]; simp
  · unfold put; rw [if_neg (by rw [e]; decide)]
theorem put_twice {size : Nat} {l : List Wt} {x : Wt} (h : May x) (hc : clash l x) : putG size l x = Wt.none ∧ putF size l x = false ∧ putE size l x = 23 ∧ put size l x = l := by
  have e : putE size l x = 23 := by unfold putE; rw [if_neg (by simpa using h), if_pos hc]
  refine ⟨?_, ?_, e, ?_⟩
  · unfold putG; rw [if_neg (by rw [e]; simp)]
  · unfold putF; rw [e]; simp
  · unfold put; rw [if_neg (by rw [e]; decide)]
theorem put_full {size : Nat} {l : List Wt} {x : Wt} (h : May x) (hc : ¬ clash l x) (hf : full size l = true) (hp : x.tx.fee ≤ (g l (poor l l.length)).tx.fee) : putG size l x = Wt.none ∧ putF size l x = false ∧ putE size l x = 25 ∧ put size l x = l := by
  have e : putE size l x = 25 := by unfold putE; rw [if_neg (by simpa using h), if_neg hc, if_pos ⟨hf, hp⟩]
  refine ⟨?_, ?_, e, ?_⟩
  · unfold putG; rw [if_neg (by rw [e]; simp)]
  · unfold putF; rw [e]; simp
  · unfold put; rw [if_neg (by rw [e]; decide)]
theorem put_take {size : Nat} {l : List Wt} {x : Wt} (h : May x) (hc : ¬ clash l x) (hf : full size l = true) (hp : ¬ x.tx.fee ≤ (g l (poor l l.length)).tx.fee) : putG size l x = g l (poor l l.length) ∧ putF size l x = true ∧ putE size l x = 0 ∧ put size l x = ins (l.eraseIdx (poor l l.length)) x := by
  have e : putE size l x = 0 := by unfold putE; rw [if_neg (by simpa using h), if_neg hc, if_neg (fun q => hp q.2)]
  refine ⟨?_, ?_, e, ?_⟩
  · unfold putG; rw [if_pos ⟨e, hf⟩]
  · unfold putF; rw [e, hf]; rfl
  · unfold put; rw [if_pos e, if_pos hf]
theorem put_ins {size : Nat} {l : List Wt} {x : Wt} (h : May x) (hc : ¬ clash l x) (hf : ¬ full size l = true) : putG size l x = Wt.none ∧ putF size l x = false ∧ putE size l x = 0 ∧ put size l x = ins l x := by
  have e : putE size l x = 0 := by unfold putE; rw [if_neg (by simpa using h), if_neg hc, if_neg (fun q => hf q.1)]
  refine ⟨?_, ?_, e, ?_⟩
  · unfold putG; rw [if_neg (fun q => hf q.2)]
  · unfold putF; rw [e]; simp at hf; simp [hf]
  · unfold put; rw [if_pos e, if_neg hf]
end Pl
theorem PutAt.inserted {T : TypeId} {w W W3 W4 : World} {base B size n2 c2 n3 c3 : Nat} {v : Value} {A2 A3 : Option Addr} {L L3 : List Wt} {rows : List (Nat × List Value)} (h : PutAt T w W base B v (.slice A2 n2 c2) size L rows)
    (ho : OwnL W3 base 38 76 Wt.cells (.slice A3 n3 c3) L3) (hc : Chg (fun k => (Value.slice A2 n2 c2).ownBlock = some k) W W3) (hk : ∀ k, (Value.slice A3 n3 c3).ownBlock = some k → (Value.slice A2 n2 c2).ownBlock = some k ∨ W.heap.size ≤ k)
    (hrB : Row W3 B T [.int .i64 size, .slice A2 n2 c2]) (hr : Row W4 B T ([Value.int .i64 size, .slice A2 n2 c2].set 1 (.slice A3 n3 c3))) (hg : W3.grownBy W4 (some B)) (hok : Pl.Ok size L3) (hT : T ≠ 38) : ∃ v3, PutAt T w W4 base B v v3 size L3 rows :=
  h.step (h.pat.stepTo hr (ho.kept hg (.inr (ho.ne_block hrB hT))) hok
    ((hc.mono (S2 := PS B (.slice A2 n2 c2)) (fun i hi => .inr hi)).trans (Chg.of_grown (S := PS B (.slice A2 n2 c2)) hg (fun k hk => by cases hk; exact .inl (.inl rfl))) (fun i hi => .inl hi)) hk)
set_option maxHeartbeats 6400000 in
theorem PAt.put_no {w : World} {base B size : Nat} {v : Value} {l : List Wt} (h : PAt 63 w base B v size l) (x : Wt) (hx : x.Ok) (hM : ¬ Pl.May x) :
    Calls Try.prog 10 #[.pointer (some ⟨B, 0, none⟩), .agg x.cells.toArray] w fun e w' => e = .returned (.tuple #[.agg (Pl.putG size l x).cells.toArray, .bool (Pl.putF size l x), .int .i64 (Pl.putE size l x)]) ∧ PTo 63 w w' base B v size (Pl.put size l x) := by
  obtain ⟨e1, e2, e3, e4⟩ := Pl.put_no (size := size) (l := l) hM
  rw [e1, e2, e3, e4]
  clear e1 e2 e3 e4
  obtain ⟨A, c, hvA, _, _⟩ := h.own.form
  have HW := Lib.hid h.wok
  have HX := Lib.hid hx
  have hn256 := h.n256
  have HU0 := (h.putAt (Below.refl _ _)).alloc x.cells
  have HU1 := Lib.hid (HU0.alloc Wt.none.cells)
  rw [show (w.alloc (.cells x.cells.toArray 38)).heap.size = w.heap.size + 1 by simp] at HU1
  have MB := Lib.hid (fun W => mayBe_any x hx W)
  have HA := Lib.hid (hvA ▸ h.own |>.lsAt (Wt.lens h.wok))
  have HC76 := Lib.hid (Wt.cells_len hx)
  have HC1 := Lib.hid (Wt.cells_one hx)
  have HZ76 := Lib.hid (Wt.cells_len Wt.none_ok)
  have HZ1 := Lib.hid (Wt.cells_one Wt.none_ok)
  have HBt : Hid (Try.prog.built 38 [] = some Wt.none.cells.toArray) := Lib.hid wait_built0
  have hzv := wait_zv
  have HBp := Lib.hid (fun W b (hr : Row W b 38 x.cells) => WBox.row hx hr)
  have MB := Lib.hid (fun W => by have := MB.out W; rw [decide_eq_false hM] at this; exact this)
  clear hM
  obtain ⟨pix, hpix⟩ : ∃ z, x.ix = z := ⟨_, rfl⟩
  obtain ⟨pf, hpf⟩ : ∃ z, x.tx.frm = z := ⟨_, rfl⟩
  obtain ⟨pn, hpn⟩ : ∃ z, x.tx.nonce = z := ⟨_, rfl⟩
  obtain ⟨pe, hpe⟩ : ∃ z, x.tx.fee = z := ⟨_, rfl⟩
  rw [hpix, hpf, hpn, hpe] at HBp
  have HPi := Lib.hid hpix
  have HPf := Lib.hid hpf
  have HPn := Lib.hid hpn
  have HPe := Lib.hid hpe
  clear HU0 hpix hpf hpn hpe
  obtain ⟨C, hC⟩ : ∃ C, x.cells = C := ⟨_, rfl⟩
  rw [hC] at HC76 HC1 HU1 MB HBp ⊢
  have HCx := Lib.hid hC
  obtain ⟨ZT, hZT⟩ : ∃ ZT, Wt.none.cells = ZT := ⟨_, rfl⟩
  rw [hZT] at HZ76 HZ1 HBt hzv HU1
  rw [hZT]
  have HZT := Lib.hid hZT
  obtain ⟨n, hn⟩ : ∃ n, n = l.length := ⟨_, rfl⟩
  rw [← hn] at hn256 hvA
  have HN := Lib.hid hn
  obtain ⟨gp, hgp⟩ : ∃ gp, w.heap.size = gp := ⟨_, rfl⟩
  obtain ⟨g4, hg4⟩ : ∃ g4, w.heap.size + 1 = g4 := ⟨_, rfl⟩
  rw [hg4, hgp] at HU1
  have Hgp := Lib.hid hgp
  have Hg4 := Lib.hid hg4
  rw [hgp] at hg4
  have hne4 : g4 ≠ gp := by omega
  have HNE := Lib.hid hne4
  subst hvA
  have c1 := HU1.out.pat.c1
  clear hn h hx hC hZT hne4
  go_enter Try.func10, Try.ntmps10
  go_wp2_with (first
    | ((with_reducible show wpList _ _ _ (⟨_, .load 38 (.tmp 3), _, _, _, _⟩ :: _) _ _); refine wpList_load_tx rfl 38 (.tmp 3) rfl gp 0 (rfl) C _ (row_range (HU1.out.row (gp, C) (by simp))) Try.underlying38 rfl (by rw [wait_info, HC76.out]) ?_))
  refine (MB.out _).mono ?_
  rintro _ w2 ⟨rfl, hb2⟩
  have HU2 := Lib.hid (HU1.out.below hb2)
  clear hb2 c1
  have c1 := HU2.out.pat.c1
  go_wp2_with (first
    | ((with_reducible show wpList _ _ _ (⟨_, .build 38 _, _, _, _, _⟩ :: _) _ _); refine wpList_buildL rfl 38 [] rfl (some 20) rfl _ rfl ZT.toArray HBt.out ?_)
    | (
       with_reducible show wpList _ _ _ (⟨_, .store 38 (.tmp 4) _, _, _, _, _⟩ :: _) _ _
       refine wpList_store_at rfl 38 (.tmp 4) (.tmp 20) rfl g4 0 ZT ZT _ rfl rfl (HU2.out.row (g4, ZT) (by simp)) (by have := HZ76.out; have := HZ76.out; omega) (by rw [wait_info, HZ76.out]) HZ1.out ?_
       intro w9 hr hg
       rw [splice_all (HZ76.out.trans HZ76.out.symm)] at hr
       have HR4 := Lib.hid hr
       have HU9 := Lib.hid (HU2.out.write (rows' := [(g4, ZT)]) hg hr ⟨ZT, by simp⟩ (by intro x hx; simp only [List.mem_cons, List.not_mem_nil, or_false] at hx; exact .inl hx))
       clear hr hg))
  refine bodyPost_ret (results_row3 rfl _ _ g4 38 ZT _ rfl HR4.out Try.underlying38 rfl (by rw [wait_info]; simp [HZ76.out]) _ _ rfl rfl) rfl ⟨rfl, HU9.out.to⟩
set_option maxHeartbeats 6400000 in
theorem PAt.put_twice {w : World} {base B size : Nat} {v : Value} {l : List Wt} (h : PAt 63 w base B v size l) (x : Wt) (hx : x.Ok) (hM : Pl.May x) (hcl : Pl.clash l x) :
    Calls Try.prog 10 #[.pointer (some ⟨B, 0, none⟩), .agg x.cells.toArray] w fun e w' => e = .returned (.tuple #[.agg (Pl.putG size l x).cells.toArray, .bool (Pl.putF size l x), .int .i64 (Pl.putE size l x)]) ∧ PTo 63 w w' base B v size (Pl.put size l x) := by
  obtain ⟨e1, e2, e3, e4⟩ := Pl.put_twice (size := size) hM hcl
  rw [e1, e2, e3, e4]
  clear e1 e2 e3 e4
  obtain ⟨A, c, hvA, _, _⟩ := h.own.form
  have HW := Lib.hid h.wok
  have HX := Lib.hid hx
  have hn256 := h.n256
  have HU0 := (h.putAt (Below.refl _ _)).alloc x.cells
  have HU1 := Lib.hid (HU0.alloc Wt.none.cells)
  rw [show (w.alloc (.cells x.cells.toArray 38)).heap.size = w.heap.size + 1 by simp] at HU1
  have MB := Lib.hid (fun W => mayBe_any x hx W)
  have HA := Lib.hid (hvA ▸ h.own |>.lsAt (Wt.lens h.wok))
  have HC76 := Lib.hid (Wt.cells_len hx)
  have HC1 := Lib.hid (Wt.cells_one hx)
  have HZ76 := Lib.hid (Wt.cells_len Wt.none_ok)
  have HZ1 := Lib.hid (Wt.cells_one Wt.none_ok)
  have HBt : Hid (Try.prog.built 38 [] = some Wt.none.cells.toArray) := Lib.hid wait_built0
  have hzv := wait_zv
  have HBp := Lib.hid (fun W b (hr : Row W b 38 x.cells) => WBox.row hx hr)
  have MB := Lib.hid (fun W => by have := MB.out W; rw [decide_eq_true hM] at this; exact this)
  clear hM
  have HCL := Lib.hid hcl
  clear hcl
  obtain ⟨pix, hpix⟩ : ∃ z, x.ix = z := ⟨_, rfl⟩
  obtain ⟨pf, hpf⟩ : ∃ z, x.tx.frm = z := ⟨_, rfl⟩
  obtain ⟨pn, hpn⟩ : ∃ z, x.tx.nonce = z := ⟨_, rfl⟩
  obtain ⟨pe, hpe⟩ : ∃ z, x.tx.fee = z := ⟨_, rfl⟩
  rw [hpix, hpf, hpn, hpe] at HBp
  have HPi := Lib.hid hpix
  have HPf := Lib.hid hpf
  have HPn := Lib.hid hpn
  have HPe := Lib.hid hpe
  clear HU0 hpix hpf hpn hpe
  obtain ⟨C, hC⟩ : ∃ C, x.cells = C := ⟨_, rfl⟩
  rw [hC] at HC76 HC1 HU1 MB HBp ⊢
  have HCx := Lib.hid hC
  obtain ⟨ZT, hZT⟩ : ∃ ZT, Wt.none.cells = ZT := ⟨_, rfl⟩
  rw [hZT] at HZ76 HZ1 HBt hzv HU1
  rw [hZT]
  have HZT := Lib.hid hZT
  obtain ⟨n, hn⟩ : ∃ n, n = l.length := ⟨_, rfl⟩
  rw [← hn] at hn256 hvA
  have HN := Lib.hid hn
  obtain ⟨gp, hgp⟩ : ∃ gp, w.heap.size = gp := ⟨_, rfl⟩
  obtain ⟨g4, hg4⟩ : ∃ g4, w.heap.size + 1 = g4 := ⟨_, rfl⟩
  rw [hg4, hgp] at HU1
  have Hgp := Lib.hid hgp
  have Hg4 := Lib.hid hg4
  rw [hgp] at hg4
  have hne4 : g4 ≠ gp := by omega
  have HNE := Lib.hid hne4
  subst hvA
  have c1 := HU1.out.pat.c1
  clear hn h hx hC hZT hne4
  go_enter Try.func10, Try.ntmps10
  go_wp2_with (first
    | ((with_reducible show wpList _ _ _ (⟨_, .load 38 (.tmp 3), _, _, _, _⟩ :: _) _ _); refine wpList_load_tx rfl 38 (.tmp 3) rfl gp 0 (rfl) C _ (row_range (HU1.out.row (gp, C) (by simp))) Try.underlying38 rfl (by rw [wait_info, HC76.out]) ?_))
  refine (MB.out _).mono ?_
  rintro _ w2 ⟨rfl, hb2⟩
  have HU2 := Lib.hid (HU1.out.below hb2)
  clear hb2 c1
  have c1 := HU2.out.pat.c1
  go_wp2_with fail
  clear c1
  go_loopw [26] (fun si wr => ∃ k : Nat, k ≤ n ∧ si = .int .i64 k ∧ (∀ j (hj : j < l.length), j < k → ¬ Pl.Clash l[j] x) ∧ PutAt 63 w wr base B (.slice A n c) (.slice A n c) size l [(g4, ZT), (gp, C)]) (fun i _ => n - (intOf i).toNat)
  case atStart => exact ⟨0, Nat.zero_le _, rfl, fun j hj h => by omega, HU2.out⟩
  case round =>
    obtain ⟨k, hk, rfl, hno, hu⟩ := hrel
    have HU := Lib.hid hu
    have HNo := Lib.hid hno
    clear hu hno HU2
    by_cases hkn : k < n
    · have hki : (k : Int) < (n : Int) := by omega
      have hk0 : (0 : Int) ≤ (k : Int) := by omega
      have hkl0 : k < l.length := by have := HN.out; omega
      obtain ⟨g, hge, hg, hat0⟩ := HA.out (by intro e; rw [e] at hkl0; simp at hkl0)
      subst hge
      have hX := HW.out _ (List.getElem_mem hkl0)
      have HR : Hid (wr.rangeAt g (k * 76) l[k].cells) := Lib.hid ((HU.out.pat.own.at (Wt.lens HW.out) k hkl0))
      have HXe : Hid (∀ (q : ¬ Pl.Clash l[k] x), ∀ j (hj : j < l.length), j = k → ¬ Pl.Clash l[j] x) := Lib.hid (fun q j hj e => by subst e; exact q)
      obtain ⟨X, hXe⟩ : ∃ X, l[k] = X := ⟨_, rfl⟩
      have hncX : Pl.Clash l[k] x ↔ (X.ix = pix ∨ (X.tx.frm = pf ∧ X.tx.nonce = pn)) := by rw [hXe]; unfold Pl.Clash; rw [HPi.out, HPf.out, HPn.out]
      have HNCX := Lib.hid hncX
      rw [hXe] at hX HR
      have HX76 := Lib.hid (Wt.cells_len hX)
      have HX1 := Lib.hid (Wt.cells_one hX)
      have HBx := Lib.hid (fun W b (hr : Row W b 38 X.cells) => WBox.row hX hr)
      generalize X.cells = CX at *
      generalize X.tx.frm = nf at *
      generalize X.tx.nonce = nn at *
      generalize X.ix = nix at *
      clear hat0 hX hXe hncX
      by_cases q1 : nix = pix
      · have b1 : (nix == pix) = true := by simpa using q1
        have hcl := HNCX.out.2 (.inl q1)
        clear q1
        go_wp2_with (first
          | ((with_reducible show wpList _ _ _ (⟨_, .load 38 (.tmp 28), _, _, _, _⟩ :: _) _ _); refine wpList_load_tx rfl 38 (.tmp 28) rfl g (k * 76) (rfl) CX _ (HR.out) Try.underlying38 rfl (by rw [wait_info, HX76.out]) ?_)
          | (
             with_reducible show wpList _ _ _ (⟨_, .store 38 (.tmp 8) _, _, _, _, _⟩ :: _) _ _
             refine wpList_store_at rfl 38 (.tmp 8) (.tmp 29) rfl wr.heap.size 0 CX ZT _ rfl rfl (Row.new wr 38 ZT) (by have := HZ76.out; have := HX76.out; omega) (by rw [wait_info, HX76.out]) HX1.out ?_
             intro w4 hr hg
             rw [splice_all (HX76.out.trans HZ76.out.symm)] at hr
             have hbx := below_own ((Below.refl wr.heap.size wr).alloc (Nat.le_refl _) (.cells ZT.toArray 38)) hg (fun k hk => by cases hk; exact Nat.le_refl _)
             have HU4 := Lib.hid (HU.out.below hbx)
             obtain ⟨d0, d1, _, d72, _⟩ := HBx.out _ _ hr
             obtain ⟨p0, p1, _, p72, _⟩ := HBp.out _ _ (HU4.out.row (gp, C) (by simp))
             clear hbx
             clear hr hg)
          | ((with_reducible show wpList _ _ _ (⟨_, .build 38 _, _, _, _, _⟩ :: _) _ _); refine wpList_buildL rfl 38 [] rfl (some 53) rfl _ rfl ZT.toArray HBt.out ?_)
          | (
             with_reducible show wpList _ _ _ (⟨_, .store 38 (.tmp 4) _, _, _, _, _⟩ :: _) _ _
             refine wpList_store_at rfl 38 (.tmp 4) (.tmp 53) rfl g4 0 ZT ZT _ rfl rfl (HU4.out.row (g4, ZT) (by simp)) (by have := HZ76.out; have := HZ76.out; omega) (by rw [wait_info, HZ76.out]) HZ1.out ?_
             intro w9 hr hg
             rw [splice_all (HZ76.out.trans HZ76.out.symm)] at hr
             have HR4 := Lib.hid hr
             have HU9 := Lib.hid (HU4.out.write (rows' := [(g4, ZT)]) hg hr ⟨ZT, by simp⟩ (by intro x hx; simp only [List.mem_cons, List.not_mem_nil, or_false] at hx; exact .inl hx))
             clear hr hg))
        refine bodyPost_ret (results_row3 rfl _ _ g4 38 ZT _ rfl HR4.out Try.underlying38 rfl (by rw [wait_info]; simp [HZ76.out]) _ _ rfl rfl) rfl ⟨rfl, HU9.out.to⟩
      have b1 : (nix == pix) = false := by simpa using q1
      by_cases q2 : nf = pf
      · have b2 : (nf == pf) = true := by simpa using q2
        by_cases q3 : nn = pn
        · have b3 : (nn == pn) = true := by simpa using q3
          have hcl := HNCX.out.2 (.inr ⟨q2, q3⟩)
          clear q1 q2 q3
          go_wp2_with (first
            | ((with_reducible show wpList _ _ _ (⟨_, .load 38 (.tmp 28), _, _, _, _⟩ :: _) _ _); refine wpList_load_tx rfl 38 (.tmp 28) rfl g (k * 76) (rfl) CX _ (HR.out) Try.underlying38 rfl (by rw [wait_info, HX76.out]) ?_)
            | (
               with_reducible show wpList _ _ _ (⟨_, .store 38 (.tmp 8) _, _, _, _, _⟩ :: _) _ _
               refine wpList_store_at rfl 38 (.tmp 8) (.tmp 29) rfl wr.heap.size 0 CX ZT _ rfl rfl (Row.new wr 38 ZT) (by have := HZ76.out; have := HX76.out; omega) (by rw [wait_info, HX76.out]) HX1.out ?_
               intro w4 hr hg
               rw [splice_all (HX76.out.trans HZ76.out.symm)] at hr
               have hbx := below_own ((Below.refl wr.heap.size wr).alloc (Nat.le_refl _) (.cells ZT.toArray 38)) hg (fun k hk => by cases hk; exact Nat.le_refl _)
               have HU4 := Lib.hid (HU.out.below hbx)
               obtain ⟨d0, d1, _, d72, _⟩ := HBx.out _ _ hr
               obtain ⟨p0, p1, _, p72, _⟩ := HBp.out _ _ (HU4.out.row (gp, C) (by simp))
               clear hbx
               clear hr hg)
            | ((with_reducible show wpList _ _ _ (⟨_, .build 38 _, _, _, _, _⟩ :: _) _ _); refine wpList_buildL rfl 38 [] rfl (some 53) rfl _ rfl ZT.toArray HBt.out ?_)
            | (
               with_reducible show wpList _ _ _ (⟨_, .store 38 (.tmp 4) _, _, _, _, _⟩ :: _) _ _
               refine wpList_store_at rfl 38 (.tmp 4) (.tmp 53) rfl g4 0 ZT ZT _ rfl rfl (HU4.out.row (g4, ZT) (by simp)) (by have := HZ76.out; have := HZ76.out; omega) (by rw [wait_info, HZ76.out]) HZ1.out ?_
               intro w9 hr hg
               rw [splice_all (HZ76.out.trans HZ76.out.symm)] at hr
               have HR4 := Lib.hid hr
               have HU9 := Lib.hid (HU4.out.write (rows' := [(g4, ZT)]) hg hr ⟨ZT, by simp⟩ (by intro x hx; simp only [List.mem_cons, List.not_mem_nil, or_false] at hx; exact .inl hx))
               clear hr hg))
          refine bodyPost_ret (results_row3 rfl _ _ g4 38 ZT _ rfl HR4.out Try.underlying38 rfl (by rw [wait_info]; simp [HZ76.out]) _ _ rfl rfl) rfl ⟨rfl, HU9.out.to⟩
        · have b3 : (nn == pn) = false := by simpa using q3
          have HNk : Hid (¬ Pl.Clash l[k] x) := Lib.hid (fun e => by
            rcases HNCX.out.1 e with e | e
            · exact q1 e
            · exact q3 e.2)
          clear q1 q2 q3
          go_wp2_with (first
            | ((with_reducible show wpList _ _ _ (⟨_, .load 38 (.tmp 28), _, _, _, _⟩ :: _) _ _); refine wpList_load_tx rfl 38 (.tmp 28) rfl g (k * 76) (rfl) CX _ (HR.out) Try.underlying38 rfl (by rw [wait_info, HX76.out]) ?_)
            | (
               with_reducible show wpList _ _ _ (⟨_, .store 38 (.tmp 8) _, _, _, _, _⟩ :: _) _ _
               refine wpList_store_at rfl 38 (.tmp 8) (.tmp 29) rfl wr.heap.size 0 CX ZT _ rfl rfl (Row.new wr 38 ZT) (by have := HZ76.out; have := HX76.out; omega) (by rw [wait_info, HX76.out]) HX1.out ?_
               intro w4 hr hg
               rw [splice_all (HX76.out.trans HZ76.out.symm)] at hr
               have hbx := below_own ((Below.refl wr.heap.size wr).alloc (Nat.le_refl _) (.cells ZT.toArray 38)) hg (fun k hk => by cases hk; exact Nat.le_refl _)
               have HU4 := Lib.hid (HU.out.below hbx)
               obtain ⟨d0, d1, _, d72, _⟩ := HBx.out _ _ hr
               obtain ⟨p0, p1, _, p72, _⟩ := HBp.out _ _ (HU4.out.row (gp, C) (by simp))
               clear hbx
               clear hr hg))
          exact ⟨⟨k + 1, by omega, by go_num, fun j hj hjk => (by
            rcases Nat.lt_or_ge j k with q | q
            · exact HNo.out j hj q
            · have : j = k := by omega
              subst this
              exact HNk.out), HU4.out⟩, by simp [intOf]; omega⟩
      · have b2 : (nf == pf) = false := by simpa using q2
        have HNk : Hid (¬ Pl.Clash l[k] x) := Lib.hid (fun e => by
          rcases HNCX.out.1 e with e | e
          · exact q1 e
          · exact q2 e.1)
        clear q1 q2
        go_wp2_with (first
          | ((with_reducible show wpList _ _ _ (⟨_, .load 38 (.tmp 28), _, _, _, _⟩ :: _) _ _); refine wpList_load_tx rfl 38 (.tmp 28) rfl g (k * 76) (rfl) CX _ (HR.out) Try.underlying38 rfl (by rw [wait_info, HX76.out]) ?_)
          | (
             with_reducible show wpList _ _ _ (⟨_, .store 38 (.tmp 8) _, _, _, _, _⟩ :: _) _ _
             refine wpList_store_at rfl 38 (.tmp 8) (.tmp 29) rfl wr.heap.size 0 CX ZT _ rfl rfl (Row.new wr 38 ZT) (by have := HZ76.out; have := HX76.out; omega) (by rw [wait_info, HX76.out]) HX1.out ?_
             intro w4 hr hg
             rw [splice_all (HX76.out.trans HZ76.out.symm)] at hr
             have hbx := below_own ((Below.refl wr.heap.size wr).alloc (Nat.le_refl _) (.cells ZT.toArray 38)) hg (fun k hk => by cases hk; exact Nat.le_refl _)
             have HU4 := Lib.hid (HU.out.below hbx)
             obtain ⟨d0, d1, _, d72, _⟩ := HBx.out _ _ hr
             obtain ⟨p0, p1, _, p72, _⟩ := HBp.out _ _ (HU4.out.row (gp, C) (by simp))
             clear hbx
             clear hr hg))
        exact ⟨⟨k + 1, by omega, by go_num, fun j hj hjk => (by
          rcases Nat.lt_or_ge j k with q | q
          · exact HNo.out j hj q
          · have : j = k := by omega
            subst this
            exact HNk.out), HU4.out⟩, by simp [intOf]; omega⟩
    · have hki : ¬ (k : Int) < (n : Int) := by omega
      have hkn' : k = n := by omega
      clear hkn
      obtain ⟨y, hy, hq⟩ := HCL.out
      obtain ⟨j, hj, rfl⟩ := List.getElem_of_mem hy
      exact absurd hq (HNo.out j hj (by have := HN.out; omega))
end Go.Proofs.Ytoicpidiejhjeaa
