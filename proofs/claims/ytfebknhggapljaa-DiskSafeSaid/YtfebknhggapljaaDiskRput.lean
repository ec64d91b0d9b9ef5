/- The reference of layer 9: put. -/
import Derived.Test.YtfebknhggapljaaDiskCrash
import Derived.Laws.Cover1
import Derived.Sort.Walk0
namespace Go.Proofs.Ytfebknhggapljaa
open Go.RowKit
set_option linter.unusedVariables false
set_option linter.unusedSimpArgs false

theorem bytesLess9 (x y : List UInt8) : Op.bytesLess x y = decide (x < y) := Go.Proofs.bytesLess_eq x y
/-- what lies in memory while put goes round -/
def RSt (w W : World) (u : Value) (D : List Fl) (q : Nat) (f : Fl) : Prop :=
  W.ownsRow (w.heap.size + 1) 60 3 u q (Fl.flat D) ∧ q = D.length ∧ Below w.heap.size w W ∧ Row W w.heap.size 60 [Sb f.name, Sb f.b, .int .i64 f.safe]
theorem RSt.app {w W w3 : World} {u v' : Value} {D : List Fl} {q : Nat} {f : Fl} (h : RSt w W u D q f) (x : Fl)
    (hown : w3.ownsRow (w.heap.size + 1) 60 3 v' (q + 1) (Fl.flat D ++ [Sb x.name, Sb x.b, .int .i64 x.safe])) (hg : (W.alloc (.cells #[Sb x.name, Sb x.b, .int .i64 x.safe] 60)).grownBy w3 u.ownBlock) : RSt w w3 v' (D ++ [x]) (q + 1) f := by
  obtain ⟨h1, h2, h3, h4⟩ := h
  have hlt := Row.lt h4
  refine ⟨by rw [Fl.flat_snoc]; exact hown, by rw [List.length_append, h2]; rfl, ?_, ?_⟩
  · exact (h3.alloc h3.size _).grown hg (by simp; omega) (fun k hk => by have := (h1.lt k hk).1; omega)
  · exact (h4.kept (grownBy_alloc W _ none) (by simp)).kept hg (fun e => by have := (h1.lt _ e.symm).1; omega)
theorem RSt.drew {w W : World} {u : Value} {D : List Fl} {q : Nat} {f : Fl} (h : RSt w W u D q f) : RSt w W.drew u D q f :=
  ⟨h.1.kept (grownBy_drew _ none) (by cases u.ownBlock <;> simp), h.2.1, h.2.2.1.drew, h.2.2.2.kept (grownBy_drew _ none) (by simp)⟩
theorem own_lo9 {W : World} {lo lo2 n sz : Nat} {e : TypeId} {v : Value} {xs : List Value} (h : W.ownsRow lo e sz v n xs) (hl : lo2 ≤ lo) : W.ownsRow lo2 e sz v n xs := by
  obtain ⟨h1, h2⟩ := h
  refine ⟨h1, ?_⟩
  rcases h2 with h2 | ⟨g, cap, cur, hv, hb, rest⟩
  · exact .inl h2
  · exact .inr ⟨g, cap, cur, hv, by omega, rest⟩
theorem RSt.drewN {w W : World} {u : Value} {D : List Fl} {q : Nat} {f : Fl} (h : RSt w W u D q f) (n : Nat) : RSt w (W.drewN n) u D q f :=
  ⟨h.1.kept (grownBy_drewN _ n none) (by cases u.ownBlock <;> simp), h.2.1, below_drewN' h.2.2.1 n, h.2.2.2.kept (grownBy_drewN _ n none) (by simp)⟩
theorem rk_after {w W : World} {g : Nat} {xs : List Value} {T : TypeId} (h : Row w g T xs) (hb : Below w.heap.size w W) : Row W g T xs := h.below hb
set_option maxRecDepth 20000 in
set_option maxHeartbeats 3200000 in
theorem rput_any {w : World} {g lo : Nat} {v : Value} {left : Int} {l : List Fl} (f : Fl) (h : RkAt w g v left) (hf : FlsAt w lo v l) (hl : l.length ≤ 1000) (hs : Fl.Sorted l) :
    Calls Try.prog 39 #[.pointer (some ⟨g, 0, none⟩), .agg #[Sb f.name, Sb f.b, .int .i64 f.safe]] w fun e w' => e = .returned (.tuple #[]) ∧ ∃ v', RkAt w' g v' left ∧ FlsAt w' w.heap.size v' (Fl.put l f) ∧ w.grownBy w' (some g) := by
  obtain ⟨i0, hi, hz, hsz, hby⟩ := fl_info
  have Hi := Lib.hid hi
  have Hz := Lib.hid hz
  have Hs := Lib.hid hsz
  have Hby := Lib.hid hby
  obtain ⟨A, c, rfl⟩ := hf.form
  have HF := Lib.hid hf
  have HK := Lib.hid h
  have hgl : g < w.heap.size := Row.lt h
  have hc0 : w.cell? ⟨g, 0, none⟩ = some (.slice A l.length c) := Row.cell h 0 (by simp)
  obtain ⟨n, hn⟩ : ∃ n, n = l.length := ⟨_, rfl⟩
  rw [← hn] at hc0 hl
  have HC := Lib.hid hc0
  have HN := Lib.hid hn
  have hput := Fl.fold_put f l hs []
  have Hput := Lib.hid hput
  obtain ⟨fn, fb, fs⟩ := f
  simp only
  have hrowf := Row.new w 60 [Sb fn, Sb fb, .int .i64 fs]
  have hbel0 := Below.alloc (Below.refl w.heap.size w) (Nat.le_refl _) (.cells #[Sb fn, Sb fb, .int .i64 fs] 60)
  have hst0 : RSt w (w.alloc (.cells #[Sb fn, Sb fb, .int .i64 fs] 60)) (.slice none 0 0) [] 0 ⟨fn, fb, fs⟩ := ⟨World.ownsRow_nil _ _ _ _, rfl, hbel0, hrowf⟩
  have HS0 := Lib.hid hst0
  clear hi hz hsz hby h hf hn hc0 hs hput hrowf hbel0 hst0
  go_enter Try.func39, Try.ntmps39
  go_wp2_with fail
  go_loopw [4, 5, 6] (fun u d i wr => ∃ (k q : Nat) (D : List Fl) (dn : Bool), k ≤ n ∧ i = .int .i64 k ∧ d = .bool dn ∧ q ≤ 2 * k ∧ (l.take k).foldl (Fl.step ⟨fn, fb, fs⟩) ([], false) = (D, dn) ∧ RSt w wr u D q ⟨fn, fb, fs⟩) (fun _ _ i _ => n - (intOf i).toNat)
  case atStart => exact ⟨0, 0, [], false, Nat.zero_le _, rfl, rfl, Nat.zero_le _, rfl, HS0.out⟩
  case round =>
    obtain ⟨k, q, D, dn, hk, rfl, rfl, hq, hfold, hst⟩ := hrel
    have c0 := (hst.2.2.1.cell (p := ⟨g, 0, none⟩) hgl).trans HC.out
    have r0 := Row.cell hst.2.2.2 0 (by simp)
    have r1 := Row.cell hst.2.2.2 1 (by simp)
    have r2 := Row.cell hst.2.2.2 2 (by simp)
    simp only [List.getElem_cons_zero, List.getElem_cons_succ] at r0 r1 r2
    have HS := Lib.hid hst
    have Hfold := Lib.hid hfold
    have Hq := Lib.hid hq
    clear hst hfold hq HS0
    by_cases hkn : k < n
    · have hki : (k : Int) < (n : Int) := by omega
      have hkl : k < l.length := by rw [← HN.out]; exact hkn
      obtain ⟨b, rfl, _, hb, c1, c2, c3⟩ := HF.out.at k hkl
      have htk : (l.take (k + 1)).foldl (Fl.step ⟨fn, fb, fs⟩) ([], false) = Fl.step ⟨fn, fb, fs⟩ (D, dn) l[k] := by
        rw [List.take_succ_eq_append_getElem hkl, List.foldl_append, Hfold.out]; rfl
      have Htk := Lib.hid htk
      generalize l[k] = fx at *
      obtain ⟨xn, xb, xs⟩ := fx
      simp only at c1 c2 c3
      have Hc1 := Lib.hid c1
      have Hc2 := Lib.hid c2
      have Hc3 := Lib.hid c3
      have c1 := (HS.out.2.2.1.cell (p := ⟨b, k * 3, none⟩) hb).trans Hc1.out
      have c2 := (HS.out.2.2.1.cell (p := ⟨b, k * 3 + 1, none⟩) hb).trans Hc2.out
      have c3 := (HS.out.2.2.1.cell (p := ⟨b, k * 3 + 2, none⟩) hb).trans Hc3.out
      have hq2 := Hq.out
      clear htk
      cases dn
      · by_cases hlt : xn < fn
        · have hls : Op.bytesLess xn fn = true := by rw [bytesLess9]; simpa using hlt
          have hne : (xn != fn) = true := by simpa using Fl.nm_ne hlt
          have heq : (xn == fn) = false := by simpa using Fl.nm_ne hlt
          have hnb : xn ≠ fn := Fl.nm_ne hlt
          have Hlt := Lib.hid hlt
          clear hlt
          go_wp2_with fail
          refine region_named 14 (by kernel_rfl) (by kernel_rfl) ?_
          intro w3 hw3
          have HS3 : Hid (RSt w w3 u4 D q ⟨fn, fb, fs⟩) := Lib.hid (by rw [hw3]; exact HS.out.drew)
          have c0 := (HS3.out.2.2.1.cell (p := ⟨g, 0, none⟩) hgl).trans HC.out
          have c1 := (HS3.out.2.2.1.cell (p := ⟨b, k * 3, none⟩) hb).trans Hc1.out
          have c2 := (HS3.out.2.2.1.cell (p := ⟨b, k * 3 + 1, none⟩) hb).trans Hc2.out
          have c3 := (HS3.out.2.2.1.cell (p := ⟨b, k * 3 + 2, none⟩) hb).trans Hc3.out
          have r0 := Row.cell HS3.out.2.2.2 0 (by simp)
          have r1 := Row.cell HS3.out.2.2.2 1 (by simp)
          have r2 := Row.cell HS3.out.2.2.2 2 (by simp)
          simp only [List.getElem_cons_zero, List.getElem_cons_succ] at r0 r1 r2
          clear hw3
          simp only [List.take_succ_cons, List.take_zero, List.drop_succ_cons, List.drop_zero]
          repeat still_step
          refine wpStill_nil ?_
          go_wp2_with fail
          refine region_named 10 (by kernel_rfl) (by kernel_rfl) ?_
          intro w5 hw
          have HS5 : Hid (RSt w w5 u4 D q ⟨fn, fb, fs⟩) := Lib.hid (by rw [hw]; exact HS3.out.drew)
          have c0 := (HS5.out.2.2.1.cell (p := ⟨g, 0, none⟩) hgl).trans HC.out
          have c1 := (HS5.out.2.2.1.cell (p := ⟨b, k * 3, none⟩) hb).trans Hc1.out
          have c2 := (HS5.out.2.2.1.cell (p := ⟨b, k * 3 + 1, none⟩) hb).trans Hc2.out
          have c3 := (HS5.out.2.2.1.cell (p := ⟨b, k * 3 + 2, none⟩) hb).trans Hc3.out
          have r0 := Row.cell HS5.out.2.2.2 0 (by simp)
          have r1 := Row.cell HS5.out.2.2.2 1 (by simp)
          have r2 := Row.cell HS5.out.2.2.2 2 (by simp)
          simp only [List.getElem_cons_zero, List.getElem_cons_succ] at r0 r1 r2
          clear hw
          simp only [List.take_succ_cons, List.take_zero, List.drop_succ_cons, List.drop_zero]
          repeat still_step
          refine wpStill_nil ?_
          clear hnb
          have hown2 := HS5.out.1.alloc (.cells #[Sb xn, Sb xb, .int .i64 xs] 60)
          have Hk63 : Hid (q + 1 ≤ maxLen) := Lib.hid (by unfold maxLen; omega)
          have Hk48 : Hid (((q + 1) + (q + 1) / 4 + 192) * 40 ≤ 281474976710656) := Lib.hid (by omega)
          have hsz2 : w.heap.size + 1 ≤ (w5.alloc (.cells #[Sb xn, Sb xb, .int .i64 xs] 60)).heap.size := by have := Row.lt HS5.out.2.2.2; simp; omega
          have Hnew := Lib.hid (row_news9 (Row.new w5 60 [Sb xn, Sb xb, .int .i64 xs]))
          have Hown2 := Lib.hid hown2
          have Hsz2 := Lib.hid hsz2
          clear hown2 hsz2
          go_wp2_with (at_builtin; refine wpList_append_own_wide _ rfl (.tmp 46) (.tmp 54) 54 rfl (w.heap.size + 1) 60 i0 (.agg #[.string ByteArray.empty, .string ByteArray.empty, .int .i64 0]) 3 40 Try.underlying54 Hi.out Hz.out Hs.out Hby.out rfl (by decide) _ _ _ rfl Hown2.out ⟨w5.heap.size, 0, none⟩ 1 1 [Sb xn, Sb xb, .int .i64 xs] rfl rfl Hnew.out (by intro u hu; simp at hu; rcases hu with rfl | rfl | rfl <;> rfl) Hk63.out Hk48.out Hsz2.out ?_
                       intro v6 w6 hown3 hgrow3 _
                       have HS6 : Hid (RSt w w6 v6 (D ++ [⟨xn, xb, xs⟩]) (q + 1) ⟨fn, fb, fs⟩) := Lib.hid (HS5.out.app ⟨xn, xb, xs⟩ hown3 hgrow3)
                       obtain ⟨q2, Hq2⟩ : ∃ z, Hid (z = q + 1) := ⟨_, rfl⟩
                       obtain ⟨g', cp, he9⟩ := ownsRow_succ9 hown3
                       rw [← Hq2.out] at HS6 he9
                       subst he9
                       have c0 := (HS6.out.2.2.1.cell (p := ⟨g, 0, none⟩) hgl).trans HC.out
                       have c1 := (HS6.out.2.2.1.cell (p := ⟨b, k * 3, none⟩) hb).trans Hc1.out
                       have c2 := (HS6.out.2.2.1.cell (p := ⟨b, k * 3 + 1, none⟩) hb).trans Hc2.out
                       have c3 := (HS6.out.2.2.1.cell (p := ⟨b, k * 3 + 2, none⟩) hb).trans Hc3.out
                       have r0 := Row.cell HS6.out.2.2.2 0 (by simp)
                       have r1 := Row.cell HS6.out.2.2.2 1 (by simp)
                       have r2 := Row.cell HS6.out.2.2.2 2 (by simp)
                       simp only [List.getElem_cons_zero, List.getElem_cons_succ] at r0 r1 r2
                       clear hown3 hgrow3)
          exact ⟨⟨k + 1, q2, _, false, hkn, by go_num, rfl, by (try have e2 := Hq2.out); (try have e3 := Hq3.out); omega, by rw [Htk.out]; have := Hlt.out; have h1 : ¬ fn ≤ xn := List.not_le.2 this; simp [Fl.step, h1, Fl.nm_ne this], HS6.out⟩, by simp [intOf]; omega⟩
        · have hls : Op.bytesLess xn fn = false := by rw [bytesLess9]; simpa using hlt
          have Hle : Hid (fn ≤ xn) := Lib.hid (List.not_lt.1 hlt)
          clear hlt
          by_cases he : xn = fn
          · subst he
            have hne : (xn != xn) = false := by simp
            go_wp2_with fail
            refine region_named 14 (by kernel_rfl) (by kernel_rfl) ?_
            intro w3 hw3
            have HS3 : Hid (RSt w w3 u4 D q ⟨xn, fb, fs⟩) := Lib.hid (by rw [hw3]; exact HS.out.drew)
            have c0 := (HS3.out.2.2.1.cell (p := ⟨g, 0, none⟩) hgl).trans HC.out
            have c1 := (HS3.out.2.2.1.cell (p := ⟨b, k * 3, none⟩) hb).trans Hc1.out
            have c2 := (HS3.out.2.2.1.cell (p := ⟨b, k * 3 + 1, none⟩) hb).trans Hc2.out
            have c3 := (HS3.out.2.2.1.cell (p := ⟨b, k * 3 + 2, none⟩) hb).trans Hc3.out
            have r0 := Row.cell HS3.out.2.2.2 0 (by simp)
            have r1 := Row.cell HS3.out.2.2.2 1 (by simp)
            have r2 := Row.cell HS3.out.2.2.2 2 (by simp)
            simp only [List.getElem_cons_zero, List.getElem_cons_succ] at r0 r1 r2
            clear hw3
            simp only [List.take_succ_cons, List.take_zero, List.drop_succ_cons, List.drop_zero]
            repeat still_step
            refine wpStill_nil ?_
            have hown2 := HS3.out.1.alloc (.cells #[Sb xn, Sb fb, .int .i64 fs] 60)
            have Hk63 : Hid (q + 1 ≤ maxLen) := Lib.hid (by unfold maxLen; omega)
            have Hk48 : Hid (((q + 1) + (q + 1) / 4 + 192) * 40 ≤ 281474976710656) := Lib.hid (by omega)
            have hsz2 : w.heap.size + 1 ≤ (w3.alloc (.cells #[Sb xn, Sb fb, .int .i64 fs] 60)).heap.size := by have := Row.lt HS3.out.2.2.2; simp; omega
            have Hnew := Lib.hid (row_news9 (Row.new w3 60 [Sb xn, Sb fb, .int .i64 fs]))
            have Hown2 := Lib.hid hown2
            have Hsz2 := Lib.hid hsz2
            clear hown2 hsz2
            go_wp2_with (at_builtin; refine wpList_append_own_wide _ rfl (.tmp 31) (.tmp 33) 54 rfl (w.heap.size + 1) 60 i0 (.agg #[.string ByteArray.empty, .string ByteArray.empty, .int .i64 0]) 3 40 Try.underlying54 Hi.out Hz.out Hs.out Hby.out rfl (by decide) _ _ _ rfl Hown2.out ⟨w3.heap.size, 0, none⟩ 1 1 [Sb xn, Sb fb, .int .i64 fs] rfl rfl Hnew.out (by intro u hu; simp at hu; rcases hu with rfl | rfl | rfl <;> rfl) Hk63.out Hk48.out Hsz2.out ?_
                         intro v4 w4 hown3 hgrow3 _
                         have HS4 : Hid (RSt w w4 v4 (D ++ [⟨xn, fb, fs⟩]) (q + 1) ⟨xn, fb, fs⟩) := Lib.hid (HS3.out.app ⟨xn, fb, fs⟩ hown3 hgrow3)
                         obtain ⟨q2, Hq2⟩ : ∃ z, Hid (z = q + 1) := ⟨_, rfl⟩
                         obtain ⟨g', cp, he9⟩ := ownsRow_succ9 hown3
                         rw [← Hq2.out] at HS4 he9
                         subst he9
                         have c0 := (HS4.out.2.2.1.cell (p := ⟨g, 0, none⟩) hgl).trans HC.out
                         have c1 := (HS4.out.2.2.1.cell (p := ⟨b, k * 3, none⟩) hb).trans Hc1.out
                         have c2 := (HS4.out.2.2.1.cell (p := ⟨b, k * 3 + 1, none⟩) hb).trans Hc2.out
                         have c3 := (HS4.out.2.2.1.cell (p := ⟨b, k * 3 + 2, none⟩) hb).trans Hc3.out
                         have r0 := Row.cell HS4.out.2.2.2 0 (by simp)
                         have r1 := Row.cell HS4.out.2.2.2 1 (by simp)
                         have r2 := Row.cell HS4.out.2.2.2 2 (by simp)
                         simp only [List.getElem_cons_zero, List.getElem_cons_succ] at r0 r1 r2
                         clear hown3 hgrow3)
            refine region_named 10 (by kernel_rfl) (by kernel_rfl) ?_
            intro w5 hw
            have HS5 : Hid (RSt w w5 (.slice (some ⟨g', 0, none⟩) q2 cp) (D ++ [⟨xn, fb, fs⟩]) q2 ⟨xn, fb, fs⟩) := Lib.hid (by rw [hw]; exact HS4.out.drew)
            have c0 := (HS5.out.2.2.1.cell (p := ⟨g, 0, none⟩) hgl).trans HC.out
            have c1 := (HS5.out.2.2.1.cell (p := ⟨b, k * 3, none⟩) hb).trans Hc1.out
            have c2 := (HS5.out.2.2.1.cell (p := ⟨b, k * 3 + 1, none⟩) hb).trans Hc2.out
            have c3 := (HS5.out.2.2.1.cell (p := ⟨b, k * 3 + 2, none⟩) hb).trans Hc3.out
            have r0 := Row.cell HS5.out.2.2.2 0 (by simp)
            have r1 := Row.cell HS5.out.2.2.2 1 (by simp)
            have r2 := Row.cell HS5.out.2.2.2 2 (by simp)
            simp only [List.getElem_cons_zero, List.getElem_cons_succ] at r0 r1 r2
            clear hw
            simp only [List.take_succ_cons, List.take_zero, List.drop_succ_cons, List.drop_zero]
            repeat still_step
            refine wpStill_nil ?_
            go_wp2_with fail
            exact ⟨⟨k + 1, q2, _, true, hkn, by go_num, rfl, by (try have e2 := Hq2.out); (try have e3 := Hq3.out); omega, by rw [Htk.out]; simp [Fl.step], HS5.out⟩, by simp [intOf]; omega⟩
          · have hne : (xn != fn) = true := by simpa using he
            have heq : (xn == fn) = false := by simpa using he
            have Hne := Lib.hid he
            clear he
            go_wp2_with fail
            refine region_named 14 (by kernel_rfl) (by kernel_rfl) ?_
            intro w3 hw3
            have HS3 : Hid (RSt w w3 u4 D q ⟨fn, fb, fs⟩) := Lib.hid (by rw [hw3]; exact HS.out.drew)
            have c0 := (HS3.out.2.2.1.cell (p := ⟨g, 0, none⟩) hgl).trans HC.out
            have c1 := (HS3.out.2.2.1.cell (p := ⟨b, k * 3, none⟩) hb).trans Hc1.out
            have c2 := (HS3.out.2.2.1.cell (p := ⟨b, k * 3 + 1, none⟩) hb).trans Hc2.out
            have c3 := (HS3.out.2.2.1.cell (p := ⟨b, k * 3 + 2, none⟩) hb).trans Hc3.out
            have r0 := Row.cell HS3.out.2.2.2 0 (by simp)
            have r1 := Row.cell HS3.out.2.2.2 1 (by simp)
            have r2 := Row.cell HS3.out.2.2.2 2 (by simp)
            simp only [List.getElem_cons_zero, List.getElem_cons_succ] at r0 r1 r2
            clear hw3
            simp only [List.take_succ_cons, List.take_zero, List.drop_succ_cons, List.drop_zero]
            repeat still_step
            refine wpStill_nil ?_
            have hown2 := HS3.out.1.alloc (.cells #[Sb fn, Sb fb, .int .i64 fs] 60)
            have Hk63 : Hid (q + 1 ≤ maxLen) := Lib.hid (by unfold maxLen; omega)
            have Hk48 : Hid (((q + 1) + (q + 1) / 4 + 192) * 40 ≤ 281474976710656) := Lib.hid (by omega)
            have hsz2 : w.heap.size + 1 ≤ (w3.alloc (.cells #[Sb fn, Sb fb, .int .i64 fs] 60)).heap.size := by have := Row.lt HS3.out.2.2.2; simp; omega
            have Hnew := Lib.hid (row_news9 (Row.new w3 60 [Sb fn, Sb fb, .int .i64 fs]))
            have Hown2 := Lib.hid hown2
            have Hsz2 := Lib.hid hsz2
            clear hown2 hsz2
            go_wp2_with (at_builtin; refine wpList_append_own_wide _ rfl (.tmp 31) (.tmp 33) 54 rfl (w.heap.size + 1) 60 i0 (.agg #[.string ByteArray.empty, .string ByteArray.empty, .int .i64 0]) 3 40 Try.underlying54 Hi.out Hz.out Hs.out Hby.out rfl (by decide) _ _ _ rfl Hown2.out ⟨w3.heap.size, 0, none⟩ 1 1 [Sb fn, Sb fb, .int .i64 fs] rfl rfl Hnew.out (by intro u hu; simp at hu; rcases hu with rfl | rfl | rfl <;> rfl) Hk63.out Hk48.out Hsz2.out ?_
                         intro v4 w4 hown3 hgrow3 _
                         have HS4 : Hid (RSt w w4 v4 (D ++ [⟨fn, fb, fs⟩]) (q + 1) ⟨fn, fb, fs⟩) := Lib.hid (HS3.out.app ⟨fn, fb, fs⟩ hown3 hgrow3)
                         obtain ⟨q2, Hq2⟩ : ∃ z, Hid (z = q + 1) := ⟨_, rfl⟩
                         obtain ⟨g', cp, he9⟩ := ownsRow_succ9 hown3
                         rw [← Hq2.out] at HS4 he9
                         subst he9
                         have c0 := (HS4.out.2.2.1.cell (p := ⟨g, 0, none⟩) hgl).trans HC.out
                         have c1 := (HS4.out.2.2.1.cell (p := ⟨b, k * 3, none⟩) hb).trans Hc1.out
                         have c2 := (HS4.out.2.2.1.cell (p := ⟨b, k * 3 + 1, none⟩) hb).trans Hc2.out
                         have c3 := (HS4.out.2.2.1.cell (p := ⟨b, k * 3 + 2, none⟩) hb).trans Hc3.out
                         have r0 := Row.cell HS4.out.2.2.2 0 (by simp)
                         have r1 := Row.cell HS4.out.2.2.2 1 (by simp)
                         have r2 := Row.cell HS4.out.2.2.2 2 (by simp)
                         simp only [List.getElem_cons_zero, List.getElem_cons_succ] at r0 r1 r2
                         clear hown3 hgrow3)
            refine region_named 10 (by kernel_rfl) (by kernel_rfl) ?_
            intro w5 hw
            have HS5 : Hid (RSt w w5 (.slice (some ⟨g', 0, none⟩) q2 cp) (D ++ [⟨fn, fb, fs⟩]) q2 ⟨fn, fb, fs⟩) := Lib.hid (by rw [hw]; exact HS4.out.drew)
            have c0 := (HS5.out.2.2.1.cell (p := ⟨g, 0, none⟩) hgl).trans HC.out
            have c1 := (HS5.out.2.2.1.cell (p := ⟨b, k * 3, none⟩) hb).trans Hc1.out
            have c2 := (HS5.out.2.2.1.cell (p := ⟨b, k * 3 + 1, none⟩) hb).trans Hc2.out
            have c3 := (HS5.out.2.2.1.cell (p := ⟨b, k * 3 + 2, none⟩) hb).trans Hc3.out
            have r0 := Row.cell HS5.out.2.2.2 0 (by simp)
            have r1 := Row.cell HS5.out.2.2.2 1 (by simp)
            have r2 := Row.cell HS5.out.2.2.2 2 (by simp)
            simp only [List.getElem_cons_zero, List.getElem_cons_succ] at r0 r1 r2
            clear hw
            simp only [List.take_succ_cons, List.take_zero, List.drop_succ_cons, List.drop_zero]
            repeat still_step
            refine wpStill_nil ?_
            have hq9 : q2 ≤ 2 * k + 1 := by have := Hq2.out; omega
            have hown2 := HS5.out.1.alloc (.cells #[Sb xn, Sb xb, .int .i64 xs] 60)
            have Hk63 : Hid (q2 + 1 ≤ maxLen) := Lib.hid (by unfold maxLen; omega)
            have Hk48 : Hid (((q2 + 1) + (q2 + 1) / 4 + 192) * 40 ≤ 281474976710656) := Lib.hid (by omega)
            have hsz2 : w.heap.size + 1 ≤ (w5.alloc (.cells #[Sb xn, Sb xb, .int .i64 xs] 60)).heap.size := by have := Row.lt HS5.out.2.2.2; simp; omega
            have Hnew := Lib.hid (row_news9 (Row.new w5 60 [Sb xn, Sb xb, .int .i64 xs]))
            have Hown2 := Lib.hid hown2
            have Hsz2 := Lib.hid hsz2
            clear hown2 hsz2
            go_wp2_with (at_builtin; refine wpList_append_own_wide _ rfl (.tmp 46) (.tmp 54) 54 rfl (w.heap.size + 1) 60 i0 (.agg #[.string ByteArray.empty, .string ByteArray.empty, .int .i64 0]) 3 40 Try.underlying54 Hi.out Hz.out Hs.out Hby.out rfl (by decide) _ _ _ rfl Hown2.out ⟨w5.heap.size, 0, none⟩ 1 1 [Sb xn, Sb xb, .int .i64 xs] rfl rfl Hnew.out (by intro u hu; simp at hu; rcases hu with rfl | rfl | rfl <;> rfl) Hk63.out Hk48.out Hsz2.out ?_
                         intro v6 w6 hown3 hgrow3 _
                         have HS6 : Hid (RSt w w6 v6 ((D ++ [⟨fn, fb, fs⟩]) ++ [⟨xn, xb, xs⟩]) (q2 + 1) ⟨fn, fb, fs⟩) := Lib.hid (HS5.out.app ⟨xn, xb, xs⟩ hown3 hgrow3)
                         obtain ⟨q3, Hq3⟩ : ∃ z, Hid (z = q2 + 1) := ⟨_, rfl⟩
                         obtain ⟨g', cp, he9⟩ := ownsRow_succ9 hown3
                         rw [← Hq3.out] at HS6 he9
                         subst he9
                         have c0 := (HS6.out.2.2.1.cell (p := ⟨g, 0, none⟩) hgl).trans HC.out
                         have c1 := (HS6.out.2.2.1.cell (p := ⟨b, k * 3, none⟩) hb).trans Hc1.out
                         have c2 := (HS6.out.2.2.1.cell (p := ⟨b, k * 3 + 1, none⟩) hb).trans Hc2.out
                         have c3 := (HS6.out.2.2.1.cell (p := ⟨b, k * 3 + 2, none⟩) hb).trans Hc3.out
                         have r0 := Row.cell HS6.out.2.2.2 0 (by simp)
                         have r1 := Row.cell HS6.out.2.2.2 1 (by simp)
                         have r2 := Row.cell HS6.out.2.2.2 2 (by simp)
                         simp only [List.getElem_cons_zero, List.getElem_cons_succ] at r0 r1 r2
                         clear hown3 hgrow3)
            exact ⟨⟨k + 1, q3, _, true, hkn, by go_num, rfl, by (try have e2 := Hq2.out); (try have e3 := Hq3.out); omega, by rw [Htk.out]; simp [Fl.step, Hle.out, Hne.out], HS6.out⟩, by simp [intOf]; omega⟩
      · by_cases he : xn = fn
        · subst he
          have hne : (xn != xn) = false := by simp
          go_wp2_with fail
          go_quiet (fail)
          go_wp2_with fail
          have HS3 : Hid (RSt w (wr.drewN nq) u4 D q ⟨xn, fb, fs⟩) := Lib.hid (HS.out.drewN nq)
          refine region_named 10 (by kernel_rfl) (by kernel_rfl) ?_
          intro w5 hw
          have HS5 : Hid (RSt w w5 u4 D q ⟨xn, fb, fs⟩) := Lib.hid (by rw [hw]; exact HS3.out.drew)
          have c0 := (HS5.out.2.2.1.cell (p := ⟨g, 0, none⟩) hgl).trans HC.out
          have c1 := (HS5.out.2.2.1.cell (p := ⟨b, k * 3, none⟩) hb).trans Hc1.out
          have c2 := (HS5.out.2.2.1.cell (p := ⟨b, k * 3 + 1, none⟩) hb).trans Hc2.out
          have c3 := (HS5.out.2.2.1.cell (p := ⟨b, k * 3 + 2, none⟩) hb).trans Hc3.out
          have r0 := Row.cell HS5.out.2.2.2 0 (by simp)
          have r1 := Row.cell HS5.out.2.2.2 1 (by simp)
          have r2 := Row.cell HS5.out.2.2.2 2 (by simp)
          simp only [List.getElem_cons_zero, List.getElem_cons_succ] at r0 r1 r2
          clear hw
          simp only [List.take_succ_cons, List.take_zero, List.drop_succ_cons, List.drop_zero]
          repeat still_step
          refine wpStill_nil ?_
          go_wp2_with fail
          exact ⟨⟨k + 1, q, _, true, hkn, by go_num, rfl, by (try have e2 := Hq2.out); (try have e3 := Hq3.out); omega, by rw [Htk.out]; simp [Fl.step], HS5.out⟩, by simp [intOf]; omega⟩
        · have hne : (xn != fn) = true := by simpa using he
          have heq : (xn == fn) = false := by simpa using he
          have Hne := Lib.hid he
          clear he
          go_wp2_with fail
          go_quiet (fail)
          go_wp2_with fail
          have HS3 : Hid (RSt w (wr.drewN nq) u4 D q ⟨fn, fb, fs⟩) := Lib.hid (HS.out.drewN nq)
          refine region_named 10 (by kernel_rfl) (by kernel_rfl) ?_
          intro w5 hw
          have HS5 : Hid (RSt w w5 u4 D q ⟨fn, fb, fs⟩) := Lib.hid (by rw [hw]; exact HS3.out.drew)
          have c0 := (HS5.out.2.2.1.cell (p := ⟨g, 0, none⟩) hgl).trans HC.out
          have c1 := (HS5.out.2.2.1.cell (p := ⟨b, k * 3, none⟩) hb).trans Hc1.out
          have c2 := (HS5.out.2.2.1.cell (p := ⟨b, k * 3 + 1, none⟩) hb).trans Hc2.out
          have c3 := (HS5.out.2.2.1.cell (p := ⟨b, k * 3 + 2, none⟩) hb).trans Hc3.out
          have r0 := Row.cell HS5.out.2.2.2 0 (by simp)
          have r1 := Row.cell HS5.out.2.2.2 1 (by simp)
          have r2 := Row.cell HS5.out.2.2.2 2 (by simp)
          simp only [List.getElem_cons_zero, List.getElem_cons_succ] at r0 r1 r2
          clear hw
          simp only [List.take_succ_cons, List.take_zero, List.drop_succ_cons, List.drop_zero]
          repeat still_step
          refine wpStill_nil ?_
          have hown2 := HS5.out.1.alloc (.cells #[Sb xn, Sb xb, .int .i64 xs] 60)
          have Hk63 : Hid (q + 1 ≤ maxLen) := Lib.hid (by unfold maxLen; omega)
          have Hk48 : Hid (((q + 1) + (q + 1) / 4 + 192) * 40 ≤ 281474976710656) := Lib.hid (by omega)
          have hsz2 : w.heap.size + 1 ≤ (w5.alloc (.cells #[Sb xn, Sb xb, .int .i64 xs] 60)).heap.size := by have := Row.lt HS5.out.2.2.2; simp; omega
          have Hnew := Lib.hid (row_news9 (Row.new w5 60 [Sb xn, Sb xb, .int .i64 xs]))
          have Hown2 := Lib.hid hown2
          have Hsz2 := Lib.hid hsz2
          clear hown2 hsz2
          go_wp2_with (at_builtin; refine wpList_append_own_wide _ rfl (.tmp 46) (.tmp 54) 54 rfl (w.heap.size + 1) 60 i0 (.agg #[.string ByteArray.empty, .string ByteArray.empty, .int .i64 0]) 3 40 Try.underlying54 Hi.out Hz.out Hs.out Hby.out rfl (by decide) _ _ _ rfl Hown2.out ⟨w5.heap.size, 0, none⟩ 1 1 [Sb xn, Sb xb, .int .i64 xs] rfl rfl Hnew.out (by intro u hu; simp at hu; rcases hu with rfl | rfl | rfl <;> rfl) Hk63.out Hk48.out Hsz2.out ?_
                       intro v6 w6 hown3 hgrow3 _
                       have HS6 : Hid (RSt w w6 v6 (D ++ [⟨xn, xb, xs⟩]) (q + 1) ⟨fn, fb, fs⟩) := Lib.hid (HS5.out.app ⟨xn, xb, xs⟩ hown3 hgrow3)
                       obtain ⟨q2, Hq2⟩ : ∃ z, Hid (z = q + 1) := ⟨_, rfl⟩
                       obtain ⟨g', cp, he9⟩ := ownsRow_succ9 hown3
                       rw [← Hq2.out] at HS6 he9
                       subst he9
                       have c0 := (HS6.out.2.2.1.cell (p := ⟨g, 0, none⟩) hgl).trans HC.out
                       have c1 := (HS6.out.2.2.1.cell (p := ⟨b, k * 3, none⟩) hb).trans Hc1.out
                       have c2 := (HS6.out.2.2.1.cell (p := ⟨b, k * 3 + 1, none⟩) hb).trans Hc2.out
                       have c3 := (HS6.out.2.2.1.cell (p := ⟨b, k * 3 + 2, none⟩) hb).trans Hc3.out
                       have r0 := Row.cell HS6.out.2.2.2 0 (by simp)
                       have r1 := Row.cell HS6.out.2.2.2 1 (by simp)
                       have r2 := Row.cell HS6.out.2.2.2 2 (by simp)
                       simp only [List.getElem_cons_zero, List.getElem_cons_succ] at r0 r1 r2
                       clear hown3 hgrow3)
          exact ⟨⟨k + 1, q2, _, true, hkn, by go_num, rfl, by (try have e2 := Hq2.out); (try have e3 := Hq3.out); omega, by rw [Htk.out]; simp [Fl.step, Hne.out], HS6.out⟩, by simp [intOf]; omega⟩
    · obtain rfl : k = n := by omega
      have hki : (k : Int) ≤ (k : Int) := by omega
      have htk : l.take k = l := List.take_of_length_le (by rw [← HN.out]; exact Nat.le_refl _)
      have hfold := Hfold.out
      rw [htk] at hfold
      have hput := Hput.out
      rw [hfold] at hput
      simp only [List.nil_append] at hput
      have Hput2 := Lib.hid hput
      have hq2 := Hq.out
      clear hfold hput htk hkn Hfold Hput
      cases dn
      · rw [if_neg (by simp)] at Hput2
        have hown2 := HS.out.1.alloc (.cells #[Sb fn, Sb fb, .int .i64 fs] 60)
        have Hk63 : Hid (q + 1 ≤ maxLen) := Lib.hid (by unfold maxLen; omega)
        have Hk48 : Hid (((q + 1) + (q + 1) / 4 + 192) * 40 ≤ 281474976710656) := Lib.hid (by omega)
        have hsz2 : w.heap.size + 1 ≤ (wr.alloc (.cells #[Sb fn, Sb fb, .int .i64 fs] 60)).heap.size := by have := Row.lt HS.out.2.2.2; simp; omega
        have Hnew := Lib.hid (row_news9 (Row.new wr 60 [Sb fn, Sb fb, .int .i64 fs]))
        have Hown2 := Lib.hid hown2
        have Hsz2 := Lib.hid hsz2
        clear hown2 hsz2
        go_wp2_with (at_builtin; refine wpList_append_own_wide _ rfl (.tmp 58) (.tmp 60) 54 rfl (w.heap.size + 1) 60 i0 (.agg #[.string ByteArray.empty, .string ByteArray.empty, .int .i64 0]) 3 40 Try.underlying54 Hi.out Hz.out Hs.out Hby.out rfl (by decide) _ _ _ rfl Hown2.out ⟨wr.heap.size, 0, none⟩ 1 1 [Sb fn, Sb fb, .int .i64 fs] rfl rfl Hnew.out (by intro u hu; simp at hu; rcases hu with rfl | rfl | rfl <;> rfl) Hk63.out Hk48.out Hsz2.out ?_
                     intro v6 w6 hown3 hgrow3 _
                     have HS6 : Hid (RSt w w6 v6 (D ++ [⟨fn, fb, fs⟩]) (q + 1) ⟨fn, fb, fs⟩) := Lib.hid (HS.out.app ⟨fn, fb, fs⟩ hown3 hgrow3)
                     obtain ⟨q2, Hq2⟩ : ∃ z, Hid (z = q + 1) := ⟨_, rfl⟩
                     obtain ⟨g', cp, he9⟩ := ownsRow_succ9 hown3
                     rw [← Hq2.out] at HS6 he9
                     subst he9
                     have hr := Row.below HK.out HS6.out.2.2.1
                     have f0 := Row.free hr 0
                     have c0 := (HS6.out.2.2.1.cell (p := ⟨g, 0, none⟩) hgl).trans HC.out
                     have hset := Row.set hr 0 (.slice (some ⟨g', 0, none⟩) q2 cp) (by simp)
                     have hgs := grownBy_set w6 g 0 (.slice (some ⟨g', 0, none⟩) q2 cp)
                     have HSt := Lib.hid hset
                     have HG := Lib.hid (World.grownBy.trans (grownBy_of_below HS6.out.2.2.1 (some g)) hgs)
                     have HO := Lib.hid (World.ownsRow.kept HS6.out.1 hgs (.inr (fun e => by have := (HS6.out.1.lt _ e).1; omega)))
                     clear hr hset hgs
                     clear hown3 hgrow3)
        (try simp only [Exit.inBlock, Exit.then])
        (first | refine bodyPost_end (results_none rfl _ _ _) rfl ?_ | go_ret)
        refine ⟨rfl, _, HSt.out, ?_, HG.out⟩
        have ho := HO.out
        unfold FlsAt
        rw [← Hput2.out]
        rw [HS6.out.2.1] at ho ⊢
        exact own_lo9 ho (by omega)
      · rw [if_pos rfl] at Hput2
        obtain ⟨A', c', hu⟩ : ∃ A' c', u4 = .slice A' q c' := by
          rcases HS.out.1.2 with ⟨e, h0⟩ | ⟨g2, cap, cur, e, _⟩
          · exact ⟨none, 0, by rw [e, h0]⟩
          · exact ⟨_, _, e⟩
        subst hu
        have hr := Row.below HK.out HS.out.2.2.1
        have f0 := Row.free hr 0
        have hset := Row.set hr 0 (.slice A' q c') (by simp)
        have hgs := grownBy_set wr g 0 (.slice A' q c')
        have HSt := Lib.hid hset
        have HG := Lib.hid (World.grownBy.trans (grownBy_of_below HS.out.2.2.1 (some g)) hgs)
        have HO := Lib.hid (World.ownsRow.kept HS.out.1 hgs (.inr (fun e => by have := (HS.out.1.lt _ e).1; omega)))
        clear hr hset hgs
        go_wp2_with fail
        (try simp only [Exit.inBlock, Exit.then])
        (first | refine bodyPost_end (results_none rfl _ _ _) rfl ?_ | go_ret)
        refine ⟨rfl, _, HSt.out, ?_, HG.out⟩
        have ho := HO.out
        unfold FlsAt
        rw [← Hput2.out]
        rw [HS.out.2.1] at ho ⊢
        exact own_lo9 ho (by omega)
end Go.Proofs.Ytfebknhggapljaa
