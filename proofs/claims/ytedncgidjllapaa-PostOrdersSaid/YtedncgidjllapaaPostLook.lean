/- post: Look. -/
import Derived.Test.YtedncgidjllapaaPostOps
import Derived.OpenShut
import Derived.Deep.DeepAppendWide
namespace Go.Proofs.Ytedncgidjllapaa
open Go.RowKit Go.Maps
set_option linter.unusedVariables false
set_option linter.unusedSimpArgs false

theorem i64_info : (Try.prog.info? 3).map (fun i => (i.zero, i.size, i.bytes)) = some (some (.int .i64 0), 1, 8) := by kernel_rfl
theorem cells_one (w : World) (x : Value) (e : TypeId) : ∀ (j : Nat) (u : Value), [x][j]? = some u → (w.alloc (.cells #[x] e)).cell? ((⟨w.heap.size, 0, none⟩ : Addr).add j) = some u := by
  intro j u hj
  match j, hj with
  | 0, hj => simp at hj; subst hj; simp [Addr.add]
theorem one_int (x : Int) : ∀ u, u ∈ [Value.int .i64 x] → u.oneCell' = true := by
  intro u hu; simp at hu; subst hu; rfl
theorem sameKey_K {x y : Int} (h : y ≠ x) : (K y).sameKey (K x) = false := sameKey_ne (K_ne h)

/-- what has been swept so far -/
def Swept (f g : Post.Out) (landed : Int) (left : Lit → Bool) : Prop :=
  (∀ x, g x = f x ∨ (g x = none ∧ x < landed)) ∧ (∀ x, x < landed → left (K x) = false → g x = none)
theorem Swept.done {f g : Post.Out} {landed : Int} {left : Lit → Bool} (h : Swept f g landed left) (hl : ∀ kl, left kl = false) : ∀ x, g x = Post.trim f landed x := by
  intro x
  unfold Post.trim
  by_cases hx : x < landed
  · rw [if_pos hx]; exact h.2 x hx (hl _)
  · rw [if_neg hx]
    rcases h.1 x with e | ⟨_, e⟩
    · exact e
    · omega
theorem Swept.stays {f g : Post.Out} {landed x : Int} {left : Lit → Bool} (h : Swept f g landed left) (hx : ¬ x < landed) : Swept f g landed (fun z => left z && !z.sameKey (K x)) := by
  refine ⟨h.1, fun y hy hl => h.2 y hy ?_⟩
  have hne : y ≠ x := by omega
  simpa [sameKey_K hne] using hl
theorem Swept.struck {f g : Post.Out} {landed x : Int} {left : Lit → Bool} (h : Swept f g landed left) (hx : x < landed) : Swept f (fun y => if y = x then none else g y) landed (fun z => left z && !z.sameKey (K x)) := by
  refine ⟨fun y => ?_, fun y hy hl => ?_⟩
  · by_cases e : y = x
    · subst e; exact .inr ⟨if_pos rfl, hx⟩
    · simp only [if_neg e]; exact h.1 y
  · by_cases e : y = x
    · subst e; exact if_pos rfl
    · simp only [if_neg e]
      refine h.2 y hy ?_
      simpa [sameKey_K e] using hl
theorem own_kept' {w w' : World} {base n : Nat} {e : TypeId} {v : Value} {xs : List Value} {M : Nat} (h : w.ownsRow base e 1 v n xs) (hg : w.grownBy w' (some M)) (hM : M < base) : w'.ownsRow base e 1 v n xs := by
  obtain ⟨h1, h2⟩ := h
  refine ⟨h1, ?_⟩
  rcases h2 with h2 | ⟨g, cap, cur, hv, hb, hh, r⟩
  · exact .inl h2
  · exact .inr ⟨g, cap, cur, hv, hb, (hg.block g (lt_of_block hh) (by simp; omega)).trans hh, r⟩

theorem postLook_nil (h landed cuts : Int) (w : World) : Calls Try.prog 9 #[.pointer none, .int .i64 h, .int .i64 landed, .int .i64 cuts] w fun e w' => e = .returned (.slice none 0 0) ∧ w = w' := by
  go_enter Try.func9, Try.ntmps9
  go_wp2_with fail
  go_ret
  exact ⟨rfl, rfl⟩
theorem postOut_nil (w : World) : Calls Try.prog 10 #[.pointer none] w fun e w' => e = .returned (.slice none 0 0) ∧ w = w' := by
  go_enter Try.func10, Try.ntmps10
  go_wp2_with fail
  go_ret
  exact ⟨rfl, rfl⟩

theorem postLook_bad (h landed cuts : Int) (w : World) (B : Nat) (hb : Post.bad h landed cuts = true) :
    Calls Try.prog 9 #[.pointer (some ⟨B, 0, none⟩), .int .i64 h, .int .i64 landed, .int .i64 cuts] w fun e w' => e = .returned (.slice none 0 0) ∧ w = w' := by
  unfold Post.bad at hb
  by_cases h1 : h < 0
  · have d1 : decide (h < 0) = true := by simpa using h1
    clear hb
    go_enter Try.func9, Try.ntmps9
    go_wp2_with fail
    go_ret
    exact ⟨rfl, rfl⟩
  · have d1 : decide (h < 0) = false := by simpa using h1
    by_cases h2 : landed < 0
    · have d2 : decide (landed < 0) = true := by simpa using h2
      clear hb
      go_enter Try.func9, Try.ntmps9
      go_wp2_with fail
      go_ret
      exact ⟨rfl, rfl⟩
    · have d2 : decide (landed < 0) = false := by simpa using h2
      have d3 : decide (cuts < 0) = true := by rw [d1, d2] at hb; simpa using hb
      clear hb
      go_enter Try.func9, Try.ntmps9
      go_wp2_with fail
      go_ret
      exact ⟨rfl, rfl⟩

set_option maxRecDepth 20000 in
set_option maxHeartbeats 1600000 in
theorem postLook_good (ht landed cuts : Int) (w : World) (B M N : Nat) (p win : Int) (f : Post.Out) (hP : PosterAt w B M p win f N) (hN : N ≤ 1000000) (hw0 : 1 ≤ win) (hw1 : win ≤ 64)
    (hh0 : 0 ≤ ht) (hh1 : ht ≤ 9223372036854775807) (hl0 : 0 ≤ landed) (hl1 : landed ≤ 9223372036854775807) (hc0 : 0 ≤ cuts) (hc1 : cuts ≤ 9223372036854775807) :
    Calls Try.prog 9 #[.pointer (some ⟨B, 0, none⟩), .int .i64 ht, .int .i64 landed, .int .i64 cuts] w fun e w' =>
      ∃ v, e = .returned v ∧ w'.ownsRow w.heap.size 3 1 v (Post.list (Post.trim f landed) p ht landed (Post.many win landed cuts)).length (Is (Post.list (Post.trim f landed) p ht landed (Post.many win landed cuts))) ∧
        PosterAt w' B M p win (Post.after (Post.trim f landed) p ht landed (Post.many win landed cuts)) (N + 64) ∧ w.grownBy w' (some M) := by
  obtain ⟨i0, hi, hz0, hz1, hz2⟩ := info_parts i64_info
  have Hi := Lib.hid hi; clear hi
  have Hz0 := Lib.hid hz0; clear hz0
  have Hz1 := Lib.hid hz1; clear hz1
  have Hz2 := Lib.hid hz2; clear hz2
  have d1 : decide (ht < 0) = false := by simp only [decide_eq_false_iff_not]; omega
  have d2 : decide (landed < 0) = false := by simp only [decide_eq_false_iff_not]; omega
  have d3 : decide (cuts < 0) = false := by simp only [decide_eq_false_iff_not]; omega
  have hBM := hP.apart
  have hBlt := hP.1.lt
  have hMlt := hP.ltM
  have c2 := hP.c2
  have hrow := hP.1
  obtain ⟨D, hown, hR⟩ := hP.2.1
  have hok := Post.trim_ok hP.2.2 landed
  obtain ⟨m, hm⟩ : ∃ m, m = Post.many win landed cuts := ⟨_, rfl⟩
  rw [← hm]
  have hm64 : m ≤ 64 := by rw [hm]; unfold Post.many; omega
  have hmc : (m : Int) ≤ max (cuts - landed) 0 := by rw [hm]; unfold Post.many; omega
  have Hm := Lib.hid hm
  have Hok := Lib.hid hok
  have HR := Lib.hid hR
  have Hown := Lib.hid hown
  have Hrow := Lib.hid hrow
  clear hP hm hok hR hown hrow
  go_enter Try.func9, Try.ntmps9
  go_wp2_with (first
    | (at_range; refine wpList_range_own _ rfl _ 38 rfl 3 3 lawI Try.underlying38 _ M N _ rfl Hown.out ?_; intro w0 hrg0 hg0 hs0)
    | fail)
  have hst : Swept f f landed (has D) := by
    refine ⟨fun x => .inl rfl, fun x _ hx => ?_⟩
    have := (HR.out.2 x).1
    rw [hx] at this
    rcases hfx : f x with _ | c
    · rfl
    · rw [hfx] at this; simp at this
  have Hst := Lib.hid hst
  have Hrg0 := Lib.hid hrg0
  have Hg0 := Lib.hid hg0
  clear hst hrg0 hg0 hs0
  try go_frame
  go_loopw [9] (fun _ wr => ∃ (left : Lit → Bool) (cnt : Nat) (D' : DataW Unit) (g : Post.Out), wr.ranges Try.prog 3 (plainElem Try.prog 3) M w.heap.size N D' left cnt ∧ Reads D' g ∧ Swept f g landed left ∧ w.grownBy wr (some M))
    (fun _ wr => wr.rangeLeft M w.heap.size)
  case atStart => exact ⟨_, _, D, f, Hrg0.out, HR.out, Hst.out, Hg0.out.but _⟩
  case round =>
    obtain ⟨left, cnt, D', g, hrg, hR', hsw, hgw⟩ := hrel
    have hrowr := Hrow.out.kept hgw (by simpa using hBM)
    have c2 : wr.cell? ⟨B, 2, none⟩ = some (.map (some M)) := hrowr.cell 2 (by simp)
    have HR' := Lib.hid hR'
    have Hsw := Lib.hid hsw
    have Hgw := Lib.hid hgw
    have Hrg := Lib.hid hrg
    clear hR' hsw hgw hrg hrowr
    go_wp2_with (first
      | (at_next; refine wpList_next_ranges_ii _ rfl _ rfl 3 3 .i64 .i64 lawI Try.underlying3 Try.underlying3 M w.heap.size N _ _ _ rfl Hrg.out ?_ ?_)
      | fail)
    · intro hc0 hl0
      have hR2 := HR'.out.congr (Hsw.out.done hl0)
      have hownr := Hrg.out.owns
      have HR2 := Lib.hid hR2
      have Hownr := Lib.hid hownr
      have hXm : (m : Int) = min win (max (cuts - landed) 0) := by rw [Hm.out]; unfold Post.many; omega
      have c1 : wr.cell? ⟨B, 1, none⟩ = some (.int .i64 win) := (Hrow.out.kept Hgw.out (by simpa using hBM)).cell 1 (by simp)
      have hpa : PosterAt wr B M p win (Post.after (Post.trim f landed) p ht landed 0) (N + 0) := by
        rw [Post.after_zero]
        exact ⟨Hrow.out.kept Hgw.out (by simpa using hBM), ⟨_, Hownr.out, HR2.out⟩, Hok.out⟩
      have Hpa := Lib.hid hpa
      have HXm := Lib.hid hXm
      generalize hg0 : Post.trim f landed = g0 at *
      have HG0 := Lib.hid hg0
      clear hR2 hownr hl0 hc0 hpa hXm hg0
      go_wp2_with fail
      all_goals
        generalize wr = wo at *
        go_loopw [10, 53] (fun v i wr => ∃ k : Nat, k ≤ m ∧ i = .int .i64 k ∧ wr.ownsRow w.heap.size 3 1 v (Post.list g0 p ht landed k).length (Is (Post.list g0 p ht landed k)) ∧ PosterAt wr B M p win (Post.after g0 p ht landed k) (N + k) ∧ w.grownBy wr (some M)) (fun _ i _ => m - (intOf i).toNat)
        case atStart => exact ⟨0, Nat.zero_le _, rfl, World.ownsRow_nil _ _ _ _, Hpa.out, Hgw.out⟩
        case round =>
          obtain ⟨k, hk, rfl, hl, hpk, hgk⟩ := hrel
          have hXm := HXm.out
          have hll := Post.list_len g0 p ht landed k
          have Hl := Lib.hid hl
          have Hpk := Lib.hid hpk
          have Hgk := Lib.hid hgk
          clear hl hpk hgk
          by_cases hlt : k < m
          · have hk1 : (k : Int) < win := by omega
            have hk2 : (k : Int) < cuts - landed := by omega
            have hsum : landed + (k : Int) ≤ 9223372036854775807 := by omega
            have hsum0 : 0 ≤ landed + (k : Int) := by omega
            clear hXm
            try (exfalso; omega)
            all_goals
              go_wp2_with fail
              refine (due_any (landed + (k : Int)) ht _ B M _ p win _ Hpk.out (by omega) hsum hh0 hh1).mono ?_
              rintro _ w3 ⟨rfl, rfl⟩
              rw [Post.due_after]
              by_cases hd : Post.dueB g0 p (landed + (k : Int)) ht = true
              · rw [hd]
                have hlist : Post.list g0 p ht landed (k + 1) = Post.list g0 p ht landed k ++ [landed + (k : Int)] := by
                  show (if _ then _ else _) = _
                  rw [if_pos hd]
                have hafter := Post.after_succ_due g0 p ht landed k hd
                obtain ⟨D2, hown2, hR3⟩ := Hpk.out.2.1
                have hput := hR3.put (landed + (k : Int)) ht
                rw [← hafter] at hput
                have c2k := Hpk.out.c2
                have hBs : B < wr.heap.size := Hpk.out.1.lt
                have hkey := keyOf_int_mk (P := Try.prog) Try.underlying3 (wf_i64 (x := landed + (k : Int)) (by omega) hsum)
                have hval := plainElem_int (H := Unit) (P := Try.prog) Try.underlying3 (wf_i64 (x := ht) (by omega) hh1)
                have Hlist := Lib.hid hlist
                have Hown2 := Lib.hid hown2
                have Hput := Lib.hid hput
                have Hkey := Lib.hid hkey
                have Hval := Lib.hid hval
                clear hlist hafter hown2 hR3 hput hkey hval hd
                go_wp2_with (first
                  | (at_mapUpdate; refine wpList_mapUpdate_own _ rfl _ _ _ 38 rfl 3 3 lawI Try.underlying38 _ M (N + k) _ rfl Hown2.out (by unfold maxLen; omega) _ _ _ rfl rfl Hkey.out _ [] Hval.out ?_; intro w4 hown4 hgrow4; have hl4 := own_kept' Hl.out hgrow4 hMlt; have hrow4 := Hpk.out.1.kept hgrow4 (by simpa using hBM); have hg4 := Hgk.out.trans hgrow4; have hsz4 : w.heap.size ≤ w4.heap.size := hg4.size; have Hown4 := Lib.hid hown4; have Hl4 := Lib.hid hl4; have Hrow4 := Lib.hid hrow4; have Hg4 := Lib.hid hg4; clear hown4 hgrow4 hl4 hrow4 hg4 c2k)
                  | (at_builtin; refine wpList_append_own_wide _ rfl (.tmp 69) (.tmp 71) 28 rfl w.heap.size 3 i0 (.int .i64 0) 1 8 Try.underlying28 Hi.out Hz0.out Hz1.out Hz2.out rfl (by decide) _ _ _ rfl (Hl4.out.alloc _) ⟨w4.heap.size, 0, none⟩ 1 1 [.int .i64 (landed + (k : Int))] rfl rfl (cells_one _ _ _) (one_int _) (by unfold maxLen; omega) (by omega) (by simp; omega) ?_; intro v5 w5 hown5 hgrow5 _; go_frame))
                have hg5 : w.grownBy w5 (some M) := by
                  refine (Hg4.out.trans (grownBy_alloc w4 (.cells #[.int .i64 (landed + (k : Int))] 3) (some M))).andThen hgrow5 (fun j hj => ?_)
                  exact .inl ((Hl4.out.lt j hj).1)
                have hneB : some B ≠ u10.ownBlock := fun e => by have := (Hl4.out.lt B e.symm).1; omega
                have hneM : some M ≠ u10.ownBlock := fun e => by have := (Hl4.out.lt M e.symm).1; omega
                have hrow5 : Row w5 B 40 [.int .i64 p, .int .i64 win, .map (some M)] := (Hrow4.out.kept (grownBy_alloc w4 _ none) (by simp)).kept hgrow5 hneB
                have hmap5 := (Hown4.out.kept (grownBy_alloc w4 (.cells #[.int .i64 (landed + (k : Int))] 3) none) (by simp)).kept hgrow5 hneM
                have hpost5 : PosterAt w5 B M p win (Post.after g0 p ht landed (k + 1)) (N + (k + 1)) := ⟨hrow5, ⟨_, hmap5, Hput.out⟩, Post.after_ok Hok.out p ht landed (k + 1) hh0 hh1⟩
                have hl5 : w5.ownsRow w.heap.size 3 1 v5 (Post.list g0 p ht landed (k + 1)).length (Is (Post.list g0 p ht landed (k + 1))) := by
                  rw [Hlist.out, List.length_append, List.length_singleton]
                  have e1 : Is (Post.list g0 p ht landed k ++ [landed + (k : Int)]) = Is (Post.list g0 p ht landed k) ++ [.int .i64 (landed + (k : Int))] := by simp [Is]
                  rw [e1]; exact hown5
                have Hpost5 := Lib.hid hpost5
                have Hl5 := Lib.hid hl5
                have Hg5 := Lib.hid hg5
                clear hown5 hgrow5 hg5 hneB hneM hrow5 hmap5 hpost5 hl5
                go_wp2_with fail
                refine ⟨⟨k + 1, hlt, by go_num, Hl5.out, Hpost5.out, Hg5.out⟩, by simp [intOf]; omega⟩
              · rw [Bool.not_eq_true] at hd
                rw [hd]
                have hlist : Post.list g0 p ht landed (k + 1) = Post.list g0 p ht landed k := by
                  show (if _ then _ else _) = _
                  rw [if_neg (by rw [hd]; simp)]
                have hafter := Post.after_succ_not g0 p ht landed k hd
                have Hlist := Lib.hid hlist
                have Hafter := Lib.hid hafter
                clear hlist hafter hd
                go_wp2_with fail
                refine ⟨⟨k + 1, hlt, by go_num, by rw [Hlist.out]; exact Hl.out, by rw [Hafter.out]; exact ⟨Hpk.out.1, (by obtain ⟨D2, h1, h2⟩ := Hpk.out.2.1; exact ⟨D2, h1.mono (by omega), h2⟩), Hpk.out.2.2⟩, Hgk.out⟩, by simp [intOf]; omega⟩
          · obtain rfl : k = m := by omega
            first
              | have hk3 : win ≤ (k : Int) := by omega
              | have hk3 : cuts - landed ≤ (k : Int) ∧ 0 ≤ cuts - landed := by omega
              | (have hk3 : k = 0 := by omega
                 subst hk3)
            clear hXm hlt
            go_wp2_with fail
            go_ret
            rw [HG0.out]
            refine ⟨_, rfl, Hl.out, ?_, Hgk.out⟩
            exact ⟨Hpk.out.1, (by obtain ⟨D2, h1, h2⟩ := Hpk.out.2.1; exact ⟨D2, h1.mono (by omega), h2⟩), Hpk.out.2.2⟩
    · intro x c w1 cnt1 hwx hwc hlx hat hrg1 hlt hg1 hs1 hen
      have hgw1 := Hgw.out.andThen hg1 (fun j hj => by cases hj; exact Or.inl (Nat.le_refl _))
      have c2' : w1.cell? ⟨B, 2, none⟩ = some (.map (some M)) := (Hrow.out.kept hgw1 (by simpa using hBM)).cell 2 (by simp)
      have Hgw1 := Lib.hid hgw1
      have Hrg1 := Lib.hid hrg1
      have hkx := keyOf_int_mk (P := Try.prog) Try.underlying3 hwx
      have Hkx := Lib.hid hkx
      have Hlt := Lib.hid hlt
      have hbx := bounds_i64 hwx
      clear hat hgw1 hrg1 hlt hg1 hs1 hlx hkx hwx hwc
      by_cases hxl : x < landed
      · have dx : decide (x < landed) = true := by simpa using hxl
        go_wp2_with (first
          | (at_delete; refine wpList_delete_ranges _ rfl _ _ 38 3 rfl 3 lawI Try.underlying38 _ M w.heap.size N _ _ _ rfl Hrg1.out _ _ rfl Hkx.out ?_; intro w2 cnt2 hrg2 hle hturn; go_frame)
          | fail)
        rw [strike_twice] at hrg2
        have hgw2 := Hgw1.out.andThen hturn.grown (fun j hj => by cases hj; exact Or.inr rfl)
        have hms : w2.rangeLeft M w.heap.size < wr.rangeLeft M w.heap.size := by rw [hrg2.left_eq, Hrg.out.left_eq]; have := Hlt.out; omega
        have Hrg2 := Lib.hid hrg2
        have Hgw2 := Lib.hid hgw2
        have Hms := Lib.hid hms
        clear hrg2 hle hturn hgw2 hms
        first
          | exact ⟨⟨_, cnt2, _, _, Hrg2.out, HR'.out.del x, Hsw.out.struck hxl, Hgw2.out⟩, Hms.out⟩
          | (go_wp2_with fail; exact ⟨⟨_, cnt2, _, _, Hrg2.out, HR'.out.del x, Hsw.out.struck hxl, Hgw2.out⟩, Hms.out⟩)
          | (go_roundw
             case rel => exact ⟨_, cnt2, _, _, Hrg2.out, HR'.out.del x, Hsw.out.struck hxl, Hgw2.out⟩
             case measure => exact Hms.out)
      · have dx : decide (x < landed) = false := by simpa using hxl
        have hms : w1.rangeLeft M w.heap.size < wr.rangeLeft M w.heap.size := by rw [Hrg1.out.left_eq, Hrg.out.left_eq]; exact Hlt.out
        have Hms := Lib.hid hms
        clear hms
        go_wp2_with fail
        first
          | exact ⟨⟨_, cnt1, _, _, Hrg1.out, HR'.out, Hsw.out.stays hxl, Hgw1.out⟩, Hms.out⟩
          | (go_roundw
             case rel => exact ⟨_, cnt1, _, _, Hrg1.out, HR'.out, Hsw.out.stays hxl, Hgw1.out⟩
             case measure => exact Hms.out)
end Go.Proofs.Ytedncgidjllapaa
