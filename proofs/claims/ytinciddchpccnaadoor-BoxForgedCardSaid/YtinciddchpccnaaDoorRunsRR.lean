/- What later texts need of the earlier layers. -/
/- What later texts need of the earlier layers. -/
import Derived.Test.YtinciddchpccnaaDoorOwnApp
import Derived.Test.YtinciddchpccnaaDoorRunsMath
import Derived.Test.YtinciddchpccnaaDoorRunsNum
import Derived.Test.YtinciddchpccnaaDoorRunsES
import Derived.Test.YtinciddchpccnaaDoorRunsPut
import Derived.Test.YtinciddchpccnaaDoorRunsPk
import Derived.Test.YtinciddchpccnaaDoorChecked
import Derived.IntWalk
set_option maxRecDepth 100000
/- ---- RunsR1 ---- -/
/- The reference of layer 6: three. -/
namespace Go.Proofs.YtinciddchpccnaaDoor.Rn
open Go.RowKit
set_option linter.unusedVariables false
set_option linter.unusedSimpArgs false

theorem isRun_short_at (l : List UInt8) (h : l.length < 3) : Runs.isRun l = false := by
  match l, h with
  | [], _ => rfl
  | [_], _ => rfl
  | [_, _], _ => rfl
theorem isRun_at (s : ByteArray) (k : Nat) (h : k + 2 < s.size) : Runs.isRun (s.data.toList.drop k) = (s[k] == s[k + 1] && s[k] == s[k + 2]) := by
  have hl : k + 2 < s.data.toList.length := h
  rw [List.drop_eq_getElem_cons (by omega : k < s.data.toList.length), List.drop_eq_getElem_cons (by omega : k + 1 < s.data.toList.length), List.drop_eq_getElem_cons hl]
  have e0 : s.data.toList[k] = s[k] := rfl
  have e1 : s.data.toList[k + 1] = s[k + 1] := rfl
  have e2 : s.data.toList[k + 2] = s[k + 2] := rfl
  rw [e0, e1, e2]
  simp only [Runs.isRun]
  generalize s[k] = a
  generalize s[k + 1] = b
  generalize s[k + 2] = c
  rw [Bool.eq_iff_iff]
  simp
  rintro rfl
  exact Iff.rfl
set_option maxHeartbeats 400000 in
theorem three_any (s : ByteArray) (k : Nat) (w : World) (hs : s.size ≤ 140737488351232) (hk : k ≤ s.size) :
    Calls Tryd.prog 77 #[.string s, .int .i64 (k : Int)] w fun e w' => e = .returned (.bool (Runs.isRun (s.data.toList.drop k))) ∧ ∃ n, w' = w.drewN n := by
  have w1 : IntKind.i64.wrap ((k : Int) + 1) = (k : Int) + 1 := IntWalk.i64_in _ (by omega)
  have w2 : IntKind.i64.wrap ((k : Int) + 2) = (k : Int) + 2 := IntWalk.i64_in _ (by omega)
  have p1 : 0 ≤ (k : Int) + 1 := by omega
  have p2 : 0 ≤ (k : Int) + 2 := by omega
  have t1 : ((k : Int) + 1).toNat = k + 1 := by omega
  have t2 : ((k : Int) + 2).toNat = k + 2 := by omega
  have W1 := Lib.hid w1
  have W2 := Lib.hid w2
  have T1 := Lib.hid t1
  have T2 := Lib.hid t2
  clear w1 w2 t1 t2
  by_cases h : k + 2 < s.size
  · have h0 : k < s.size := by omega
    have h1 : k + 1 < s.size := by omega
    have h0' : (k : Int) < s.size := by omega
    have h1' : (k : Int) + 1 < s.size := by omega
    have h2' : (k : Int) + 2 < s.size := by omega
    rw [isRun_at s k h]
    by_cases he : s[k] == s[k + 1]
    · have he1 := u8_beq s[k] s[k + 1]
      rw [he] at he1
      by_cases hf : s[k] == s[k + 2]
      · have he2 := u8_beq s[k] s[k + 2]
        rw [hf] at he2
        rw [he, hf]
        clear he hf
        go_enter Tryd.func77, Tryd.ntmps77
        go_wp2
        have w1 := W1.out; have w2 := W2.out; have t1 := T1.out; have t2 := T2.out
        go_quiet (fail)
        go_wp2
        go_ret
        exact ⟨rfl, _, rfl⟩
      · have he2 := u8_beq s[k] s[k + 2]
        rw [Bool.not_eq_true] at hf
        rw [hf] at he2
        rw [he, hf]
        clear he hf
        go_enter Tryd.func77, Tryd.ntmps77
        go_wp2
        have w1 := W1.out; have w2 := W2.out; have t1 := T1.out; have t2 := T2.out
        go_quiet (fail)
        go_wp2
        go_ret
        exact ⟨rfl, _, rfl⟩
    · have he1 := u8_beq s[k] s[k + 1]
      rw [Bool.not_eq_true] at he
      rw [he] at he1
      rw [he]
      clear he
      go_enter Tryd.func77, Tryd.ntmps77
      go_wp2
      have w1 := W1.out; have w2 := W2.out; have t1 := T1.out; have t2 := T2.out
      go_quiet (fail)
      go_wp2
      go_ret
      exact ⟨rfl, _, rfl⟩
  · rw [isRun_short_at _ (by rw [List.length_drop]; show s.size - k < 3; omega)]
    have hd : decide ((k : Int) + 2 < s.size) = false := by simp only [decide_eq_false_iff_not]; omega
    have hd' : decide (k + 2 < s.size) = false := by simp only [decide_eq_false_iff_not]; omega
    go_enter Tryd.func77, Tryd.ntmps77
    go_wp2
    have w1 := W1.out; have w2 := W2.out; have t1 := T1.out; have t2 := T2.out
    go_quiet (fail)
    go_wp2
    go_ret
    exact ⟨rfl, _, rfl⟩
end Go.Proofs.YtinciddchpccnaaDoor.Rn
set_option maxRecDepth 100000
/- ---- RunsR2 ---- -/
/- The reference of layer 6: Pack. -/
namespace Go.Proofs.YtinciddchpccnaaDoor.Rn
open Go.RowKit
set_option linter.unusedVariables false
set_option linter.unusedSimpArgs false

theorem cells_two (w : World) (x y : Value) (e : TypeId) : ∀ (j : Nat) (u : Value), [x, y][j]? = some u → (w.alloc (.cells #[x, y] e)).cell? ((⟨w.heap.size, 0, none⟩ : Addr).add j) = some u := by
  intro j u hj
  match j, hj with
  | 0, hj => simp at hj; subst hj; simp [Addr.add]
  | 1, hj => simp at hj; subst hj; simp [Addr.add]
theorem cells_one (w : World) (x : Value) (e : TypeId) : ∀ (j : Nat) (u : Value), [x][j]? = some u → (w.alloc (.cells #[x] e)).cell? ((⟨w.heap.size, 0, none⟩ : Addr).add j) = some u := by
  intro j u hj
  match j, hj with
  | 0, hj => simp at hj; subst hj; simp [Addr.add]
theorem own_drewN {w : World} {base n : Nat} {e : TypeId} {v : Value} {xs : List Value} (h : w.ownsRow base e 1 v n xs) (m : Nat) : (w.drewN m).ownsRow base e 1 v n xs := by
  have e : (w.drewN m).heap = w.heap := rfl
  unfold World.ownsRow at h ⊢; rw [e]; exact h
theorem own_empty (w : World) (e : TypeId) : (w.alloc (.cells #[] e)).ownsRow w.heap.size e 1 (.slice (some ⟨w.heap.size, 0, none⟩) 0 0) 0 [] :=
  ⟨rfl, .inr ⟨w.heap.size, 0, #[], rfl, Nat.le_refl _, heap_alloc_new _ _, Nat.le_refl _, by unfold maxLen; omega, rfl, rfl⟩⟩
set_option maxRecDepth 20000 in
set_option maxHeartbeats 1600000 in
theorem refPack_any (s : ByteArray) (w : World) (hs : s.size ≤ 140737488351232) :
    Calls Tryd.prog 49 #[.string s] w fun e w' => e = .returned (.string ⟨(Runs.pack s.data.toList).toArray⟩) ∧ Below w.heap.size w w' := by
  obtain ⟨i0, hi, hz0, hz1, hz2⟩ := info_parts r8_info
  have Hi := Lib.hid hi; clear hi
  have Hz0 := Lib.hid hz0; clear hz0
  have Hz1 := Lib.hid hz1; clear hz1
  have Hz2 := Lib.hid hz2; clear hz2
  have hlen : s.data.toList.length = s.size := rfl
  go_enter Tryd.func49, Tryd.ntmps49
  go_wp2_with fail
  go_loopw [3, 4] (fun v i wr => ∃ (k : Nat) (done : List UInt8), i = .int .i64 k ∧ Upto s.data.toList k done ∧ wr.ownsRow w.heap.size 5 1 v done.length (bytesV done) ∧ Below w.heap.size w wr) (fun _ i _ => s.size - (intOf i).toNat)
  case atStart => exact ⟨0, [], rfl, Upto.start _, own_empty _ _, (Below.refl _ _).alloc (Nat.le_refl _) _⟩
  case round =>
    obtain ⟨k, done, rfl, hup, hown, hbel⟩ := hrel
    have hk := hup.1
    rw [hlen] at hk
    have hul0 := hup.len
    rw [hlen] at hul0
    have hwb := hbel.size
    have Hown := Lib.hid hown
    have Hbel := Lib.hid hbel
    clear hown hbel
    by_cases hlt : k < s.size
    · obtain ⟨x, r, hx⟩ : ∃ x r, s.data.toList.drop k = x :: r := ⟨_, _, List.drop_eq_getElem_cons (by rw [hlen]; exact hlt)⟩
      have hx0 : s[k] = x := by
        have h1 := List.drop_eq_getElem_cons (l := s.data.toList) (i := k) (by rw [hlen]; exact hlt)
        rw [hx] at h1
        exact (List.cons.inj h1).1.symm
      have hxl : (x :: r).length = s.size - k := by rw [← hx, List.length_drop, hlen]
      have hgx : ∀ (j : Nat) (h : j < (x :: r).length) (h' : k + j < s.size), (x :: r)[j] = s[k + j] := by
        intro j h h'
        have : (s.data.toList.drop k)[j]'(by rw [hx]; exact h) = s.data.toList[k + j]'h' := List.getElem_drop ..
        simp only [hx] at this
        exact this
      have Hxl := Lib.hid hxl
      have Hx := Lib.hid hx
      have Hx0 := Lib.hid hx0
      have Hgx := Lib.hid hgx
      have Hup := Lib.hid hup
      clear hx hx0 hup hgx hxl
      go_wp2_with fail
      refine (three_any s k _ hs hk).mono ?_
      rintro e w2 ⟨rfl, n2, rfl⟩
      rw [Hx.out]
      by_cases hr : Runs.isRun (x :: r) = true
      · rw [hr]
        obtain ⟨N, hN⟩ : ∃ N, N = Runs.lead x (x :: r) 130 := ⟨_, rfl⟩
        have h3 : 3 ≤ N := by rw [hN]; exact Runs.lead_run hr
        obtain ⟨hup2, hm2, hk2⟩ := Hup.out.run Hx.out hN h3
        have hul := hup2.len
        rw [hlen] at hk2 hul
        rw [List.length_append] at hul
        simp only [List.length_cons, List.length_nil] at hul
        have hnext := fun j => lead_next x (x :: r) 130 j
        rw [← hN] at hnext
        have Hnext := Lib.hid hnext
        have Hup2 := Lib.hid hup2
        have Hr := Lib.hid hr
        have HN := Lib.hid hN
        clear hnext hup2 hr hN
        go_wp2_with fail
        generalize wr = wo at *
        go_loopw [5] (fun j wr => ∃ (q n : Nat), q ≤ N ∧ j = .int .i64 q ∧ wr = wo.drewN n) (fun j _ => N - (intOf j).toNat)
        case atStart => exact ⟨0, n2, Nat.zero_le _, rfl, rfl⟩
        case round =>
          obtain ⟨q, n, hq, rfl, rfl⟩ := hrel
          have w1 : IntKind.i64.wrap ((k : Int) + (q : Int)) = (k : Int) + (q : Int) := IntWalk.i64_in _ (by omega)
          have p1 : 0 ≤ (k : Int) + (q : Int) := by omega
          have t1 : ((k : Int) + (q : Int)).toNat = k + q := by omega
          have W1 := Lib.hid w1
          have T1 := Lib.hid t1
          clear w1 t1
          by_cases hqs : k + q < s.size ∧ q < 130
          · obtain ⟨h1, h2⟩ := hqs
            have h1' : (k : Int) + (q : Int) < s.size := by omega
            have h2' : (q : Int) < 130 := by omega
            have hd1 : decide ((k : Int) + (q : Int) < s.size) = true := by simp only [decide_eq_true_eq]; omega
            have hd1' : decide (k + q < s.size) = true := by simp only [decide_eq_true_eq]; omega
            have hd2 : decide ((q : Int) < 130) = true := by simp only [decide_eq_true_eq]; omega
            have hd2' : decide (q < 130) = true := by simp only [decide_eq_true_eq]; omega
            have hlq : q < (x :: r).length := by rw [Hxl.out]; omega
            have hg := Hgx.out q hlq h1
            have hb := u8_beq s[k + q] s[k]
            by_cases he : s[k + q] = x
            · have hn := (Hnext.out q hq hlq h2).1 (by rw [hg]; exact he)
              rw [he, Hx0.out, show (x == x) = true by simp] at hb
              rw [← he] at hb
              have hb2 : ((s[k + q].toNat : Int) == (s[k].toNat : Int)) = true := by rw [he, Hx0.out]; simp
              clear hg hb he
              go_wp2_with fail
              have w1 := W1.out; have t1 := T1.out
              go_quiet (fail)
              clear w1
              go_wp2_with fail
              exact ⟨⟨q + 1, _, hn, by go_num, rfl⟩, by simp [intOf]; omega⟩
            · have hn := (Hnext.out q hq hlq h2).2 (by rw [hg]; exact he)
              have hb2 : ((s[k + q].toNat : Int) == (s[k].toNat : Int)) = false := by rw [hb, Hx0.out]; simpa using he
              clear hg hb he
              obtain rfl : N = q := hn
              have Hb2 := hb2
              go_wp2_with fail
              have w1 := W1.out; have t1 := T1.out
              go_quiet (fail)
              clear w1
              obtain ⟨wq, hwq⟩ : ∃ wq, wq = (wo.drewN n).drewN nq := ⟨_, rfl⟩
              rw [← hwq]
              have hownq := own_drewN (own_drewN Hown.out n) nq
              have hbelq := bel_drewN (bel_drewN Hbel.out n) nq
              rw [← hwq] at hownq hbelq
              have hwbq := hbelq.size
              clear hwq
              have h8 : (125 + (N : Int)) % 256 = 125 + (N : Int) := by omega
              go_wp2_with (at_builtin; refine wpList_append_own_wide _ rfl (.tmp 37) (.tmp 44) 48 rfl w.heap.size 5 i0 (.int .u8 0) 1 1 Tryd.underlying48 Hi.out Hz0.out Hz1.out Hz2.out rfl (by decide) _ _ _ rfl (hownq.alloc _) ⟨wq.heap.size, 0, none⟩ 2 2 [.int .u8 (125 + (N : Int)), .int .u8 (s[k].toNat : Int)] rfl rfl ?c1 ?c2 ?c3 ?c4 ?c5 ?_)
              case c1 => exact cells_two wq _ _ _
              case c2 => intro u hu; simp at hu; rcases hu with rfl | rfl <;> rfl
              case c3 => unfold maxLen; omega
              case c4 => omega
              case c5 => simp; omega
              intro v1 w1 hown1 hgrow1 _
              have hbel1 := (hbelq.alloc hwbq (.cells #[.int .u8 (125 + (N : Int)), .int .u8 (s[k].toNat : Int)] 5)).grown hgrow1 (by simp; omega) (fun j hj => (hownq.lt j hj).1)
              have eb : bytesV done ++ [Value.int .u8 (125 + (N : Int)), Value.int .u8 (s[k].toNat : Int)] = bytesV (done ++ [UInt8.ofNat (125 + N), x]) := by
                rw [bytesV_app, Hx0.out]
                simp [bytesV]; omega
              have hown1 : w1.ownsRow w.heap.size 5 1 v1 (done.length + 2) (bytesV (done ++ [UInt8.ofNat (125 + N), x])) := by rw [← eb]; exact hown1
              have Hown1 := Lib.hid hown1
              have Hbel1 := Lib.hid hbel1
              clear hown1 hgrow1 hownq hbelq eb hbel1 h8
              go_wp2_with fail
              have el : (done ++ [UInt8.ofNat (125 + N), x]).length = done.length + 2 := by rw [List.length_append]; rfl
              refine ⟨⟨k + N, _, by go_num, Hup2.out, ?_, Hbel1.out⟩, by simp [intOf]; omega⟩
              rw [el]; exact Hown1.out
          · have hqN : q = N := by
              have hle := Runs.lead_le x (x :: r) 130
              have := Hnext.out q hq
              have hl2 := Hxl.out
              by_cases h1 : k + q < s.size
              · omega
              · omega
            subst hqN
            by_cases h1 : k + q < s.size
            · have h1' : (k : Int) + (q : Int) < s.size := by omega
              have hd1 : decide ((k : Int) + (q : Int) < s.size) = true := by simp only [decide_eq_true_eq]; omega
              have hd1' : decide (k + q < s.size) = true := by simp only [decide_eq_true_eq]; omega
              have hd2 : decide ((q : Int) < 130) = false := by simp only [decide_eq_false_iff_not]; omega
              have hd2' : decide (q < 130) = false := by simp only [decide_eq_false_iff_not]; omega
              go_wp2_with fail
              have w1 := W1.out; have t1 := T1.out
              go_quiet (fail)
              clear w1
              obtain ⟨wq, hwq⟩ : ∃ wq, wq = (wo.drewN n).drewN nq := ⟨_, rfl⟩
              rw [← hwq]
              have hownq := own_drewN (own_drewN Hown.out n) nq
              have hbelq := bel_drewN (bel_drewN Hbel.out n) nq
              rw [← hwq] at hownq hbelq
              have hwbq := hbelq.size
              clear hwq
              have h8 : (125 + (q : Int)) % 256 = 125 + (q : Int) := by omega
              go_wp2_with (at_builtin; refine wpList_append_own_wide _ rfl (.tmp 37) (.tmp 44) 48 rfl w.heap.size 5 i0 (.int .u8 0) 1 1 Tryd.underlying48 Hi.out Hz0.out Hz1.out Hz2.out rfl (by decide) _ _ _ rfl (hownq.alloc _) ⟨wq.heap.size, 0, none⟩ 2 2 [.int .u8 (125 + (q : Int)), .int .u8 (s[k].toNat : Int)] rfl rfl ?c1 ?c2 ?c3 ?c4 ?c5 ?_)
              case c1 => exact cells_two wq _ _ _
              case c2 => intro u hu; simp at hu; rcases hu with rfl | rfl <;> rfl
              case c3 => unfold maxLen; omega
              case c4 => omega
              case c5 => simp; omega
              intro v1 w1 hown1 hgrow1 _
              have hbel1 := (hbelq.alloc hwbq (.cells #[.int .u8 (125 + (q : Int)), .int .u8 (s[k].toNat : Int)] 5)).grown hgrow1 (by simp; omega) (fun j hj => (hownq.lt j hj).1)
              have eb : bytesV done ++ [Value.int .u8 (125 + (q : Int)), Value.int .u8 (s[k].toNat : Int)] = bytesV (done ++ [UInt8.ofNat (125 + q), x]) := by
                rw [bytesV_app, Hx0.out]
                simp [bytesV]; omega
              have hown1 : w1.ownsRow w.heap.size 5 1 v1 (done.length + 2) (bytesV (done ++ [UInt8.ofNat (125 + q), x])) := by rw [← eb]; exact hown1
              have Hown1 := Lib.hid hown1
              have Hbel1 := Lib.hid hbel1
              clear hown1 hgrow1 hownq hbelq eb hbel1 h8
              go_wp2_with fail
              have el : (done ++ [UInt8.ofNat (125 + q), x]).length = done.length + 2 := by rw [List.length_append]; rfl
              refine ⟨⟨k + q, _, by go_num, Hup2.out, ?_, Hbel1.out⟩, by simp [intOf]; omega⟩
              rw [el]; exact Hown1.out
            · have hd1 : decide ((k : Int) + (q : Int) < s.size) = false := by simp only [decide_eq_false_iff_not]; omega
              have hd1' : decide (k + q < s.size) = false := by simp only [decide_eq_false_iff_not]; omega
              go_wp2_with fail
              have w1 := W1.out; have t1 := T1.out
              go_quiet (fail)
              clear w1
              obtain ⟨wq, hwq⟩ : ∃ wq, wq = (wo.drewN n).drewN nq := ⟨_, rfl⟩
              rw [← hwq]
              have hownq := own_drewN (own_drewN Hown.out n) nq
              have hbelq := bel_drewN (bel_drewN Hbel.out n) nq
              rw [← hwq] at hownq hbelq
              have hwbq := hbelq.size
              clear hwq
              have h8 : (125 + (q : Int)) % 256 = 125 + (q : Int) := by omega
              go_wp2_with (at_builtin; refine wpList_append_own_wide _ rfl (.tmp 37) (.tmp 44) 48 rfl w.heap.size 5 i0 (.int .u8 0) 1 1 Tryd.underlying48 Hi.out Hz0.out Hz1.out Hz2.out rfl (by decide) _ _ _ rfl (hownq.alloc _) ⟨wq.heap.size, 0, none⟩ 2 2 [.int .u8 (125 + (q : Int)), .int .u8 (s[k].toNat : Int)] rfl rfl ?c1 ?c2 ?c3 ?c4 ?c5 ?_)
              case c1 => exact cells_two wq _ _ _
              case c2 => intro u hu; simp at hu; rcases hu with rfl | rfl <;> rfl
              case c3 => unfold maxLen; omega
              case c4 => omega
              case c5 => simp; omega
              intro v1 w1 hown1 hgrow1 _
              have hbel1 := (hbelq.alloc hwbq (.cells #[.int .u8 (125 + (q : Int)), .int .u8 (s[k].toNat : Int)] 5)).grown hgrow1 (by simp; omega) (fun j hj => (hownq.lt j hj).1)
              have eb : bytesV done ++ [Value.int .u8 (125 + (q : Int)), Value.int .u8 (s[k].toNat : Int)] = bytesV (done ++ [UInt8.ofNat (125 + q), x]) := by
                rw [bytesV_app, Hx0.out]
                simp [bytesV]; omega
              have hown1 : w1.ownsRow w.heap.size 5 1 v1 (done.length + 2) (bytesV (done ++ [UInt8.ofNat (125 + q), x])) := by rw [← eb]; exact hown1
              have Hown1 := Lib.hid hown1
              have Hbel1 := Lib.hid hbel1
              clear hown1 hgrow1 hownq hbelq eb hbel1 h8
              go_wp2_with fail
              have el : (done ++ [UInt8.ofNat (125 + q), x]).length = done.length + 2 := by rw [List.length_append]; rfl
              refine ⟨⟨k + q, _, by go_num, Hup2.out, ?_, Hbel1.out⟩, by simp [intOf]; omega⟩
              rw [el]; exact Hown1.out
      · rw [Bool.not_eq_true] at hr
        rw [hr]
        obtain ⟨m, hm⟩ : ∃ m, m = Runs.lead x (x :: r) 130 := ⟨_, rfl⟩
        have hm3 : m < 3 := by
          by_cases h : 3 ≤ m
          · have := lead_isRun (hm ▸ h); rw [hr] at this; cases this
          · omega
        obtain ⟨N, hN⟩ : ∃ N, N = Runs.still (x :: r) 128 := ⟨_, rfl⟩
        obtain ⟨hup2, hn1, hn2, hk2, hir⟩ := Hup.out.lit Hx.out hm hm3 hN
        have hul := hup2.len
        rw [hlen] at hk2 hul
        have htk : ((s.data.toList.drop k).take N).length = N := by rw [List.length_take, List.length_drop, hlen]; omega
        rw [List.length_append, List.length_cons, htk] at hul
        have hnext := fun j => still_next (x :: r) 128 j
        rw [← hN] at hnext
        have hdd : ∀ j, (x :: r).drop j = s.data.toList.drop (k + j) := fun j => by rw [← Hx.out, List.drop_drop]
        have Hdd := Lib.hid hdd
        have Hnext := Lib.hid hnext
        have Hup2 := Lib.hid hup2
        have Htk := Lib.hid htk
        clear hnext hup2 hr hN hir hm hm3 htk hdd
        go_wp2_with fail
        generalize wr = wo at *
        go_loopw [5] (fun j wr => ∃ (q n : Nat), q ≤ N ∧ j = .int .i64 q ∧ wr = wo.drewN n) (fun j _ => N - (intOf j).toNat)
        case atStart => exact ⟨0, n2, Nat.zero_le _, rfl, rfl⟩
        case round =>
          obtain ⟨q, n, hq, rfl, rfl⟩ := hrel
          have hqk : k + q ≤ s.size := by omega
          by_cases hqs : k + q < s.size ∧ q < 128
          · obtain ⟨h1, h2⟩ := hqs
            have hd1 : decide ((k : Int) + (q : Int) < s.size) = true := by simp only [decide_eq_true_eq]; omega
            have hd1' : decide (k + q < s.size) = true := by simp only [decide_eq_true_eq]; omega
            have hd2 : decide ((q : Int) < 128) = true := by simp only [decide_eq_true_eq]; omega
            have hd2' : decide (q < 128) = true := by simp only [decide_eq_true_eq]; omega
            have hlq : q < (x :: r).length := by rw [Hxl.out]; omega
            have ekq : (k : Int) + (q : Int) = ((k + q : Nat) : Int) := by omega
            have Hekq := Lib.hid ekq
            clear ekq
            by_cases he : Runs.isRun ((x :: r).drop q) = true
            · have hn := (Hnext.out q hq hlq h2).2 he
              rw [Hdd.out] at he
              have He := Lib.hid he
              clear he
              obtain rfl : N = q := hn
              go_wp2_with fail
              rw [Hekq.out]
              refine (three_any s (k + N) _ hs hqk).mono ?_
              rintro e w3 ⟨rfl, n3, rfl⟩
              rw [He.out]
              first | rw [World.drewN_drewN] | skip
              have hownq := own_drewN Hown.out (n + n3)
              have hbelq := bel_drewN Hbel.out (n + n3)
              obtain ⟨wq, hwq⟩ : ∃ wq, wq = wo.drewN (n + n3) := ⟨_, rfl⟩
              first | rw [← hwq] | skip
              rw [← hwq] at hownq hbelq
              have hwbq := hbelq.size
              clear hwq
              have h8 : ((N : Int) - 1) % 256 = (N : Int) - 1 := by omega
              have hcut := cut_run (P := Tryd.prog) 9 (by kernel_rfl) s k N hk2
              have hup3 := Hup2.out
              have htk := Htk.out
              generalize (s.data.toList.drop k).take N = tk at *
              have Hup3 := Lib.hid hup3
              have Htk := Lib.hid htk
              clear hup3 htk Hup2
              have hS : ∀ W : World, Src Tryd.prog 1 9 (S tk) tk.length (bytesV tk) W := fun W => Src.ofString W (by kernel_rfl) ⟨tk.toArray⟩
              go_wp2_with (at_builtin; refine wpList_append_own_wide _ rfl (.tmp 66) (.tmp 70) 48 rfl w.heap.size 5 i0 (.int .u8 0) 1 1 Tryd.underlying48 Hi.out Hz0.out Hz1.out Hz2.out rfl (by decide) _ _ _ rfl (hownq.alloc _) ⟨wq.heap.size, 0, none⟩ 1 1 [.int .u8 ((N : Int) - 1)] rfl rfl ?c1 ?c2 ?c3 ?c4 ?c5 ?_)
              case c1 => exact cells_one wq _ _
              case c2 => intro u hu; simp at hu; subst hu; rfl
              case c3 => unfold maxLen; omega
              case c4 => omega
              case c5 => simp; omega
              intro v1 w1 hown1 hgrow1 _
              have hbel1 := (hbelq.alloc hwbq (.cells #[.int .u8 ((N : Int) - 1)] 5)).grown hgrow1 (by simp; omega) (fun j hj => (hownq.lt j hj).1)
              have hwb1 := hbel1.size
              have Hbel1 := Lib.hid hbel1
              clear hgrow1 hownq hbelq hbel1
              go_wp2_with (at_builtin; refine wpList_own_src _ rfl (.tmp 72) (.tmp 78) 48 9 rfl w.heap.size 5 i0 Tryd.underlying48 Hi.out Hz0.out Hz1.out Hz2.out _ _ _ rfl hown1 (S tk) tk.length (bytesV tk) rfl (hS _) ?l1 ?l2 ?_)
              case l1 => rw [Htk.out]; omega
              case l2 => exact hwb1
              intro v3 w3 hown3 hgrow3
              have hbel3 := Hbel1.out.grown hgrow3 hwb1 (fun j hj => (hown1.lt j hj).1)
              have eb : bytesV done ++ Value.int .u8 ((N : Int) - 1) :: bytesV tk = bytesV (done ++ UInt8.ofNat (N - 1) :: tk) := by
                rw [bytesV_app]
                simp [bytesV]; omega
              rw [eb] at hown3
              have Hown3 := Lib.hid hown3
              have Hbel3 := Lib.hid hbel3
              clear hown3 hgrow3 hown1 eb hbel3 h8 hcut hS
              go_wp2_with fail
              have el : (done ++ UInt8.ofNat (N - 1) :: tk).length = done.length + 1 + tk.length := by rw [List.length_append, List.length_cons]; omega
              refine ⟨⟨k + N, _, by go_num, Hup3.out, ?_, Hbel3.out⟩, by simp [intOf]; omega⟩
              rw [el]; exact Hown3.out
            · rw [Bool.not_eq_true] at he
              have hn := (Hnext.out q hq hlq h2).1 he
              rw [Hdd.out] at he
              have He := Lib.hid he
              clear he
              go_wp2_with fail
              rw [Hekq.out]
              refine (three_any s (k + q) _ hs hqk).mono ?_
              rintro e w3 ⟨rfl, n3, rfl⟩
              rw [He.out]
              go_wp2_with fail
              exact ⟨⟨q + 1, _, hn, by go_num, rfl⟩, by simp [intOf]; omega⟩
          · have hqN : q = N := by
              have := Hnext.out q hq
              have hl2 := Hxl.out
              omega
            subst hqN
            by_cases h1 : k + q < s.size
            · have hd1 : decide ((k : Int) + (q : Int) < s.size) = true := by simp only [decide_eq_true_eq]; omega
              have hd1' : decide (k + q < s.size) = true := by simp only [decide_eq_true_eq]; omega
              have hd2 : decide ((q : Int) < 128) = false := by simp only [decide_eq_false_iff_not]; omega
              have hd2' : decide (q < 128) = false := by simp only [decide_eq_false_iff_not]; omega
              have hownq := own_drewN Hown.out n
              have hbelq := bel_drewN Hbel.out n
              obtain ⟨wq, hwq⟩ : ∃ wq, wq = wo.drewN n := ⟨_, rfl⟩
              rw [← hwq]
              rw [← hwq] at hownq hbelq
              have hwbq := hbelq.size
              clear hwq
              have h8 : ((q : Int) - 1) % 256 = (q : Int) - 1 := by omega
              have hcut := cut_run (P := Tryd.prog) 9 (by kernel_rfl) s k q hk2
              have hup3 := Hup2.out
              have htk := Htk.out
              generalize (s.data.toList.drop k).take q = tk at *
              have Hup3 := Lib.hid hup3
              have Htk := Lib.hid htk
              clear hup3 htk Hup2
              have hS : ∀ W : World, Src Tryd.prog 1 9 (S tk) tk.length (bytesV tk) W := fun W => Src.ofString W (by kernel_rfl) ⟨tk.toArray⟩
              go_wp2_with (at_builtin; refine wpList_append_own_wide _ rfl (.tmp 66) (.tmp 70) 48 rfl w.heap.size 5 i0 (.int .u8 0) 1 1 Tryd.underlying48 Hi.out Hz0.out Hz1.out Hz2.out rfl (by decide) _ _ _ rfl (hownq.alloc _) ⟨wq.heap.size, 0, none⟩ 1 1 [.int .u8 ((q : Int) - 1)] rfl rfl ?c1 ?c2 ?c3 ?c4 ?c5 ?_)
              case c1 => exact cells_one wq _ _
              case c2 => intro u hu; simp at hu; subst hu; rfl
              case c3 => unfold maxLen; omega
              case c4 => omega
              case c5 => simp; omega
              intro v1 w1 hown1 hgrow1 _
              have hbel1 := (hbelq.alloc hwbq (.cells #[.int .u8 ((q : Int) - 1)] 5)).grown hgrow1 (by simp; omega) (fun j hj => (hownq.lt j hj).1)
              have hwb1 := hbel1.size
              have Hbel1 := Lib.hid hbel1
              clear hgrow1 hownq hbelq hbel1
              go_wp2_with (at_builtin; refine wpList_own_src _ rfl (.tmp 72) (.tmp 78) 48 9 rfl w.heap.size 5 i0 Tryd.underlying48 Hi.out Hz0.out Hz1.out Hz2.out _ _ _ rfl hown1 (S tk) tk.length (bytesV tk) rfl (hS _) ?l1 ?l2 ?_)
              case l1 => rw [Htk.out]; omega
              case l2 => exact hwb1
              intro v3 w3 hown3 hgrow3
              have hbel3 := Hbel1.out.grown hgrow3 hwb1 (fun j hj => (hown1.lt j hj).1)
              have eb : bytesV done ++ Value.int .u8 ((q : Int) - 1) :: bytesV tk = bytesV (done ++ UInt8.ofNat (q - 1) :: tk) := by
                rw [bytesV_app]
                simp [bytesV]; omega
              rw [eb] at hown3
              have Hown3 := Lib.hid hown3
              have Hbel3 := Lib.hid hbel3
              clear hown3 hgrow3 hown1 eb hbel3 h8 hcut hS
              go_wp2_with fail
              have el : (done ++ UInt8.ofNat (q - 1) :: tk).length = done.length + 1 + tk.length := by rw [List.length_append, List.length_cons]; omega
              refine ⟨⟨k + q, _, by go_num, Hup3.out, ?_, Hbel3.out⟩, by simp [intOf]; omega⟩
              rw [el]; exact Hown3.out
            · have hd1 : decide ((k : Int) + (q : Int) < s.size) = false := by simp only [decide_eq_false_iff_not]; omega
              have hd1' : decide (k + q < s.size) = false := by simp only [decide_eq_false_iff_not]; omega
              have hownq := own_drewN Hown.out n
              have hbelq := bel_drewN Hbel.out n
              obtain ⟨wq, hwq⟩ : ∃ wq, wq = wo.drewN n := ⟨_, rfl⟩
              rw [← hwq]
              rw [← hwq] at hownq hbelq
              have hwbq := hbelq.size
              clear hwq
              have h8 : ((q : Int) - 1) % 256 = (q : Int) - 1 := by omega
              have hcut := cut_run (P := Tryd.prog) 9 (by kernel_rfl) s k q hk2
              have hup3 := Hup2.out
              have htk := Htk.out
              generalize (s.data.toList.drop k).take q = tk at *
              have Hup3 := Lib.hid hup3
              have Htk := Lib.hid htk
              clear hup3 htk Hup2
              have hS : ∀ W : World, Src Tryd.prog 1 9 (S tk) tk.length (bytesV tk) W := fun W => Src.ofString W (by kernel_rfl) ⟨tk.toArray⟩
              go_wp2_with (at_builtin; refine wpList_append_own_wide _ rfl (.tmp 66) (.tmp 70) 48 rfl w.heap.size 5 i0 (.int .u8 0) 1 1 Tryd.underlying48 Hi.out Hz0.out Hz1.out Hz2.out rfl (by decide) _ _ _ rfl (hownq.alloc _) ⟨wq.heap.size, 0, none⟩ 1 1 [.int .u8 ((q : Int) - 1)] rfl rfl ?c1 ?c2 ?c3 ?c4 ?c5 ?_)
              case c1 => exact cells_one wq _ _
              case c2 => intro u hu; simp at hu; subst hu; rfl
              case c3 => unfold maxLen; omega
              case c4 => omega
              case c5 => simp; omega
              intro v1 w1 hown1 hgrow1 _
              have hbel1 := (hbelq.alloc hwbq (.cells #[.int .u8 ((q : Int) - 1)] 5)).grown hgrow1 (by simp; omega) (fun j hj => (hownq.lt j hj).1)
              have hwb1 := hbel1.size
              have Hbel1 := Lib.hid hbel1
              clear hgrow1 hownq hbelq hbel1
              go_wp2_with (at_builtin; refine wpList_own_src _ rfl (.tmp 72) (.tmp 78) 48 9 rfl w.heap.size 5 i0 Tryd.underlying48 Hi.out Hz0.out Hz1.out Hz2.out _ _ _ rfl hown1 (S tk) tk.length (bytesV tk) rfl (hS _) ?l1 ?l2 ?_)
              case l1 => rw [Htk.out]; omega
              case l2 => exact hwb1
              intro v3 w3 hown3 hgrow3
              have hbel3 := Hbel1.out.grown hgrow3 hwb1 (fun j hj => (hown1.lt j hj).1)
              have eb : bytesV done ++ Value.int .u8 ((q : Int) - 1) :: bytesV tk = bytesV (done ++ UInt8.ofNat (q - 1) :: tk) := by
                rw [bytesV_app]
                simp [bytesV]; omega
              rw [eb] at hown3
              have Hown3 := Lib.hid hown3
              have Hbel3 := Lib.hid hbel3
              clear hown3 hgrow3 hown1 eb hbel3 h8 hcut hS
              go_wp2_with fail
              have el : (done ++ UInt8.ofNat (q - 1) :: tk).length = done.length + 1 + tk.length := by rw [List.length_append, List.length_cons]; omega
              refine ⟨⟨k + q, _, by go_num, Hup3.out, ?_, Hbel3.out⟩, by simp [intOf]; omega⟩
              rw [el]; exact Hown3.out
    · have hfin := hup.stop (by rw [hlen]; omega)
      have hcv := own_text (P := Tryd.prog) Hown.out rfl 48 Tryd.underlying48 (by kernel_rfl) 9 (by kernel_rfl)
      have Hfin := Lib.hid hfin
      clear hfin hup
      go_wp2_with fail
      go_ret
      rw [Hfin.out]
      exact ⟨rfl, Hbel.out⟩
end Go.Proofs.YtinciddchpccnaaDoor.Rn
