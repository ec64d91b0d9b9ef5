/- What later texts need of the earlier layers. -/
import Derived.Test.YtinciddchpccnaaDoorBxO
import Derived.Test.YtinciddchpccnaaDoorWinMath
import Derived.Test.YtinciddchpccnaaDoorWinNum
import Derived.Test.YtinciddchpccnaaDoorOwnApp
import Derived.Test.YtinciddchpccnaaDoorWinOwn
import Derived.Test.YtinciddchpccnaaDoorWinOwn8
import Derived.Test.YtinciddchpccnaaDoorWinPack
import Derived.Test.YtinciddchpccnaaDoorWinUn
set_option maxRecDepth 100000
/- ---- WinAgain ---- -/
/- window.again: what it returns. -/
namespace Go.Proofs.YtinciddchpccnaaDoor
open Go.RowKit
set_option linter.unusedVariables false
set_option linter.unusedSimpArgs false

theorem take_one {l : List UInt8} {q : Nat} (h : q < l.length) : (l.drop q).take 1 = [l[q]] := by
  have e := List.drop_eq_getElem_cons h
  rw [e]; rfl
theorem src_one {P : Program} (W : World) (tx e' : TypeId) (hk : P.underlying tx = some (.slice e')) (e : TypeId) (x : UInt8) : Src P 1 tx (.slice (some ⟨W.heap.size, 0, none⟩) 1 1) 1 (bytesV [x]) (W.alloc (.cells #[.int .u8 (x.toNat : Int)] e)) :=
  Src.ofSlice _ hk _ _ _ _ rfl (cells_one W _ e) (by intro u hu; simp [bytesV] at hu; subst hu; rfl)
theorem Own8.alloc {w : World} {base : Nat} {v : Value} {bs : List UInt8} (h : Own8 w base v bs) (o : Obj) : Own8 (w.alloc o) base v bs := h.below ((Below.refl _ _).alloc (Nat.le_refl _) o)
set_option maxHeartbeats 800000 in
theorem again_any (K : List UInt8) (d N : Nat) (w : World) (base : Nat) (v : Value) (hown : Own8 w base v K) (hd1 : 1 ≤ d) (hd2 : d ≤ K.length) (hroom : K.length + N ≤ 225179981368371) (hb : base ≤ w.heap.size) :
    Calls Tryd.prog 109 #[v, .int .i64 (d : Int), .int .i64 (N : Int)] w fun e w' => ∃ v', e = .returned v' ∧ Own8 w' base v' (Win.again K d N) ∧ Below base w w' := by
  obtain ⟨i0, hi, hz0, hz1, hz2⟩ := info_parts r8_info
  have Hi := Lib.hid hi; clear hi
  have Hz0 := Lib.hid hz0; clear hz0
  have Hz1 := Lib.hid hz1; clear hz1
  have Hz2 := Lib.hid hz2; clear hz2
  have Hown := Lib.hid hown
  clear hown
  go_enter Tryd.func109, Tryd.ntmps109
  go_wp2_with fail
  go_loopw [0, 8] (fun v j wr => ∃ q : Nat, q ≤ N ∧ j = .int .i64 q ∧ Own8 wr base v (Win.again K d q) ∧ Below base w wr) (fun _ j _ => N - (intOf j).toNat)
  case atStart => exact ⟨0, Nat.zero_le _, rfl, Hown.out, Below.refl _ _⟩
  case round =>
    obtain ⟨q, hq, rfl, hown2, hbel2⟩ := hrel
    have hal := Win.again_len hd1 hd2 q
    have has := Win.again_succ K d q
    have hwb2 : base ≤ wr.heap.size := Nat.le_trans hb hbel2.size
    by_cases hqN : q < N
    · have hqi : (q : Int) < N := by omega
      obtain ⟨g, cp, hv, hcp1, hcp2⟩ := hown2.form
      subst hv
      generalize Win.again K d q = L at *
      obtain ⟨p, hp⟩ : ∃ p, p = L.length - d := ⟨_, rfl⟩
      have ep : (L.length : Int) - (d : Int) = (p : Int) := by omega
      have hpl : p < L.length := by omega
      have hpi : (p : Int) < L.length := by omega
      have hc := hown2.at_ p hpl
      rw [← hp, take_one hpl] at has
      have hbound : L.length + 1 ≤ 225179981368371 := by omega
      have hL31 : (L.length : Int) ≤ 225179981368371 := by omega
      obtain ⟨x, hx⟩ : ∃ x, L[p] = x := ⟨_, rfl⟩
      rw [hx] at has hc
      have hx8 := x.toNat_lt
      have Hbel2 := Lib.hid hbel2
      have Has := Lib.hid has
      have Hal := Lib.hid hal
      have Hp := Lib.hid hp
      have Hown2 := Lib.hid hown2
      clear hbel2 has hal hp hx hown2
      go_wp2_with (at_builtin; refine wpList_app8 _ rfl (.tmp 10) (.tmp 18) 48 48 rfl base 5 i0 Tryd.underlying48 Hi.out Hz0.out Hz1.out Hz2.out _ _ rfl (Hown2.out.alloc _) _ 1 [x] rfl rfl (src_one wr 48 5 Tryd.underlying48 5 x) ?c3 ?c4 ?_)
      case c3 => exact hbound
      case c4 => simp; omega
      intro v1 w1 hown1 hbel1
      have hbel3 := (Hbel2.out.alloc hwb2 (.cells #[.int .u8 (x.toNat : Int)] 5)).trans hbel1
      have Hown1 := Lib.hid hown1
      have Hbel3 := Lib.hid hbel3
      clear hown1 hbel1 hbel3 hc
      go_wp2_with fail
      refine ⟨⟨q + 1, by omega, by go_num, ?_, Hbel3.out⟩, by simp [intOf]; omega⟩
      rw [Has.out]; exact Hown1.out
    · obtain rfl : q = N := by omega
      have Hown2 := Lib.hid hown2
      have Hbel2 := Lib.hid hbel2
      clear hown2 hbel2 has hal
      go_wp2_with fail
      go_ret
      exact ⟨_, rfl, Hown2.out, Hbel2.out⟩
end Go.Proofs.YtinciddchpccnaaDoor
