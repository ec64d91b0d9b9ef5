/- What later texts need of the earlier layers. -/
import Derived.Test.YtinciddchpccnaaDoorBxO
import Derived.Test.YtinciddchpccnaaDoorBxS
import Derived.Test.YtinciddchpccnaaDoorBxT
import Derived.Test.YtinciddchpccnaaDoorBxC
import Derived.Test.YtinciddchpccnaaDoorBxA
import Derived.Test.YtinciddchpccnaaDoorWinMath
import Derived.Test.YtinciddchpccnaaDoorWinNum
import Derived.Test.YtinciddchpccnaaDoorWinSame
import Derived.Test.YtinciddchpccnaaDoorOwnApp
import Derived.Test.YtinciddchpccnaaDoorWinOwn
import Derived.Test.YtinciddchpccnaaDoorWinOwn8
import Derived.Test.YtinciddchpccnaaDoorWinKey
import Derived.Test.YtinciddchpccnaaDoorWinPack
import Derived.Test.YtinciddchpccnaaDoorWinUn
import Derived.Test.YtinciddchpccnaaDoorWinAgain
import Derived.Test.YtinciddchpccnaaDoorWinUp
import Derived.Test.YtinciddchpccnaaDoorWinFour
import Derived.Test.YtinciddchpccnaaDoorWinML
import Derived.Test.YtinciddchpccnaaDoorWinKnown
import Derived.Test.YtinciddchpccnaaDoorWinCP
import Derived.Test.YtinciddchpccnaaDoorWinFar
import Derived.Test.YtinciddchpccnaaDoorWinLong
import Derived.Test.YtinciddchpccnaaDoorWinRup
import Derived.Test.YtinciddchpccnaaDoorWinNew
import Derived.Test.YtinciddchpccnaaDoorWinStr
import Derived.Test.YtinciddchpccnaaDoorWinST
import Derived.Test.YtinciddchpccnaaDoorWinBest
import Derived.Test.YtinciddchpccnaaDoorWinRpk
set_option maxRecDepth 100000
/- ---- WinPk ---- -/
/- window.Pack: what it returns. -/
namespace Go.Proofs.YtinciddchpccnaaDoor
open Go.RowKit Go.Maps
set_option linter.unusedVariables false
set_option linter.unusedSimpArgs false

theorem VarB.chg {w w' : World} {base B : Nat} {bs : List UInt8} {S : Nat → Prop} (h : VarB w base B bs) (hc : Chg S w w') (hS : ∀ k, S k → k < base) (hB : base ≤ B) : VarB w' base B bs := by
  obtain ⟨v, hv, ho⟩ := h
  refine ⟨v, (hc.block B (lt_of_block hv) (fun hs => by have := hS B hs; omega)).trans hv, hc.ownsRow ho (fun k hk hs => ?_)⟩
  have := hS k hs
  have h2 := (ho.lt k hk).1
  omega
theorem KAt.underBase {w w' : World} {B M G : Nat} {s : ByteArray} {n base : Nat} (h : KAt w B M G s n) (hb : Below base w w') (hB : B < base) (hM : M < base) (hG : G < base) : KAt w' B M G s n :=
  h.kept (S := fun k => base ≤ k) ⟨hb.os, hb.tape, hb.output, hb.size, fun k hk hn => hb.block k (by omega)⟩ (by omega) (by omega) (by omega)
theorem rest_more {K : List UInt8} {q p : Nat} (h1 : q ≤ p) (h2 : p < K.length) : (K.drop q).take (p - q) ++ (K.drop p).take 1 = (K.drop q).take (p + 1 - q) := by
  have e : p + 1 - q = (p - q) + 1 := by omega
  rw [e, List.take_add_one (l := K.drop q) (i := p - q), List.getElem?_drop, show q + (p - q) = p by omega, List.drop_eq_getElem_cons h2, List.take_succ_cons, List.take_zero, List.getElem?_eq_getElem h2]
  rfl
/-- Pack under way: known with p places put, the variables from and b -/
structure PkAt (kn : ByteArray) (B M G Kb Bb F base : Nat) (w wr : World) (p q : Nat) (done : List UInt8) : Prop where
  known : KAt wr B M G kn p
  from_ : Row wr F 3 [.int .i64 (q : Int)]
  out : VarB wr base Bb done
  k : Row wr Kb 125 [.pointer (some ⟨B, 0, none⟩)]
  below : Below w.heap.size w wr
structure PkLie (B M G Kb Bb F base sz : Nat) : Prop where
  b : B < Kb
  m : M < Kb
  g : G < Kb
  kb : Kb + 1 = base
  bb : base ≤ Bb
  f : base ≤ F
  sm : sz ≤ M
  sg : sz ≤ G
section
variable {kn : ByteArray} {B M G Kb Bb F base : Nat} {w wr w' : World} {p q : Nat} {done : List UInt8}
theorem PkAt.size (h : PkAt kn B M G Kb Bb F base w wr p q done) (l : PkLie B M G Kb Bb F base w.heap.size) : base ≤ wr.heap.size := by
  have h1 := h.k.lt
  have h2 := l.kb
  omega
theorem PkAt.fresh (h : PkAt kn B M G Kb Bb F base w wr p q done) (hb : Below wr.heap.size wr w') : PkAt kn B M G Kb Bb F base w w' p q done := by
  refine ⟨h.known.below hb, h.from_.below hb, ?_, h.k.below hb, h.below.trans (hb.mono h.below.size)⟩
  obtain ⟨v, hv, ho⟩ := h.out
  exact ⟨v, (hb.block Bb (lt_of_block hv)).trans hv, ho.kept (grownBy_of_below hb none) (by cases hx : v.ownBlock <;> simp)⟩
theorem PkAt.put {p' : Nat} (h : PkAt kn B M G Kb Bb F base w wr p q done) (l : PkLie B M G Kb Bb F base w.heap.size) (hk : KAt w' B M G kn p') (hc : Chg (fun k => k = M ∨ k = G) wr w') : PkAt kn B M G Kb Bb F base w w' p' q done := by
  obtain ⟨l1, l2, l3, l4, l5, l6, l7, l8⟩ := l
  refine ⟨hk, hc.row h.from_ (by omega), h.out.chg hc (fun k hk => by rcases hk with rfl | rfl <;> omega) l5, hc.row h.k (by omega), h.below.trans (hc.below h.below.size (fun k hk => by rcases hk with rfl | rfl <;> omega))⟩
theorem PkAt.stretch {q' : Nat} {done' : List UInt8} (h : PkAt kn B M G Kb Bb F base w wr p q done) (l : PkLie B M G Kb Bb F base w.heap.size) (hF : Row w' F 3 [.int .i64 (q' : Int)]) (hV : VarB w' base Bb done') (hb : Below base wr w') : PkAt kn B M G Kb Bb F base w w' p q' done' := by
  obtain ⟨l1, l2, l3, l4, l5, l6, l7, l8⟩ := l
  exact ⟨h.known.underBase hb (by omega) (by omega) (by omega), hF, hV, (hb.block Kb (by omega)).trans h.k, h.below.trans (hb.mono (by omega))⟩
theorem PkAt.setFrom (h : PkAt kn B M G Kb Bb F base w wr p q done) (l : PkLie B M G Kb Bb F base w.heap.size) (q' : Nat) : PkAt kn B M G Kb Bb F base w (wr.setCell ⟨F, 0, none⟩ (.int .i64 (q' : Int))) p q' done := by
  have hrow := h.from_.set 0 (.int .i64 (q' : Int)) (by simp)
  have hgF := grownBy_set wr F 0 (.int .i64 (q' : Int))
  have hsz := h.size l
  have hf := l.f
  obtain ⟨v, hv, ho⟩ := h.out
  have hne : Bb ≠ F := by
    intro e
    have h1 := h.from_
    unfold Row at h1
    rw [← e, hv] at h1
    simp at h1
  exact h.stretch l hrow ⟨v, (hgF.block Bb (lt_of_block hv) (by simpa using hne)).trans hv, ho.kept hgF (.inr (int_apart h.from_ ho))⟩ ((Below.refl base wr).setCell hf (.int .i64 (q' : Int)) (p := ⟨F, 0, none⟩))
end
set_option maxRecDepth 20000 in
set_option maxHeartbeats 1600000 in
theorem pack_any (s : ByteArray) (w : World) (hs : s.size ≤ 10000000000) :
    Calls Tryd.prog 87 #[.string s] w fun e w' => e = .returned (S (Win.pack s.data.toList)) ∧ Below w.heap.size w w' := by
  obtain ⟨i0, hi, hz0, hz1, hz2⟩ := info_parts r8_info
  have Hi := Lib.hid hi; clear hi
  have Hz0 := Lib.hid hz0; clear hz0
  have Hz1 := Lib.hid hz1; clear hz1
  have Hz2 := Lib.hid hz2; clear hz2
  have hmf : ∀ (fn : Fn) (first cap : Array Value) (w : World), (Instr.makeFunc fn first cap).run Tryd.prog w = .ok (.func fn first cap) w := fun _ _ _ _ => rfl
  have hlen : s.data.toList.length = s.size := rfl
  obtain ⟨st, hst⟩ : ∃ st, stB = st := ⟨_, rfl⟩
  have hstz : st.size = 68 := by rw [← hst]; rfl
  have hstl : st.data.toList = Win.static := by rw [← hst]; rfl
  obtain ⟨kn, hkn⟩ : ∃ kn, st ++ s = kn := ⟨_, rfl⟩
  have hknz : kn.size = 68 + s.size := by rw [← hkn, ByteArray.size_append, hstz]
  have hknl : kn.data.toList = Win.static ++ s.data.toList := by rw [← hkn, ByteArray.data_append, Array.toList_append, hstl]
  have hkl : kn.data.toList.length = kn.size := rfl
  have hnew := newKnown_any s w hs
  rw [hst, hkn] at hnew
  have Hnew := Lib.hid hnew
  have Hknl := Lib.hid hknl
  have Hknz := Lib.hid hknz
  have Hkl := Lib.hid hkl
  have Hlen := Lib.hid hlen
  have hkn64 : kn.size ≤ 100000000000 := by omega
  clear hst hstl hkn hknl hknz hkl hstz hnew hlen
  go_enter Tryd.func87, Tryd.ntmps87
  go_wp2_with fail
  refine Hnew.out.mono ?_
  rintro e w1 ⟨B, M, G, rfl, hK, hb1, hB, hM, hG⟩
  have hlt := hK.lt
  have hK2 := hK.below ((Below.refl w1.heap.size w1).alloc (Nat.le_refl _) (.cells #[.pointer (some ⟨B, 0, none⟩)] 125))
  have hr2 := Row.new w1 125 [.pointer (some ⟨B, 0, none⟩)]
  have hz2 : (w1.alloc (.cells #[.pointer (some ⟨B, 0, none⟩)] 125)).heap.size = w1.heap.size + 1 := by simp
  have hb2 := hb1.alloc hb1.size (.cells #[.pointer (some ⟨B, 0, none⟩)] 125)
  have HK2 := Lib.hid hK2
  have Hr2 := Lib.hid hr2
  have Hz2' := Lib.hid hz2
  have Hb2 := Lib.hid hb2
  have Hlt := Lib.hid hlt
  have Hge := Lib.hid (And.intro hB (And.intro hM hG))
  clear hK hb1 hK2 hr2 hz2 hb2 hB hM hG
  go_wp2_with (at_make; refine wpList_make_own _ rfl _ _ 48 rfl (w1.heap.size + 1) 5 i0 (.int .u8 0) 1 Tryd.underlying48 Hi.out Hz0.out Hz1.out .i64 .i64 _ (s.size + s.size / 128 + 1) rfl rfl (by omega) (by rw [Hz2.out]; omega) (by unfold maxLen; omega) (by rw [Hz2'.out]; exact Nat.le_refl _) ?_)
  intro w3 hown hgrow
  obtain ⟨base, hbase⟩ : ∃ base, base = w1.heap.size + 1 := ⟨_, rfl⟩
  have hK3 : KAt w3 B M G kn 68 := HK2.out.kept (S := fun _ => False) (Chg.of_grown hgrow (fun k e => by cases e)) (fun h => h) (fun h => h) (fun h => h)
  have hr3 := Hr2.out.kept hgrow (by simp)
  have hb3 : Below w.heap.size w w3 := Hb2.out.grown hgrow (by have := Hb2.out.size; exact this) (fun j hj => by cases hj)
  have hsz3 : base ≤ w3.heap.size := by have := hgrow.size; rw [Hz2'.out] at this; omega
  have HK3 := Lib.hid hK3
  have Hr3 := Lib.hid hr3
  have Hb3 := Lib.hid hb3
  rw [show w1.heap.size + 1 = base from hbase.symm] at hown
  have Hown := Lib.hid hown
  have Hbase := Lib.hid hbase
  clear hK3 hr3 hb3 hown hgrow HK2 Hr2 Hz2' Hb2 hlt
  generalize w1.heap.size = Kb at *
  rw [← hbase]
  clear hbase
  generalize s.size + s.size / 128 + 1 = cp at *
  go_wp2_with fail
  have e1 : (w3.alloc (.cells #[.slice (some ⟨base, 0, none⟩) 0 cp] 48)).heap.size = w3.heap.size + 1 := by simp
  have hV0 : VarB ((w3.alloc (.cells #[.slice (some ⟨base, 0, none⟩) 0 cp] 48)).alloc (.cells #[.int .i64 68] 3)) base w3.heap.size [] := ⟨_, (Below.heap_alloc _ _ _ (by simp)).trans (heap_alloc_new _ _), (Hown.out.alloc _).alloc _⟩
  have hF0 := Row.new (w3.alloc (.cells #[.slice (some ⟨base, 0, none⟩) 0 cp] 48)) 3 [.int .i64 68]
  rw [e1] at hF0
  have hbl : Below w3.heap.size w3 ((w3.alloc (.cells #[.slice (some ⟨base, 0, none⟩) 0 cp] 48)).alloc (.cells #[.int .i64 68] 3)) := ((Below.refl _ _).alloc (Nat.le_refl _) _).alloc (by simp) _
  have hl : PkLie B M G Kb w3.heap.size (w3.heap.size + 1) base w.heap.size := ⟨Hlt.out.1, Hlt.out.2.1, Hlt.out.2.2, Hbase.out.symm, hsz3, by omega, Hge.out.2.1, Hge.out.2.2⟩
  have hP0 : PkAt kn B M G Kb w3.heap.size (w3.heap.size + 1) base w ((w3.alloc (.cells #[.slice (some ⟨base, 0, none⟩) 0 cp] 48)).alloc (.cells #[.int .i64 68] 3)) 68 68 [] := ⟨HK3.out.below hbl, hF0, hV0, Hr3.out.below hbl, Hb3.out.trans (hbl.mono Hb3.out.size)⟩
  have hup0 := Win.Up.start s.data.toList
  have HP0 := Lib.hid hP0
  have HL := Lib.hid hl
  have Hup0 := Lib.hid hup0
  generalize (w3.alloc (.cells #[.slice (some ⟨base, 0, none⟩) 0 cp] 48)).alloc (.cells #[.int .i64 68] 3) = W at *
  clear hP0 hl hup0 hbl hF0 hV0 e1 HK3 Hr3 Hb3 Hown hsz3
  generalize w3.heap.size = Bb at *
  obtain ⟨F, hF⟩ : ∃ F, Bb + 1 = F := ⟨_, rfl⟩
  rw [hF] at HP0 HL ⊢
  clear hF
  go_loopw [7] (fun v wr => ∃ (p q : Nat) (done : List UInt8), v = .int .i64 (p : Int) ∧ q ≤ p ∧ p ≤ kn.size ∧ PkAt kn B M G Kb Bb F base w wr p q done ∧ Win.Up s.data.toList p done ((kn.data.toList.drop q).take (p - q))) (fun v _ => kn.size - (intOf v).toNat)
  case atStart => exact ⟨68, 68, [], rfl, Nat.le_refl _, by rw [Hknz.out]; omega, HP0.out, by rw [Nat.sub_self, List.take_zero]; exact Hup0.out⟩
  case round =>
    obtain ⟨p, q, done, rfl, hqp, hpk, hP, hup⟩ := hrel
    have cK : wr.cell? ⟨Kb, 0, none⟩ = some (.pointer (some ⟨B, 0, none⟩)) := hP.k.cell 0 (by simp)
    have cB : wr.cell? ⟨B, 0, none⟩ = some (.string kn) := hP.known.c0
    have HP := Lib.hid hP
    have Hup := Lib.hid hup
    clear hP hup
    by_cases hlt : p < kn.size
    · have d1 : decide ((p : Int) < (kn.size : Int)) = true := by simp only [decide_eq_true_eq]; omega
      have d1' : decide (p < kn.size) = true := by simp only [decide_eq_true_eq]; omega
      have hlo := longest_any kn B M G p wr HP.out.known (by omega) hpk
      obtain ⟨X, hX⟩ : ∃ X, Win.mat kn.data.toList p = X := ⟨_, rfl⟩
      have hml := Win.mat_le kn.data.toList p
      rw [hX] at hlo hml
      rw [Hkl.out] at hml
      obtain ⟨x, y⟩ := X
      have hx130 : x ≤ 130 := hml.1
      have hxp : x ≤ kn.size - p := hml.2.1
      have hyp : y ≤ p := hml.2.2.1
      have hy32 : y ≤ 32768 := hml.2.2.2.1
      have hxy : x ≠ 0 → 4 ≤ x ∧ 1 ≤ y := fun h => ⟨(hml.2.2.2.2 h).1, (hml.2.2.2.2 h).2.1⟩
      have Hlo := Lib.hid hlo
      have HX := Lib.hid hX
      clear hml hlo hX
      go_wp2_with fail
      refine Hlo.out.mono ?_
      rintro e w4 ⟨rfl, hb4⟩
      have HP4 := Lib.hid (HP.out.fresh hb4)
      clear hb4
      have cK4 : w4.cell? ⟨Kb, 0, none⟩ = some (.pointer (some ⟨B, 0, none⟩)) := HP4.out.k.cell 0 (by simp)
      by_cases hx0 : x = 0
      · subst hx0
        have hput := put_any kn B M G p w4 HP4.out.known (by omega) hpk
        have Hput := Lib.hid hput
        clear hput cK cB
        go_wp2_with fail
        refine Hput.out.mono ?_
        rintro e w5 ⟨rfl, hK5, hc5⟩
        have HP5 := Lib.hid (HP4.out.put HL.out hK5 hc5)
        clear hK5 hc5
        go_wp2_with fail
        refine ⟨⟨p + 1, q, done, by go_num, by omega, by omega, HP5.out, ?_⟩, by simp [intOf]; omega⟩
        rw [← rest_more hqp (by rw [Hkl.out]; exact hlt), Hknl.out]
        have h := Hup.out
        rw [Hknl.out] at h
        have hXX := HX.out
        rw [Hknl.out] at hXX
        have hk2 := Hkl.out
        rw [Hknl.out] at hk2
        exact h.one (by rw [hk2]; exact hlt) (by rw [hXX])
      · obtain ⟨hx4, hy1⟩ := hxy hx0
        have hup2 := Hup.out
        rw [Hknl.out] at hup2
        have hk2 := Hkl.out
        rw [Hknl.out] at hk2
        have hXX := HX.out
        rw [Hknl.out] at hXX
        have hup3 := hup2.mat (by rw [hk2]; exact hlt) (by rw [hXX]; exact hx0)
        rw [hXX] at hup3
        rw [← Hknl.out] at hup3
        have hdl := hup2.len
        rw [Hlen.out] at hdl
        have hll := hup3.len
        rw [Hlen.out, List.length_append] at hll
        have hl3 : (Win.three (x, y)).length = 3 := rfl
        rw [hl3] at hll
        have hstr := stretch_any kn q p F Bb Kb B base done w4 hkn64 HP4.out.from_ HP4.out.out HL.out.f HL.out.bb (by have := HL.out.kb; omega) (by have := HL.out.kb; have := HL.out.b; omega) (HP4.out.size HL.out) HP4.out.k HP4.out.known.c0 hqp hpk (by omega)
        generalize hD : done ++ Win.lits ((kn.data.toList.drop q).take (p - q)) = D at *
        obtain ⟨x0, hx0'⟩ : ∃ x0, UInt8.ofNat (x + 124) = x0 := ⟨_, rfl⟩
        obtain ⟨x1, hx1⟩ : ∃ x1, UInt8.ofNat ((y - 1) / 256) = x1 := ⟨_, rfl⟩
        obtain ⟨x2, hx2⟩ : ∃ x2, UInt8.ofNat ((y - 1) % 256) = x2 := ⟨_, rfl⟩
        have hth : Win.three (x, y) = [x0, x1, x2] := by rw [← hx0', ← hx1, ← hx2]; rfl
        rw [hth] at hup3
        have ex0 : 128 + (x : Int) - 4 = (x0.toNat : Int) := by rw [← hx0', UInt8.toNat_ofNat']; omega
        obtain ⟨z, hz⟩ : ∃ z, y - 1 = z := ⟨_, rfl⟩
        rw [hz] at hx1 hx2
        have eq1 : (y : Int) - 1 = (z : Int) := by omega
        have ex1 : (z : Int) / 256 = (x1.toNat : Int) := by rw [← hx1, UInt8.toNat_ofNat']; omega
        have ex2 : (z : Int) % 256 = (x2.toNat : Int) := by rw [← hx2, UInt8.toNat_ofNat']; omega
        have em0 := u8_mod x0
        have em1 := u8_mod x1
        have Hstr := Lib.hid hstr
        have Hup3 := Lib.hid hup3
        have HD := Lib.hid hD
        clear hstr hup3 hup2 hk2 hXX hl3 hth hx0' hx1 hx2 hz hD cK cB
        have dx0 : decide ((x : Int) = 0) = false := by simp only [decide_eq_false_iff_not]; omega
        have dx0' : ((x : Int) == 0) = false := by simp only [beq_eq_false_iff_ne]; omega
        go_wp2_with fail
        refine Hstr.out.mono ?_
        rintro e w5 ⟨rfl, hF5, hV5, hb5⟩
        have HP5 := Lib.hid (HP4.out.stretch HL.out hF5 hV5 hb5)
        clear hF5 hV5 hb5 cK4
        have hD3 : D.length + 3 ≤ 225179981368371 := by omega
        obtain ⟨v, hv, hown⟩ := HP5.out.out
        have hltB := lt_of_block hv
        have cBb := cell_of_one hv
        have hF5 : Row (w5.alloc (.cells #[.int .u8 (x0.toNat : Int), .int .u8 (x1.toNat : Int), .int .u8 (x2.toNat : Int)] 5)) F 3 [.int .i64 (p : Int)] := HP5.out.from_.below ((Below.refl _ _).alloc (Nat.le_refl _) _)
        have Hv := Lib.hid hv
        have HF5 := Lib.hid hF5
        have hs5 := HP5.out.size HL.out
        clear hv hF5
        go_wp2_with (at_builtin; refine wpList_append_own_wide _ rfl (.tmp 45) (.tmp 57) 48 rfl base 5 i0 (.int .u8 0) 1 1 Tryd.underlying48 Hi.out Hz0.out Hz1.out Hz2.out rfl (by decide) _ _ _ rfl (hown.alloc _) ⟨w5.heap.size, 0, none⟩ 3 3 [.int .u8 (x0.toNat : Int), .int .u8 (x1.toNat : Int), .int .u8 (x2.toNat : Int)] rfl rfl ?c1 ?c2 ?c3 ?c4 ?c5 ?_)
        case c1 =>
          intro j u hj
          match j, hj with
          | 0, hj => simp at hj; subst hj; simp [Addr.add]
          | 1, hj => simp at hj; subst hj; simp [Addr.add]
          | 2, hj => simp at hj; subst hj; simp [Addr.add]
        case c2 => first | rfl | (intro u hu; simp at hu; rcases hu with rfl | rfl | rfl <;> rfl)
        case c3 => unfold maxLen; omega
        case c4 => omega
        case c5 => simp; omega
        intro v6 w6 hown6 hgrow6 _
        obtain ⟨cB6, fB6, hv6, ho6, hb6, hF6⟩ := var_push (w := w5.alloc (.cells #[.int .u8 (x0.toNat : Int), .int .u8 (x1.toNat : Int), .int .u8 (x2.toNat : Int)] 5)) ((Below.heap_alloc w5 _ Bb hltB).trans Hv.out) (hown.alloc _) hown6 hgrow6 HL.out.bb HF5.out
        have hbel6 := hb6 w5 ((Below.refl _ _).alloc hs5 _)
        obtain ⟨a6, k6, rfl⟩ := own_some hown6 (by omega)
        have hV6 : VarB (w6.setCell ⟨Bb, 0, none⟩ (.slice (some ⟨a6, 0, none⟩) (D.length + 3) k6)) base Bb (D ++ [x0, x1, x2]) := by
          refine ⟨_, hv6, ?_⟩
          rw [bytesV_app, List.length_append]
          exact ho6
        have HP6 := Lib.hid (HP5.out.stretch HL.out hF6 hV6 hbel6)
        clear hown hown6 hgrow6 cBb hb6 hF6 hV6 hv6 ho6 hbel6 hltB hs5
        go_wp2_with fail
        generalize w6.setCell ⟨Bb, 0, none⟩ (.slice (some ⟨a6, 0, none⟩) (D.length + 3) k6) = W6 at *
        clear HP Hv HF5 cB6 fB6
        generalize wr = wo at *
        go_loopw [7, 60] (fun v c wr => ∃ j, j ≤ x ∧ v = .int .i64 ((p + j : Nat) : Int) ∧ c = .int .i64 (j : Int) ∧ PkAt kn B M G Kb Bb F base w wr (p + j) p (D ++ [x0, x1, x2])) (fun _ c _ => x - (intOf c).toNat)
        case atStart => exact ⟨0, by omega, rfl, rfl, HP6.out⟩
        case round =>
          obtain ⟨j, hj, rfl, rfl, hPj⟩ := hrel
          have cK7 : wr.cell? ⟨Kb, 0, none⟩ = some (.pointer (some ⟨B, 0, none⟩)) := hPj.k.cell 0 (by simp)
          have HPj := Lib.hid hPj
          clear hPj
          obtain ⟨pj, hpj⟩ : ∃ pj, p + j = pj := ⟨_, rfl⟩
          rw [hpj] at HPj ⊢
          have Hpj := Lib.hid hpj
          have hpjk : pj ≤ kn.size := by omega
          clear hpj
          by_cases hjx : j < x
          · have d3 : decide ((j : Int) < (x : Int)) = true := by simp only [decide_eq_true_eq]; omega
            have d3' : decide (j < x) = true := by simp only [decide_eq_true_eq]; omega
            have hput := put_any kn B M G pj wr HPj.out.known (by omega) hpjk
            have Hput := Lib.hid hput
            clear hput
            go_wp2_with fail
            refine Hput.out.mono ?_
            rintro e w7 ⟨rfl, hK7, hc7⟩
            have HP7 := Lib.hid (HPj.out.put HL.out hK7 hc7)
            clear hK7 hc7
            go_wp2_with fail
            have hpj := Hpj.out
            refine ⟨⟨j + 1, by omega, by rw [← Nat.add_assoc, hpj]; go_num, by go_num, by rw [← Nat.add_assoc, hpj]; exact HP7.out⟩, by simp [intOf]; omega⟩
          · obtain rfl : j = x := by omega
            have d3 : decide ((j : Int) < (j : Int)) = false := by simp only [decide_eq_false_iff_not]; omega
            have cF := HPj.out.from_.cell 0 (by simp)
            have fF := HPj.out.from_.free 0
            go_wp2_with fail
            have HP8 := HPj.out.setFrom HL.out pj
            have hpj := Hpj.out
            refine ⟨⟨pj, pj, _, rfl, Nat.le_refl _, hpjk, HP8, ?_⟩, by simp [intOf]; omega⟩
            rw [Nat.sub_self, List.take_zero, ← hpj]
            exact Hup3.out
    · obtain rfl : p = kn.size := by omega
      have d1 : decide ((kn.size : Int) < (kn.size : Int)) = false := by simp only [decide_eq_false_iff_not]; omega
      have hup2 := Hup.out
      have hdl := hup2.len
      rw [Hlen.out] at hdl
      have hk2 := Hkl.out
      rw [Hknl.out] at hk2
      have hfin := hup2.stop (by rw [hk2]; exact Nat.le_refl _)
      have hstr := stretch_any kn q kn.size F Bb Kb B base done wr hkn64 HP.out.from_ HP.out.out HL.out.f HL.out.bb (by have := HL.out.kb; omega) (by have := HL.out.kb; have := HL.out.b; omega) (HP.out.size HL.out) HP.out.k HP.out.known.c0 hqp hpk (by omega)
      rw [hfin] at hstr
      have Hstr := Lib.hid hstr
      clear hstr hfin hup2 hk2
      go_wp2_with fail
      refine Hstr.out.mono ?_
      rintro e w5 ⟨rfl, hF5, hV5, hb5⟩
      have HP5 := Lib.hid (HP.out.stretch HL.out hF5 hV5 hb5)
      obtain ⟨v, hv, hown⟩ := hV5
      have cBb := cell_of_one hv
      have hcv := own_text (P := Tryd.prog) hown rfl 48 Tryd.underlying48 (by kernel_rfl) 9 (by kernel_rfl)
      clear hF5 hb5 hv hown cK cB
      go_wp2_with fail
      go_ret
      exact ⟨rfl, HP5.out.below⟩
end Go.Proofs.YtinciddchpccnaaDoor
