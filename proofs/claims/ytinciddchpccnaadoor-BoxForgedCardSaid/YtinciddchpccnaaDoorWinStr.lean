/- What later texts need of the earlier layers. -/
import Derived.Test.YtinciddchpccnaaDoorBxO
import Derived.Test.YtinciddchpccnaaDoorBxS
import Derived.Test.YtinciddchpccnaaDoorBxT
import Derived.Test.YtinciddchpccnaaDoorBxC
import Derived.Test.YtinciddchpccnaaDoorBxA
import Derived.Test.YtinciddchpccnaaDoorWinMath
import Derived.Test.YtinciddchpccnaaDoorWinNum
import Derived.Test.YtinciddchpccnaaDoorWinSame
import Derived.Test.YtinciddchpccnaaDoorOwnApp
import Derived.Test.YtinciddchpccnaaDoorWinOwn
import Derived.Test.YtinciddchpccnaaDoorWinOwn8
import Derived.Test.YtinciddchpccnaaDoorWinKey
import Derived.Test.YtinciddchpccnaaDoorWinPack
import Derived.Test.YtinciddchpccnaaDoorWinUn
import Derived.Test.YtinciddchpccnaaDoorWinAgain
import Derived.Test.YtinciddchpccnaaDoorWinUp
import Derived.Test.YtinciddchpccnaaDoorWinFour
import Derived.Test.YtinciddchpccnaaDoorWinML
import Derived.Test.YtinciddchpccnaaDoorWinKnown
import Derived.Test.YtinciddchpccnaaDoorWinCP
import Derived.Test.YtinciddchpccnaaDoorWinFar
import Derived.Test.YtinciddchpccnaaDoorWinLong
import Derived.Test.YtinciddchpccnaaDoorWinRup
import Derived.Test.YtinciddchpccnaaDoorWinNew
import Derived.OneCell
/- ---- WinStr ---- -/
/- window.Pack's closure stretch: what it does. -/
namespace Go.Proofs.YtinciddchpccnaaDoor
open Go.RowKit Go.Maps
set_option maxRecDepth 100000
set_option linter.unusedVariables false
set_option linter.unusedSimpArgs false

/-- the variable in block B holds a slice of bytes of the call's own -/
def VarB (w : World) (base B : Nat) (bs : List UInt8) : Prop :=
  ∃ v, w.heap[B]? = some (.cells #[v] 48 (0, 0)) ∧ w.ownsRow base 5 1 v bs.length (bytesV bs)
theorem var_apart {w : World} {base B n : Nat} {v u : Value} {xs : List Value} (hv : w.heap[B]? = some (.cells #[u] 48 (0, 0))) (hown : w.ownsRow base 5 1 v n xs) : v.ownBlock ≠ some B := by
  intro e
  rcases hown.2 with ⟨rfl, _⟩ | ⟨g, cap, cur, rfl, hg, hh, _⟩
  · simp [Value.ownBlock] at e
  · simp only [Value.ownBlock, Option.some.injEq] at e
    subst e; rw [hh] at hv; simp at hv
theorem int_apart {w : World} {base B n : Nat} {v : Value} {ys xs : List Value} (hv : Row w B 3 ys) (hown : w.ownsRow base 5 1 v n xs) : v.ownBlock ≠ some B := by
  intro e
  unfold Row at hv
  rcases hown.2 with ⟨rfl, _⟩ | ⟨g, cap, cur, rfl, hg, hh, _⟩
  · simp [Value.ownBlock] at e
  · simp only [Value.ownBlock, Option.some.injEq] at e
    subst e; rw [hh] at hv; simp at hv
theorem var_push {w w1 : World} {base B n n' : Nat} {v v' : Value} {xs xs' : List Value} (hv : w.heap[B]? = some (.cells #[v] 48 (0, 0))) (hown : w.ownsRow base 5 1 v n xs)
    (hown' : w1.ownsRow base 5 1 v' n' xs') (hgrow : w.grownBy w1 v.ownBlock) (hB : base ≤ B) {F : Nat} {ys : List Value} (hF : Row w F 3 ys) :
    w1.cell? ⟨B, 0, none⟩ = some v ∧ w1.frozen? ⟨B, 0, none⟩ = false ∧ (w1.setCell ⟨B, 0, none⟩ v').heap[B]? = some (.cells #[v'] 48 (0, 0)) ∧ (w1.setCell ⟨B, 0, none⟩ v').ownsRow base 5 1 v' n' xs' ∧
      (∀ a, Below base a w → Below base a (w1.setCell ⟨B, 0, none⟩ v')) ∧ Row (w1.setCell ⟨B, 0, none⟩ v') F 3 ys := by
  have hlt := lt_of_block hv
  have hv1 : w1.heap[B]? = some (.cells #[v] 48 (0, 0)) := (hgrow.block B hlt (fun e => var_apart hv hown e.symm)).trans hv
  have hF1 := hF.kept hgrow (fun e => int_apart hF hown e.symm)
  have hne : F ≠ B := by
    intro e
    subst e
    unfold Row at hF
    rw [hF] at hv
    simp at hv
  refine ⟨cell_of_one hv1, free_of_one hv1, one_setCell hv1, ownsRow_setCell_other hown' (var_apart hv1 hown') _, fun a ha => ?_, hF1.kept (grownBy_set _ _ _ _) (by simpa using hne)⟩
  exact (ha.grown hgrow (by omega) (fun k hk => (hown.lt k hk).1)).setCell hB _
/-- what 'stretch' still has to lay -/
theorem Win.lits_step {K : List UInt8} {p t : Nat} (h1 : p < t) (h2 : t ≤ K.length) (n : Nat) (hn : min (t - p) 128 = n) :
    Win.lits ((K.drop p).take (t - p)) = UInt8.ofNat (n - 1) :: ((K.drop p).take n ++ Win.lits ((K.drop (p + n)).take (t - (p + n)))) := by
  have hl : ((K.drop p).take (t - p)).length = t - p := by rw [List.length_take, List.length_drop]; omega
  unfold Win.lits
  rw [hl]
  obtain ⟨q, hq⟩ : ∃ q, t - p = q + 1 := ⟨t - p - 1, by omega⟩
  have ht : ((K.drop p).take (t - p)).take 128 = (K.drop p).take n := by rw [List.take_take, ← hn, Nat.min_comm]
  have hd : ((K.drop p).take (t - p)).drop 128 = (K.drop (p + n)).take (t - (p + n)) := by
    by_cases h : 128 ≤ t - p
    · have e : n = 128 := by omega
      subst e
      rw [List.drop_take, List.drop_drop, show t - p - 128 = t - (p + 128) by omega]
    · rw [List.drop_of_length_le (by rw [hl]; omega), show t - (p + n) = 0 by omega, List.take_zero]
  rw [show Win.litsF (t - p) ((K.drop p).take (t - p)) = Win.litsF (q + 1) ((K.drop p).take (t - p)) by rw [hq], Win.litsF_succ, if_neg (by omega), ht, hd, hl, hn]
  rw [Win.litsF_fuel q ((K.drop (p + n)).take (t - (p + n))).length _ (by rw [List.length_take, List.length_drop]; omega) (Nat.le_refl _)]
theorem Win.lits_done {K : List UInt8} {p t : Nat} (h : ¬ p < t) : Win.lits ((K.drop p).take (t - p)) = [] := by
  rw [show t - p = 0 by omega, List.take_zero]; rfl
set_option maxHeartbeats 1600000 in
theorem stretch_any (kn : ByteArray) (f t F B Kb Bk base : Nat) (bs : List UInt8) (w : World) (hk : kn.size ≤ 100000000000) (hF : Row w F 3 [.int .i64 (f : Int)]) (hV : VarB w base B bs) (hFb : base ≤ F) (hB : base ≤ B) (hKb : Kb < base) (hBk : Bk < base) (hbw : base ≤ w.heap.size)
    (hK : Row w Kb 125 [.pointer (some ⟨Bk, 0, none⟩)]) (hc : w.cell? ⟨Bk, 0, none⟩ = some (.string kn)) (hft : f ≤ t) (ht : t ≤ kn.size) (hlen : bs.length + 2 * kn.size ≤ 225179981368371) :
    Calls Tryd.prog 100 #[.int .i64 (t : Int), .pointer (some ⟨F, 0, none⟩), .pointer (some ⟨B, 0, none⟩), .pointer (some ⟨Kb, 0, none⟩)] w fun e w' => e = .returned (.tuple #[]) ∧
      Row w' F 3 [.int .i64 (t : Int)] ∧ VarB w' base B (bs ++ Win.lits ((kn.data.toList.drop f).take (t - f))) ∧ Below base w w' := by
  obtain ⟨i0, hi, hz0, hz1, hz2⟩ := info_parts r8_info
  have Hi := Lib.hid hi; clear hi
  have Hz0 := Lib.hid hz0; clear hz0
  have Hz1 := Lib.hid hz1; clear hz1
  have Hz2 := Lib.hid hz2; clear hz2
  have hknl : kn.data.toList.length = kn.size := rfl
  have hll : (Win.lits ((kn.data.toList.drop f).take (t - f))).length ≤ 2 * kn.size := by
    rw [Win.lits_len _ _ (Nat.le_refl _), List.length_take, List.length_drop, hknl]; omega
  generalize hG : bs ++ Win.lits ((kn.data.toList.drop f).take (t - f)) = goal
  have hgl : goal.length ≤ bs.length + 2 * kn.size := by rw [← hG, List.length_append]; omega
  have HF := Lib.hid hF
  have HV := Lib.hid hV
  have HK := Lib.hid hK
  have Hc := Lib.hid hc
  have HG := Lib.hid hG
  have Hgl := Lib.hid hgl
  have Hknl := Lib.hid hknl
  clear hF hV hK hc hG hll hgl hknl
  go_enter Tryd.func100, Tryd.ntmps100
  go_wp2_with fail
  go_loopw [5] (fun v wr => ∃ (p : Nat) (ds : List UInt8), p ≤ t ∧ Row wr F 3 [.int .i64 (p : Int)] ∧ VarB wr base B ds ∧ Below base w wr ∧ ds ++ Win.lits ((kn.data.toList.drop p).take (t - p)) = goal) (fun _ wr => t - (match wr.cell? ⟨F, 0, none⟩ with | some x => (intOf x).toNat | none => 0))
  case atStart => exact ⟨f, bs, hft, HF.out, HV.out, Below.refl _ _, HG.out⟩
  case round =>
    obtain ⟨p, ds, hpt, hFp, hVp, hbp, hGp⟩ := hrel
    have cF := hFp.cell 0 (by simp)
    have hm0 : (match wr.cell? ⟨F, 0, none⟩ with | some x => (intOf x).toNat | none => 0) = p := by rw [cF]; simp [intOf]
    have cF : wr.cell? ⟨F, 0, none⟩ = some (.int .i64 (p : Int)) := cF
    rw [hm0]
    clear hm0
    by_cases hpt2 : p < t
    · have d1 : decide ((p : Int) < (t : Int)) = true := by simp only [decide_eq_true_eq]; omega
      have d1' : decide (p < t) = true := by simp only [decide_eq_true_eq]; omega
      by_cases h128 : 128 < t - p
      · have h128' : (128 : Int) < (t : Int) - (p : Int) := by omega
        have en8 : True := trivial
        have emn : min ((t : Int) - (p : Int)) 128 = 128 := by omega
        have en127 : (128 : Int) - 1 = 127 := rfl
        have hstep := Win.lits_step (K := kn.data.toList) (p := p) (t := t) hpt2 (by rw [Hknl.out]; exact ht) 128 (by omega)
        rw [hstep] at hGp
        have hgl := Hgl.out
        have hdl : ds.length + 1 + 128 ≤ goal.length := by
          rw [← hGp, List.length_append, List.length_cons, List.length_append, List.length_take, List.length_drop, Hknl.out]; omega
        have HGp := Lib.hid hGp
        clear hGp hstep
        have hcut := cut_run (P := Tryd.prog) 9 (by kernel_rfl) kn p 128 (by omega)
        obtain ⟨v, hv, hown⟩ := hVp
        have hltB := lt_of_block hv
        have cB := cell_of_one hv
        have Hv := Lib.hid hv
        have HFp := Lib.hid hFp
        have hFp1 : Row (wr.alloc (.cells #[.int .u8 (127 : Int)] 5)) F 3 [.int .i64 (p : Int)] := hFp.below ((Below.refl _ _).alloc (Nat.le_refl _) _)
        have HFp1 := Lib.hid hFp1
        clear hv hFp hFp1
        have Hcut := Lib.hid hcut
        clear hcut
        go_wp2_with (at_builtin; refine wpList_append_own_wide _ rfl (.tmp 13) (.tmp 17) 48 rfl base 5 i0 (.int .u8 0) 1 1 Tryd.underlying48 Hi.out Hz0.out Hz1.out Hz2.out rfl (by decide) _ _ _ rfl (hown.alloc _) ⟨wr.heap.size, 0, none⟩ 1 1 [.int .u8 (127 : Int)] rfl rfl ?c1 ?c2 ?c3 ?c4 ?c5 ?_)
        case c1 =>
          intro j u hj
          match j, hj with
          | 0, hj => simp at hj; subst hj; simp [Addr.add]
        case c2 => first | rfl | (intro u hu; simp at hu; subst hu; rfl)
        case c3 => unfold maxLen; omega
        case c4 => omega
        case c5 => simp; omega
        intro v1 w1 hown1 hgrow1 _
        obtain ⟨cB1, fB1, hv1, ho1, hb1, hF1⟩ := var_push (w := wr.alloc (.cells #[.int .u8 (127 : Int)] 5)) ((Below.heap_alloc wr _ B hltB).trans Hv.out) (hown.alloc _) hown1 hgrow1 hB HFp1.out
        have hbel1 := hb1 w (hbp.alloc (by have := hbp.size; omega) _)
        obtain ⟨a1, k1, rfl⟩ := own_some hown1 (by omega)
        have Hho1 := Lib.hid ho1
        have Hv1 := Lib.hid hv1
        have Hb1 := Lib.hid hbel1
        have HF1 := Lib.hid hF1
        clear cB hown hown1 hgrow1 hb1 ho1 hv1 hbel1 hF1 HFp HFp1 Hv hltB hbp cF
        go_wp2_with fail
        generalize w1.setCell ⟨B, 0, none⟩ (Value.slice (some ⟨a1, 0, none⟩) (ds.length + 1 : Nat) k1) = W2 at *
        have cK2 : W2.cell? ⟨Kb, 0, none⟩ = some (.pointer (some ⟨Bk, 0, none⟩)) := (show Row W2 Kb 125 [.pointer (some ⟨Bk, 0, none⟩)] from (Hb1.out.block Kb hKb).trans HK.out).cell 0 (by simp)
        have cBk2 : W2.cell? ⟨Bk, 0, none⟩ = some (.string kn) := by have h := Hc.out; unfold World.cell? at h ⊢; rw [Hb1.out.block Bk hBk]; exact h
        have cF2 : W2.cell? ⟨F, 0, none⟩ = some (.int .i64 (p : Int)) := HF1.out.cell 0 (by simp)
        have cB2 := cell_of_one Hv1.out
        obtain ⟨q, hq⟩ : ∃ q, p + 128 = q := ⟨_, rfl⟩
        have eq1 : (p : Int) + 128 = (q : Int) := by omega
        refine region_named 10 (by kernel_rfl) (by kernel_rfl) ?_
        intro w3 hw3
        have k1' := (cell_drew hw3 Kb 0).trans cK2
        have k2' := (cell_drew hw3 Bk 0).trans cBk2
        have k3' := (cell_drew hw3 F 0).trans cF2
        have k4' := (cell_drew hw3 B 0).trans cB2
        have hsl := Hcut.out w3
        rw [show (p : Int) + (128 : Nat) = (q : Int) by omega] at hsl
        have hg3 : W2.grownBy w3 none := by rw [hw3]; exact grownBy_drew _ _
        have ho3 := Hho1.out.kept hg3 (by simp [Value.ownBlock])
        have hv3 := (hg3.block B (lt_of_block Hv1.out) (by simp)).trans Hv1.out
        have hF3 := HF1.out.kept hg3 (by simp)
        have hb3 : Below base w w3 := by rw [hw3]; exact Hb1.out.drew
        have Ho3 := Lib.hid ho3
        have Hv3 := Lib.hid hv3
        have HF3 := Lib.hid hF3
        have Hb3 := Lib.hid hb3
        have Hq := Lib.hid hq
        have hpn : (Win.lits [] = []) := rfl
        obtain ⟨cs, hcs⟩ : ∃ cs, (kn.data.toList.drop p).take 128 = cs := ⟨_, rfl⟩
        have hcsl : cs.length = 128 := by rw [← hcs, List.length_take, List.length_drop, Hknl.out]; omega
        rw [hcs] at hsl
        have Hcs := Lib.hid hcs
        have Hcsl := Lib.hid hcsl
        clear hw3 cK2 cBk2 cF2 cB2 hg3 ho3 hv3 hF3 hb3 hq hpn hcs hcsl
        simp only [List.take_succ_cons, List.take_zero, List.drop_succ_cons, List.drop_zero]
        have ewr : IntKind.i64.wrap ((p : Int) + (128)) = (q : Int) := by rw [show (p : Int) + (128) = (q : Int) by have := Hq.out; omega]; exact IntWalk.i64_in _ (by have := Hq.out; omega)
        have ewr2 : IntKind.i64.wrap (q : Int) = (q : Int) := IntWalk.i64_in _ (by have := Hq.out; omega)
        repeat still_step
        refine wpStill_nil ?_
        have hS : ∀ W : World, Src Tryd.prog 1 9 (S cs) cs.length (bytesV cs) W := fun W => Src.ofString W (by kernel_rfl) ⟨cs.toArray⟩
        have hcl := Hcsl.out
        have ho3 := Ho3.out
        go_wp2_with (at_builtin; refine wpList_own_src _ rfl (.tmp 19) (.tmp 28) 48 9 rfl base 5 i0 Tryd.underlying48 Hi.out Hz0.out Hz1.out Hz2.out _ _ _ rfl ho3 (S cs) cs.length (bytesV cs) rfl (hS _) ?d1 ?d2 ?_)
        case d1 => omega
        case d2 => have hs3 := Hb3.out.size; omega
        intro v4 w4 hown4 hgrow4
        obtain ⟨cB4, fB4, hv4, ho4, hb4, hF4⟩ := var_push Hv3.out ho3 hown4 hgrow4 hB HF3.out
        have hbel4 := hb4 w Hb3.out
        obtain ⟨a4, k4, rfl⟩ := own_some hown4 (by omega)
        have Ho4 := Lib.hid ho4
        have Hv4 := Lib.hid hv4
        have Hb4 := Lib.hid hbel4
        have HF4 := Lib.hid hF4
        have cF4 := hF4.cell 0 (by simp)
        have fF4 := hF4.free 0
        clear hown4 hgrow4 hb4 ho4 hv4 hbel4 hF4 ho3 k1' k2' k3' k4' cB1 fB1 hS hsl ewr ewr2
        go_wp2_with fail
        have hbw4 := Hb4.out
        have hFne := int_apart HF4.out Ho4.out
        have hFB : F ≠ B := by
          intro e
          have h1 := HF4.out
          have h2 := Hv4.out
          unfold Row at h1
          rw [e, h2] at h1
          simp at h1
        generalize w4.setCell ⟨B, 0, none⟩ (Value.slice (some ⟨a4, 0, none⟩) (ds.length + 1 + 128) k4) = W5 at *
        have hrow := HF4.out.set 0 (.int .i64 ((q : Int))) (by simp)
        have hgF := grownBy_set W5 F 0 (.int .i64 ((q : Int)))
        have hvF := (hgF.block B (lt_of_block Hv4.out) (by simpa using fun e => hFB e.symm)).trans Hv4.out
        have hoF := Ho4.out.kept hgF (.inr hFne)
        have hbF := hbw4.setCell hFb (.int .i64 ((q : Int))) (p := ⟨F, 0, none⟩)
        have hq := Hq.out
        have hcell := hrow.cell 0 (by simp)
        refine ⟨⟨q, ds ++ UInt8.ofNat (128 - 1) :: cs, by omega, ?_, ⟨_, hvF, ?_⟩, hbF, ?_⟩, ?_⟩
        · rw [show ((q : Int) : Int) = (q : Int) by omega] at hrow ⊢; exact hrow
        · have e1 : (ds ++ UInt8.ofNat (128 - 1) :: cs).length = ds.length + 1 + cs.length := by simp; omega
          have e2 : bytesV (ds ++ UInt8.ofNat (128 - 1) :: cs) = bytesV ds ++ [Value.int .u8 (127 : Int)] ++ bytesV cs := by
            rw [bytesV_app]
            have : (UInt8.ofNat (128 - 1)).toNat = 128 - 1 := by rw [UInt8.toNat_ofNat', Nat.mod_eq_of_lt (by omega)]
            simp [this, en8]
          rw [e1, e2, Hcsl.out]
          simpa using hoF
        · rw [← HGp.out, Hcs.out, ← hq]; simp
        · rw [hcell]
          simp [intOf]
          omega
      · obtain ⟨n, hn⟩ : ∃ n, t - p = n + 1 := ⟨t - p - 1, by omega⟩
        have en : (t : Int) - (p : Int) = ((n + 1 : Nat) : Int) := by omega
        have en1 : ((n + 1 : Nat) : Int) - 1 = (n : Int) := by omega
        have en8 : (n : Int) % 256 = (n : Int) := by omega
        have hn128 : n < 128 := by omega
        have emn : min ((t : Int) - (p : Int)) 128 = ((n + 1 : Nat) : Int) := by omega
        have emn2 : min ((n + 1 : Nat) : Int) 128 = ((n + 1 : Nat) : Int) := by omega
        have emn3 : min ((n : Int) + 1) 128 = (n : Int) + 1 := by omega
        have hstep := Win.lits_step (K := kn.data.toList) (p := p) (t := t) hpt2 (by rw [Hknl.out]; exact ht) (n + 1) (by omega)
        rw [hstep] at hGp
        have hgl := Hgl.out
        have hdl : ds.length + 1 + (n + 1) ≤ goal.length := by
          rw [← hGp, List.length_append, List.length_cons, List.length_append, List.length_take, List.length_drop, Hknl.out]; omega
        have HGp := Lib.hid hGp
        clear hGp hstep
        have hcut := cut_run (P := Tryd.prog) 9 (by kernel_rfl) kn p (n + 1) (by omega)
        obtain ⟨v, hv, hown⟩ := hVp
        have hltB := lt_of_block hv
        have cB := cell_of_one hv
        have Hv := Lib.hid hv
        have HFp := Lib.hid hFp
        have hFp1 : Row (wr.alloc (.cells #[.int .u8 (n : Int)] 5)) F 3 [.int .i64 (p : Int)] := hFp.below ((Below.refl _ _).alloc (Nat.le_refl _) _)
        have HFp1 := Lib.hid hFp1
        clear hv hFp hFp1
        have Hcut := Lib.hid hcut
        clear hcut
        go_wp2_with (at_builtin; refine wpList_append_own_wide _ rfl (.tmp 13) (.tmp 17) 48 rfl base 5 i0 (.int .u8 0) 1 1 Tryd.underlying48 Hi.out Hz0.out Hz1.out Hz2.out rfl (by decide) _ _ _ rfl (hown.alloc _) ⟨wr.heap.size, 0, none⟩ 1 1 [.int .u8 (n : Int)] rfl rfl ?c1 ?c2 ?c3 ?c4 ?c5 ?_)
        case c1 =>
          intro j u hj
          match j, hj with
          | 0, hj => simp at hj; subst hj; simp [Addr.add]
        case c2 => first | rfl | (intro u hu; simp at hu; subst hu; rfl)
        case c3 => unfold maxLen; omega
        case c4 => omega
        case c5 => simp; omega
        intro v1 w1 hown1 hgrow1 _
        obtain ⟨cB1, fB1, hv1, ho1, hb1, hF1⟩ := var_push (w := wr.alloc (.cells #[.int .u8 (n : Int)] 5)) ((Below.heap_alloc wr _ B hltB).trans Hv.out) (hown.alloc _) hown1 hgrow1 hB HFp1.out
        have hbel1 := hb1 w (hbp.alloc (by have := hbp.size; omega) _)
        obtain ⟨a1, k1, rfl⟩ := own_some hown1 (by omega)
        have Hho1 := Lib.hid ho1
        have Hv1 := Lib.hid hv1
        have Hb1 := Lib.hid hbel1
        have HF1 := Lib.hid hF1
        clear cB hown hown1 hgrow1 hb1 ho1 hv1 hbel1 hF1 HFp HFp1 Hv hltB hbp cF
        go_wp2_with fail
        generalize w1.setCell ⟨B, 0, none⟩ (Value.slice (some ⟨a1, 0, none⟩) (ds.length + 1 : Nat) k1) = W2 at *
        have cK2 : W2.cell? ⟨Kb, 0, none⟩ = some (.pointer (some ⟨Bk, 0, none⟩)) := (show Row W2 Kb 125 [.pointer (some ⟨Bk, 0, none⟩)] from (Hb1.out.block Kb hKb).trans HK.out).cell 0 (by simp)
        have cBk2 : W2.cell? ⟨Bk, 0, none⟩ = some (.string kn) := by have h := Hc.out; unfold World.cell? at h ⊢; rw [Hb1.out.block Bk hBk]; exact h
        have cF2 : W2.cell? ⟨F, 0, none⟩ = some (.int .i64 (p : Int)) := HF1.out.cell 0 (by simp)
        have cB2 := cell_of_one Hv1.out
        obtain ⟨q, hq⟩ : ∃ q, p + (n + 1) = q := ⟨_, rfl⟩
        have eq1 : (p : Int) + ((n + 1 : Nat) : Int) = (q : Int) := by omega
        refine region_named 10 (by kernel_rfl) (by kernel_rfl) ?_
        intro w3 hw3
        have k1' := (cell_drew hw3 Kb 0).trans cK2
        have k2' := (cell_drew hw3 Bk 0).trans cBk2
        have k3' := (cell_drew hw3 F 0).trans cF2
        have k4' := (cell_drew hw3 B 0).trans cB2
        have hsl := Hcut.out w3
        rw [show (p : Int) + ((n + 1) : Nat) = (q : Int) by omega] at hsl
        have hg3 : W2.grownBy w3 none := by rw [hw3]; exact grownBy_drew _ _
        have ho3 := Hho1.out.kept hg3 (by simp [Value.ownBlock])
        have hv3 := (hg3.block B (lt_of_block Hv1.out) (by simp)).trans Hv1.out
        have hF3 := HF1.out.kept hg3 (by simp)
        have hb3 : Below base w w3 := by rw [hw3]; exact Hb1.out.drew
        have Ho3 := Lib.hid ho3
        have Hv3 := Lib.hid hv3
        have HF3 := Lib.hid hF3
        have Hb3 := Lib.hid hb3
        have Hq := Lib.hid hq
        have hpn : (Win.lits [] = []) := rfl
        obtain ⟨cs, hcs⟩ : ∃ cs, (kn.data.toList.drop p).take (n + 1) = cs := ⟨_, rfl⟩
        have hcsl : cs.length = (n + 1) := by rw [← hcs, List.length_take, List.length_drop, Hknl.out]; omega
        rw [hcs] at hsl
        have Hcs := Lib.hid hcs
        have Hcsl := Lib.hid hcsl
        clear hw3 cK2 cBk2 cF2 cB2 hg3 ho3 hv3 hF3 hb3 hq hpn hcs hcsl
        simp only [List.take_succ_cons, List.take_zero, List.drop_succ_cons, List.drop_zero]
        have ewr : IntKind.i64.wrap ((p : Int) + ((n : Int) + 1)) = (q : Int) := by rw [show (p : Int) + ((n : Int) + 1) = (q : Int) by have := Hq.out; omega]; exact IntWalk.i64_in _ (by have := Hq.out; omega)
        have ewr2 : IntKind.i64.wrap (q : Int) = (q : Int) := IntWalk.i64_in _ (by have := Hq.out; omega)
        repeat still_step
        refine wpStill_nil ?_
        have hS : ∀ W : World, Src Tryd.prog 1 9 (S cs) cs.length (bytesV cs) W := fun W => Src.ofString W (by kernel_rfl) ⟨cs.toArray⟩
        have hcl := Hcsl.out
        have ho3 := Ho3.out
        go_wp2_with (at_builtin; refine wpList_own_src _ rfl (.tmp 19) (.tmp 28) 48 9 rfl base 5 i0 Tryd.underlying48 Hi.out Hz0.out Hz1.out Hz2.out _ _ _ rfl ho3 (S cs) cs.length (bytesV cs) rfl (hS _) ?d1 ?d2 ?_)
        case d1 => omega
        case d2 => have hs3 := Hb3.out.size; omega
        intro v4 w4 hown4 hgrow4
        obtain ⟨cB4, fB4, hv4, ho4, hb4, hF4⟩ := var_push Hv3.out ho3 hown4 hgrow4 hB HF3.out
        have hbel4 := hb4 w Hb3.out
        obtain ⟨a4, k4, rfl⟩ := own_some hown4 (by omega)
        have Ho4 := Lib.hid ho4
        have Hv4 := Lib.hid hv4
        have Hb4 := Lib.hid hbel4
        have HF4 := Lib.hid hF4
        have cF4 := hF4.cell 0 (by simp)
        have fF4 := hF4.free 0
        clear hown4 hgrow4 hb4 ho4 hv4 hbel4 hF4 ho3 k1' k2' k3' k4' cB1 fB1 hS hsl ewr ewr2
        go_wp2_with fail
        have hbw4 := Hb4.out
        have hFne := int_apart HF4.out Ho4.out
        have hFB : F ≠ B := by
          intro e
          have h1 := HF4.out
          have h2 := Hv4.out
          unfold Row at h1
          rw [e, h2] at h1
          simp at h1
        generalize w4.setCell ⟨B, 0, none⟩ (Value.slice (some ⟨a4, 0, none⟩) (ds.length + 1 + (n + 1)) k4) = W5 at *
        have hrow := HF4.out.set 0 (.int .i64 ((p : Int) + ((n : Int) + 1))) (by simp)
        have hgF := grownBy_set W5 F 0 (.int .i64 ((p : Int) + ((n : Int) + 1)))
        have hvF := (hgF.block B (lt_of_block Hv4.out) (by simpa using fun e => hFB e.symm)).trans Hv4.out
        have hoF := Ho4.out.kept hgF (.inr hFne)
        have hbF := hbw4.setCell hFb (.int .i64 ((p : Int) + ((n : Int) + 1))) (p := ⟨F, 0, none⟩)
        have hq := Hq.out
        have hcell := hrow.cell 0 (by simp)
        refine ⟨⟨q, ds ++ UInt8.ofNat ((n + 1) - 1) :: cs, by omega, ?_, ⟨_, hvF, ?_⟩, hbF, ?_⟩, ?_⟩
        · rw [show ((p : Int) + ((n : Int) + 1) : Int) = (q : Int) by omega] at hrow ⊢; exact hrow
        · have e1 : (ds ++ UInt8.ofNat ((n + 1) - 1) :: cs).length = ds.length + 1 + cs.length := by simp; omega
          have e2 : bytesV (ds ++ UInt8.ofNat ((n + 1) - 1) :: cs) = bytesV ds ++ [Value.int .u8 (n : Int)] ++ bytesV cs := by
            rw [bytesV_app]
            have : (UInt8.ofNat ((n + 1) - 1)).toNat = (n + 1) - 1 := by rw [UInt8.toNat_ofNat', Nat.mod_eq_of_lt (by omega)]
            simp [this, en8]
          rw [e1, e2, Hcsl.out]
          simpa using hoF
        · rw [← HGp.out, Hcs.out, ← hq]; simp
        · rw [hcell]
          simp [intOf]
          omega
    · obtain rfl : p = t := by omega
      have d1 : decide ((p : Int) < (p : Int)) = false := by simp only [decide_eq_false_iff_not]; omega
      rw [Win.lits_done hpt2, List.append_nil] at hGp
      have HFp := Lib.hid hFp
      have HVp := Lib.hid hVp
      have Hbp := Lib.hid hbp
      clear hFp hVp hbp
      go_wp2_with fail
      go_end0
      exact ⟨rfl, HFp.out, hGp ▸ HVp.out, Hbp.out⟩
end Go.Proofs.YtinciddchpccnaaDoor
