/- What later texts need of the earlier layers. -/
import Derived.Test.YtinciddchpccnaaDoorBxO
import Derived.Test.YtinciddchpccnaaDoorBxS
import Derived.Test.YtinciddchpccnaaDoorBxT
import Derived.Test.YtinciddchpccnaaDoorBxC
import Derived.Test.YtinciddchpccnaaDoorBxA
import Derived.Test.YtinciddchpccnaaDoorWinMath
import Derived.Test.YtinciddchpccnaaDoorWinNum
import Derived.Test.YtinciddchpccnaaDoorWinSame
import Derived.Test.YtinciddchpccnaaDoorOwnApp
import Derived.Test.YtinciddchpccnaaDoorWinOwn
import Derived.Test.YtinciddchpccnaaDoorWinOwn8
import Derived.Test.YtinciddchpccnaaDoorWinKey
import Derived.Test.YtinciddchpccnaaDoorWinPack
import Derived.Test.YtinciddchpccnaaDoorWinUn
import Derived.Test.YtinciddchpccnaaDoorWinAgain
import Derived.Test.YtinciddchpccnaaDoorWinUp
import Derived.Test.YtinciddchpccnaaDoorWinFour
import Derived.Test.YtinciddchpccnaaDoorWinML
import Derived.Test.YtinciddchpccnaaDoorWinKnown
import Derived.Test.YtinciddchpccnaaDoorWinCP
import Derived.Test.YtinciddchpccnaaDoorWinFar
import Derived.Test.YtinciddchpccnaaDoorWinLong
import Derived.Test.YtinciddchpccnaaDoorWinRup
import Derived.Test.YtinciddchpccnaaDoorWinNew
import Derived.Test.YtinciddchpccnaaDoorWinStr
import Derived.Test.YtinciddchpccnaaDoorWinST
import Derived.Test.YtinciddchpccnaaDoorWinBest
import Derived.Test.YtinciddchpccnaaDoorWinRpk
import Derived.Test.YtinciddchpccnaaDoorWinPk
import Derived.Test.YtinciddchpccnaaDoorRunsMath
import Derived.Test.YtinciddchpccnaaDoorRunsNum
import Derived.Test.YtinciddchpccnaaDoorRunsES
import Derived.Test.YtinciddchpccnaaDoorRunsPut
import Derived.Test.YtinciddchpccnaaDoorRunsPk
import Derived.Test.YtinciddchpccnaaDoorRunsRR
import Derived.Test.YtinciddchpccnaaDoorWinThere
import Derived.Test.YtinciddchpccnaaDoorCrMath
import Derived.Test.YtinciddchpccnaaDoorCrSH
import Derived.Laws.ResultCell
import Derived.Laws.Rows
import Derived.Laws.EntriesVeiled
import Derived.Deep.RegionHeld3
import Derived.Deep.RegionWith
import Derived.Laws.MakeOwn
import Derived.Lib.BufferWrite
import Derived.Laws.CopyOwn
import Derived.Laws.BytesArg
set_option maxRecDepth 100000
/- ---- CrPack ---- -/
/- crate.Pack and the reference's: what they return. -/
namespace Go.Proofs.YtinciddchpccnaaDoor
open Go.RowKit
set_option linter.unusedVariables false
set_option linter.unusedSimpArgs false

theorem pack1_any (s : ByteArray) (w : World) : Calls Tryd.prog 85 #[.string s] w fun e w' => e = .returned (.string s) ∧ w = w' := by
  go_enter Tryd.func85, Tryd.ntmps85
  go_wp2_with fail
  go_ret
  exact ⟨rfl, rfl⟩
theorem pack2_any (s : ByteArray) (w : World) (hs : s.size ≤ 1000000000) : Calls Tryd.prog 88 #[.string s] w fun e w' => e = .returned (S (Win.pack (Rn.Runs.pack s.data.toList))) ∧ Below w.heap.size w w' := by
  have h1 := fun w : World => Rn.pack_any s w (by omega)
  have hlit : (Rn.Runs.pack s.data.toList).length ≤ s.size + (s.size + 127) / 128 := Rn.Runs.pack_little s.data.toList.length s.data.toList (Nat.le_refl _)
  obtain ⟨r, hr⟩ : ∃ r : ByteArray, (⟨(Rn.Runs.pack s.data.toList).toArray⟩ : ByteArray) = r := ⟨_, rfl⟩
  have hrl : r.data.toList = Rn.Runs.pack s.data.toList := by rw [← hr]
  have hrz : r.size ≤ s.size + (s.size + 127) / 128 := by rw [← hr]; exact hlit
  have h3 := fun w : World => pack_any r w (by omega)
  rw [hrl] at h3
  rw [hr] at h1
  have H1 := Lib.hid h1
  have H3 := Lib.hid h3
  clear h1 h3 hr hrl hlit
  go_enter Tryd.func88, Tryd.ntmps88
  go_wp2_with fail
  refine (H1.out _).mono ?_
  rintro e w1 ⟨rfl, hb1⟩
  go_wp2_with fail
  refine (H3.out _).mono ?_
  rintro e w2 ⟨rfl, hb2⟩
  go_wp2_with fail
  go_ret
  exact ⟨rfl, hb1.trans (hb2.mono hb1.size)⟩
theorem packers_any (w : World) : Calls Tryd.prog 58 #[] w fun e w' => e = .returned (.agg #[.func (Fn.func 85) #[] #[], .func (Fn.func 86) #[] #[], .func (Fn.func 87) #[] #[], .func (Fn.func 88) #[] #[]]) ∧ Below w.heap.size w w' := by
  go_enter Tryd.func58, Tryd.ntmps58
  go_wp2_with fail
  exact bodyPost_ret (results_cell_row rfl _ _ w.heap.size 90 _ (0, 0) _ rfl (heap_alloc_new _ _) Tryd.underlying90 rfl (by kernel_rfl)) rfl ⟨rfl, (Below.refl _ _).alloc (Nat.le_refl _) _⟩
theorem pick_0 (W : World) : (Instr.index 90 (.agg #[.func (Fn.func 85) #[] #[], .func (Fn.func 86) #[] #[], .func (Fn.func 87) #[] #[], .func (Fn.func 88) #[] #[]]) (.int .i64 0)).run Tryd.prog W = .ok (.func (Fn.func 85) #[] #[]) W := by kernel_rfl
theorem pick_1 (W : World) : (Instr.index 90 (.agg #[.func (Fn.func 85) #[] #[], .func (Fn.func 86) #[] #[], .func (Fn.func 87) #[] #[], .func (Fn.func 88) #[] #[]]) (.int .i64 1)).run Tryd.prog W = .ok (.func (Fn.func 86) #[] #[]) W := by kernel_rfl
theorem pick_2 (W : World) : (Instr.index 90 (.agg #[.func (Fn.func 85) #[] #[], .func (Fn.func 86) #[] #[], .func (Fn.func 87) #[] #[], .func (Fn.func 88) #[] #[]]) (.int .i64 2)).run Tryd.prog W = .ok (.func (Fn.func 87) #[] #[]) W := by kernel_rfl
theorem pick_3 (W : World) : (Instr.index 90 (.agg #[.func (Fn.func 85) #[] #[], .func (Fn.func 86) #[] #[], .func (Fn.func 87) #[] #[], .func (Fn.func 88) #[] #[]]) (.int .i64 3)).run Tryd.prog W = .ok (.func (Fn.func 88) #[] #[]) W := by kernel_rfl
/-- the best of the first j ways -/
def Cr.upto (l : List UInt8) : Nat → Nat × List UInt8
  | 0 => (0, l)
  | j + 1 => Cr.better l j (Cr.upto l j)
theorem S_self (s : ByteArray) : S s.data.toList = .string s := by obtain ⟨⟨l⟩⟩ := s; rfl
theorem Cr.upto_succ (l : List UInt8) (j : Nat) : Cr.upto l (j + 1) = Cr.better l j (Cr.upto l j) := rfl
theorem Cr.upto_one (l : List UInt8) : Cr.upto l 1 = (0, l) := by
  show (if (Cr.way 0 l).length < l.length then (0, Cr.way 0 l) else (0, l)) = _
  have e : Cr.way 0 l = l := by unfold Cr.way; simp
  rw [e, if_neg (by omega)]
theorem Cr.upto_four (l : List UInt8) : Cr.upto l 4 = Cr.choose l := by
  rw [Cr.upto_succ, Cr.upto_succ, Cr.upto_succ, Cr.upto_one]
  rfl
theorem Cr.upto_len (l : List UInt8) (j : Nat) : (Cr.upto l j).2.length ≤ l.length ∧ (Cr.upto l j).1 ≤ j := by
  induction j with
  | zero => exact ⟨Nat.le_refl _, Nat.le_refl _⟩
  | succ j ih =>
    rw [Cr.upto_succ]
    unfold Cr.better
    split
    · exact ⟨by show (Cr.way j l).length ≤ _; omega, by show j ≤ _; omega⟩
    · exact ⟨ih.1, by omega⟩
theorem Cr.way_len (l : List UInt8) (j : Nat) : (Cr.way j l).length ≤ 2 * (l.length + 300) := by
  have hl : (Rn.Runs.pack l).length ≤ l.length + (l.length + 127) / 128 := Rn.Runs.pack_little l.length l (Nat.le_refl _)
  have h2 := Win.pack_little l
  have h3 := Win.pack_little (Rn.Runs.pack l)
  unfold Cr.way
  split
  · omega
  · split
    · omega
    · split
      · omega
      · omega
set_option maxHeartbeats 1600000 in
theorem crPack_any (s : ByteArray) (w : World) (hs : s.size ≤ 32768) :
    Calls Tryd.prog 28 #[.string s] w fun e w' => e = .returned (.tuple #[S (Cr.pack s.data.toList), .int .i64 0]) ∧ Below w.heap.size w w' := by
  have hlen : s.data.toList.length = s.size := rfl
  have hself : S s.data.toList = .string s := by obtain ⟨⟨l⟩⟩ := s; rfl
  have hd : decide ((32768 : Int) < (s.size : Int)) = false := by simp only [decide_eq_false_iff_not]; omega
  have hd' : decide (32768 < s.size) = false := by simp only [decide_eq_false_iff_not]; omega
  have k0 : ∀ w : World, Calls Tryd.prog 85 #[.string s] w fun e w' => e = .returned (S (Cr.way 0 s.data.toList)) ∧ Below w.heap.size w w' := fun w => (pack1_any s w).mono fun e w' ⟨h1, h2⟩ => ⟨by rw [h1, show Cr.way 0 s.data.toList = s.data.toList by unfold Cr.way; simp, hself], h2 ▸ Below.refl _ _⟩
  have k1 : ∀ w : World, Calls Tryd.prog 86 #[.string s] w fun e w' => e = .returned (S (Cr.way 1 s.data.toList)) ∧ Below w.heap.size w w' := fun w => (Rn.pack_any s w (by omega)).mono fun e w' ⟨h1, h2⟩ => ⟨h1, h2⟩
  have k2 : ∀ w : World, Calls Tryd.prog 87 #[.string s] w fun e w' => e = .returned (S (Cr.way 2 s.data.toList)) ∧ Below w.heap.size w w' := fun w => (pack_any s w (by omega)).mono fun e w' ⟨h1, h2⟩ => ⟨h1, h2⟩
  have k3 : ∀ w : World, Calls Tryd.prog 88 #[.string s] w fun e w' => e = .returned (S (Cr.way 3 s.data.toList)) ∧ Below w.heap.size w w' := fun w => (pack2_any s w (by omega)).mono fun e w' ⟨h1, h2⟩ => ⟨h1, h2⟩
  have K0 := Lib.hid k0
  have K1 := Lib.hid k1
  have K2 := Lib.hid k2
  have K3 := Lib.hid k3
  have Hself := Lib.hid hself
  have Hlen := Lib.hid hlen
  clear k0 k1 k2 k3 hself hlen
  go_enter Tryd.func28, Tryd.ntmps28
  go_wp2_with fail
  refine (packers_any _).mono ?_
  rintro e w1 ⟨rfl, hb1⟩
  have Hb1 := Lib.hid hb1
  clear hb1
  go_wp2_with fail
  go_loopw [4, 5, 16] (fun v u c wr => ∃ j : Nat, j ≤ 4 ∧ c = .int .i64 (j : Int) ∧ v = .int .i64 ((Cr.upto s.data.toList j).1 : Int) ∧ u = S (Cr.upto s.data.toList j).2 ∧ Below w.heap.size w wr) (fun _ _ c _ => 4 - (intOf c).toNat)
  case atStart => exact ⟨0, by omega, rfl, rfl, (S_self s).symm, Hb1.out⟩
  case round =>
    obtain ⟨j, hj, rfl, rfl, rfl, hb⟩ := hrel
    have hul := (Cr.upto_len s.data.toList j).1
    rw [Hlen.out] at hul
    have hwl := Cr.way_len s.data.toList j
    rw [Hlen.out] at hwl
    have hup := Cr.upto_succ s.data.toList j
    unfold Cr.better at hup
    obtain ⟨pb, hpb⟩ : ∃ pb, (Cr.upto s.data.toList j).2 = pb := ⟨_, rfl⟩
    obtain ⟨pk, hpk⟩ : ∃ pk, (Cr.upto s.data.toList j).1 = pk := ⟨_, rfl⟩
    obtain ⟨tj, htj⟩ : ∃ tj, Cr.way j s.data.toList = tj := ⟨_, rfl⟩
    rw [hpb] at hul hup ⊢
    rw [hpk]
    rw [htj] at hwl hup
    obtain ⟨P, hP⟩ : ∃ P : ByteArray, (⟨pb.toArray⟩ : ByteArray) = P := ⟨_, rfl⟩
    obtain ⟨T, hT⟩ : ∃ T : ByteArray, (⟨tj.toArray⟩ : ByteArray) = T := ⟨_, rfl⟩
    have hPz : P.size = pb.length := by rw [← hP]; rfl
    have hTz : T.size = tj.length := by rw [← hT]; rfl
    have hSP : S pb = .string P := by rw [← hP]
    have hST : S tj = .string T := by rw [← hT]
    rw [← hPz, ← hTz] at hup
    rw [← hPz] at hul
    rw [← hTz] at hwl
    rw [hSP]
    have Hup := Lib.hid hup
    have Hb := Lib.hid hb
    have Htj := Lib.hid htj
    have HSP := Lib.hid hSP
    have HST := Lib.hid hST
    have Hpb := Lib.hid hpb
    have Hpk := Lib.hid hpk
    clear hup hb htj hpb hpk hP hT hPz hTz hSP hST
    have hj5 : j = 0 ∨ j = 1 ∨ j = 2 ∨ j = 3 ∨ j = 4 := by omega
    rcases hj5 with rfl | rfl | rfl | rfl | rfl
    · have hcon := K0.out
      rw [Htj.out, HST.out] at hcon
      have Hcon := Lib.hid hcon
      have hpick := pick_0
      clear hcon
      by_cases hless : T.size < P.size
      · have d4 : decide ((T.size : Int) < (P.size : Int)) = true := by simp only [decide_eq_true_eq]; omega
        have d4' : decide (T.size < P.size) = true := by simp only [decide_eq_true_eq]; omega
        have hup2 := Hup.out
        rw [if_pos hless] at hup2
        have Hup2 := Lib.hid hup2
        clear hup2 hless
        go_wp2_with fail
        refine (Hcon.out _).mono ?_
        rintro e w2 ⟨rfl, hb2⟩
        have Hb2 := Lib.hid (Hb.out.trans (hb2.mono Hb.out.size))
        clear hb2
        go_wp2_with fail
        refine ⟨⟨1, by omega, rfl, by rw [Hup2.out]; rfl, by rw [Hup2.out]; exact HST.out.symm, Hb2.out⟩, by simp [intOf]⟩
      · have d4 : decide ((T.size : Int) < (P.size : Int)) = false := by simp only [decide_eq_false_iff_not]; omega
        have d4' : decide (T.size < P.size) = false := by simp only [decide_eq_false_iff_not]; omega
        have hup2 := Hup.out
        rw [if_neg hless] at hup2
        have Hup2 := Lib.hid hup2
        clear hup2 hless
        go_wp2_with fail
        refine (Hcon.out _).mono ?_
        rintro e w2 ⟨rfl, hb2⟩
        have Hb2 := Lib.hid (Hb.out.trans (hb2.mono Hb.out.size))
        clear hb2
        go_wp2_with fail
        refine ⟨⟨1, by omega, rfl, by rw [Hup2.out, Hpk.out], by rw [Hup2.out, Hpb.out]; exact HSP.out.symm, Hb2.out⟩, by simp [intOf]⟩
    · have hcon := K1.out
      rw [Htj.out, HST.out] at hcon
      have Hcon := Lib.hid hcon
      have hpick := pick_1
      clear hcon
      by_cases hless : T.size < P.size
      · have d4 : decide ((T.size : Int) < (P.size : Int)) = true := by simp only [decide_eq_true_eq]; omega
        have d4' : decide (T.size < P.size) = true := by simp only [decide_eq_true_eq]; omega
        have hup2 := Hup.out
        rw [if_pos hless] at hup2
        have Hup2 := Lib.hid hup2
        clear hup2 hless
        go_wp2_with fail
        refine (Hcon.out _).mono ?_
        rintro e w2 ⟨rfl, hb2⟩
        have Hb2 := Lib.hid (Hb.out.trans (hb2.mono Hb.out.size))
        clear hb2
        go_wp2_with fail
        refine ⟨⟨2, by omega, rfl, by rw [Hup2.out]; rfl, by rw [Hup2.out]; exact HST.out.symm, Hb2.out⟩, by simp [intOf]⟩
      · have d4 : decide ((T.size : Int) < (P.size : Int)) = false := by simp only [decide_eq_false_iff_not]; omega
        have d4' : decide (T.size < P.size) = false := by simp only [decide_eq_false_iff_not]; omega
        have hup2 := Hup.out
        rw [if_neg hless] at hup2
        have Hup2 := Lib.hid hup2
        clear hup2 hless
        go_wp2_with fail
        refine (Hcon.out _).mono ?_
        rintro e w2 ⟨rfl, hb2⟩
        have Hb2 := Lib.hid (Hb.out.trans (hb2.mono Hb.out.size))
        clear hb2
        go_wp2_with fail
        refine ⟨⟨2, by omega, rfl, by rw [Hup2.out, Hpk.out], by rw [Hup2.out, Hpb.out]; exact HSP.out.symm, Hb2.out⟩, by simp [intOf]⟩
    · have hcon := K2.out
      rw [Htj.out, HST.out] at hcon
      have Hcon := Lib.hid hcon
      have hpick := pick_2
      clear hcon
      by_cases hless : T.size < P.size
      · have d4 : decide ((T.size : Int) < (P.size : Int)) = true := by simp only [decide_eq_true_eq]; omega
        have d4' : decide (T.size < P.size) = true := by simp only [decide_eq_true_eq]; omega
        have hup2 := Hup.out
        rw [if_pos hless] at hup2
        have Hup2 := Lib.hid hup2
        clear hup2 hless
        go_wp2_with fail
        refine (Hcon.out _).mono ?_
        rintro e w2 ⟨rfl, hb2⟩
        have Hb2 := Lib.hid (Hb.out.trans (hb2.mono Hb.out.size))
        clear hb2
        go_wp2_with fail
        refine ⟨⟨3, by omega, rfl, by rw [Hup2.out]; rfl, by rw [Hup2.out]; exact HST.out.symm, Hb2.out⟩, by simp [intOf]⟩
      · have d4 : decide ((T.size : Int) < (P.size : Int)) = false := by simp only [decide_eq_false_iff_not]; omega
        have d4' : decide (T.size < P.size) = false := by simp only [decide_eq_false_iff_not]; omega
        have hup2 := Hup.out
        rw [if_neg hless] at hup2
        have Hup2 := Lib.hid hup2
        clear hup2 hless
        go_wp2_with fail
        refine (Hcon.out _).mono ?_
        rintro e w2 ⟨rfl, hb2⟩
        have Hb2 := Lib.hid (Hb.out.trans (hb2.mono Hb.out.size))
        clear hb2
        go_wp2_with fail
        refine ⟨⟨3, by omega, rfl, by rw [Hup2.out, Hpk.out], by rw [Hup2.out, Hpb.out]; exact HSP.out.symm, Hb2.out⟩, by simp [intOf]⟩
    · have hcon := K3.out
      rw [Htj.out, HST.out] at hcon
      have Hcon := Lib.hid hcon
      have hpick := pick_3
      clear hcon
      by_cases hless : T.size < P.size
      · have d4 : decide ((T.size : Int) < (P.size : Int)) = true := by simp only [decide_eq_true_eq]; omega
        have d4' : decide (T.size < P.size) = true := by simp only [decide_eq_true_eq]; omega
        have hup2 := Hup.out
        rw [if_pos hless] at hup2
        have Hup2 := Lib.hid hup2
        clear hup2 hless
        go_wp2_with fail
        refine (Hcon.out _).mono ?_
        rintro e w2 ⟨rfl, hb2⟩
        have Hb2 := Lib.hid (Hb.out.trans (hb2.mono Hb.out.size))
        clear hb2
        go_wp2_with fail
        refine ⟨⟨4, by omega, rfl, by rw [Hup2.out]; rfl, by rw [Hup2.out]; exact HST.out.symm, Hb2.out⟩, by simp [intOf]⟩
      · have d4 : decide ((T.size : Int) < (P.size : Int)) = false := by simp only [decide_eq_false_iff_not]; omega
        have d4' : decide (T.size < P.size) = false := by simp only [decide_eq_false_iff_not]; omega
        have hup2 := Hup.out
        rw [if_neg hless] at hup2
        have Hup2 := Lib.hid hup2
        clear hup2 hless
        go_wp2_with fail
        refine (Hcon.out _).mono ?_
        rintro e w2 ⟨rfl, hb2⟩
        have Hb2 := Lib.hid (Hb.out.trans (hb2.mono Hb.out.size))
        clear hb2
        go_wp2_with fail
        refine ⟨⟨4, by omega, rfl, by rw [Hup2.out, Hpk.out], by rw [Hup2.out, Hpb.out]; exact HSP.out.symm, Hb2.out⟩, by simp [intOf]⟩
    · have h4 := Cr.upto_four s.data.toList
      have hch := Cr.choose_way s.data.toList
      have hpk4 : pk < 4 := by rw [← Hpk.out, h4]; exact hch.2.1
      have hfin : Cr.pack s.data.toList = [UInt8.ofNat pk] ++ Oct.num s.size ++ Cr.four (Cr.sum s.data.toList) ++ pb := by
        unfold Cr.pack Cr.head
        rw [← h4, Hpk.out, Hpb.out, Hlen.out]; simp
      have hsum := fun w : World => sumBytes_any s w (by omega)
      obtain ⟨nb, hnb⟩ : ∃ nb, Oct.num s.size = nb := ⟨_, rfl⟩
      have hnl : nb.length ≤ 9 := by rw [← hnb]; exact Oct.num_length_le _
      have hnum := fun w : World => Number_any (s.size : Int) w (by omega)
      rw [numE_pos, hnb] at hnum
      rw [hnb] at hfin
      obtain ⟨fb, hfb⟩ : ∃ fb, Cr.four (Cr.sum s.data.toList) = fb := ⟨_, rfl⟩
      have hfl : fb.length = 4 := by rw [← hfb]; rfl
      rw [hfb] at hsum hfin
      obtain ⟨NB, hNB⟩ : ∃ NB : ByteArray, (⟨nb.toArray⟩ : ByteArray) = NB := ⟨_, rfl⟩
      obtain ⟨FB, hFB⟩ : ∃ FB : ByteArray, (⟨fb.toArray⟩ : ByteArray) = FB := ⟨_, rfl⟩
      obtain ⟨OB, hOB⟩ : ∃ OB : ByteArray, (⟨[UInt8.ofNat pk].toArray⟩ : ByteArray) = OB := ⟨_, rfl⟩
      have hNz : NB.size ≤ 9 := by rw [← hNB]; exact hnl
      have hFz : FB.size = 4 := by rw [← hFB]; exact hfl
      have hOz : OB.size = 1 := by rw [← hOB]; rfl
      have hres : S (Cr.pack s.data.toList) = .string (OB ++ NB ++ FB ++ P) := by
        rw [hfin, ← hOB, ← hNB, ← hFB, append_list, append_list]
        have hP2 : (⟨pb.toArray⟩ : ByteArray) = P := by have := HSP.out; injection this
        rw [← hP2, append_list]
      have hnum2 : ∀ w : World, Calls Tryd.prog 59 #[.int .i64 (s.size : Int)] w fun e w' => e = .returned (.tuple #[.string NB, .int .i64 0]) ∧ Below w.heap.size w w' := by
        intro w; rw [← hNB]; exact hnum w
      have hsum2 : ∀ w : World, Calls Tryd.prog 60 #[.string s] w fun e w' => e = .returned (.string FB) ∧ Below w.heap.size w w' := by
        intro w; rw [← hFB]; exact hsum w
      have hone : ∀ (W : World) (g : Nat), W.cell? ⟨g, 0, none⟩ = some (.int .u8 (pk : Int)) → (convert 48 9 (.slice (some ⟨g, 0, none⟩) 1 1)).run Tryd.prog W = .ok (.string OB) W := by
        intro W g h
        have := one_byte_run W g (pk : Int) h
        rw [Int.toNat_natCast] at this
        rw [← hOB]; exact this
      have Hnum := Lib.hid hnum2
      have Hsum := Lib.hid hsum2
      have Hone := Lib.hid hone
      have Hres := Lib.hid hres
      clear hnum hnum2 hsum hsum2 hone hres hNB hFB hOB hfb hnb hfin hch h4 hnl hfl
      have hk8 : IntKind.u8.wrap (pk : Int) = (pk : Int) := by rw [IntKind.wrap_u8]; omega
      have hk8' : (pk : Int) % 256 = (pk : Int) := by omega
      have hg1 : OB.size + NB.size ≤ 9223372036854775807 := by omega
      have hg2 : OB.size + NB.size + FB.size ≤ 9223372036854775807 := by omega
      have hg3 : OB.size + NB.size + FB.size + P.size ≤ 9223372036854775807 := by omega
      clear hOz hNz hFz
      go_wp2_with fail
      refine (Hnum.out _).mono ?_
      rintro e w2 ⟨rfl, hb2⟩
      have hb3 := (Hb.out.trans (hb2.mono Hb.out.size))
      have HB3 := Lib.hid hb3
      clear hb2 hb3
      go_wp2_with fail
      refine wp_region_noPanic ?_
      refine wp_region_held_drew (S := fun w' => Below w.heap.size w w') (by kernel_rfl) (HB3.out.drew) (fun hHeld => ?_)
      generalize w2.drew = w6 at *
      refine wpAnyH_take (i := 0) (v := .int .i64 (pk : Int)) rfl (by kernel_rfl) (by kernel_rfl) (by kernel_rfl) (fun _ _ _ h => h) (Or.inl ⟨by rfl, fun w' hSw => by go_simp⟩) hHeld ?_
      try simp only [Act.put, List.getElem_toArray, List.getElem_cons_succ, List.getElem_cons_zero, List.setIfInBounds_toArray, List.set_cons_zero, List.set_cons_succ]
      refine wpAnyH_take (i := 1) (v := .int .u8 (pk : Int)) rfl (by kernel_rfl) (by kernel_rfl) (by kernel_rfl) (fun _ _ _ h => h) (Or.inl ⟨by rfl, fun w' hSw => by go_simp⟩) hHeld ?_
      try simp only [Act.put, List.getElem_toArray, List.getElem_cons_succ, List.getElem_cons_zero, List.setIfInBounds_toArray, List.set_cons_zero, List.set_cons_succ]
      refine wpAnyH_take (i := 4) (v := .string NB) rfl (by kernel_rfl) (by kernel_rfl) (by kernel_rfl) (fun _ _ _ h => h) (Or.inl ⟨by rfl, fun w' hSw => by go_simp⟩) hHeld ?_
      try simp only [Act.put, List.getElem_toArray, List.getElem_cons_succ, List.getElem_cons_zero, List.setIfInBounds_toArray, List.set_cons_zero, List.set_cons_succ]
      refine wpAnyH_take (i := 6) (v := .string s) rfl (by kernel_rfl) (by kernel_rfl) (by kernel_rfl) (fun _ _ _ h => h) (Or.inl ⟨by rfl, fun w' hSw => by go_simp⟩) hHeld ?_
      try simp only [Act.put, List.getElem_toArray, List.getElem_cons_succ, List.getElem_cons_zero, List.setIfInBounds_toArray, List.set_cons_zero, List.set_cons_succ]
      refine wpAnyH_take (i := 9) (v := .string P) rfl (by kernel_rfl) (by kernel_rfl) (by kernel_rfl) (fun _ _ _ h => h) (Or.inl ⟨by rfl, fun w' hSw => by go_simp⟩) hHeld ?_
      try simp only [Act.put, List.getElem_toArray, List.getElem_cons_succ, List.getElem_cons_zero, List.setIfInBounds_toArray, List.set_cons_zero, List.set_cons_succ]
      refine wpAnyH_ready (rs := [2, 7]) (by kernel_rfl) (by simp) (AllReadyH.cons rfl (fun K1 hK1 => ?_) (AllReadyH.cons rfl (fun K1 hK1 => ?_) AllReadyH.nil))
      · try simp only [Act.put, List.getElem_toArray, List.getElem_cons_succ, List.getElem_cons_zero, List.setIfInBounds_toArray, List.set_cons_zero, List.set_cons_succ]
        go_simp
        obtain ⟨wa, hwa⟩ : ∃ wa, wa = w6.alloc (.cells #[.int .u8 (pk : Int)] 5) := ⟨_, rfl⟩
        rw [← hwa]
        have hca : wa.cell? ⟨w6.heap.size, 0, none⟩ = some (.int .u8 (pk : Int)) := by rw [hwa]; simp [go_sem]
        have hla : w6.heap.size < wa.heap.size := by rw [hwa]; simp
        refine hK1.out _ _ (by rw [hwa]; exact hHeld.alloc hHeld.size _) (fun hHeld => ?_)
        clear hK1 K1 hwa
        try simp only [Act.put, List.getElem_toArray, List.getElem_cons_succ, List.getElem_cons_zero, List.setIfInBounds_toArray, List.set_cons_zero, List.set_cons_succ]
        refine wpAnyH_ready (rs := [3, 7]) (by kernel_rfl) (by simp) (AllReadyH.cons rfl (fun K1 hK1 => ?_) (AllReadyH.cons rfl (fun K1 hK1 => ?_) AllReadyH.nil))
        · try simp only [Act.put, List.getElem_toArray, List.getElem_cons_succ, List.getElem_cons_zero, List.setIfInBounds_toArray, List.set_cons_zero, List.set_cons_succ]
          have hcv := Hone.out wa w6.heap.size hca
          go_simp
          clear hcv
          refine hK1.out _ _ (hHeld) (fun hHeld => ?_)
          clear hK1 K1
          try simp only [Act.put, List.getElem_toArray, List.getElem_cons_succ, List.getElem_cons_zero, List.setIfInBounds_toArray, List.set_cons_zero, List.set_cons_succ]
          refine wpAnyH_take (i := 5) (v := .string (OB ++ NB)) rfl (by kernel_rfl) (by kernel_rfl) (by kernel_rfl) (fun _ _ _ h => h) (Or.inl ⟨by rfl, fun w' hSw => by go_simp⟩) hHeld ?_
          try simp only [Act.put, List.getElem_toArray, List.getElem_cons_succ, List.getElem_cons_zero, List.setIfInBounds_toArray, List.set_cons_zero, List.set_cons_succ]
          refine wpAnyH_ready (rs := [7]) (by kernel_rfl) (by simp) (AllReadyH.cons rfl (fun K1 hK1 => ?_) AllReadyH.nil)
          try simp only [Act.put, List.getElem_toArray, List.getElem_cons_succ, List.getElem_cons_zero, List.setIfInBounds_toArray, List.set_cons_zero, List.set_cons_succ]
          go_simp
          refine Calls.mono (Hsum.out _) ?_
          rintro e wb ⟨rfl, hbb⟩
          refine hK1.out _ _ (hHeld.trans (hbb.mono hHeld.size)) (fun hHeld => ?_)
          clear hK1 K1
          try simp only [Act.put, List.getElem_toArray, List.getElem_cons_succ, List.getElem_cons_zero, List.setIfInBounds_toArray, List.set_cons_zero, List.set_cons_succ]
          refine wpAnyH_take (i := 8) (v := .string (OB ++ NB ++ FB)) rfl (by kernel_rfl) (by kernel_rfl) (by kernel_rfl) (fun _ _ _ h => h) (Or.inl ⟨by rfl, fun w' hSw => by go_simp⟩) hHeld ?_
          try simp only [Act.put, List.getElem_toArray, List.getElem_cons_succ, List.getElem_cons_zero, List.setIfInBounds_toArray, List.set_cons_zero, List.set_cons_succ]
          refine wpAnyH_take (i := 10) (v := .string (OB ++ NB ++ FB ++ P)) rfl (by kernel_rfl) (by kernel_rfl) (by kernel_rfl) (fun _ _ _ h => h) (Or.inl ⟨by rfl, fun w' hSw => by go_simp⟩) hHeld ?_
          try simp only [Act.put, List.getElem_toArray, List.getElem_cons_succ, List.getElem_cons_zero, List.setIfInBounds_toArray, List.set_cons_zero, List.set_cons_succ]
          refine wpAnyH_take (i := 11) (v := .string (OB ++ NB ++ FB ++ P)) rfl (by kernel_rfl) (by kernel_rfl) (by kernel_rfl) (fun _ _ _ h => h) (Or.inl ⟨by rfl, fun w' hSw => by go_simp⟩) hHeld ?_
          try simp only [Act.put, List.getElem_toArray, List.getElem_cons_succ, List.getElem_cons_zero, List.setIfInBounds_toArray, List.set_cons_zero, List.set_cons_succ]
          refine wpAnyH_take (i := 12) (v := .int .i64 0) rfl (by kernel_rfl) (by kernel_rfl) (by kernel_rfl) (fun _ _ _ h => h) (Or.inl ⟨by rfl, fun w' hSw => by go_simp⟩) hHeld ?_
          try simp only [Act.put, List.getElem_toArray, List.getElem_cons_succ, List.getElem_cons_zero, List.setIfInBounds_toArray, List.set_cons_zero, List.set_cons_succ]
          refine wpAnyH_done (by kernel_rfl) ?_ _
          refine NoPanic.normal ?_
          have Hh := Lib.hid hHeld
          clear hHeld
          go_wp2_with fail
          go_ret2
          exact ⟨by rw [Hres.out]; rfl, Hh.out⟩
        · try simp only [Act.put, List.getElem_toArray, List.getElem_cons_succ, List.getElem_cons_zero, List.setIfInBounds_toArray, List.set_cons_zero, List.set_cons_succ]
          go_simp
          refine Calls.mono (Hsum.out _) ?_
          rintro e wb ⟨rfl, hbb⟩
          refine hK1.out _ _ (hHeld.trans (hbb.mono hHeld.size)) (fun hHeld => ?_)
          clear hK1 K1
          try simp only [Act.put, List.getElem_toArray, List.getElem_cons_succ, List.getElem_cons_zero, List.setIfInBounds_toArray, List.set_cons_zero, List.set_cons_succ]
          have hca := (hbb.cell (p := ⟨w6.heap.size, 0, none⟩) hla).trans hca
          refine wpAnyH_ready (rs := [3]) (by kernel_rfl) (by simp) (AllReadyH.cons rfl (fun K1 hK1 => ?_) AllReadyH.nil)
          try simp only [Act.put, List.getElem_toArray, List.getElem_cons_succ, List.getElem_cons_zero, List.setIfInBounds_toArray, List.set_cons_zero, List.set_cons_succ]
          have hcv := Hone.out wb w6.heap.size hca
          go_simp
          clear hcv
          refine hK1.out _ _ (hHeld) (fun hHeld => ?_)
          clear hK1 K1
          try simp only [Act.put, List.getElem_toArray, List.getElem_cons_succ, List.getElem_cons_zero, List.setIfInBounds_toArray, List.set_cons_zero, List.set_cons_succ]
          refine wpAnyH_take (i := 5) (v := .string (OB ++ NB)) rfl (by kernel_rfl) (by kernel_rfl) (by kernel_rfl) (fun _ _ _ h => h) (Or.inl ⟨by rfl, fun w' hSw => by go_simp⟩) hHeld ?_
          try simp only [Act.put, List.getElem_toArray, List.getElem_cons_succ, List.getElem_cons_zero, List.setIfInBounds_toArray, List.set_cons_zero, List.set_cons_succ]
          refine wpAnyH_take (i := 8) (v := .string (OB ++ NB ++ FB)) rfl (by kernel_rfl) (by kernel_rfl) (by kernel_rfl) (fun _ _ _ h => h) (Or.inl ⟨by rfl, fun w' hSw => by go_simp⟩) hHeld ?_
          try simp only [Act.put, List.getElem_toArray, List.getElem_cons_succ, List.getElem_cons_zero, List.setIfInBounds_toArray, List.set_cons_zero, List.set_cons_succ]
          refine wpAnyH_take (i := 10) (v := .string (OB ++ NB ++ FB ++ P)) rfl (by kernel_rfl) (by kernel_rfl) (by kernel_rfl) (fun _ _ _ h => h) (Or.inl ⟨by rfl, fun w' hSw => by go_simp⟩) hHeld ?_
          try simp only [Act.put, List.getElem_toArray, List.getElem_cons_succ, List.getElem_cons_zero, List.setIfInBounds_toArray, List.set_cons_zero, List.set_cons_succ]
          refine wpAnyH_take (i := 11) (v := .string (OB ++ NB ++ FB ++ P)) rfl (by kernel_rfl) (by kernel_rfl) (by kernel_rfl) (fun _ _ _ h => h) (Or.inl ⟨by rfl, fun w' hSw => by go_simp⟩) hHeld ?_
          try simp only [Act.put, List.getElem_toArray, List.getElem_cons_succ, List.getElem_cons_zero, List.setIfInBounds_toArray, List.set_cons_zero, List.set_cons_succ]
          refine wpAnyH_take (i := 12) (v := .int .i64 0) rfl (by kernel_rfl) (by kernel_rfl) (by kernel_rfl) (fun _ _ _ h => h) (Or.inl ⟨by rfl, fun w' hSw => by go_simp⟩) hHeld ?_
          try simp only [Act.put, List.getElem_toArray, List.getElem_cons_succ, List.getElem_cons_zero, List.setIfInBounds_toArray, List.set_cons_zero, List.set_cons_succ]
          refine wpAnyH_done (by kernel_rfl) ?_ _
          refine NoPanic.normal ?_
          have Hh := Lib.hid hHeld
          clear hHeld
          go_wp2_with fail
          go_ret2
          exact ⟨by rw [Hres.out]; rfl, Hh.out⟩
      · try simp only [Act.put, List.getElem_toArray, List.getElem_cons_succ, List.getElem_cons_zero, List.setIfInBounds_toArray, List.set_cons_zero, List.set_cons_succ]
        go_simp
        refine Calls.mono (Hsum.out _) ?_
        rintro e wb ⟨rfl, hbb⟩
        refine hK1.out _ _ (hHeld.trans (hbb.mono hHeld.size)) (fun hHeld => ?_)
        clear hK1 K1
        try simp only [Act.put, List.getElem_toArray, List.getElem_cons_succ, List.getElem_cons_zero, List.setIfInBounds_toArray, List.set_cons_zero, List.set_cons_succ]
        refine wpAnyH_ready (rs := [2]) (by kernel_rfl) (by simp) (AllReadyH.cons rfl (fun K1 hK1 => ?_) AllReadyH.nil)
        try simp only [Act.put, List.getElem_toArray, List.getElem_cons_succ, List.getElem_cons_zero, List.setIfInBounds_toArray, List.set_cons_zero, List.set_cons_succ]
        go_simp
        obtain ⟨wa, hwa⟩ : ∃ wa, wa = wb.alloc (.cells #[.int .u8 (pk : Int)] 5) := ⟨_, rfl⟩
        rw [← hwa]
        have hca : wa.cell? ⟨wb.heap.size, 0, none⟩ = some (.int .u8 (pk : Int)) := by rw [hwa]; simp [go_sem]
        have hla : wb.heap.size < wa.heap.size := by rw [hwa]; simp
        refine hK1.out _ _ (by rw [hwa]; exact hHeld.alloc hHeld.size _) (fun hHeld => ?_)
        clear hK1 K1 hwa
        try simp only [Act.put, List.getElem_toArray, List.getElem_cons_succ, List.getElem_cons_zero, List.setIfInBounds_toArray, List.set_cons_zero, List.set_cons_succ]
        refine wpAnyH_ready (rs := [3]) (by kernel_rfl) (by simp) (AllReadyH.cons rfl (fun K1 hK1 => ?_) AllReadyH.nil)
        try simp only [Act.put, List.getElem_toArray, List.getElem_cons_succ, List.getElem_cons_zero, List.setIfInBounds_toArray, List.set_cons_zero, List.set_cons_succ]
        have hcv := Hone.out wa wb.heap.size hca
        go_simp
        clear hcv
        refine hK1.out _ _ (hHeld) (fun hHeld => ?_)
        clear hK1 K1
        try simp only [Act.put, List.getElem_toArray, List.getElem_cons_succ, List.getElem_cons_zero, List.setIfInBounds_toArray, List.set_cons_zero, List.set_cons_succ]
        refine wpAnyH_take (i := 5) (v := .string (OB ++ NB)) rfl (by kernel_rfl) (by kernel_rfl) (by kernel_rfl) (fun _ _ _ h => h) (Or.inl ⟨by rfl, fun w' hSw => by go_simp⟩) hHeld ?_
        try simp only [Act.put, List.getElem_toArray, List.getElem_cons_succ, List.getElem_cons_zero, List.setIfInBounds_toArray, List.set_cons_zero, List.set_cons_succ]
        refine wpAnyH_take (i := 8) (v := .string (OB ++ NB ++ FB)) rfl (by kernel_rfl) (by kernel_rfl) (by kernel_rfl) (fun _ _ _ h => h) (Or.inl ⟨by rfl, fun w' hSw => by go_simp⟩) hHeld ?_
        try simp only [Act.put, List.getElem_toArray, List.getElem_cons_succ, List.getElem_cons_zero, List.setIfInBounds_toArray, List.set_cons_zero, List.set_cons_succ]
        refine wpAnyH_take (i := 10) (v := .string (OB ++ NB ++ FB ++ P)) rfl (by kernel_rfl) (by kernel_rfl) (by kernel_rfl) (fun _ _ _ h => h) (Or.inl ⟨by rfl, fun w' hSw => by go_simp⟩) hHeld ?_
        try simp only [Act.put, List.getElem_toArray, List.getElem_cons_succ, List.getElem_cons_zero, List.setIfInBounds_toArray, List.set_cons_zero, List.set_cons_succ]
        refine wpAnyH_take (i := 11) (v := .string (OB ++ NB ++ FB ++ P)) rfl (by kernel_rfl) (by kernel_rfl) (by kernel_rfl) (fun _ _ _ h => h) (Or.inl ⟨by rfl, fun w' hSw => by go_simp⟩) hHeld ?_
        try simp only [Act.put, List.getElem_toArray, List.getElem_cons_succ, List.getElem_cons_zero, List.setIfInBounds_toArray, List.set_cons_zero, List.set_cons_succ]
        refine wpAnyH_take (i := 12) (v := .int .i64 0) rfl (by kernel_rfl) (by kernel_rfl) (by kernel_rfl) (fun _ _ _ h => h) (Or.inl ⟨by rfl, fun w' hSw => by go_simp⟩) hHeld ?_
        try simp only [Act.put, List.getElem_toArray, List.getElem_cons_succ, List.getElem_cons_zero, List.setIfInBounds_toArray, List.set_cons_zero, List.set_cons_succ]
        refine wpAnyH_done (by kernel_rfl) ?_ _
        refine NoPanic.normal ?_
        have Hh := Lib.hid hHeld
        clear hHeld
        go_wp2_with fail
        go_ret2
        exact ⟨by rw [Hres.out]; rfl, Hh.out⟩
end Go.Proofs.YtinciddchpccnaaDoor
