/- What later texts need of the earlier layers. -/
/- What later texts need of the earlier layers. -/
import Derived.Test.YtinciddchpccnaaDoorBxO
import Derived.Test.YtinciddchpccnaaDoorBxS
import Derived.Test.YtinciddchpccnaaDoorBxT
import Derived.Test.YtinciddchpccnaaDoorBxC
import Derived.Test.YtinciddchpccnaaDoorBxA
import Derived.Test.YtinciddchpccnaaDoorWinMath
import Derived.Test.YtinciddchpccnaaDoorWinNum
import Derived.Test.YtinciddchpccnaaDoorWinSame
import Derived.Test.YtinciddchpccnaaDoorOwnApp
import Derived.Test.YtinciddchpccnaaDoorWinOwn
import Derived.Test.YtinciddchpccnaaDoorWinOwn8
import Derived.Test.YtinciddchpccnaaDoorWinKey
import Derived.Test.YtinciddchpccnaaDoorWinPack
import Derived.Test.YtinciddchpccnaaDoorWinUn
import Derived.Test.YtinciddchpccnaaDoorWinAgain
import Derived.Test.YtinciddchpccnaaDoorWinUp
import Derived.Test.YtinciddchpccnaaDoorWinFour
import Derived.Test.YtinciddchpccnaaDoorWinML
import Derived.Test.YtinciddchpccnaaDoorWinKnown
import Derived.Test.YtinciddchpccnaaDoorWinCP
import Derived.Test.YtinciddchpccnaaDoorWinFar
import Derived.Test.YtinciddchpccnaaDoorWinLong
import Derived.Test.YtinciddchpccnaaDoorWinRup
import Derived.Test.YtinciddchpccnaaDoorWinNew
import Derived.Test.YtinciddchpccnaaDoorWinStr
import Derived.Test.YtinciddchpccnaaDoorWinST
import Derived.Test.YtinciddchpccnaaDoorWinBest
import Derived.Test.YtinciddchpccnaaDoorWinRpk
import Derived.Test.YtinciddchpccnaaDoorWinPk
import Derived.Test.YtinciddchpccnaaDoorRunsMath
import Derived.Test.YtinciddchpccnaaDoorRunsNum
import Derived.Test.YtinciddchpccnaaDoorRunsES
import Derived.Test.YtinciddchpccnaaDoorRunsPut
import Derived.Test.YtinciddchpccnaaDoorRunsPk
import Derived.Test.YtinciddchpccnaaDoorRunsRR
import Derived.Test.YtinciddchpccnaaDoorWinThere
import Derived.Test.YtinciddchpccnaaDoorCrMath
import Derived.Test.YtinciddchpccnaaDoorCrSH
import Derived.Test.YtinciddchpccnaaDoorCrPack
import Derived.Deep.RegionWith
import Derived.Laws.MakeOwn
import Derived.Lib.BufferWrite
import Derived.Laws.CopyOwn
import Derived.Laws.BytesArg
import Derived.Test.YtinciddchpccnaaDoorRunsUU
import Derived.Test.YtinciddchpccnaaDoorRunsR3
set_option maxRecDepth 100000
/- ---- CrRpk ---- -/
/- The reference of layer 8: Pack; and what is too great for both. -/
namespace Go.Proofs.YtinciddchpccnaaDoor
open Go.RowKit
set_option linter.unusedVariables false
set_option linter.unusedSimpArgs false

set_option maxHeartbeats 800000 in
theorem crRefPack_any (s : ByteArray) (w : World) (hs : s.size ≤ 32768) :
    Calls Tryd.prog 31 #[.string s] w fun e w' => e = .returned (.tuple #[S (Cr.pack s.data.toList), .int .i64 0]) ∧ Below w.heap.size w w' := by
  have hlen : s.data.toList.length = s.size := rfl
  have hd : decide ((32768 : Int) < (s.size : Int)) = false := by simp only [decide_eq_false_iff_not]; omega
  have hd' : decide (32768 < s.size) = false := by simp only [decide_eq_false_iff_not]; omega
  have Hlen := Lib.hid hlen
  clear hlen
  go_enter Tryd.func31, Tryd.ntmps31
  go_wp2_with fail
  go_loopw [4, 5, 6] (fun v u c wr => ∃ j : Nat, 1 ≤ j ∧ j ≤ 4 ∧ c = .int .i64 (j : Int) ∧ v = .int .i64 ((Cr.upto s.data.toList j).1 : Int) ∧ u = S (Cr.upto s.data.toList j).2 ∧ Below w.heap.size w wr) (fun _ _ c _ => 4 - (intOf c).toNat)
  case atStart => exact ⟨1, by omega, by omega, rfl, by rw [Cr.upto_one]; rfl, by rw [Cr.upto_one], Below.refl _ _⟩
  case round =>
    obtain ⟨j, hj1, hj, rfl, rfl, rfl, hb⟩ := hrel
    have hul := (Cr.upto_len s.data.toList j).1
    rw [Hlen.out] at hul
    have hup := Cr.upto_succ s.data.toList j
    unfold Cr.better at hup
    by_cases hj4 : j ≤ 3
    · have d3 : decide ((j : Int) ≤ 3) = true := by simp only [decide_eq_true_eq]; omega
      have d3' : decide (j ≤ 3) = true := by simp only [decide_eq_true_eq]; omega
      have hwl := Cr.way_len s.data.toList j
      rw [Hlen.out] at hwl
      have hcon := fun w : World => way_any j s w (by omega) (by omega)
      obtain ⟨pb, hpb⟩ : ∃ pb, (Cr.upto s.data.toList j).2 = pb := ⟨_, rfl⟩
      obtain ⟨pk, hpk⟩ : ∃ pk, (Cr.upto s.data.toList j).1 = pk := ⟨_, rfl⟩
      obtain ⟨tj, htj⟩ : ∃ tj, Cr.way j s.data.toList = tj := ⟨_, rfl⟩
      rw [hpb] at hul hup ⊢
      rw [hpk]
      rw [htj] at hwl hup hcon
      obtain ⟨P, hP⟩ : ∃ P : ByteArray, (⟨pb.toArray⟩ : ByteArray) = P := ⟨_, rfl⟩
      obtain ⟨T, hT⟩ : ∃ T : ByteArray, (⟨tj.toArray⟩ : ByteArray) = T := ⟨_, rfl⟩
      have hPz : P.size = pb.length := by rw [← hP]; rfl
      have hTz : T.size = tj.length := by rw [← hT]; rfl
      have hSP : S pb = .string P := by rw [← hP]
      have hST : S tj = .string T := by rw [← hT]
      rw [← hPz, ← hTz] at hup
      rw [← hPz] at hul
      rw [← hTz] at hwl
      rw [hSP]
      rw [hST] at hcon
      have Hup := Lib.hid hup
      have Hb := Lib.hid hb
      have Hcon := Lib.hid hcon
      have HSP := Lib.hid hSP
      have HST := Lib.hid hST
      have Hpb := Lib.hid hpb
      have Hpk := Lib.hid hpk
      clear hup hb htj hpb hpk hP hT hPz hTz hSP hST hcon
      by_cases hless : T.size < P.size
      · have d4 : decide ((T.size : Int) < (P.size : Int)) = true := by simp only [decide_eq_true_eq]; omega
        have d4' : decide (T.size < P.size) = true := by simp only [decide_eq_true_eq]; omega
        have hup2 := Hup.out
        rw [if_pos hless] at hup2
        have Hup2 := Lib.hid hup2
        clear hup2 hless
        go_wp2_with fail
        refine (Hcon.out _).mono ?_
        rintro e w2 ⟨rfl, hb2⟩
        have Hb2 := Lib.hid (Hb.out.trans (hb2.mono Hb.out.size))
        clear hb2
        go_wp2_with fail
        refine ⟨⟨j + 1, by omega, by omega, by go_num, by rw [Hup2.out], by rw [Hup2.out]; exact HST.out.symm, Hb2.out⟩, by simp [intOf]; omega⟩
      · have d4 : decide ((T.size : Int) < (P.size : Int)) = false := by simp only [decide_eq_false_iff_not]; omega
        have d4' : decide (T.size < P.size) = false := by simp only [decide_eq_false_iff_not]; omega
        have hup2 := Hup.out
        rw [if_neg hless] at hup2
        have Hup2 := Lib.hid hup2
        clear hup2 hless
        go_wp2_with fail
        refine (Hcon.out _).mono ?_
        rintro e w2 ⟨rfl, hb2⟩
        have Hb2 := Lib.hid (Hb.out.trans (hb2.mono Hb.out.size))
        clear hb2
        go_wp2_with fail
        refine ⟨⟨j + 1, by omega, by omega, by go_num, by rw [Hup2.out, Hpk.out], by rw [Hup2.out, Hpb.out]; exact HSP.out.symm, Hb2.out⟩, by simp [intOf]; omega⟩
    · obtain rfl : j = 4 := by omega
      rw [Cr.upto_four] at hul ⊢
      have hch := Cr.choose_way s.data.toList
      have hfin : Cr.pack s.data.toList = Cr.head (Cr.choose s.data.toList).1 s.data.toList ++ (Cr.choose s.data.toList).2 := rfl
      generalize (Cr.choose s.data.toList).1 = pk at *
      generalize (Cr.choose s.data.toList).2 = pb at *
      have hpk4 : pk < 4 := hch.2.1
      have hhead := fun w : World => head_any pk s w (by omega) (by omega)
      have hhl : (Cr.head pk s.data.toList).length ≤ 14 := by
        have := Oct.num_length_le s.data.toList.length
        unfold Cr.head
        simp only [List.length_append, List.length_cons, Cr.four_len]
        omega
      generalize Cr.head pk s.data.toList = hb' at *
      obtain ⟨P, hP⟩ : ∃ P : ByteArray, (⟨pb.toArray⟩ : ByteArray) = P := ⟨_, rfl⟩
      obtain ⟨H, hH⟩ : ∃ H : ByteArray, (⟨hb'.toArray⟩ : ByteArray) = H := ⟨_, rfl⟩
      have hPz : P.size ≤ 32768 := by rw [← hP]; show pb.length ≤ _; omega
      have hHz : H.size ≤ 14 := by rw [← hH]; exact hhl
      have hSP : S pb = .string P := by rw [← hP]
      have hres : S (Cr.pack s.data.toList) = .string (H ++ P) := by rw [hfin, ← hH, ← hP, append_list]
      have hhead2 : ∀ w : World, Calls Tryd.prog 21 #[.int .i64 (pk : Int), .string s] w fun e w' => e = .returned (.string H) ∧ Below w.heap.size w w' := by
        intro w; rw [← hH]; exact hhead w
      rw [hSP]
      have Hhead := Lib.hid hhead2
      have Hres := Lib.hid hres
      have Hb := Lib.hid hb
      clear hhead hhead2 hres hb hP hH hSP hch hfin hhl hup
      have hg1 : H.size + P.size ≤ 9223372036854775807 := by omega
      go_wp2_with fail
      refine (Hhead.out _).mono ?_
      rintro e w2 ⟨rfl, hb2⟩
      have Hb2 := Lib.hid (Hb.out.trans (hb2.mono Hb.out.size))
      clear hb2
      go_wp2_with fail
      go_ret2
      exact ⟨by rw [Hres.out]; rfl, Hb2.out⟩
end Go.Proofs.YtinciddchpccnaaDoor
set_option maxRecDepth 100000
/- ---- CrBack ---- -/
/- crate.unpack: what it returns. -/
namespace Go.Proofs.YtinciddchpccnaaDoor
open Go.RowKit
set_option linter.unusedVariables false
set_option linter.unusedSimpArgs false

theorem Win.whatF_len (f : Nat) : ∀ (l K : List UInt8) (room : Nat) (K' : List UInt8), Win.whatF f l K room = .ok K' → K'.length ≤ K.length + room := by
  induction f with
  | zero =>
    intro l K room K' h
    unfold Win.whatF at h
    injection h with h
    subst h; omega
  | succ f ih =>
    intro l K room K' h
    match l, h with
    | [], h =>
      rw [Win.whatF_nil] at h
      injection h with h
      subst h; omega
    | c :: r, h =>
      by_cases h5 : c.toNat = 255
      · rw [Win.whatF_255 h5] at h; cases h
      · by_cases hc : c.toNat < 128
        · rw [Win.whatF_lit hc] at h
          split at h
          · cases h
          · split at h
            · cases h
            · have := ih _ _ _ _ h
              rw [List.length_append, List.length_take] at this
              omega
        · match r, h with
          | [], h => rw [Win.whatF_short hc h5 (by simp)] at h; cases h
          | [_], h => rw [Win.whatF_short hc h5 (by simp)] at h; cases h
          | x :: y :: r, h =>
            rw [Win.whatF_mat hc h5] at h
            split at h
            · cases h
            · rename_i hb
              split at h
              · cases h
              · have := ih _ _ _ _ h
                rw [Win.again_len (by omega) (by omega)] at this
                omega
theorem Win.unpack_len {l : List UInt8} {m : Nat} (h : (Win.unpack l (m : Int)).2 = 0) : (Win.unpack l (m : Int)).1.length ≤ m := by
  rw [Win.unpack_eq, if_neg (by omega), Int.toNat_natCast] at h ⊢
  rcases hw : Win.what l m with e | K
  · simp
  · have := Win.whatF_len _ _ _ _ _ hw
    rw [Win.static_len] at this
    simp
    omega
theorem upV_eq (l : List UInt8) (m : Int) : upV l m = .tuple #[S (Win.unpack l m).1, .int .i64 (Win.unpack l m).2] := by
  unfold upV
  rcases Win.unpack l m with ⟨a, e⟩
  rfl
theorem Rn.upV_eq (l : List UInt8) (m : Int) : Rn.upV l m = .tuple #[S (Rn.Runs.unpack l m).1, .int .i64 (Rn.Runs.unpack l m).2] := by
  unfold Rn.upV
  rcases Rn.Runs.unpack l m with ⟨a, e⟩
  rfl
abbrev pairV (p : List UInt8 × Int) : Value := .tuple #[S p.1, .int .i64 p.2]
theorem winUn_any (s : ByteArray) (m : Nat) (w : World) (hs : s.size ≤ 140737488351232) (hm : m ≤ 40000) :
    Calls Tryd.prog 92 #[.string s, .int .i64 (m : Int)] w fun e w' => e = .returned (pairV (Win.unpack s.data.toList m)) ∧ Below w.heap.size w w' := by
  have h := unpack_pos s m w (by omega) (by omega) (.inl (by omega))
  rw [upV_eq] at h
  exact h
theorem winRun_any (s : ByteArray) (m : Nat) (w : World) (hs : s.size ≤ 140737488351232) (hm : m ≤ 40000) :
    Calls Tryd.prog 73 #[.string s, .int .i64 (m : Int)] w fun e w' => e = .returned (pairV (Win.unpack s.data.toList m)) ∧ Below w.heap.size w w' := by
  have h := refUnpack_pos s m w (by omega) (by omega) (.inl (by omega))
  rw [upV_eq] at h
  exact h
theorem runUn_any (s : ByteArray) (m : Nat) (w : World) (hs : s.size ≤ 140737488351232) (hm : m ≤ 40000) :
    Calls Tryd.prog 91 #[.string s, .int .i64 (m : Int)] w fun e w' => e = .returned (pairV (Rn.Runs.unpack s.data.toList m)) ∧ Below w.heap.size w w' := by
  have h := Rn.unpack_pos s m w (by omega) (by omega) (.inl (by omega))
  rw [Rn.upV_eq] at h
  exact h
theorem runRun_any (s : ByteArray) (m : Nat) (w : World) (hs : s.size ≤ 140737488351232) (hm : m ≤ 40000) :
    Calls Tryd.prog 74 #[.string s, .int .i64 (m : Int)] w fun e w' => e = .returned (pairV (Rn.Runs.unpack s.data.toList m)) ∧ Below w.heap.size w w' := by
  have h := Rn.refUnpack_pos s m w (by omega) (by omega) (.inl (by omega))
  rw [Rn.upV_eq] at h
  exact h
set_option maxHeartbeats 800000 in
theorem crUnpack_any (k : Nat) (s : ByteArray) (n : Nat) (w : World) (hk : k < 4) (hs : s.size ≤ 140737488351232) (hn : n ≤ 32768) :
    Calls Tryd.prog 69 #[.int .i64 (k : Int), .string s, .int .i64 (n : Int)] w fun e w' => e = .returned (pairV (Cr.back k s.data.toList n)) ∧ Below w.heap.size w w' := by
  have hr := fun w : World => runUn_any s n w hs (by omega)
  have hw := fun w : World => winUn_any s n w hs (by omega)
  have hw3 := fun w : World => winUn_any s 33068 w hs (by omega)
  have hself := S_self s
  have Hr := Lib.hid hr
  have Hw := Lib.hid hw
  have Hw3 := Lib.hid hw3
  clear hr hw hw3
  unfold Cr.back
  match k, hk with
  | 0, _ =>
    rw [if_neg (by omega), if_neg (by omega), if_neg (by omega), show pairV (s.data.toList, 0) = .tuple #[.string s, .int .i64 0] by rw [← S_self s]]
    clear hself
    go_enter Tryd.func69, Tryd.ntmps69
    go_wp2_with fail
    go_ret2
    exact ⟨rfl, Below.refl _ _⟩
  | 1, _ =>
    rw [if_pos rfl]
    clear hself
    generalize Rn.Runs.unpack s.data.toList n = X at *
    go_enter Tryd.func69, Tryd.ntmps69
    go_wp2_with fail
    refine (Hr.out _).mono ?_
    rintro e w1 ⟨rfl, hb1⟩
    go_wp2_with fail
    go_ret2
    exact ⟨rfl, hb1⟩
  | 2, _ =>
    rw [if_neg (by omega), if_pos rfl]
    clear hself
    generalize Win.unpack s.data.toList n = X at *
    go_enter Tryd.func69, Tryd.ntmps69
    go_wp2_with fail
    refine (Hw.out _).mono ?_
    rintro e w1 ⟨rfl, hb1⟩
    go_wp2_with fail
    go_ret2
    exact ⟨rfl, hb1⟩
  | 3, _ =>
    rw [if_neg (by omega), if_neg (by omega), if_pos rfl]
    have hul := Win.unpack_len (l := s.data.toList) (m := 33068)
    clear hself
    have e33 : ((33068 : Nat) : Int) = 33068 := rfl
    rw [e33] at hul Hw3
    obtain ⟨⟨inner, e1⟩, hX⟩ : ∃ X, Win.unpack s.data.toList 33068 = X := ⟨_, rfl⟩
    rw [hX] at hul Hw3 ⊢
    clear hX
    obtain ⟨I, hI⟩ : ∃ I : ByteArray, (⟨inner.toArray⟩ : ByteArray) = I := ⟨_, rfl⟩
    have hIl : I.data.toList = inner := by rw [← hI]
    have hSI : S inner = .string I := by rw [← hI]
    by_cases he : e1 = 0
    · subst he
      have hlen : inner.length ≤ 33068 := hul rfl
      have hIz : I.size ≤ 33068 := by rw [← hI]; exact hlen
      have hr2 := fun w : World => runUn_any I n w (by omega) (by omega)
      rw [hIl] at hr2
      rw [if_neg (by simp)]
      show Calls _ _ _ _ (fun e w' => e = .returned (pairV (Rn.Runs.unpack inner n)) ∧ _)
      generalize Rn.Runs.unpack inner n = X at *
      have Hr2 := Lib.hid hr2
      have HSI := Lib.hid hSI
      clear hr2 hul hI hIl hSI
      go_enter Tryd.func69, Tryd.ntmps69
      go_wp2_with fail
      refine (Hw3.out _).mono ?_
      rintro e w1 ⟨rfl, hb1⟩
      show _
      rw [show pairV (inner, 0) = .tuple #[.string I, .int .i64 0] by rw [← HSI.out]]
      go_wp2_with fail
      refine (Hr2.out _).mono ?_
      rintro e w2 ⟨rfl, hb2⟩
      go_wp2_with fail
      go_ret2
      exact ⟨rfl, hb1.trans (hb2.mono hb1.size)⟩
    · rw [if_pos he]
      have hde : (e1 == 0) = false := by simpa using he
      have hde' : decide (e1 = 0) = false := by simpa using he
      clear hI hIl hSI hul
      go_enter Tryd.func69, Tryd.ntmps69
      go_wp2_with fail
      refine (Hw3.out _).mono ?_
      rintro e w1 ⟨rfl, hb1⟩
      go_wp2_with fail
      go_ret2
      exact ⟨rfl, hb1⟩
end Go.Proofs.YtinciddchpccnaaDoor
