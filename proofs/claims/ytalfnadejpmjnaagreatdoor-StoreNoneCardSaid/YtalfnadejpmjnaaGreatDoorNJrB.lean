/- What later texts need of the earlier layers. -/
import Derived.Test.YtalfnadejpmjnaaGreatDoorNSlO
import Derived.Test.YtalfnadejpmjnaaGreatDoorNSlS
import Derived.Test.YtalfnadejpmjnaaGreatDoorNSlT
import Derived.Test.YtalfnadejpmjnaaGreatDoorNDkA
import Derived.Test.YtalfnadejpmjnaaGreatDoorNDkB
import Derived.Test.YtalfnadejpmjnaaGreatDoorNDkC
import Derived.Test.YtalfnadejpmjnaaGreatDoorNDkD
import Derived.Test.YtalfnadejpmjnaaGreatDoorNJrA
import Derived.Laws.Concat
import Derived.Deep.AppendSrc
import Derived.Deep.DeepAppendWide
import Derived.OwnWalk
import Derived.Below
import Derived.WalkKit
import Derived.Deep.RegionHeld3
import Derived.Deep.QuietTactic
import Derived.Laws.AppendOwn
import Derived.BigQuiet
import Derived.Shelf.Sort.Plain
import Derived.Shelf.Slices.In.SortNone
/- ---- JrSum ---- -/
/- journal.sum, journal.lay; the reference's Record: what they return. -/
namespace Go.Proofs.YtalfnadejpmjnaaGreatDoor.Jn
set_option maxRecDepth 100000
open Go.RowKit
set_option linter.unusedVariables false
set_option linter.unusedSimpArgs false

theorem four_bytes (T : TypeId) (W : World) (a b c d : Int) : (convert 85 9 (.slice (some ⟨W.heap.size, 0, none⟩) 4 4)).run Tryz.prog (W.alloc (.cells #[.int .u8 a, .int .u8 b, .int .u8 c, .int .u8 d] T)) = .ok (S [UInt8.ofNat a.toNat, UInt8.ofNat b.toNat, UInt8.ofNat c.toNat, UInt8.ofNat d.toNat]) (W.alloc (.cells #[.int .u8 a, .int .u8 b, .int .u8 c, .int .u8 d] T)) := by
  have := run_convert_bytes_arg (P := Tryz.prog) (W.alloc (.cells #[.int .u8 a, .int .u8 b, .int .u8 c, .int .u8 d] T)) 85 5 Tryz.underlying85 Tryz.underlying5 W.heap.size 0 4 4 [a, b, c, d] rfl (fun i hi => by
    match i, hi with
    | 0, _ => simp [go_sem]
    | 1, _ => simp [go_sem]
    | 2, _ => simp [go_sem]
    | 3, _ => simp [go_sem]
    | k + 4, hi => omega) 9 Tryz.underlying9
  exact this
theorem numE_pos (n : Nat) : Oct.numE (n : Int) = (Oct.num n, 0) := by
  unfold Oct.numE
  rw [if_neg (by omega), Int.toNat_natCast]
theorem jrSum_any (i : Nat) (s : ByteArray) (w : World) (hi : i ≤ 9223372036854775807) (hs : s.size ≤ 140737488351232) :
    Calls Tryz.prog 91 #[.int .i64 (i : Int), .string s] w fun e w' => e = .returned (S (Jr.sumB i s.data.toList)) ∧ Below w.heap.size w w' := by
  have hnum := fun w : World => Number_any (i : Int) w (by omega)
  rw [numE_pos] at hnum
  have hl := Cr.sum_lt (Oct.num i ++ s.data.toList)
  have hnl := Oct.num_length_le i
  unfold Jr.sumB
  obtain ⟨r, hr⟩ : ∃ r : ByteArray, (⟨(Oct.num i).toArray⟩ : ByteArray) ++ s = r := ⟨_, rfl⟩
  have hrl : r.data.toList = Oct.num i ++ s.data.toList := by rw [← hr]; simp
  have hrz : r.size ≤ 9223372036854775806 := by
    have : r.size = r.data.toList.length := rfl
    rw [this, hrl, List.length_append]
    have h2 : s.data.toList.length = s.size := rfl
    omega
  have hsum := fun w : World => crSum_any r w hrz
  rw [hrl] at hsum
  obtain ⟨x, hx⟩ : ∃ x, Cr.sum (Oct.num i ++ s.data.toList) = x := ⟨_, rfl⟩
  rw [hx] at hl ⊢
  simp only [hx] at hsum
  obtain ⟨NB, hNB⟩ : ∃ NB : ByteArray, (⟨(Oct.num i).toArray⟩ : ByteArray) = NB := ⟨_, rfl⟩
  have hNz : NB.size ≤ 9 := by rw [← hNB]; exact hnl
  rw [hNB] at hr
  have hnum' : ∀ w : World, Calls Tryz.prog 90 #[.int .i64 (i : Int)] w fun e w' => e = .returned (.tuple #[.string NB, .int .i64 0]) ∧ Below w.heap.size w w' := by
    intro w; rw [← hNB]; exact hnum w
  have Hsum := Lib.hid hsum
  have Hnum := Lib.hid hnum'
  clear hsum hx hnum hnum' hNB hrl hrz hnl
  have hcv := four_bytes
  go_enter Tryz.func91, Tryz.ntmps91
  go_wp2_with fail
  refine (Hnum.out _).mono ?_
  rintro e w1 ⟨rfl, hb1⟩
  go_wp2_with fail
  refine (Hsum.out _).mono ?_
  rintro e w2 ⟨rfl, rfl⟩
  have Hb1 := Lib.hid hb1
  clear hb1
  go_wp2_with fail
  go_ret
  refine ⟨?_, Hb1.out.alloc Hb1.out.size _⟩
  have e : x / 16777216 % 256 = x / 16777216 := by omega
  unfold Cr.four
  rw [e]
  rfl
theorem jrLay_any (i : Nat) (s : ByteArray) (w : World) (hi : i ≤ 9223372036854775807) (hs : s.size ≤ 140737488351232) :
    Calls Tryz.prog 62 #[.int .i64 (i : Int), .string s] w fun e w' => e = .returned (S (Jr.lay i s.data.toList)) ∧ Below w.heap.size w w' := by
  have hnum := fun w : World => Number_any (s.size : Int) w (by omega)
  rw [numE_pos] at hnum
  have hsum := fun w : World => jrSum_any i s w hi hs
  have hlay : Jr.lay i s.data.toList = Oct.num s.size ++ (Jr.sumB i s.data.toList ++ s.data.toList) := rfl
  rw [hlay]
  have hnl := Oct.num_length_le s.size
  have hsl := Jr.sumB_len i s.data.toList
  obtain ⟨NB, hNB⟩ : ∃ NB : ByteArray, (⟨(Oct.num s.size).toArray⟩ : ByteArray) = NB := ⟨_, rfl⟩
  obtain ⟨SB, hSB⟩ : ∃ SB : ByteArray, (⟨(Jr.sumB i s.data.toList).toArray⟩ : ByteArray) = SB := ⟨_, rfl⟩
  have hNz : NB.size ≤ 9 := by rw [← hNB]; exact hnl
  have hSz : SB.size = 4 := by rw [← hSB]; exact hsl
  have hS1 : (NB ++ SB).size = NB.size + 4 := by rw [ByteArray.size_append, hSz]
  have hnum' : ∀ w : World, Calls Tryz.prog 90 #[.int .i64 (s.size : Int)] w fun e w' => e = .returned (.tuple #[.string NB, .int .i64 0]) ∧ Below w.heap.size w w' := by
    intro w; rw [← hNB]; exact hnum w
  have hsum' : ∀ w : World, Calls Tryz.prog 91 #[.int .i64 (i : Int), .string s] w fun e w' => e = .returned (.string SB) ∧ Below w.heap.size w w' := by
    intro w; rw [← hSB]; exact hsum w
  have hres : S (Oct.num s.size ++ (Jr.sumB i s.data.toList ++ s.data.toList)) = .string (NB ++ SB ++ s) := by
    rw [← hNB, ← hSB]
    show Value.string _ = Value.string _
    congr 1
    apply ByteArray.ext
    simp
  rw [hres]
  have Hsum := Lib.hid hsum'
  have Hnum := Lib.hid hnum'
  clear hsum hsum' hSB hnum hnum' hNB hlay hres hsl hnl
  go_enter Tryz.func62, Tryz.ntmps62
  go_wp2_with fail
  refine (Hnum.out _).mono ?_
  rintro e w1 ⟨rfl, hb1⟩
  go_wp2_with fail
  refine (Hsum.out _).mono ?_
  rintro e w2 ⟨rfl, hb2⟩
  go_wp2_with fail
  go_ret
  exact ⟨rfl, hb1.trans (hb2.mono hb1.size)⟩
end Go.Proofs.YtalfnadejpmjnaaGreatDoor.Jn

/- ---- JrRead ---- -/
/- journal.read: what it returns. -/
namespace Go.Proofs.YtalfnadejpmjnaaGreatDoor.Jn
set_option maxRecDepth 100000
open Go.RowKit
set_option linter.unusedVariables false
set_option linter.unusedSimpArgs false

def jrV : Option (List UInt8 × Nat) → Value
  | none => .tuple #[S [], .int .i64 0, .bool false]
  | some (r, b) => .tuple #[S r, .int .i64 (b : Int), .bool true]
set_option maxHeartbeats 1000000 in
theorem jrRead_any (s : ByteArray) (p i : Nat) (w : World) (hi : i ≤ 9223372036854775807) (hp : p ≤ s.size) (hs : s.size ≤ 140737488351232) :
    Calls Tryz.prog 85 #[.string s, .int .i64 (p : Int), .int .i64 (i : Int)] w fun e w' => e = .returned (jrV (Jr.rd s.data.toList p i)) ∧ Below w.heap.size w w' := by
  have hlen : s.data.toList.length = s.size := rfl
  have hrd := fun w : World => readNumber_any s p w (by omega)
  rcases hn : Oct.rdNum s.data.toList p with ⟨n, q, e⟩
  unfold rdNumV at hrd
  rw [hn] at hrd
  have Hrd := Lib.hid hrd
  unfold Jr.rd
  rw [hn, hlen]
  simp only
  rcases Oct.rdNum_ok hn with ⟨he, rfl, rfl⟩ | ⟨rfl, _, hn0, hn1, hpq, hql, _⟩
  · rw [if_pos he]
    clear hn hrd hlen
    have hz : (e != 0) = true := by simpa using he
    clear he
    go_enter Tryz.func85, Tryz.ntmps85
    go_wp2_with fail
    refine (Hrd.out _).mono ?_
    rintro e' w1 ⟨rfl, rfl⟩
    unfold three
    go_wp2_with fail
    go_ret3
    exact ⟨rfl, Below.refl _ _⟩
  rw [if_neg (by simp)]
  obtain ⟨N, rfl⟩ : ∃ N : Nat, n = (N : Int) := ⟨n.toNat, by omega⟩
  obtain ⟨Q, rfl⟩ : ∃ Q : Nat, q = (Q : Int) := ⟨q.toNat, by omega⟩
  rw [hlen] at hql
  have hql' : Q ≤ s.size := by omega
  simp only [Int.toNat_natCast]
  clear hn hrd hlen hn0 hn1 hpq hql hp
  by_cases hbig : (4096 : Int) < (N : Int)
  · rw [if_pos hbig]
    have hb' : 4096 < N := by omega
    have d1 : decide ((4096 : Int) < (N : Int)) = true := by simpa using hbig
    have d2 : decide (4096 < N) = true := by simpa using hb'
    clear hb' hbig
    go_enter Tryz.func85, Tryz.ntmps85
    go_wp2_with fail
    refine (Hrd.out _).mono ?_
    rintro e' w1 ⟨rfl, rfl⟩
    unfold three
    go_wp2_with fail
    go_ret3
    exact ⟨rfl, Below.refl _ _⟩
  rw [if_neg hbig]
  have hN : N ≤ 4096 := by omega
  have d1 : decide ((4096 : Int) < (N : Int)) = false := by simpa using hbig
  have d2 : decide (4096 < N) = false := by simpa using hN
  clear hbig
  have hw1 : IntKind.i64.wrap ((s.size : Int) - (Q : Int)) = (s.size : Int) - (Q : Int) := IntWalk.i64_in _ (by omega)
  have hw2 : IntKind.i64.wrap ((4 : Int) + (N : Int)) = (4 : Int) + (N : Int) := IntWalk.i64_in _ (by omega)
  by_cases hsh : (s.size : Int) - (Q : Int) < 4 + (N : Int)
  · rw [if_pos hsh]
    have d3 : decide ((s.size : Int) - (Q : Int) < 4 + (N : Int)) = true := by simpa using hsh
    clear hsh
    go_enter Tryz.func85, Tryz.ntmps85
    go_wp2_with fail
    refine (Hrd.out _).mono ?_
    rintro e' w1 ⟨rfl, rfl⟩
    unfold three
    go_wp2_with fail
    go_ret3
    exact ⟨rfl, Below.refl _ _⟩
  rw [if_neg hsh]
  have d3 : decide ((s.size : Int) - (Q : Int) < 4 + (N : Int)) = false := by simpa using hsh
  have hfit : Q + 4 + N ≤ s.size := by omega
  clear hsh
  obtain ⟨Q4, hQ4⟩ : ∃ Q4 : Nat, Q + 4 = Q4 := ⟨_, rfl⟩
  obtain ⟨QE, hQE⟩ : ∃ QE : Nat, Q4 + N = QE := ⟨_, rfl⟩
  have hw3 : IntKind.i64.wrap ((Q : Int) + 4) = (Q4 : Int) := by rw [IntWalk.i64_in _ (by omega)]; omega
  have hw4 : IntKind.i64.wrap ((Q4 : Int) + (N : Int)) = (QE : Int) := by rw [IntWalk.i64_in _ (by omega)]; omega
  have hsl : ∀ W : World, (Instr.slice 9 (.string s) (some (.int .i64 (Q4 : Int))) (some (.int .i64 (QE : Int))) none).run Tryz.prog W = .ok (S ((s.data.toList.drop Q4).take N)) W := by
    intro W
    have h := cut_run (P := Tryz.prog) 9 (by kernel_rfl) s Q4 N (by omega) W
    rw [show ((Q4 : Int) + (N : Int)) = (QE : Int) by omega] at h
    exact h
  have hsl2 : ∀ W : World, (Instr.slice 9 (.string s) (some (.int .i64 (Q : Int))) (some (.int .i64 (Q4 : Int))) none).run Tryz.prog W = .ok (S ((s.data.toList.drop Q).take 4)) W := by
    intro W
    have h := cut_run (P := Tryz.prog) 9 (by kernel_rfl) s Q 4 (by omega) W
    rw [show ((Q : Int) + ((4 : Nat) : Int)) = (Q4 : Int) by omega] at h
    exact h
  rw [hQ4, hQE]
  obtain ⟨rl, hrl⟩ : ∃ rl, (s.data.toList.drop Q4).take N = rl := ⟨_, rfl⟩
  obtain ⟨xl, hxl⟩ : ∃ xl, (s.data.toList.drop Q).take 4 = xl := ⟨_, rfl⟩
  rw [hrl] at hsl ⊢
  rw [hxl] at hsl2 ⊢
  obtain ⟨R, hR⟩ : ∃ R : ByteArray, (⟨rl.toArray⟩ : ByteArray) = R := ⟨_, rfl⟩
  obtain ⟨X, hX⟩ : ∃ X : ByteArray, (⟨xl.toArray⟩ : ByteArray) = X := ⟨_, rfl⟩
  have hRl : R.data.toList = rl := by rw [← hR]
  have hRz : R.size ≤ 140737488351232 := by
    have : R.size = R.data.toList.length := rfl
    rw [this, hRl, ← hrl, List.length_take]; omega
  have hXl : X.toList = xl := by rw [← hX, ByteArray.toList_mk]
  have hslR : ∀ W : World, (Instr.slice 9 (.string s) (some (.int .i64 (Q4 : Int))) (some (.int .i64 (QE : Int))) none).run Tryz.prog W = .ok (.string R) W := by intro W; rw [← hR]; exact hsl W
  have hslX : ∀ W : World, (Instr.slice 9 (.string s) (some (.int .i64 (Q : Int))) (some (.int .i64 (Q4 : Int))) none).run Tryz.prog W = .ok (.string X) W := by intro W; rw [← hX]; exact hsl2 W
  have hsum := fun w : World => jrSum_any i R w hi hRz
  rw [hRl] at hsum
  obtain ⟨fl, hfl⟩ : ∃ fl, Jr.sumB i rl = fl := ⟨_, rfl⟩
  rw [hfl] at hsum ⊢
  obtain ⟨FB, hFB⟩ : ∃ FB : ByteArray, (⟨fl.toArray⟩ : ByteArray) = FB := ⟨_, rfl⟩
  have hFl : FB.toList = fl := by rw [← hFB, ByteArray.toList_mk]
  have hsum2 : ∀ w : World, Calls Tryz.prog 91 #[.int .i64 (i : Int), .string R] w fun e w' => e = .returned (.string FB) ∧ Below w.heap.size w w' := by
    intro w; rw [← hFB]; exact hsum w
  obtain ⟨cmp, hcmp⟩ : ∃ cmp, (X.toList == FB.toList) = cmp := ⟨_, rfl⟩
  have Hsum := Lib.hid hsum2
  have Hcmp := Lib.hid hcmp
  have HFl := Lib.hid hFl
  have HXl := Lib.hid hXl
  have HR := Lib.hid hR
  have HslX := Lib.hid hslX
  clear hsum hsum2 hFl hFB hfl hXl hX hR hsl hsl2 hxl hrl hRl hcmp hslX
  rcases cmp with _ | _
  · have hne : xl ≠ fl := by
      intro e
      have h := Hcmp.out
      rw [HFl.out, HXl.out, e] at h
      simp at h
    rw [if_pos hne]
    clear hne
    go_enter Tryz.func85, Tryz.ntmps85
    go_wp2_with fail
    refine (Hrd.out _).mono ?_
    rintro e' w1 ⟨rfl, rfl⟩
    unfold three
    go_wp2_with fail
    refine wp_region_noPanic ?_
    refine wp_region_held_drew (S := fun w' => Below w.heap.size w w') (by kernel_rfl) ((Below.refl _ _).drew) (fun hHeld => ?_)
    generalize w.drew = w6 at *
    have hslX := HslX.out
    refine wpAnyH_take (i := 0) (v := .string s) rfl (by kernel_rfl) (by kernel_rfl) (by kernel_rfl) (fun _ _ _ h => h) (Or.inl ⟨by rfl, fun w' hSw => by go_simp⟩) hHeld ?_
    try simp only [Act.put, List.getElem_toArray, List.getElem_cons_succ, List.getElem_cons_zero, List.setIfInBounds_toArray, List.set_cons_zero, List.set_cons_succ]
    refine wpAnyH_take (i := 1) (v := .int .i64 (Q : Int)) rfl (by kernel_rfl) (by kernel_rfl) (by kernel_rfl) (fun _ _ _ h => h) (Or.inl ⟨by rfl, fun w' hSw => by go_simp⟩) hHeld ?_
    try simp only [Act.put, List.getElem_toArray, List.getElem_cons_succ, List.getElem_cons_zero, List.setIfInBounds_toArray, List.set_cons_zero, List.set_cons_succ]
    refine wpAnyH_take (i := 2) (v := .int .i64 (Q4 : Int)) rfl (by kernel_rfl) (by kernel_rfl) (by kernel_rfl) (fun _ _ _ h => h) (Or.inl ⟨by rfl, fun w' hSw => by go_simp⟩) hHeld ?_
    try simp only [Act.put, List.getElem_toArray, List.getElem_cons_succ, List.getElem_cons_zero, List.setIfInBounds_toArray, List.set_cons_zero, List.set_cons_succ]
    refine wpAnyH_take (i := 3) (v := .string X) rfl (by kernel_rfl) (by kernel_rfl) (by kernel_rfl) (fun _ _ _ h => h) (Or.inl ⟨by rfl, fun w' hSw => by go_simp⟩) hHeld ?_
    try simp only [Act.put, List.getElem_toArray, List.getElem_cons_succ, List.getElem_cons_zero, List.setIfInBounds_toArray, List.set_cons_zero, List.set_cons_succ]
    refine wpAnyH_take (i := 4) (v := .int .i64 (i : Int)) rfl (by kernel_rfl) (by kernel_rfl) (by kernel_rfl) (fun _ _ _ h => h) (Or.inl ⟨by rfl, fun w' hSw => by go_simp⟩) hHeld ?_
    try simp only [Act.put, List.getElem_toArray, List.getElem_cons_succ, List.getElem_cons_zero, List.setIfInBounds_toArray, List.set_cons_zero, List.set_cons_succ]
    refine wpAnyH_take (i := 5) (v := .string R) rfl (by kernel_rfl) (by kernel_rfl) (by kernel_rfl) (fun _ _ _ h => h) (Or.inl ⟨by rfl, fun w' hSw => by go_simp⟩) hHeld ?_
    try simp only [Act.put, List.getElem_toArray, List.getElem_cons_succ, List.getElem_cons_zero, List.setIfInBounds_toArray, List.set_cons_zero, List.set_cons_succ]
    refine wpAnyH_ready (rs := [6]) (by kernel_rfl) (by simp) (AllReadyH.cons rfl (fun K1 hK1 => ?_) AllReadyH.nil)
    try simp only [Act.put, List.getElem_toArray, List.getElem_cons_succ, List.getElem_cons_zero, List.setIfInBounds_toArray, List.set_cons_zero, List.set_cons_succ]
    go_simp
    refine Calls.mono (Hsum.out _) ?_
    rintro e w9 ⟨rfl, hbb⟩
    refine hK1.out _ _ (hHeld.trans (hbb.mono hHeld.size)) (fun hHeld => ?_)
    clear hK1 K1
    try simp only [Act.put, List.getElem_toArray, List.getElem_cons_succ, List.getElem_cons_zero, List.setIfInBounds_toArray, List.set_cons_zero, List.set_cons_succ]
    have hcm := Hcmp.out
    refine wpAnyH_take (i := 7) (v := .bool true) rfl (by kernel_rfl) (by kernel_rfl) (by kernel_rfl) (fun _ _ _ h => h) (Or.inl ⟨by rfl, fun w' hSw => by go_simp⟩) hHeld ?_
    try simp only [Act.put, List.getElem_toArray, List.getElem_cons_succ, List.getElem_cons_zero, List.setIfInBounds_toArray, List.set_cons_zero, List.set_cons_succ]
    refine wpAnyH_done (by kernel_rfl) ?_ _
    refine NoPanic.normal ?_
    have Hh9 := Lib.hid hHeld
    clear hHeld hbb hslX hcm
    go_wp2_with fail
    go_ret3
    exact ⟨rfl, Hh9.out⟩
  · have heq : xl = fl := by
      have h := Hcmp.out
      rw [HFl.out, HXl.out] at h
      simpa using h
    rw [if_neg (by simpa using heq), show jrV (some (rl, QE)) = .tuple #[.string R, .int .i64 (QE : Int), .bool true] by rw [← HR.out]; rfl]
    clear heq
    go_enter Tryz.func85, Tryz.ntmps85
    go_wp2_with fail
    refine (Hrd.out _).mono ?_
    rintro e' w1 ⟨rfl, rfl⟩
    unfold three
    go_wp2_with fail
    refine wp_region_noPanic ?_
    refine wp_region_held_drew (S := fun w' => Below w.heap.size w w') (by kernel_rfl) ((Below.refl _ _).drew) (fun hHeld => ?_)
    generalize w.drew = w6 at *
    have hslX := HslX.out
    refine wpAnyH_take (i := 0) (v := .string s) rfl (by kernel_rfl) (by kernel_rfl) (by kernel_rfl) (fun _ _ _ h => h) (Or.inl ⟨by rfl, fun w' hSw => by go_simp⟩) hHeld ?_
    try simp only [Act.put, List.getElem_toArray, List.getElem_cons_succ, List.getElem_cons_zero, List.setIfInBounds_toArray, List.set_cons_zero, List.set_cons_succ]
    refine wpAnyH_take (i := 1) (v := .int .i64 (Q : Int)) rfl (by kernel_rfl) (by kernel_rfl) (by kernel_rfl) (fun _ _ _ h => h) (Or.inl ⟨by rfl, fun w' hSw => by go_simp⟩) hHeld ?_
    try simp only [Act.put, List.getElem_toArray, List.getElem_cons_succ, List.getElem_cons_zero, List.setIfInBounds_toArray, List.set_cons_zero, List.set_cons_succ]
    refine wpAnyH_take (i := 2) (v := .int .i64 (Q4 : Int)) rfl (by kernel_rfl) (by kernel_rfl) (by kernel_rfl) (fun _ _ _ h => h) (Or.inl ⟨by rfl, fun w' hSw => by go_simp⟩) hHeld ?_
    try simp only [Act.put, List.getElem_toArray, List.getElem_cons_succ, List.getElem_cons_zero, List.setIfInBounds_toArray, List.set_cons_zero, List.set_cons_succ]
    refine wpAnyH_take (i := 3) (v := .string X) rfl (by kernel_rfl) (by kernel_rfl) (by kernel_rfl) (fun _ _ _ h => h) (Or.inl ⟨by rfl, fun w' hSw => by go_simp⟩) hHeld ?_
    try simp only [Act.put, List.getElem_toArray, List.getElem_cons_succ, List.getElem_cons_zero, List.setIfInBounds_toArray, List.set_cons_zero, List.set_cons_succ]
    refine wpAnyH_take (i := 4) (v := .int .i64 (i : Int)) rfl (by kernel_rfl) (by kernel_rfl) (by kernel_rfl) (fun _ _ _ h => h) (Or.inl ⟨by rfl, fun w' hSw => by go_simp⟩) hHeld ?_
    try simp only [Act.put, List.getElem_toArray, List.getElem_cons_succ, List.getElem_cons_zero, List.setIfInBounds_toArray, List.set_cons_zero, List.set_cons_succ]
    refine wpAnyH_take (i := 5) (v := .string R) rfl (by kernel_rfl) (by kernel_rfl) (by kernel_rfl) (fun _ _ _ h => h) (Or.inl ⟨by rfl, fun w' hSw => by go_simp⟩) hHeld ?_
    try simp only [Act.put, List.getElem_toArray, List.getElem_cons_succ, List.getElem_cons_zero, List.setIfInBounds_toArray, List.set_cons_zero, List.set_cons_succ]
    refine wpAnyH_ready (rs := [6]) (by kernel_rfl) (by simp) (AllReadyH.cons rfl (fun K1 hK1 => ?_) AllReadyH.nil)
    try simp only [Act.put, List.getElem_toArray, List.getElem_cons_succ, List.getElem_cons_zero, List.setIfInBounds_toArray, List.set_cons_zero, List.set_cons_succ]
    go_simp
    refine Calls.mono (Hsum.out _) ?_
    rintro e w9 ⟨rfl, hbb⟩
    refine hK1.out _ _ (hHeld.trans (hbb.mono hHeld.size)) (fun hHeld => ?_)
    clear hK1 K1
    try simp only [Act.put, List.getElem_toArray, List.getElem_cons_succ, List.getElem_cons_zero, List.setIfInBounds_toArray, List.set_cons_zero, List.set_cons_succ]
    have hcm := Hcmp.out
    refine wpAnyH_take (i := 7) (v := .bool false) rfl (by kernel_rfl) (by kernel_rfl) (by kernel_rfl) (fun _ _ _ h => h) (Or.inl ⟨by rfl, fun w' hSw => by go_simp⟩) hHeld ?_
    try simp only [Act.put, List.getElem_toArray, List.getElem_cons_succ, List.getElem_cons_zero, List.setIfInBounds_toArray, List.set_cons_zero, List.set_cons_succ]
    refine wpAnyH_done (by kernel_rfl) ?_ _
    refine NoPanic.normal ?_
    have Hh9 := Lib.hid hHeld
    clear hHeld hbb hslX hcm
    go_wp2_with fail
    go_ret3
    exact ⟨rfl, Hh9.out⟩
end Go.Proofs.YtalfnadejpmjnaaGreatDoor.Jn

/- ---- JrParse ---- -/
/- journal.Parse: what it returns. -/
namespace Go.Proofs.YtalfnadejpmjnaaGreatDoor.Jn
set_option maxRecDepth 100000
open Go.RowKit
set_option linter.unusedVariables false
set_option linter.unusedSimpArgs false

/-- a goto loop: the label stands at the head of the scope's code -/
theorem wp_scope_again {P : Program} {a : Act} {w : World} {Q : Exit → Act → World → Prop} {c b : Code} (l : Nat) (J : Act → World → Prop) (μ : Act → World → Nat) (hf : findLabel c l = some (.seq .skip b))
    (pass : ∀ a w, J a w → b.wp P (Exit.jump l (fun a' w' => J a' w' ∧ μ a' w' < μ a w) Q) a w)
    (first : (∀ a w, J a w → b.wp P (Exit.jump l J Q) a w) → c.wp P (Exit.jump l J Q) a w) : (Code.scope c).wp P Q a w := by
  refine wp_scope_jumps l J μ hf (first fun a w h => wp_mono (pass a w h) ?_) (fun a w h => wp_seq (wp_skip (pass a w h)))
  intro e a' w' he
  cases e with
  | goto l' => exact ⟨he.1, he.2.1⟩
  | _ => exact he
theorem own_below {w w1 : World} {base : Nat} {e : TypeId} {size n : Nat} {v : Value} {xs : List Value} (h : w.ownsRow base e size v n xs) (hb : Below w.heap.size w w1) : w1.ownsRow base e size v n xs :=
  h.kept (row := none) ⟨hb.os, hb.tape, hb.output, hb.size, fun i hi _ => hb.block i hi⟩ (by cases v.ownBlock <;> simp)
theorem one_at (w1 : World) (T : TypeId) (v : Value) : ∀ j u, [v][j]? = some u → (w1.alloc (.cells #[v] T)).cell? ((⟨w1.heap.size, 0, none⟩ : Addr).add j) = some u := by
  intro j u hj
  have hl : j < [v].length := (List.getElem?_eq_some_iff.1 hj).1
  obtain rfl : j = 0 := by simpa using hl
  have : v = u := by simpa using hj
  subst this
  simp [go_sem, Addr.add]
theorem str_info : (Tryz.prog.info? 9).map (fun i => (i.zero, i.size, i.bytes)) = some (some (.string ByteArray.empty), 1, 16) := by kernel_rfl
/-- a slice value that reads as these texts, in memory of its own from block base on -/
def Lst (w : World) (base : Nat) (v : Value) (l : List (List UInt8)) : Prop := ∃ A c, v = .slice A l.length c ∧ (l ≠ [] → ∃ b, A = some ⟨b, 0, none⟩ ∧ base ≤ b ∧ b < w.heap.size ∧ ∀ i (h : i < l.length), w.cell? ⟨b, i, none⟩ = some (S l[i]))
theorem lst_own {w : World} {base g cap : Nat} {l : List (List UInt8)} (h : w.ownsRow base 9 1 (.slice (some ⟨g, 0, none⟩) l.length cap) l.length (l.map S)) (c : Nat) : Lst w base (.slice (some ⟨g, 0, none⟩) l.length c) l := by
  refine ⟨some ⟨g, 0, none⟩, c, rfl, fun _ => ⟨g, rfl, (h.lt g rfl).1, (h.lt g rfl).2, fun i hi => ?_⟩⟩
  have := h.cells (g := g) rfl i (S l[i]) (by simp [hi])
  have e : (⟨g, 0, none⟩ : Addr).add i = ⟨g, i, none⟩ := by unfold Addr.add; split <;> simp_all
  rwa [e] at this
theorem lst_nil (w : World) (base c : Nat) (A : Option Addr) : Lst w base (.slice A 0 c) [] := ⟨A, c, rfl, fun h => absurd rfl h⟩
set_option maxHeartbeats 1000000 in
theorem jrParse_any (s : ByteArray) (w : World) (hs : s.size ≤ 1099511627776) :
    Calls Tryz.prog 56 #[.string s] w fun e w' => (∃ v, e = .returned (.tuple #[v, .int .i64 ((Jr.parse s.data.toList).2 : Int)]) ∧ Lst w' w.heap.size v (Jr.parse s.data.toList).1) ∧ Below w.heap.size w w' := by
  obtain ⟨i0, hi, hz0, hz1, hz2⟩ := info_parts str_info
  have Hi := Lib.hid hi; clear hi
  have Hz0 := Lib.hid hz0; clear hz0
  have Hz1 := Lib.hid hz1; clear hz1
  have Hz2 := Lib.hid hz2; clear hz2
  have hlen : s.data.toList.length = s.size := rfl
  have Hlen := Lib.hid hlen
  clear hlen
  go_enter Tryz.func56, Tryz.ntmps56
  go_wp2_with fail
  refine wp_scope_again 0 (fun a' w' => ∃ (p : Nat) (acc : List (List UInt8)) (v : Value), a' = { tmps := #[.string s, a'.tmps.getD 1 undef, .slice none 0 0, .int .i64 0, v, .int .i64 (p : Int), a'.tmps.getD 6 undef, a'.tmps.getD 7 undef, a'.tmps.getD 8 undef, a'.tmps.getD 9 undef, a'.tmps.getD 10 undef, a'.tmps.getD 11 undef, a'.tmps.getD 12 undef, a'.tmps.getD 13 undef, a'.tmps.getD 14 undef, a'.tmps.getD 15 undef, a'.tmps.getD 16 undef, a'.tmps.getD 17 undef, a'.tmps.getD 18 undef, a'.tmps.getD 19 undef, a'.tmps.getD 20 undef, a'.tmps.getD 21 undef, a'.tmps.getD 22 undef, a'.tmps.getD 23 undef, a'.tmps.getD 24 undef, a'.tmps.getD 25 undef, a'.tmps.getD 26 undef, a'.tmps.getD 27 undef, a'.tmps.getD 28 undef, a'.tmps.getD 29 undef, a'.tmps.getD 30 undef], defers := [] } ∧ Jr.Upto s.data.toList p acc ∧ 5 * acc.length ≤ p ∧ w'.ownsRow w.heap.size 9 1 v acc.length (acc.map S) ∧ Below w.heap.size w w') (fun a' _ => s.size - (intOf (a'.tmps.getD 5 undef)).toNat) (by rfl) ?_ ?_
  · rintro a' w' ⟨p, acc, v, ha, hup, hacc5, hown, hb⟩
    obtain ⟨u, hu⟩ : ∃ u : Nat → Value, ∀ q, a'.tmps.getD q undef = u q := ⟨_, fun _ => rfl⟩
    simp only [hu] at ha
    subst ha
    clear hu
    have hpl : p ≤ s.size := by have := hup.1; rw [Hlen.out] at this; exact this
    obtain ⟨A, c, rfl⟩ : ∃ A c, v = .slice A acc.length c := by
      rcases hown.2 with ⟨rfl, hx⟩ | ⟨g, cap, cur, rfl, _⟩
      · have : acc = [] := by simpa using hx
        subst this
        exact ⟨none, 0, rfl⟩
      · exact ⟨_, _, rfl⟩
    have hrd := jrRead_any s p acc.length w' (by omega) hpl (by omega)
    have Hb := Lib.hid hb
    clear hb
    rcases hr : Jr.rd s.data.toList p acc.length with _ | ⟨r, b⟩
    · have hpa := hup.stop hr
      have Hpa := Lib.hid hpa
      rw [hr] at hrd
      simp only [jrV] at hrd
      have Hown := Lib.hid hown
      have Hrd := Lib.hid hrd
      clear hup hown hrd hr hpa
      go_wp2_with fail
      refine Hrd.out.mono ?_
      rintro e w1 ⟨rfl, hb1⟩
      have hown1 := own_below Hown.out hb1
      have hb2 := Hb.out.trans (hb1.mono Hb.out.size)
      have Hown1 := Lib.hid hown1
      have Hb2 := Lib.hid hb2
      clear hown1 hb2 hb1
      have hsl : ∃ A', (∀ W : World, (Instr.slice 56 (.slice A acc.length c) none (some (.int .i64 (acc.length : Int))) (some (.int .i64 (acc.length : Int)))).run Tryz.prog W = .ok (.slice A' acc.length acc.length) W) ∧ Lst w1 w.heap.size (.slice A' acc.length acc.length) acc := by
        rcases Hown1.out.2 with ⟨hA, hx⟩ | ⟨g, cap, cur, hv, _⟩
        · have : acc = [] := by simpa using hx
          subst this
          injection hA with hA1 hA2 hA3
          subst hA1
          subst hA3
          exact ⟨none, fun W => by simp [go_sem], lst_nil _ _ _ _⟩
        · injection hv with hA1 hA2 hA3
          subst hA1
          subst hA3
          have hnc : ¬ c < acc.length := by omega
          exact ⟨some ⟨g, 0, none⟩, fun W => by simp [go_sem, hnc], lst_own Hown1.out _⟩
      obtain ⟨A', hsl, hlst⟩ := hsl
      have Hlst := Lib.hid hlst
      clear hlst
      go_wp2_with fail
      simp only [Exit.jump]
      go_ret2
      rw [Hpa.out]
      exact ⟨⟨_, rfl, Hlst.out⟩, Hb2.out⟩
    · obtain ⟨hup2, hpb, hbl⟩ := hup.go hr
      obtain ⟨_, hbe, _, hr4⟩ := Jr.rd_some hr
      have hl5 := Jr.lay_pos acc.length r
      rw [Hlen.out] at hbl
      rw [hr] at hrd
      simp only [jrV] at hrd
      have Hup2 := Lib.hid hup2
      have Hown := Lib.hid hown
      have Hrd := Lib.hid hrd
      have h5 : 5 * (acc.length + 1) ≤ b := by omega
      clear hup2 hup hown hrd hr hbe hl5
      go_wp2_with fail
      refine Hrd.out.mono ?_
      rintro e w1 ⟨rfl, hb1⟩
      have hown1 := (own_below Hown.out hb1).alloc (.cells #[S r] 9)
      have hbel1 := (Hb.out.trans (hb1.mono Hb.out.size)).alloc (Hb.out.trans (hb1.mono Hb.out.size)).size (.cells #[S r] 9)
      have hsz := hbel1.size
      have hMx : acc.length + 1 ≤ 219902325556 := by omega
      have c3 : acc.length + 1 ≤ maxLen := Nat.le_trans hMx (by decide)
      have c4 : (acc.length + 1) * 16 ≤ 140737488355328 := by omega
      have hc1 := one_at w1 9 (S r)
      have Hown1 := Lib.hid hown1
      have Hc1 := Lib.hid hc1
      clear hown1 hc1
      go_wp2_with (at_builtin; refine wpList_append_own _ rfl (.tmp 19) (.tmp 21) _ rfl w.heap.size 9 i0 _ 1 16 Tryz.underlying56 Hi.out Hz0.out Hz1.out Hz2.out rfl (by decide) (.slice A acc.length c) acc.length (acc.map S) rfl Hown1.out ⟨w1.heap.size, 0, none⟩ 1 1 [S r] rfl rfl Hc1.out (by simp [Value.oneCell']) c3 c4 hsz ?_; intro v2 w2 hown2 hgr2 _)
      go_step3
      refine ⟨rfl, ⟨b, acc ++ [r], v2, by simp [Array.getD], Hup2.out, by rw [List.length_append]; exact h5, by simpa using hown2, hbel1.grown hgr2 hsz (fun g hg => (Hown1.out.lt g hg).1)⟩, by simp [intOf]; omega⟩
  · intro hround
    have Hround := Lib.hid hround
    clear hround
    go_wp2_with fail
    go_step3
    go_step
    go_step
    exact Hround.out _ _ ⟨0, [], _, rfl, Jr.Upto.start _, by simp, World.ownsRow_nil _ _ _ _, Below.refl _ _⟩
end Go.Proofs.YtalfnadejpmjnaaGreatDoor.Jn

/- ---- JrJ ---- -/
/- A journal in memory: its row, beside its disk; wrong, did, Len, Synced. -/
namespace Go.Proofs.YtalfnadejpmjnaaGreatDoor.Jn
set_option maxRecDepth 100000
open Go.RowKit
set_option maxRecDepth 100000
set_option linter.unusedVariables false
set_option linter.unusedSimpArgs false

def jcells (g : Nat) (j : Jr.J) : List Value := [.pointer (some ⟨g, 0, none⟩), Sb Jr.nj, .int .i64 (j.len : Int), .int .i64 (j.synced : Int), .bool j.broken]
def JAt (w : World) (q g : Nat) (j : Jr.J) : Prop := Row w q 94 (jcells g j)
theorem JAt.box {w : World} {q g : Nat} {j : Jr.J} (h : JAt w q g j) : w.cell? ⟨q, 0, none⟩ = some (.pointer (some ⟨g, 0, none⟩)) ∧ w.cell? ⟨q, 1, none⟩ = some (Sb Jr.nj) ∧ w.cell? ⟨q, 2, none⟩ = some (.int .i64 (j.len : Int)) ∧ w.cell? ⟨q, 3, none⟩ = some (.int .i64 (j.synced : Int)) ∧ w.cell? ⟨q, 4, none⟩ = some (.bool j.broken) :=
  ⟨Row.cell h 0 (by simp [jcells]), Row.cell h 1 (by simp [jcells]), Row.cell h 2 (by simp [jcells]), Row.cell h 3 (by simp [jcells]), Row.cell h 4 (by simp [jcells])⟩
/-- a disk and a journal on it -/
structure JS (w : World) (B : Nat) (S : Nat → Prop) (g q : Nat) (l : List Fl) (r : Int) (j : Jr.J) : Prop where
  disk : DiskS w B S g l r
  row : JAt w q g j
  out : ¬ S q
/-- what a call makes of them -/
def JTo (w w' : World) (B : Nat) (S : Nat → Prop) (g q : Nat) (l : List Fl) (r : Int) (j : Jr.J) : Prop :=
  ∃ S' : Nat → Prop, JS w' B S' g q l r j ∧ (∀ k, S' k → S k ∨ w.heap.size ≤ k) ∧ Chg (fun k => S k ∨ k = q) w w'
theorem JTo.refl {w : World} {B : Nat} {S : Nat → Prop} {g q : Nat} {l : List Fl} {r : Int} {j : Jr.J} (h : JS w B S g q l r j) : JTo w w B S g q l r j := ⟨S, h, fun _ h => .inl h, Chg.refl _ _⟩
theorem JTo.trans {a b c : World} {B : Nat} {S S1 : Nat → Prop} {g q : Nat} {l2 : List Fl} {r2 : Int} {j2 : Jr.J} (h2 : ∀ k, S1 k → S k ∨ a.heap.size ≤ k) (h3 : Chg (fun k => S k ∨ k = q) a b) (k : JTo b c B S1 g q l2 r2 j2) : JTo a c B S g q l2 r2 j2 := by
  obtain ⟨S2, k1, k2, k3⟩ := k
  refine ⟨S2, k1, fun i hi => ?_, h3.trans k3 (fun i hi => ?_)⟩
  · rcases k2 i hi with h | h
    · exact h2 i h
    · have := h3.size; exact .inr (by omega)
  · rcases hi with hi | hi
    · rcases h2 i hi with h | h
      · exact .inl (.inl h)
      · exact .inr h
    · exact .inl (.inr hi)
theorem JS.diskTo {w w' : World} {B : Nat} {S : Nat → Prop} {g q : Nat} {l l' : List Fl} {r r' : Int} {j : Jr.J} (h : JS w B S g q l r j) (hd : DiskS w' B (Plus S w w') g l' r') (hc : Chg S w w') : JTo w w' B S g q l' r' j := by
  have hq := Row.lt h.row
  refine ⟨Plus S w w', ⟨hd, hc.row h.row h.out, fun hk => ?_⟩, fun k hk => ?_, hc.mono (fun k hk => .inl hk)⟩
  · rcases hk with hk | hk
    · exact h.out hk
    · omega
  · rcases hk with hk | hk
    · exact .inl hk
    · exact .inr hk.1
theorem JS.below {w w' : World} {B : Nat} {S : Nat → Prop} {g q : Nat} {l : List Fl} {r : Int} {j : Jr.J} (h : JS w B S g q l r j) (hb : Below w.heap.size w w') : JS w' B S g q l r j := ⟨h.disk.below hb, Row.below h.row hb, h.out⟩
theorem JS.belowTo {w w' : World} {B : Nat} {S : Nat → Prop} {g q : Nat} {l : List Fl} {r : Int} {j : Jr.J} (h : JS w B S g q l r j) (hb : Below w.heap.size w w') : JTo w w' B S g q l r j := ⟨S, h.below hb, fun _ h => .inl h, ⟨hb.os, hb.tape, hb.output, hb.size, fun i hi _ => hb.block i hi⟩⟩
/-- only the row has changed -/
theorem JS.rowTo {w w' : World} {B : Nat} {S : Nat → Prop} {g q : Nat} {l : List Fl} {r : Int} {j j' : Jr.J} (h : JS w B S g q l r j) (hg : w.grownBy w' (some q)) (hr : JAt w' q g j') : JTo w w' B S g q l r j' := by
  have hc : Chg (fun k => k = q) w w' := Chg.of_grown hg (fun k e => by cases e; exact .inl rfl)
  exact ⟨S, ⟨h.disk.kept hc (fun k hk e => h.out (e ▸ hk)), hr, h.out⟩, fun _ h => .inl h, hc.mono (fun k hk => .inr hk)⟩
theorem jwrong_at {w : World} {q g : Nat} {j : Jr.J} (h : JAt w q g j) : Calls Tryz.prog 59 #[.pointer (some ⟨q, 0, none⟩)] w fun e w' => e = .returned (.int .i64 (if j.broken = true then 8 else 0)) ∧ w = w' := by
  obtain ⟨c0, c1, c2, c3, c4⟩ := h.box
  have Hh := Lib.hid h
  clear h
  rcases hj : j.broken with _ | _
  · rw [hj] at c4
    clear hj
    go_enter Tryz.func59, Tryz.ntmps59
    go_wp2_with fail
    go_ret
    exact ⟨rfl, rfl⟩
  · rw [hj] at c4
    clear hj
    go_enter Tryz.func59, Tryz.ntmps59
    go_wp2_with fail
    go_ret
    exact ⟨rfl, rfl⟩
theorem jdid_at {w : World} {B : Nat} {S : Nat → Prop} {g q : Nat} {l : List Fl} {r : Int} {j : Jr.J} (h : JS w B S g q l r j) (x : Int) : Calls Tryz.prog 60 #[.pointer (some ⟨q, 0, none⟩), .int .i64 x] w fun e w' => e = .returned (.int .i64 x) ∧ JTo w w' B S g q l r ⟨j.len, j.synced, decide (x ≠ 0)⟩ := by
  obtain ⟨c0, c1, c2, c3, c4⟩ := h.row.box
  have hf := Row.free h.row 4
  have hrow := Row.set h.row 4 (.bool (decide (x ≠ 0))) (by simp [jcells])
  have hto : JTo w (w.setCell ⟨q, 4, none⟩ (.bool (decide (x ≠ 0)))) B S g q l r ⟨j.len, j.synced, decide (x ≠ 0)⟩ := h.rowTo (grownBy_set _ _ _ _) hrow
  have hx : (x != 0) = decide (x ≠ 0) := by rw [Bool.eq_iff_iff]; simp
  rw [← hx] at hto ⊢
  have Hto := Lib.hid hto
  clear hto hrow hx h
  go_enter Tryz.func60, Tryz.ntmps60
  go_wp2_with fail
  go_ret
  exact ⟨rfl, Hto.out⟩
end Go.Proofs.YtalfnadejpmjnaaGreatDoor.Jn

/- ---- JrReplace ---- -/
/- journal.replace: what it returns. -/
namespace Go.Proofs.YtalfnadejpmjnaaGreatDoor.Jn
set_option maxRecDepth 100000
open Go.RowKit
set_option maxRecDepth 100000
set_option linter.unusedVariables false
set_option linter.unusedSimpArgs false

theorem jreplace_at {w : World} {B : Nat} {S : Nat → Prop} {g q : Nat} {l : List Fl} {r : Int} {j : Jr.J} (h : JS w B S g q l r j) (s : List UInt8) (hs : s.length ≤ 140737488351232) : Calls Tryz.prog 87 #[.pointer (some ⟨q, 0, none⟩), Sb s] w fun e w' => e = .returned (.int .i64 (Jr.replaceR l r s).2.2) ∧ JTo w w' B S g q (Jr.replaceR l r s).1 (Jr.replaceR l r s).2.1 j := by
  unfold Jr.replaceR
  obtain ⟨NX, hNX⟩ : ∃ b : ByteArray, (⟨#[108, 111, 103, 120]⟩ : ByteArray) = b := ⟨_, rfl⟩
  obtain ⟨NJ, hNJ⟩ : ∃ b : ByteArray, (⟨#[108, 111, 103]⟩ : ByteArray) = b := ⟨_, rfl⟩
  have hadd : NJ ++ (⟨#[120]⟩ : ByteArray) = NX := by rw [← hNX, ← hNJ]; rfl
  have hz1 : NJ.size = 3 := by rw [← hNJ]; rfl
  have hz2 : (⟨#[120]⟩ : ByteArray).size = 1 := rfl
  have hbx : Sb Jr.nx = .string NX := by rw [← hNX]
  have hbj : Sb Jr.nj = .string NJ := by rw [← hNJ]
  have hxl : Jr.nx.length ≤ 140737488351232 := by decide
  have hjl : Jr.nj.length ≤ 140737488351232 := by decide
  have hxm : Jr.nx.length ≤ maxLen := by decide
  obtain ⟨sv, hsv⟩ : ∃ v, Sb s = v := ⟨_, rfl⟩
  have kA := fun {w : World} {S : Nat → Prop} (h : DiskS w B S g l r) => append_S Jr.nx s h hxl hs
  rcases hA : appendR l r Jr.nx s with ⟨l1, r1, c1⟩
  rw [hA] at kA
  have kS := fun {w : World} {S : Nat → Prop} (h : DiskS w B S g l1 r1) => sync_S Jr.nx h hxm
  rcases hS : syncR l1 r1 Jr.nx with ⟨l2, r2, c2⟩
  rw [hS] at kS
  have kR := fun {w : World} {S : Nat → Prop} (h : DiskS w B S g l2 r2) => rename_S Jr.nx Jr.nj h hxm hjl
  rcases hR : renameR l2 r2 Jr.nx Jr.nj with ⟨l3, r3, c3⟩
  rw [hR] at kR
  simp only [hbx, hbj, hsv] at kA kS kR ⊢
  have KA := fun {w : World} {S : Nat → Prop} (h : DiskS w B S g l r) => Lib.hid (kA h)
  have KS := fun {w : World} {S : Nat → Prop} (h : DiskS w B S g l1 r1) => Lib.hid (kS h)
  have KR := fun {w : World} {S : Nat → Prop} (h : DiskS w B S g l2 r2) => Lib.hid (kR h)
  have Hbj := Lib.hid hbj
  have HS := Lib.hid hS
  have HR := Lib.hid hR
  clear kA kS kR hA hS hR hNX hNJ hbx hbj hxl hjl hxm hsv hs
  by_cases e1 : c1 = 0
  · subst e1
    simp only [ne_eq, not_true_eq_false, if_false, HS.out]
    by_cases e2 : c2 = 0
    · subst e2
      simp only [ne_eq, not_true_eq_false, if_false, HR.out]
      go_enter Tryz.func87, Tryz.ntmps87
      go_wp2_with fail
      have q0 := h.row.box.1
      have q1 := h.row.box.2.1
      rw [Hbj.out] at q1
      have HJ := Lib.hid h
      refine region_named 10 (by kernel_rfl) (by kernel_rfl) ?_
      intro w3 hw3
      have q0' := (cell_drew hw3 q 0).trans q0
      have q1' := (cell_drew hw3 q 1).trans q1
      have hbw3 : Below w.heap.size w w3 := by rw [hw3]; exact (Below.refl _ _).drew
      have HDw3 := Lib.hid (HJ.out.below hbw3)
      have Hbw3 := Lib.hid hbw3
      clear q0 q1 hw3 hbw3 h
      repeat still_step
      refine wpStill_nil ?_
      go_wp2_with fail
      refine (KA HDw3.out.disk).out.mono ?_
      rintro e w4 ⟨rfl, hd, hc⟩
      have htw4 := HDw3.out.diskTo hd hc
      have Htow4 := Lib.hid htw4
      clear hd hc htw4
      have tA : JTo w w4 B S g q l1 r1 j := JTo.trans (fun _ h => Or.inl h) ⟨Hbw3.out.os, Hbw3.out.tape, Hbw3.out.output, Hbw3.out.size, fun i hi _ => Hbw3.out.block i hi⟩ Htow4.out
      obtain ⟨S1, hJ1, hP1, hC1⟩ := tA
      have HP1 := Lib.hid hP1
      have HC1 := Lib.hid hC1
      clear hP1 hC1 Htow4
      go_wp2_with fail
      have q0 := hJ1.row.box.1
      have q1 := hJ1.row.box.2.1
      rw [Hbj.out] at q1
      have HJ2 := Lib.hid hJ1
      refine region_named 9 (by kernel_rfl) (by kernel_rfl) ?_
      intro w5 hw5
      have q0' := (cell_drew hw5 q 0).trans q0
      have q1' := (cell_drew hw5 q 1).trans q1
      have hbw5 : Below w4.heap.size w4 w5 := by rw [hw5]; exact (Below.refl _ _).drew
      have HDw5 := Lib.hid (HJ2.out.below hbw5)
      have Hbw5 := Lib.hid hbw5
      clear q0 q1 hw5 hbw5 hJ1
      repeat still_step
      refine wpStill_nil ?_
      go_wp2_with fail
      refine (KS HDw5.out.disk).out.mono ?_
      rintro e w6 ⟨rfl, hd, hc⟩
      have htw6 := HDw5.out.diskTo hd hc
      have Htow6 := Lib.hid htw6
      clear hd hc htw6
      have tB : JTo w w6 B S g q l2 r2 j := JTo.trans HP1.out HC1.out (JTo.trans (fun _ h => Or.inl h) ⟨Hbw5.out.os, Hbw5.out.tape, Hbw5.out.output, Hbw5.out.size, fun i hi _ => Hbw5.out.block i hi⟩ Htow6.out)
      obtain ⟨S2, hJ3, hP2, hC2⟩ := tB
      have HP2 := Lib.hid hP2
      have HC2 := Lib.hid hC2
      clear hP2 hC2 Htow6
      go_wp2_with fail
      have q0 := hJ3.row.box.1
      have q1 := hJ3.row.box.2.1
      rw [Hbj.out] at q1
      have HJ3 := Lib.hid hJ3
      refine region_named 13 (by kernel_rfl) (by kernel_rfl) ?_
      intro w7 hw7
      have q0' := (cell_drew hw7 q 0).trans q0
      have q1' := (cell_drew hw7 q 1).trans q1
      have hbw7 : Below w6.heap.size w6 w7 := by rw [hw7]; exact (Below.refl _ _).drew
      have HDw7 := Lib.hid (HJ3.out.below hbw7)
      have Hbw7 := Lib.hid hbw7
      clear q0 q1 hw7 hbw7 hJ3
      repeat still_step
      refine wpStill_nil ?_
      go_wp2_with fail
      refine (KR HDw7.out.disk).out.mono ?_
      rintro e w8 ⟨rfl, hd, hc⟩
      have htw8 := HDw7.out.diskTo hd hc
      have Htow8 := Lib.hid htw8
      clear hd hc htw8
      go_wp2_with fail
      go_ret
      exact ⟨rfl, JTo.trans HP2.out HC2.out (JTo.trans (fun _ h => Or.inl h) ⟨Hbw7.out.os, Hbw7.out.tape, Hbw7.out.output, Hbw7.out.size, fun i hi _ => Hbw7.out.block i hi⟩ Htow8.out)⟩
    · rw [if_pos e2]
      have d2 : (c2 != 0) = true := by simpa using e2
      clear e2
      go_enter Tryz.func87, Tryz.ntmps87
      go_wp2_with fail
      have q0 := h.row.box.1
      have q1 := h.row.box.2.1
      rw [Hbj.out] at q1
      have HJ := Lib.hid h
      refine region_named 10 (by kernel_rfl) (by kernel_rfl) ?_
      intro w3 hw3
      have q0' := (cell_drew hw3 q 0).trans q0
      have q1' := (cell_drew hw3 q 1).trans q1
      have hbw3 : Below w.heap.size w w3 := by rw [hw3]; exact (Below.refl _ _).drew
      have HDw3 := Lib.hid (HJ.out.below hbw3)
      have Hbw3 := Lib.hid hbw3
      clear q0 q1 hw3 hbw3 h
      repeat still_step
      refine wpStill_nil ?_
      go_wp2_with fail
      refine (KA HDw3.out.disk).out.mono ?_
      rintro e w4 ⟨rfl, hd, hc⟩
      have htw4 := HDw3.out.diskTo hd hc
      have Htow4 := Lib.hid htw4
      clear hd hc htw4
      have tA : JTo w w4 B S g q l1 r1 j := JTo.trans (fun _ h => Or.inl h) ⟨Hbw3.out.os, Hbw3.out.tape, Hbw3.out.output, Hbw3.out.size, fun i hi _ => Hbw3.out.block i hi⟩ Htow4.out
      obtain ⟨S1, hJ1, hP1, hC1⟩ := tA
      have HP1 := Lib.hid hP1
      have HC1 := Lib.hid hC1
      clear hP1 hC1 Htow4
      go_wp2_with fail
      have q0 := hJ1.row.box.1
      have q1 := hJ1.row.box.2.1
      rw [Hbj.out] at q1
      have HJ2 := Lib.hid hJ1
      refine region_named 9 (by kernel_rfl) (by kernel_rfl) ?_
      intro w5 hw5
      have q0' := (cell_drew hw5 q 0).trans q0
      have q1' := (cell_drew hw5 q 1).trans q1
      have hbw5 : Below w4.heap.size w4 w5 := by rw [hw5]; exact (Below.refl _ _).drew
      have HDw5 := Lib.hid (HJ2.out.below hbw5)
      have Hbw5 := Lib.hid hbw5
      clear q0 q1 hw5 hbw5 hJ1
      repeat still_step
      refine wpStill_nil ?_
      go_wp2_with fail
      refine (KS HDw5.out.disk).out.mono ?_
      rintro e w6 ⟨rfl, hd, hc⟩
      have htw6 := HDw5.out.diskTo hd hc
      have Htow6 := Lib.hid htw6
      clear hd hc htw6
      go_wp2_with fail
      go_ret
      exact ⟨rfl, JTo.trans HP1.out HC1.out (JTo.trans (fun _ h => Or.inl h) ⟨Hbw5.out.os, Hbw5.out.tape, Hbw5.out.output, Hbw5.out.size, fun i hi _ => Hbw5.out.block i hi⟩ Htow6.out)⟩
  · rw [if_pos e1]
    have d1 : (c1 != 0) = true := by simpa using e1
    clear e1
    go_enter Tryz.func87, Tryz.ntmps87
    go_wp2_with fail
    have q0 := h.row.box.1
    have q1 := h.row.box.2.1
    rw [Hbj.out] at q1
    have HJ := Lib.hid h
    refine region_named 10 (by kernel_rfl) (by kernel_rfl) ?_
    intro w3 hw3
    have q0' := (cell_drew hw3 q 0).trans q0
    have q1' := (cell_drew hw3 q 1).trans q1
    have hbw3 : Below w.heap.size w w3 := by rw [hw3]; exact (Below.refl _ _).drew
    have HDw3 := Lib.hid (HJ.out.below hbw3)
    have Hbw3 := Lib.hid hbw3
    clear q0 q1 hw3 hbw3 h
    repeat still_step
    refine wpStill_nil ?_
    go_wp2_with fail
    refine (KA HDw3.out.disk).out.mono ?_
    rintro e w4 ⟨rfl, hd, hc⟩
    have htw4 := HDw3.out.diskTo hd hc
    have Htow4 := Lib.hid htw4
    clear hd hc htw4
    go_wp2_with fail
    go_ret
    exact ⟨rfl, JTo.trans (fun _ h => Or.inl h) ⟨Hbw3.out.os, Hbw3.out.tape, Hbw3.out.output, Hbw3.out.size, fun i hi _ => Hbw3.out.block i hi⟩ Htow4.out⟩
end Go.Proofs.YtalfnadejpmjnaaGreatDoor.Jn
