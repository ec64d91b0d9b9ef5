/- digest.path: what it returns. -/
import Derived.Test.YtdifbndpgbdkbaaDoorShaClimb
import Derived.Test.YtdifbndpgbdkbaaDoorHashEq
import Derived.Laws.AppendOwn
namespace Go.Proofs.YtdifbndpgbdkbaaDoor
open Go.RowKit
set_option linter.unusedVariables false
set_option linter.unusedSimpArgs false

namespace Sha
theorem half_le_pow (n k : Nat) (h2 : 2 ≤ n) (h : n ≤ 2 ^ (k + 1)) : half n ≤ 2 ^ k := by
  unfold half
  refine Nat.pow_le_pow_right (by decide) ?_
  have : n - 1 < 2 ^ (k + 1) := by omega
  have h3 := (Nat.log2_lt (by omega : n - 1 ≠ 0)).2 this
  omega
theorem path_len_log : ∀ (k n i : Nat), n ≤ 2 ^ k → (path n i).length ≤ k
  | 0, n, i, h => by rw [path_one n i (by simp at h; omega)]; simp
  | k + 1, n, i, h => by
    by_cases h2 : 2 ≤ n
    · have hh := half_le_pow n k h2 h
      have hg := half_ge n h2
      by_cases hi : i < half n
      · rw [path_left n i h2 hi]
        have := path_len_log k (half n) i hh
        simp; omega
      · rw [path_right n i h2 hi]
        have := path_len_log k (n - half n) (i - half n) (by omega)
        simp; omega
    · rw [path_one n i h2]; simp
end Sha
/-- a turn as a number -/
def side (b : Bool) : Value := .int .i64 (if b then 1 else 0)
theorem int_info : (Tryd.prog.info? 3).map (fun i => (i.zero, i.size, i.bytes)) = some (some (.int .i64 0), 1, 8) := by kernel_rfl
/-- what an append onto a row of the call's own leaves of what lay below -/
theorem below_own {w' w1 : World} {base : Nat} {e : TypeId} {v : Value} {n : Nat} {xs : List Value} {o : Obj} (h : w'.ownsRow base e 1 v n xs) (hs : base ≤ w'.heap.size) (hg : (w'.alloc o).grownBy w1 v.ownBlock) : Below base w' w1 := by
  refine ((Below.refl base w').alloc hs o).grown hg (by simp; omega) (fun g hg2 => ?_)
  rcases h.2 with ⟨rfl, _⟩ | ⟨g', cap, cur, rfl, hb, _⟩
  · simp [Value.ownBlock] at hg2
  · have : g' = g := by simpa [Value.ownBlock] using hg2
    omega
set_option maxHeartbeats 2000000 in
set_option maxRecDepth 100000 in
theorem path_any (n i : Nat) (w : World) (hn : n ≤ 9223372036854775807) (hi : i < n) :
    Calls Tryd.prog 46 #[.int .i64 n, .int .i64 i] w fun e w' => ∃ v, e = .returned v ∧ w'.ownsRow w.heap.size 3 1 v (Sha.path n i).length ((Sha.path n i).map side) ∧ Below w.heap.size w w' := by
  obtain ⟨i0, hii, hz0, hz1, hz2⟩ := info_parts int_info
  have HI := Lib.hid hii
  have HZ0 := Lib.hid hz0
  have HZ1 := Lib.hid hz1
  have HZ2 := Lib.hid hz2
  clear hii hz0 hz1 hz2
  go_enter Tryd.func46, Tryd.ntmps46
  go_wp2_with fail
  go_loopw [0, 1, 5] (fun a b v wr => ∃ (m j : Nat) (pre : List Bool), a = .int .i64 m ∧ b = .int .i64 j ∧ j < m ∧ m ≤ n ∧ Sha.path n i = pre ++ Sha.path m j ∧ wr.ownsRow w.heap.size 3 1 v pre.length (pre.map side) ∧ Below w.heap.size w wr) (fun a _ _ _ => (intOf a).toNat)
  case atStart => exact ⟨n, i, [], rfl, rfl, hi, Nat.le_refl _, rfl, ⟨rfl, .inl ⟨rfl, rfl⟩⟩, Below.refl _ _⟩
  case round =>
    obtain ⟨m, j, pre, rfl, rfl, hj, hm, hp, hown, hb⟩ := hrel
    have hlog := Sha.path_len_log 63 n i (by omega)
    by_cases h2 : 2 ≤ m
    · have hl := Sha.half_lt m h2
      have hpos := Sha.half_pos m
      by_cases hjk : j < Sha.half m
      · rw [Sha.path_left m j h2 hjk] at hp
        have hpl : pre.length + 1 ≤ 63 := by rw [hp] at hlog; simp at hlog; omega
        have HP := Lib.hid hp
        have HO := Lib.hid hown
        have HB := Lib.hid hb
        clear hp hown hb hlog
        go_wp2_with fail
        refine (half_any m wr h2 (by omega)).mono ?_
        rintro e w' ⟨rfl, rfl⟩
        have HL := Lib.hid hl
        generalize hk : Sha.half m = k at *
        have HK := Lib.hid hk
        clear hk
        go_wp2_with (at_builtin; refine wpList_append_own _ rfl _ _ 71 rfl w.heap.size 3 i0 (.int .i64 0) 1 8 Tryd.underlying71 HI.out HZ0.out HZ1.out HZ2.out rfl (by decide) _ _ _ rfl (HO.out.alloc _) ⟨w'.heap.size, 0, none⟩ 1 1 [side false] rfl rfl ?_ (by intro u hu; simp at hu; subst hu; rfl) (by unfold maxLen; omega) (by omega) (by have := HB.out.size; simp; omega) ?_; rotate_left; intro v' w1 hown' hgrow _; have HO' := Lib.hid hown'; have HG := Lib.hid hgrow; clear hown' hgrow)
        · refine ⟨⟨k, j, pre ++ [false], by go_num, by go_num, by omega, by omega, by rw [HP.out, List.append_assoc]; rfl, by rw [List.length_append, List.map_append]; exact HO'.out, HB.out.trans ?_⟩, by simp [intOf]; omega⟩
          exact below_own HO.out (HB.out.size) HG.out
        · intro jj u hu
          have h0 : jj = 0 := by have := (List.getElem?_eq_some_iff.1 hu).1; simp at this; omega
          subst h0
          simp [go_sem] at hu ⊢
          exact hu
      · rw [Sha.path_right m j h2 hjk] at hp
        have hpl : pre.length + 1 ≤ 63 := by rw [hp] at hlog; simp at hlog; omega
        have HP := Lib.hid hp
        have HO := Lib.hid hown
        have HB := Lib.hid hb
        clear hp hown hb hlog
        go_wp2_with fail
        refine (half_any m wr h2 (by omega)).mono ?_
        rintro e w' ⟨rfl, rfl⟩
        have HL := Lib.hid hl
        generalize hk : Sha.half m = k at *
        have HK := Lib.hid hk
        clear hk
        go_wp2_with (at_builtin; refine wpList_append_own _ rfl _ _ 71 rfl w.heap.size 3 i0 (.int .i64 0) 1 8 Tryd.underlying71 HI.out HZ0.out HZ1.out HZ2.out rfl (by decide) _ _ _ rfl (HO.out.alloc _) ⟨w'.heap.size, 0, none⟩ 1 1 [side true] rfl rfl ?_ (by intro u hu; simp at hu; subst hu; rfl) (by unfold maxLen; omega) (by omega) (by have := HB.out.size; simp; omega) ?_; rotate_left; intro v' w1 hown' hgrow _; have HO' := Lib.hid hown'; have HG := Lib.hid hgrow; clear hown' hgrow)
        · refine ⟨⟨m - k, j - k, pre ++ [true], by go_num, by go_num, by omega, by omega, by rw [HP.out, List.append_assoc]; rfl, by rw [List.length_append, List.map_append]; exact HO'.out, HB.out.trans ?_⟩, by simp [intOf]; omega⟩
          exact below_own HO.out (HB.out.size) HG.out
        · intro jj u hu
          have h0 : jj = 0 := by have := (List.getElem?_eq_some_iff.1 hu).1; simp at this; omega
          subst h0
          simp [go_sem] at hu ⊢
          exact hu
    · have hm1 : m = 1 := by omega
      subst hm1
      rw [Sha.path_one 1 j (by omega), List.append_nil] at hp
      have HP := Lib.hid hp
      have HO := Lib.hid hown
      clear hp hown
      go_wp2_with fail
      go_ret
      exact ⟨_, rfl, by rw [HP.out]; exact HO.out, hb⟩
end Go.Proofs.YtdifbndpgbdkbaaDoor
