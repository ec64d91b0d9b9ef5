/- The reference's Taken. -/
import Derived.Test.YtgdijbcoacgadaaDoorOdFrom
namespace Go.Proofs.YtgdijbcoacgadaaDoor
open Go.RowKit
set_option linter.unusedVariables false
set_option linter.unusedSimpArgs false
set_option maxRecDepth 100000

def Od.rtake (rs : List Rp) (k : Nat) : Nat := (rs.take k).countP (fun r => decide (r.kind = 2))
theorem Od.rtake_next {rs : List Rp} {k : Nat} (h : k < rs.length) : Od.rtake rs (k + 1) = Od.rtake rs k + if rs[k].kind = 2 then 1 else 0 := by
  unfold Od.rtake
  rw [← List.take_append_getElem h, List.countP_append, List.countP_singleton]
  simp
theorem Od.rtake_le (rs : List Rp) (k : Nat) : Od.rtake rs k ≤ k := by
  have := List.countP_le_length (p := fun r : Rp => decide (r.kind = 2)) (l := rs.take k)
  rw [List.length_take] at this
  unfold Od.rtake
  omega
/-- how many are looked at -/
def Od.most (n : Nat) (m : Int) : Nat := if m < 0 then 0 else if m < (n : Int) then m.toNat else n
set_option maxHeartbeats 3200000 in
theorem rtaken_any (rs : List Rp) (A : Option Addr) (c : Nat) (m : Int) (w : World) (h : SlR w w.heap.size A c rs) :
    Calls Tryd.prog 20 #[.slice A rs.length c, .int .i64 m] w fun e w' => e = .returned (.int .i64 (Od.rtake rs (Od.most rs.length m))) ∧ w = w' := by
  have H1 := Lib.hid h
  have hl6 : rs.length ≤ 1000000 := h.2.2.2.1
  obtain ⟨n, hn⟩ : ∃ n, rs.length = n := ⟨_, rfl⟩
  rw [hn] at hl6 ⊢
  have HN := Lib.hid hn
  have HM : Hid (∀ k, k ≤ n → ((k : Int) ≤ m ∨ k = 0) → (¬ k < n ∨ ¬ (k : Int) < m) → Od.most n m = k) := Lib.hid (fun k h1 h2 h3 => by
    unfold Od.most
    by_cases q1 : m < 0
    · rw [if_pos q1]; omega
    · rw [if_neg q1]
      by_cases q2 : m < (n : Int)
      · rw [if_pos q2]; omega
      · rw [if_neg q2]; omega)
  clear h hn
  go_enter Tryd.func20, Tryd.ntmps20
  go_wp2_with fail
  go_loopw [5, 6] (fun s5 s6 wr => ∃ k : Nat, k ≤ n ∧ ((k : Int) ≤ m ∨ k = 0) ∧ s5 = .int .i64 (Od.rtake rs k) ∧ s6 = .int .i64 k ∧ w = wr) (fun _ i _ => n - (intOf i).toNat)
  case atStart => exact ⟨0, Nat.zero_le _, .inr rfl, rfl, rfl, rfl⟩
  case round =>
    obtain ⟨k, hk, hkm, rfl, rfl, rfl⟩ := hrel
    have hk0 : (0 : Int) ≤ (k : Int) := by omega
    have hle := Od.rtake_le rs k
    by_cases hkn : k < n
    · have hki : (k : Int) < (n : Int) := by omega
      by_cases hm : (k : Int) < m
      · have hkl : k < rs.length := by rw [HN.out]; exact hkn
        have dm : decide ((k : Int) < m) = true := decide_eq_true hm
        obtain ⟨g, off, rfl, hg, hat⟩ := H1.out.1 (by intro e; rw [e] at hkl; simp at hkl)
        have hf := H1.out.2.2.2.2 _ (List.getElem_mem hkl)
        have c1 := (Rp.at hf.prev (hat k hkl)).2.1
        have hnx := Od.rtake_next hkl
        have HNx := Lib.hid hnx
        generalize rs[k].kind = kd at *
        by_cases h2 : kd = 2
        · subst h2
          rw [if_pos rfl] at HNx
          have ew : IntKind.i64.wrap ((Od.rtake rs k : Nat) + 1 : Int) = ((Od.rtake rs k : Nat) : Int) + 1 := IntWalk.i64_in _ (by omega)
          clear hf hat hnx hkm hkl
          go_wp2_with fail
          exact ⟨⟨k + 1, by omega, by omega, by rw [HNx.out]; go_num, by go_num, by first | rfl | trivial⟩, by simp [intOf]; omega⟩
        · rw [if_neg h2] at HNx
          have d2 : decide (kd = 2) = false := decide_eq_false h2
          have d2b : (kd == 2) = false := by simpa using h2
          have d2p : (kd = 2) = False := by simpa using h2
          clear hf hat hnx hkm hkl h2
          go_wp2_with fail
          exact ⟨⟨k + 1, by omega, by omega, by rw [HNx.out]; rfl, by go_num, by first | rfl | trivial⟩, by simp [intOf]; omega⟩
      · have dm : decide ((k : Int) < m) = false := decide_eq_false hm
        have HE := Lib.hid (HM.out k hk hkm (.inr (by omega)))
        go_wp2_with fail
        go_ret
        exact ⟨by rw [HE.out]; rfl, rfl⟩
    · have hki : ¬ (k : Int) < (n : Int) := by omega
      have HE := Lib.hid (HM.out k hk hkm (.inl (by omega)))
      go_wp2_with fail
      go_ret
      exact ⟨by rw [HE.out]; rfl, rfl⟩
theorem Od.Good.nobody {rs : List Rp} (h : Od.Good rs) (k : Nat) (hk : k < rs.length) : Od.by_ rs[k] = -1 ↔ rs[k].kind = 2 := by
  have ht := h.took k hk
  have ha := Od.ask_whose ht.asks
  have hok := ht.rok
  rw [Rp.ok_iff] at hok
  unfold Od.by_
  constructor
  · intro hb
    rcases hok.1 with q | q
    · have := ha.2.1 q; omega
    · exact q
  · intro q
    exact ha.2.2 (by omega)
theorem Od.taken_at {rs : List Rp} (h : Od.Good rs) (m : Int) : ∀ k, k ≤ rs.length → Od.lt (Od.del (rs.take k)) m = Od.rtake rs (min k (Od.most rs.length m))
  | 0, _ => by rw [Nat.zero_min]; rfl
  | k + 1, hk => by
    have ih := Od.taken_at h m k (by omega)
    have hkl : k < rs.length := by omega
    have hM : k < Od.most rs.length m ↔ (k : Int) < m := by
      unfold Od.most
      split
      · omega
      · split <;> omega
    have hnb := h.nobody k hkl
    have hix := h.index k hkl
    have hnx := Od.rtake_next hkl
    rw [← List.take_append_getElem hkl]
    by_cases hb : Od.by_ rs[k] = -1
    · rw [Od.del_push hb, hix]
      unfold Od.lt at ih ⊢
      rw [List.countP_append, ih, List.countP_singleton]
      by_cases hm : (k : Int) < m
      · rw [Nat.min_eq_left (by have := hM.2 hm; omega), Nat.min_eq_left (by have := hM.2 hm; omega), hnx, if_pos (hnb.1 hb), if_pos (decide_eq_true hm)]
      · have hle : Od.most rs.length m ≤ k := by have := fun q => hm (hM.1 q); exact Nat.not_lt.1 this
        rw [Nat.min_eq_right hle, Nat.min_eq_right (by omega), if_neg (by simpa using hm)]
        rfl
    · rw [Od.del_same hb, ih]
      by_cases hm : (k : Int) < m
      · rw [Nat.min_eq_left (by have := hM.2 hm; omega), Nat.min_eq_left (by have := hM.2 hm; omega), hnx, if_neg (fun q => hb (hnb.2 q))]
        rfl
      · have hle : Od.most rs.length m ≤ k := by have := fun q => hm (hM.1 q); exact Nat.not_lt.1 this
        rw [Nat.min_eq_right hle, Nat.min_eq_right (by omega)]
theorem Od.taken_rtake {rs : List Rp} (h : Od.Good rs) (m : Int) : Od.taken rs m = Od.rtake rs (Od.most rs.length m) := by
  have := Od.taken_at h m rs.length (Nat.le_refl _)
  rw [List.take_length, Nat.min_eq_right (by unfold Od.most; split <;> (try split) <;> omega)] at this
  exact this
end Go.Proofs.YtgdijbcoacgadaaDoor
