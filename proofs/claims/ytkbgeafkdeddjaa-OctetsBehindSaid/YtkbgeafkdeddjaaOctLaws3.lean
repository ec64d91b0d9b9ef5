/- Layer 1's laws on what goes there and back: what they return. -/
import Derived.Test.YtkbgeafkdeddjaaOctLaws2
namespace Go.Proofs.Ytkbgeafkdeddjaa
open Go.RowKit
set_option linter.unusedVariables false

theorem cat_list (s : ByteArray) (a b : List UInt8) : (s ++ ⟨a.toArray⟩ ++ ⟨b.toArray⟩ : ByteArray).data.toList = s.data.toList ++ a ++ b := by simp
theorem cat_size (s : ByteArray) (a b : List UInt8) : (s ++ ⟨a.toArray⟩ ++ ⟨b.toArray⟩ : ByteArray).size = s.size + a.length + b.length := by
  rw [← Oct.bytes_len, cat_list, List.length_append, List.length_append]; rfl
theorem numE_ok {n : Int} {a : List UInt8} (h : Oct.numE n = (a, 0)) : 0 ≤ n ∧ a = Oct.num n.toNat := by
  unfold Oct.numE at h
  split at h
  · simp at h
  · simp only [Prod.mk.injEq, and_true] at h
    exact ⟨by omega, h.symm⟩
theorem listE_len {l : List (List UInt8)} {b : List UInt8} {e : Int} (h : Oct.listE l = (b, e)) : b.length ≤ 9 + 9 * 1024 + 65536 ∧ (e = 0 → l.length ≤ 1024) := by
  unfold Oct.listE at h
  split at h
  · simp only [Prod.mk.injEq] at h; obtain ⟨rfl, rfl⟩ := h; simp
  · next hl =>
    cases hg : Oct.listGo 65536 l with
    | none => rw [hg] at h; simp only [Prod.mk.injEq] at h; obtain ⟨rfl, rfl⟩ := h; simp
    | some c =>
      rw [hg] at h
      simp only [Prod.mk.injEq] at h
      obtain ⟨rfl, rfl⟩ := h
      obtain ⟨h1, rfl⟩ := Oct.listGo_some hg
      have hn := Oct.num_length_le l.length
      have ht : ((l.map Oct.text).flatten).length ≤ 9 * l.length + Oct.total l := by
        clear hg h1 hn hl
        induction l with
        | nil => simp [Oct.total]
        | cons s r ih =>
          have h9 := Oct.num_length_le s.length
          simp [Oct.text, Oct.total] at ih ⊢
          omega
      refine ⟨?_, fun _ => by omega⟩
      rw [List.length_append]; omega

set_option maxHeartbeats 800000 in
set_option maxRecDepth 100000 in
theorem octetsBack_any (n : Int) (v : Value) (l : List (List UInt8)) (s : ByteArray) (w : World) (hn : n ≤ 9223372036854775807) (hv : TextsV w v l) (hs : s.size ≤ 140737488351232) :
    Calls Try.prog 6 #[.int .i64 n, v, .string s] w fun e w' => e = .returned (.bool true) ∧ Below w.heap.size w w' := by
  rcases hx : Oct.numE n with ⟨a, ea⟩
  rcases hy : Oct.listE l with ⟨b, eb⟩
  have hal : a.length ≤ 9 := by
    have h : (Oct.numE n).1.length ≤ 9 := by
      unfold Oct.numE; split
      · simp
      · exact Oct.num_length_le _
    rw [hx] at h; exact h
  have hbl := (listE_len hy).1
  have hll := (listE_len hy).2
  have Hx := Lib.hid hx
  have Hy := Lib.hid hy
  have Hll := Lib.hid hll
  clear hx hy hll
  go_enter Try.func6, Try.ntmps6
  go_wp2_with fail
  refine (Number_any _ _ hn).mono ?_
  rintro e w1 ⟨rfl, hb1⟩
  rw [Hx.out]
  unfold two
  go_wp2_with fail
  refine (list_v (hv.below hb1)).mono ?_
  rintro e w2 ⟨rfl, hb2⟩
  rw [Hy.out]
  unfold two
  go_wp2_with fail
  refine (awake1_any _).mono ?_
  rintro e w3 ⟨rfl, hb3⟩
  have h2 := hb1.trans (hb2.mono hb1.size)
  have h3 := h2.trans (hb3.mono h2.size)
  have hrest : ∀ W : World, True := fun _ => trivial
  by_cases hea : ea = 0
  · subst hea
    obtain ⟨hn0, ha⟩ := numE_ok Hx.out
    have hrd : rdNumV (s ++ ⟨a.toArray⟩ ++ ⟨#[120]⟩) s.size = three n ((s.size : Int) + (a.length : Int)) 0 := by
      have h := Oct.rdNum_num s.data.toList [120] n.toNat (by omega)
      unfold rdNumV
      rw [show (⟨#[120]⟩ : ByteArray) = ⟨[120].toArray⟩ from rfl, cat_list, ha]
      rw [Oct.bytes_len] at h
      rw [h]
      show three _ _ _ = _
      rw [Int.toNat_of_nonneg hn0]
      rfl
    have Hrd := Lib.hid hrd
    clear hrd ha
    have hsz : (s ++ ⟨a.toArray⟩ ++ ⟨#[120]⟩ : ByteArray).size ≤ 9223372036854775807 := by
      rw [show (⟨#[120]⟩ : ByteArray) = ⟨[120].toArray⟩ from rfl, cat_size]
      have : [(120 : UInt8)].length = 1 := rfl
      omega
    go_wp2_with fail
    refine (readNumber_any _ _ _ (by exact hsz)).mono ?_
    rintro e w4 ⟨rfl, rfl⟩
    rw [Hrd.out]
    unfold three
    by_cases heb : eb = 0
    · subst heb
      have hll := Hll.out rfl
      have hrd2 : Oct.rdList (s ++ ⟨b.toArray⟩ ++ ⟨#[120]⟩ : ByteArray).data.toList s.size = (l, (s.size : Int) + (b.length : Int), 0) := by
        have h := Oct.rdList_list s.data.toList [120] l b Hy.out
        rw [show (⟨#[120]⟩ : ByteArray) = ⟨[120].toArray⟩ from rfl, cat_list]
        rw [Oct.bytes_len] at h
        rw [h]; rfl
      have hsz2 : (s ++ ⟨b.toArray⟩ ++ ⟨#[120]⟩ : ByteArray).size ≤ 9223372036854775807 := by
        rw [show (⟨#[120]⟩ : ByteArray) = ⟨[120].toArray⟩ from rfl, cat_size]
        have : [(120 : UInt8)].length = 1 := rfl
        omega
      have Hrd2 := Lib.hid hrd2
      clear hrd2
      go_wp2_with fail
      refine (ReadList_any _ _ _ (by exact hsz2)).mono ?_
      rintro e w4 ⟨v2, rfl, ht2, hb4⟩
      rw [Hrd2.out] at ht2 ⊢
      have hv4 := (((hv.below hb1).below hb2).below hb3).below hb4
      have h4 := h3.trans (hb4.mono h3.size)
      go_wp2_with fail
      refine (same_v ht2 hv4 (by omega) (by omega)).mono ?_
      rintro e w5 ⟨rfl, nn, rfl⟩
      go_wp2_with fail
      go_ret
      exact ⟨by simp, below_drewN h4 _⟩
    · have hd2 : (eb != 0) = true := by rw [bne_iff_ne]; exact heb
      have hb0 : b = [] := by
        rcases Oct.listE_err Hy.out with h | h
        · exact absurd h heb
        · exact h.1
      subst hb0
      go_wp2_with fail
      go_ret
      exact ⟨rfl, h3⟩
  · have hd1 : (ea == 0) = false := by simpa using hea
    by_cases heb : eb = 0
    · subst heb
      have hll := Hll.out rfl
      have hrd2 : Oct.rdList (s ++ ⟨b.toArray⟩ ++ ⟨#[120]⟩ : ByteArray).data.toList s.size = (l, (s.size : Int) + (b.length : Int), 0) := by
        have h := Oct.rdList_list s.data.toList [120] l b Hy.out
        rw [show (⟨#[120]⟩ : ByteArray) = ⟨[120].toArray⟩ from rfl, cat_list]
        rw [Oct.bytes_len] at h
        rw [h]; rfl
      have hsz2 : (s ++ ⟨b.toArray⟩ ++ ⟨#[120]⟩ : ByteArray).size ≤ 9223372036854775807 := by
        rw [show (⟨#[120]⟩ : ByteArray) = ⟨[120].toArray⟩ from rfl, cat_size]
        have : [(120 : UInt8)].length = 1 := rfl
        omega
      have Hrd2 := Lib.hid hrd2
      clear hrd2
      go_wp2_with fail
      refine (ReadList_any _ _ _ (by exact hsz2)).mono ?_
      rintro e w4 ⟨v2, rfl, ht2, hb4⟩
      rw [Hrd2.out] at ht2 ⊢
      have hv4 := (((hv.below hb1).below hb2).below hb3).below hb4
      have h4 := h3.trans (hb4.mono h3.size)
      go_wp2_with fail
      refine (same_v ht2 hv4 (by omega) (by omega)).mono ?_
      rintro e w5 ⟨rfl, nn, rfl⟩
      go_wp2_with fail
      go_ret
      exact ⟨by simp, below_drewN h4 _⟩
    · have hd2 : (eb != 0) = true := by rw [bne_iff_ne]; exact heb
      have hb0 : b = [] := by
        rcases Oct.listE_err Hy.out with h | h
        · exact absurd h heb
        · exact h.1
      subst hb0
      go_wp2_with fail
      go_ret
      exact ⟨rfl, h3⟩
end Go.Proofs.Ytkbgeafkdeddjaa
