/- law10's few: what it returns. -/
import Derived.Test.YtpphljdnnlfjhaaDoorJrLaw1
import Derived.Test.YtpphljdnnlfjhaaDoorJrParseC
namespace Go.Proofs.YtpphljdnnlfjhaaDoor
open Go.RowKit
set_option maxRecDepth 100000
set_option linter.unusedVariables false
set_option linter.unusedSimpArgs false

def fewL (L : List (List UInt8)) : List (List UInt8) := L.filter fun l => decide (l.length ≤ 4096)
theorem fewL_small (L : List (List UInt8)) : ∀ r ∈ fewL L, r.length ≤ 4096 := by
  intro r hr
  have := (List.mem_filter.1 hr).2
  simpa using this
theorem fewL_le (L : List (List UInt8)) : (fewL L).length ≤ L.length := List.length_filter_le _ _
set_option maxHeartbeats 800000 in
theorem few_any (A : Option Addr) (c : Nat) (L : List (List UInt8)) (w : World) (hr : Texts w w.heap.size A L) (hL : L.length ≤ 8796093022208) (hs : ∀ l ∈ L, l.length ≤ 140737488351232) :
    Calls Tryd.prog 17 #[.slice A L.length c] w fun e w' => (∃ A2 c2, e = .returned (.slice A2 (fewL L).length c2) ∧ (fewL L).length ≤ c2 ∧ Lst w' w.heap.size (.slice A2 (fewL L).length c2) (fewL L)) ∧ Below w.heap.size w w' := by
  obtain ⟨i0, hi, hz0, hz1, hz2⟩ := info_parts str_info
  have Hi := Lib.hid hi; clear hi
  have Hz0 := Lib.hid hz0; clear hz0
  have Hz1 := Lib.hid hz1; clear hz1
  have Hz2 := Lib.hid hz2; clear hz2
  have Hr := Lib.hid hr
  have Hs := Lib.hid hs
  clear hr hs
  go_enter Tryd.func17, Tryd.ntmps17
  go_wp2_with fail
  go_loopw [3, 4] (fun v i wr => ∃ k : Nat, k ≤ L.length ∧ i = .int .i64 (k : Int) ∧ wr.ownsRow w.heap.size 9 1 v (fewL (L.take k)).length ((fewL (L.take k)).map S) ∧ Below w.heap.size w wr) (fun _ i _ => L.length - (intOf i).toNat)
  case atStart => exact ⟨0, by omega, rfl, World.ownsRow_nil _ _ _ _, Below.refl _ _⟩
  case round =>
    obtain ⟨k, hk, rfl, hown, hb⟩ := hrel
    obtain ⟨acc, hacc⟩ : ∃ acc, fewL (L.take k) = acc := ⟨_, rfl⟩
    rw [hacc] at hown
    have hal : acc.length ≤ k := by rw [← hacc]; exact Nat.le_trans (fewL_le _) (by rw [List.length_take]; omega)
    have Hacc := Lib.hid hacc
    clear hacc
    obtain ⟨A3, c3, rfl, hc3⟩ : ∃ A c, u3 = .slice A acc.length c ∧ acc.length ≤ c := by
      rcases hown.2 with ⟨rfl, hx⟩ | ⟨g, cap, cur, rfl, _, _, hcap, _⟩
      · have : acc = [] := by simpa using hx
        subst this
        exact ⟨none, 0, rfl, Nat.le_refl _⟩
      · exact ⟨_, _, rfl, hcap⟩
    have Hb := Lib.hid hb
    have Hown := Lib.hid hown
    clear hb hown
    by_cases hlt : k < L.length
    · have d1 : decide ((k : Int) < (L.length : Int)) = true := by simp only [decide_eq_true_eq]; omega
      have d1' : decide (k < L.length) = true := by simp only [decide_eq_true_eq]; omega
      obtain ⟨b, off, rfl, hbl, hc⟩ := Hr.out (by rintro rfl; simp at hlt)
      have hck := hc k hlt
      have hcell : wr.cell? ⟨b, off + k, none⟩ = some (S L[k]) := by rw [← hck]; exact World.cell?_of_block (a := ⟨b, off + k, none⟩) (Hb.out.block b hbl)
      obtain ⟨s, hsb⟩ : ∃ s : ByteArray, (⟨L[k].toArray⟩ : ByteArray) = s := ⟨_, rfl⟩
      have hsz : s.size = L[k].length := by rw [← hsb]; rfl
      have hSv : S L[k] = .string s := by rw [← hsb]
      rw [hSv] at hcell
      have hsm := Hs.out L[k] (List.getElem_mem hlt)
      have hsucc : fewL (L.take (k + 1)) = if L[k].length ≤ 4096 then acc ++ [L[k]] else acc := by
        rw [List.take_succ_eq_append_getElem hlt]
        unfold fewL at *
        rw [List.filter_append, Hacc.out]
        by_cases hle : L[k].length ≤ 4096
        · rw [if_pos hle]; simp [hle]
        · rw [if_neg hle]; simp [hle]
      by_cases hle : s.size ≤ 4096
      · have d2 : decide ((s.size : Int) ≤ 4096) = true := by simp only [decide_eq_true_eq]; omega
        have d2' : decide (s.size ≤ 4096) = true := by simp only [decide_eq_true_eq]; omega
        rw [if_pos (by omega)] at hsucc
        have Hsucc := Lib.hid hsucc
        have hown1 := Hown.out.alloc (.cells #[.string s] 9)
        have hbel1 := Hb.out.alloc Hb.out.size (.cells #[.string s] 9)
        have hszw := hbel1.size
        have hMx : acc.length + 1 ≤ 8796093022208 := by omega
        have c1 : acc.length + 1 ≤ maxLen := Nat.le_trans hMx (by decide)
        have c4 : (acc.length + 1) * 16 ≤ 140737488355328 := by omega
        have hc1 := one_at wr 9 (.string s)
        have Hown1 := Lib.hid hown1
        have Hc1 := Lib.hid hc1
        have HSv := Lib.hid hSv
        have Hbl := Lib.hid hbl
        clear hown1 hc1 hc hck hsb hsz hSv hsm hsucc hbl
        go_wp2_with (at_builtin; refine wpList_append_own _ rfl (.tmp 17) (.tmp 22) _ rfl w.heap.size 9 i0 _ 1 16 Tryd.underlying22 Hi.out Hz0.out Hz1.out Hz2.out rfl (by decide) (.slice A3 acc.length c3) acc.length (acc.map S) rfl Hown1.out ⟨wr.heap.size, 0, none⟩ 1 1 [.string s] rfl rfl Hc1.out (by simp [Value.oneCell']) c1 c4 hszw ?_; intro v2 w2 hown2 hgr2 _)
        refine ⟨⟨k + 1, by omega, by go_num, ?_, hbel1.grown hgr2 hszw (fun g hg => (Hown1.out.lt g hg).1)⟩, by simp [intOf]; omega⟩
        rw [Hsucc.out, List.map_append, List.map_singleton, HSv.out, List.length_append]
        simpa using hown2
      · have d2 : decide ((s.size : Int) ≤ 4096) = false := by simp only [decide_eq_false_iff_not]; omega
        have d2' : decide (s.size ≤ 4096) = false := by simp only [decide_eq_false_iff_not]; omega
        rw [if_neg (by omega)] at hsucc
        have Hsucc := Lib.hid hsucc
        clear hc hck hsb hsz hSv hsm hsucc hbl
        go_wp2_with fail
        refine ⟨⟨k + 1, by omega, by go_num, by rw [Hsucc.out]; exact Hown.out, Hb.out⟩, by simp [intOf]; omega⟩
    · have d1 : decide ((k : Int) < (L.length : Int)) = false := by simp only [decide_eq_false_iff_not]; omega
      have d1' : decide (k < L.length) = false := by simp only [decide_eq_false_iff_not]; omega
      have hal2 : acc = fewL L := by rw [← Hacc.out, List.take_of_length_le (by omega)]
      have Hal := Lib.hid hal2
      clear hal2
      go_wp2_with fail
      go_ret
      rw [← Hal.out]
      refine ⟨⟨A3, c3, rfl, hc3, ?_⟩, Hb.out⟩
      rcases Hown.out.2 with ⟨hA, hx⟩ | ⟨g, cap, cur, hv, _⟩
      · have : acc = [] := by simpa using hx
        subst this
        exact lst_nil _ _ _ _
      · injection hv with hA1 hA2 hA3
        subst hA1
        subst hA3
        exact lst_own Hown.out _
end Go.Proofs.YtpphljdnnlfjhaaDoor
