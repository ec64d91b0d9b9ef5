/- JournalKeeps: its parts. -/
import Derived.Test.YtpphljdnnlfjhaaDoorJrL1
import Derived.Test.YtpphljdnnlfjhaaDoorJrL2
import Derived.Laws.AppendOwnNone
import Derived.Great.BuildSlice
namespace Go.Proofs.YtpphljdnnlfjhaaDoor
open Go.RowKit
set_option maxRecDepth 100000
set_option linter.unusedVariables false
set_option linter.unusedSimpArgs false

theorem own_base {w : World} {b b' : Nat} {e : TypeId} {sz n : Nat} {v : Value} {xs : List Value} (h : w.ownsRow b e sz v n xs) (hb : b' ≤ b) : w.ownsRow b' e sz v n xs := by
  obtain ⟨h1, h2⟩ := h
  refine ⟨h1, ?_⟩
  rcases h2 with h2 | ⟨g, cap, cur, hv, hg, rest⟩
  · exact .inl h2
  · exact .inr ⟨g, cap, cur, hv, Nat.le_trans hb hg, rest⟩
theorem own_slice {w : World} {b : Nat} {v : Value} {L : List (List UInt8)} (h : w.ownsRow b 9 1 v L.length (L.map S)) : ∃ A c, v = .slice A L.length c ∧ L.length ≤ c ∧ Lst w b (.slice A L.length c) L := by
  rcases h.2 with ⟨rfl, hx⟩ | ⟨g, cap, cur, rfl, _, _, hcap, _⟩
  · have : L = [] := by simpa using hx
    subst this
    exact ⟨none, 0, rfl, Nat.le_refl _, lst_nil _ _ _ _⟩
  · exact ⟨_, _, rfl, hcap, lst_own h _⟩
theorem Jr.Done.parse {l : List Fl} {all : List (List UInt8)} {safe : Nat} {ks : List Int} (h : Jr.Done l all safe) : ∃ (o x : Option (List UInt8 × Int)) (k : Nat), Fl.crashL l ks = Jr.St o x ∧ (Jr.by_ o).length ≤ 1048576 ∧ (Jr.parse (Jr.by_ o)).1 = all.take k ∧ safe ≤ k ∧ k ≤ all.length := by
  obtain ⟨o, x, n, rfl, h1, h2, h3, h4, h5, h6, h7, h8⟩ := h
  obtain ⟨k1, k2, hc⟩ := Jr.crash_St o x ks
  cases o with
  | none =>
    have hs0 : safe = 0 := by
      have hz : (Jr.lays 0 (all.take safe)).length = 0 := by have : Jr.sf (none : Option (List UInt8 × Int)) = 0 := rfl; omega
      have := Jr.lays_nil hz
      have h9 : min safe all.length = 0 := by rw [← List.length_take, this]; rfl
      omega
    exact ⟨none, _, 0, hc, by simp [Jr.by_], by rw [List.take_zero]; rfl, by omega, Nat.zero_le _⟩
  | some p =>
    obtain ⟨m, hm, hm1, hm2⟩ := Jr.cut_take (p := p) h5 h6 k1
    have hb : Jr.by_ (some (p.1.take m, (m : Int))) = (Jr.lays 0 (all.take n)).take m := by rw [← h2]; rfl
    obtain ⟨k, hk1, hk2, hk3⟩ := Jr.lays_torn (all.take n) m h8
    have hk4 : (all.take n).take k = all.take (min k n) := by rw [List.take_take]
    refine ⟨some (p.1.take m, (m : Int)), _, min k n, by rw [hc, Option.map_some, hm], ?_, by rw [hb, hk1, hk4], ?_, by omega⟩
    · show (p.1.take m).length ≤ _
      have : p.1.length ≤ 1048576 := h7
      rw [List.length_take]; omega
    · have h9 := hk3 safe (by rw [List.length_take]; omega) (by
        rw [List.take_take, Nat.min_eq_left h3]
        have : Jr.sf (some p) = p.2 := rfl
        omega)
      omega
theorem begins_true {w : World} {b1 b2 : Nat} {v1 : Value} {A2 : Option Addr} {c2 k : Nat} {L : List (List UInt8)} {safe : Nat} (h1 : Lst w b1 v1 (L.take k)) (h2 : Lst w b2 (.slice A2 L.length c2) L) (hc : L.length ≤ c2) (hk : k ≤ L.length) (hs : safe ≤ k) (hl : L.length ≤ 1000000000) :
    Calls Tryd.prog 20 #[v1, .slice A2 L.length c2, .int .i64 (safe : Int)] w fun e w' => e = .returned (.bool true) ∧ Below w.heap.size w w' := by
  have htk : (L.take k).length = k := by rw [List.length_take]; omega
  obtain ⟨A3, hs3, hl3⟩ := h2.cut hc k hk
  obtain ⟨A1, c1, rfl, _⟩ := id h1
  have hsame0 := same_lists h1 hl3 (by rw [htk]; omega) (by rw [htk]; omega)
  rw [htk] at hsame0 ⊢
  have hsame : Calls Tryd.prog 11 #[.slice A1 k c1, .slice A3 k c2] w fun e w' => e = .returned (.bool true) ∧ ∃ n, w' = w.drewN n := hsame0.mono fun _ _ ⟨he, hn⟩ => ⟨by rw [he]; simp, hn⟩
  clear hsame0
  have d1 : decide ((k : Int) ≤ (L.length : Int)) = true := by simp only [decide_eq_true_eq]; omega
  have d1' : decide (k ≤ L.length) = true := by simp only [decide_eq_true_eq]; exact hk
  have d2 : decide ((safe : Int) ≤ (k : Int)) = true := by simp only [decide_eq_true_eq]; omega
  have d2' : decide (safe ≤ k) = true := by simp only [decide_eq_true_eq]; exact hs
  have Hsame := Lib.hid hsame
  clear hsame h1 h2 hl3 htk
  go_enter Tryd.func20, Tryd.ntmps20
  go_wp2_with fail
  refine Hsame.out.mono ?_
  rintro _ w1 ⟨rfl, m, rfl⟩
  go_wp2_with fail
  go_ret
  exact ⟨rfl, bel_drewN (Below.refl _ _) m⟩
theorem S_one (L : List (List UInt8)) : ∀ u ∈ L.map S, u.oneCell' = true := fun u hu => by
  obtain ⟨p, _, rfl⟩ := List.mem_map.1 hu
  rfl
/-- one list of texts put behind another -/
theorem wp_append_texts {w : World} {o : Oper} {a : Act} {K : Act → World → Prop} {Q : Exit → Act → World → Prop} (s x : Operand)
    (ho : o.op = .call { callee := .builtin .append, args := #[s, x], argTypes := #[22, 22] }) (base base2 : Nat) (v : Value) (n : Nat) (xs : List Value) (hs : a.eval s = v) (hown : w.ownsRow base 9 1 v n xs)
    (u : Value) (m : Nat) (L : List (List UInt8)) (hx : a.eval x = u) (hsrc : w.ownsRow base2 9 1 u m (L.map S)) (hb : n + m ≤ 1000000000) (hbase : base ≤ w.heap.size)
    (h : ∀ v' w', w'.ownsRow base 9 1 v' (n + m) (xs ++ L.map S) → w.grownBy w' v.ownBlock → K (a.put o.dst v') w') : o.wp Tryd.prog a w K Q := by
  obtain ⟨i0, hii, hz0, hz1, hz2⟩ := info_parts str_info
  obtain ⟨hl, ⟨rfl, h0⟩ | ⟨g, cap, cur, rfl, hg, hh, hnc, hcm, hcs, htk⟩⟩ := hsrc
  · subst h0
    have hx0 : L.map S = [] := List.eq_nil_of_length_eq_zero (by simpa using hl)
    have hrun := run_append_owned_none (P := Tryd.prog) (w := w) base 22 o.type 9 i0 1 Tryd.underlying22 hii v n xs hown
    unfold Oper.wp
    simp [execOp, ho, resolve, invoke, builtin, hs, hx, hrun, Result.andThen]
    exact h v w (by rw [hx0, List.append_nil]; exact hown) (World.grownBy.refl w _)
  · refine wp_append_own w s x 22 ho base 9 i0 (.string ByteArray.empty) 1 16 Tryd.underlying22 hii hz0 hz1 hz2 rfl (by decide) v n xs hs hown ⟨g, 0, none⟩ m cap (L.map S) hx hl (fun j u hj => ?_) (S_one L) (Nat.le_trans hb (by decide)) (by omega) hbase fun v' w' h1 h2 _ => h v' w' h1 h2
    have e : (⟨g, 0, none⟩ : Addr).add j = ⟨g, j, none⟩ := by unfold Addr.add; split <;> simp_all
    rw [e, Lib.cell_of_heap hh]
    have hjl := (List.getElem?_eq_some_iff.1 hj).1
    rw [← htk, List.getElem?_take, if_pos (by rw [hl] at hjl; exact hjl)] at hj
    rw [← Array.getElem?_toList]; exact hj
set_option maxHeartbeats 800000 in
theorem few_own (A : Option Addr) (c : Nat) (L : List (List UInt8)) (w : World) (hr : Texts w w.heap.size A L) (hL : L.length ≤ 8796093022208) (hs : ∀ l ∈ L, l.length ≤ 140737488351232) :
    Calls Tryd.prog 17 #[.slice A L.length c] w fun e w' => (∃ A2 c2, e = .returned (.slice A2 (fewL L).length c2) ∧ (fewL L).length ≤ c2 ∧ w'.ownsRow w.heap.size 9 1 (.slice A2 (fewL L).length c2) (fewL L).length ((fewL L).map S)) ∧ Below w.heap.size w w' := by
  obtain ⟨i0, hi, hz0, hz1, hz2⟩ := info_parts str_info
  have Hi := Lib.hid hi; clear hi
  have Hz0 := Lib.hid hz0; clear hz0
  have Hz1 := Lib.hid hz1; clear hz1
  have Hz2 := Lib.hid hz2; clear hz2
  have Hr := Lib.hid hr
  have Hs := Lib.hid hs
  clear hr hs
  go_enter Tryd.func17, Tryd.ntmps17
  go_wp2_with fail
  go_loopw [3, 4] (fun v i wr => ∃ k : Nat, k ≤ L.length ∧ i = .int .i64 (k : Int) ∧ wr.ownsRow w.heap.size 9 1 v (fewL (L.take k)).length ((fewL (L.take k)).map S) ∧ Below w.heap.size w wr) (fun _ i _ => L.length - (intOf i).toNat)
  case atStart => exact ⟨0, by omega, rfl, World.ownsRow_nil _ _ _ _, Below.refl _ _⟩
  case round =>
    obtain ⟨k, hk, rfl, hown, hb⟩ := hrel
    obtain ⟨acc, hacc⟩ : ∃ acc, fewL (L.take k) = acc := ⟨_, rfl⟩
    rw [hacc] at hown
    have hal : acc.length ≤ k := by rw [← hacc]; exact Nat.le_trans (fewL_le _) (by rw [List.length_take]; omega)
    have Hacc := Lib.hid hacc
    clear hacc
    obtain ⟨A3, c3, rfl, hc3⟩ : ∃ A c, u3 = .slice A acc.length c ∧ acc.length ≤ c := by
      rcases hown.2 with ⟨rfl, hx⟩ | ⟨g, cap, cur, rfl, _, _, hcap, _⟩
      · have : acc = [] := by simpa using hx
        subst this
        exact ⟨none, 0, rfl, Nat.le_refl _⟩
      · exact ⟨_, _, rfl, hcap⟩
    have Hb := Lib.hid hb
    have Hown := Lib.hid hown
    clear hb hown
    by_cases hlt : k < L.length
    · have d1 : decide ((k : Int) < (L.length : Int)) = true := by simp only [decide_eq_true_eq]; omega
      have d1' : decide (k < L.length) = true := by simp only [decide_eq_true_eq]; omega
      obtain ⟨b, off, rfl, hbl, hc⟩ := Hr.out (by rintro rfl; simp at hlt)
      have hck := hc k hlt
      have hcell : wr.cell? ⟨b, off + k, none⟩ = some (S L[k]) := by rw [← hck]; exact World.cell?_of_block (a := ⟨b, off + k, none⟩) (Hb.out.block b hbl)
      obtain ⟨s, hsb⟩ : ∃ s : ByteArray, (⟨L[k].toArray⟩ : ByteArray) = s := ⟨_, rfl⟩
      have hsz : s.size = L[k].length := by rw [← hsb]; rfl
      have hSv : S L[k] = .string s := by rw [← hsb]
      rw [hSv] at hcell
      have hsm := Hs.out L[k] (List.getElem_mem hlt)
      have hsucc : fewL (L.take (k + 1)) = if L[k].length ≤ 4096 then acc ++ [L[k]] else acc := by
        rw [List.take_succ_eq_append_getElem hlt]
        unfold fewL at *
        rw [List.filter_append, Hacc.out]
        by_cases hle : L[k].length ≤ 4096
        · rw [if_pos hle]; simp [hle]
        · rw [if_neg hle]; simp [hle]
      by_cases hle : s.size ≤ 4096
      · have d2 : decide ((s.size : Int) ≤ 4096) = true := by simp only [decide_eq_true_eq]; omega
        have d2' : decide (s.size ≤ 4096) = true := by simp only [decide_eq_true_eq]; omega
        rw [if_pos (by omega)] at hsucc
        have Hsucc := Lib.hid hsucc
        have hown1 := Hown.out.alloc (.cells #[.string s] 9)
        have hbel1 := Hb.out.alloc Hb.out.size (.cells #[.string s] 9)
        have hszw := hbel1.size
        have hMx : acc.length + 1 ≤ 8796093022208 := by omega
        have c1 : acc.length + 1 ≤ maxLen := Nat.le_trans hMx (by decide)
        have c4 : (acc.length + 1) * 16 ≤ 140737488355328 := by omega
        have hc1 := one_at wr 9 (.string s)
        have Hown1 := Lib.hid hown1
        have Hc1 := Lib.hid hc1
        have HSv := Lib.hid hSv
        have Hbl := Lib.hid hbl
        clear hown1 hc1 hc hck hsb hsz hSv hsm hsucc hbl
        go_wp2_with (at_builtin; refine wpList_append_own _ rfl (.tmp 17) (.tmp 22) _ rfl w.heap.size 9 i0 _ 1 16 Tryd.underlying22 Hi.out Hz0.out Hz1.out Hz2.out rfl (by decide) (.slice A3 acc.length c3) acc.length (acc.map S) rfl Hown1.out ⟨wr.heap.size, 0, none⟩ 1 1 [.string s] rfl rfl Hc1.out (by simp [Value.oneCell']) c1 c4 hszw ?_; intro v2 w2 hown2 hgr2 _)
        refine ⟨⟨k + 1, by omega, by go_num, ?_, hbel1.grown hgr2 hszw (fun g hg => (Hown1.out.lt g hg).1)⟩, by simp [intOf]; omega⟩
        rw [Hsucc.out, List.map_append, List.map_singleton, HSv.out, List.length_append]
        simpa using hown2
      · have d2 : decide ((s.size : Int) ≤ 4096) = false := by simp only [decide_eq_false_iff_not]; omega
        have d2' : decide (s.size ≤ 4096) = false := by simp only [decide_eq_false_iff_not]; omega
        rw [if_neg (by omega)] at hsucc
        have Hsucc := Lib.hid hsucc
        clear hc hck hsb hsz hSv hsm hsucc hbl
        go_wp2_with fail
        refine ⟨⟨k + 1, by omega, by go_num, by rw [Hsucc.out]; exact Hown.out, Hb.out⟩, by simp [intOf]; omega⟩
    · have d1 : decide ((k : Int) < (L.length : Int)) = false := by simp only [decide_eq_false_iff_not]; omega
      have d1' : decide (k < L.length) = false := by simp only [decide_eq_false_iff_not]; omega
      have hal2 : acc = fewL L := by rw [← Hacc.out, List.take_of_length_le (by omega)]
      have Hal := Lib.hid hal2
      clear hal2
      go_wp2_with fail
      go_ret
      rw [← Hal.out]
      exact ⟨⟨A3, c3, rfl, hc3, Hown.out⟩, Hb.out⟩
end Go.Proofs.YtpphljdnnlfjhaaDoor
