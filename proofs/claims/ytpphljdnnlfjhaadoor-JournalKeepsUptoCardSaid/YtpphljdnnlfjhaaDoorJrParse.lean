/- journal.Parse: what it returns. -/
import Derived.Test.YtpphljdnnlfjhaaDoorJrRead
import Derived.Test.YtpphljdnnlfjhaaDoorJrText
import Derived.Laws.AppendOwn
import Derived.OwnWalk
namespace Go.Proofs.YtpphljdnnlfjhaaDoor
open Go.RowKit
set_option linter.unusedVariables false
set_option linter.unusedSimpArgs false

/-- a goto loop: the label stands at the head of the scope's code -/
theorem wp_scope_again {P : Program} {a : Act} {w : World} {Q : Exit → Act → World → Prop} {c b : Code} (l : Nat) (J : Act → World → Prop) (μ : Act → World → Nat) (hf : findLabel c l = some (.seq .skip b))
    (pass : ∀ a w, J a w → b.wp P (Exit.jump l (fun a' w' => J a' w' ∧ μ a' w' < μ a w) Q) a w)
    (first : (∀ a w, J a w → b.wp P (Exit.jump l J Q) a w) → c.wp P (Exit.jump l J Q) a w) : (Code.scope c).wp P Q a w := by
  refine wp_scope_jumps l J μ hf (first fun a w h => wp_mono (pass a w h) ?_) (fun a w h => wp_seq (wp_skip (pass a w h)))
  intro e a' w' he
  cases e with
  | goto l' => exact ⟨he.1, he.2.1⟩
  | _ => exact he
theorem own_below {w w1 : World} {base : Nat} {e : TypeId} {size n : Nat} {v : Value} {xs : List Value} (h : w.ownsRow base e size v n xs) (hb : Below w.heap.size w w1) : w1.ownsRow base e size v n xs :=
  h.kept (row := none) ⟨hb.os, hb.tape, hb.output, hb.size, fun i hi _ => hb.block i hi⟩ (by cases v.ownBlock <;> simp)
theorem one_at (w1 : World) (T : TypeId) (v : Value) : ∀ j u, [v][j]? = some u → (w1.alloc (.cells #[v] T)).cell? ((⟨w1.heap.size, 0, none⟩ : Addr).add j) = some u := by
  intro j u hj
  have hl : j < [v].length := (List.getElem?_eq_some_iff.1 hj).1
  obtain rfl : j = 0 := by simpa using hl
  have : v = u := by simpa using hj
  subst this
  simp [go_sem, Addr.add]
theorem str_info : (Tryd.prog.info? 9).map (fun i => (i.zero, i.size, i.bytes)) = some (some (.string ByteArray.empty), 1, 16) := by kernel_rfl
/-- a slice value that reads as these texts, in memory of its own from block base on -/
def Lst (w : World) (base : Nat) (v : Value) (l : List (List UInt8)) : Prop := ∃ A c, v = .slice A l.length c ∧ (l ≠ [] → ∃ b, A = some ⟨b, 0, none⟩ ∧ base ≤ b ∧ b < w.heap.size ∧ ∀ i (h : i < l.length), w.cell? ⟨b, i, none⟩ = some (S l[i]))
theorem lst_own {w : World} {base g cap : Nat} {l : List (List UInt8)} (h : w.ownsRow base 9 1 (.slice (some ⟨g, 0, none⟩) l.length cap) l.length (l.map S)) (c : Nat) : Lst w base (.slice (some ⟨g, 0, none⟩) l.length c) l := by
  refine ⟨some ⟨g, 0, none⟩, c, rfl, fun _ => ⟨g, rfl, (h.lt g rfl).1, (h.lt g rfl).2, fun i hi => ?_⟩⟩
  have := h.cells (g := g) rfl i (S l[i]) (by simp [hi])
  have e : (⟨g, 0, none⟩ : Addr).add i = ⟨g, i, none⟩ := by unfold Addr.add; split <;> simp_all
  rwa [e] at this
theorem lst_nil (w : World) (base c : Nat) (A : Option Addr) : Lst w base (.slice A 0 c) [] := ⟨A, c, rfl, fun h => absurd rfl h⟩
set_option maxHeartbeats 1000000 in
theorem jrParse_any (s : ByteArray) (w : World) (hs : s.size ≤ 1099511627776) :
    Calls Tryd.prog 8 #[.string s] w fun e w' => (∃ v, e = .returned (.tuple #[v, .int .i64 ((Jr.parse s.data.toList).2 : Int)]) ∧ Lst w' w.heap.size v (Jr.parse s.data.toList).1) ∧ Below w.heap.size w w' := by
  obtain ⟨i0, hi, hz0, hz1, hz2⟩ := info_parts str_info
  have Hi := Lib.hid hi; clear hi
  have Hz0 := Lib.hid hz0; clear hz0
  have Hz1 := Lib.hid hz1; clear hz1
  have Hz2 := Lib.hid hz2; clear hz2
  have hlen : s.data.toList.length = s.size := rfl
  have Hlen := Lib.hid hlen
  clear hlen
  go_enter Tryd.func8, Tryd.ntmps8
  go_wp2_with fail
  refine wp_scope_again 0 (fun a' w' => ∃ (p : Nat) (acc : List (List UInt8)) (v : Value), a' = { tmps := #[.string s, a'.tmps.getD 1 undef, .slice none 0 0, .int .i64 0, v, .int .i64 (p : Int), a'.tmps.getD 6 undef, a'.tmps.getD 7 undef, a'.tmps.getD 8 undef, a'.tmps.getD 9 undef, a'.tmps.getD 10 undef, a'.tmps.getD 11 undef, a'.tmps.getD 12 undef, a'.tmps.getD 13 undef, a'.tmps.getD 14 undef, a'.tmps.getD 15 undef, a'.tmps.getD 16 undef, a'.tmps.getD 17 undef, a'.tmps.getD 18 undef, a'.tmps.getD 19 undef, a'.tmps.getD 20 undef, a'.tmps.getD 21 undef, a'.tmps.getD 22 undef, a'.tmps.getD 23 undef, a'.tmps.getD 24 undef, a'.tmps.getD 25 undef, a'.tmps.getD 26 undef, a'.tmps.getD 27 undef, a'.tmps.getD 28 undef, a'.tmps.getD 29 undef, a'.tmps.getD 30 undef], defers := [] } ∧ Jr.Upto s.data.toList p acc ∧ 5 * acc.length ≤ p ∧ w'.ownsRow w.heap.size 9 1 v acc.length (acc.map S) ∧ Below w.heap.size w w') (fun a' _ => s.size - (intOf (a'.tmps.getD 5 undef)).toNat) (by rfl) ?_ ?_
  · rintro a' w' ⟨p, acc, v, ha, hup, hacc5, hown, hb⟩
    obtain ⟨u, hu⟩ : ∃ u : Nat → Value, ∀ q, a'.tmps.getD q undef = u q := ⟨_, fun _ => rfl⟩
    simp only [hu] at ha
    subst ha
    clear hu
    have hpl : p ≤ s.size := by have := hup.1; rw [Hlen.out] at this; exact this
    obtain ⟨A, c, rfl⟩ : ∃ A c, v = .slice A acc.length c := by
      rcases hown.2 with ⟨rfl, hx⟩ | ⟨g, cap, cur, rfl, _⟩
      · have : acc = [] := by simpa using hx
        subst this
        exact ⟨none, 0, rfl⟩
      · exact ⟨_, _, rfl⟩
    have hrd := jrRead_any s p acc.length w' (by omega) hpl (by omega)
    have Hb := Lib.hid hb
    clear hb
    rcases hr : Jr.rd s.data.toList p acc.length with _ | ⟨r, b⟩
    · have hpa := hup.stop hr
      have Hpa := Lib.hid hpa
      rw [hr] at hrd
      simp only [jrV] at hrd
      have Hown := Lib.hid hown
      have Hrd := Lib.hid hrd
      clear hup hown hrd hr hpa
      go_wp2_with fail
      refine Hrd.out.mono ?_
      rintro e w1 ⟨rfl, hb1⟩
      have hown1 := own_below Hown.out hb1
      have hb2 := Hb.out.trans (hb1.mono Hb.out.size)
      have Hown1 := Lib.hid hown1
      have Hb2 := Lib.hid hb2
      clear hown1 hb2 hb1
      have hsl : ∃ A', (∀ W : World, (Instr.slice 22 (.slice A acc.length c) none (some (.int .i64 (acc.length : Int))) (some (.int .i64 (acc.length : Int)))).run Tryd.prog W = .ok (.slice A' acc.length acc.length) W) ∧ Lst w1 w.heap.size (.slice A' acc.length acc.length) acc := by
        rcases Hown1.out.2 with ⟨hA, hx⟩ | ⟨g, cap, cur, hv, _⟩
        · have : acc = [] := by simpa using hx
          subst this
          injection hA with hA1 hA2 hA3
          subst hA1
          subst hA3
          exact ⟨none, fun W => by simp [go_sem], lst_nil _ _ _ _⟩
        · injection hv with hA1 hA2 hA3
          subst hA1
          subst hA3
          have hnc : ¬ c < acc.length := by omega
          exact ⟨some ⟨g, 0, none⟩, fun W => by simp [go_sem, hnc], lst_own Hown1.out _⟩
      obtain ⟨A', hsl, hlst⟩ := hsl
      have Hlst := Lib.hid hlst
      clear hlst
      go_wp2_with fail
      simp only [Exit.jump]
      go_ret2
      rw [Hpa.out]
      exact ⟨⟨_, rfl, Hlst.out⟩, Hb2.out⟩
    · obtain ⟨hup2, hpb, hbl⟩ := hup.go hr
      obtain ⟨_, hbe, _, hr4⟩ := Jr.rd_some hr
      have hl5 := Jr.lay_pos acc.length r
      rw [Hlen.out] at hbl
      rw [hr] at hrd
      simp only [jrV] at hrd
      have Hup2 := Lib.hid hup2
      have Hown := Lib.hid hown
      have Hrd := Lib.hid hrd
      have h5 : 5 * (acc.length + 1) ≤ b := by omega
      clear hup2 hup hown hrd hr hbe hl5
      go_wp2_with fail
      refine Hrd.out.mono ?_
      rintro e w1 ⟨rfl, hb1⟩
      have hown1 := (own_below Hown.out hb1).alloc (.cells #[S r] 9)
      have hbel1 := (Hb.out.trans (hb1.mono Hb.out.size)).alloc (Hb.out.trans (hb1.mono Hb.out.size)).size (.cells #[S r] 9)
      have hsz := hbel1.size
      have hMx : acc.length + 1 ≤ 219902325556 := by omega
      have c3 : acc.length + 1 ≤ maxLen := Nat.le_trans hMx (by decide)
      have c4 : (acc.length + 1) * 16 ≤ 140737488355328 := by omega
      have hc1 := one_at w1 9 (S r)
      have Hown1 := Lib.hid hown1
      have Hc1 := Lib.hid hc1
      clear hown1 hc1
      go_wp2_with (at_builtin; refine wpList_append_own _ rfl (.tmp 19) (.tmp 21) _ rfl w.heap.size 9 i0 _ 1 16 Tryd.underlying22 Hi.out Hz0.out Hz1.out Hz2.out rfl (by decide) (.slice A acc.length c) acc.length (acc.map S) rfl Hown1.out ⟨w1.heap.size, 0, none⟩ 1 1 [S r] rfl rfl Hc1.out (by simp [Value.oneCell']) c3 c4 hsz ?_; intro v2 w2 hown2 hgr2 _)
      go_step3
      refine ⟨rfl, ⟨b, acc ++ [r], v2, by simp [Array.getD], Hup2.out, by rw [List.length_append]; exact h5, by simpa using hown2, hbel1.grown hgr2 hsz (fun g hg => (Hown1.out.lt g hg).1)⟩, by simp [intOf]; omega⟩
  · intro hround
    have Hround := Lib.hid hround
    clear hround
    go_wp2_with fail
    go_step3
    go_step
    go_step
    exact Hround.out _ _ ⟨0, [], _, rfl, Jr.Upto.start _, by simp, World.ownsRow_nil _ _ _ _, Below.refl _ _⟩
end Go.Proofs.YtpphljdnnlfjhaaDoor
