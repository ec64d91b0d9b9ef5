/- octets.List: what it returns. -/
import Derived.Test.YtkbgeafkdeddjaaOctRdl
namespace Go.Proofs.Ytkbgeafkdeddjaa
open Go.RowKit
set_option linter.unusedVariables false

theorem listGo_drop {L : List (List UInt8)} {k lf : Nat} (hk : k < L.length) :
    Oct.listGo lf (L.drop k) = if lf < L[k].length then none else (Oct.listGo (lf - L[k].length) (L.drop (k + 1))).map (Oct.text L[k] ++ ·) := by
  rw [List.drop_eq_getElem_cons hk]; rfl
def inFront (a : List UInt8) (x : Option (List UInt8)) : Option (List UInt8) := x.map (a ++ ·)
def laid (n : List UInt8) : Option (List UInt8) → List UInt8 × Int
  | none => ([], 3)
  | some b => (n ++ b, 0)
theorem inFront_step {L : List (List UInt8)} {k lf : Nat} (hk : k < L.length) (h : ¬ lf < L[k].length) (a : List UInt8) :
    inFront a (Oct.listGo lf (L.drop k)) = inFront (a ++ Oct.text L[k]) (Oct.listGo (lf - L[k].length) (L.drop (k + 1))) := by
  rw [listGo_drop hk, if_neg h]
  unfold inFront
  cases Oct.listGo (lf - L[k].length) (L.drop (k + 1)) <;> simp
theorem inFront_none {L : List (List UInt8)} {k lf : Nat} (hk : k < L.length) (h : lf < L[k].length) (a : List UInt8) :
    inFront a (Oct.listGo lf (L.drop k)) = none := by
  rw [listGo_drop hk, if_pos h]; rfl
theorem two_at (w1 : World) (T : TypeId) (v v2 : Value) : ∀ j u, [v, v2][j]? = some u → (w1.alloc (.cells #[v, v2] T)).cell? ((⟨w1.heap.size, 0, none⟩ : Addr).add j) = some u := by
  intro j u hj
  have hl : j < [v, v2].length := (List.getElem?_eq_some_iff.1 hj).1
  have h2 : j = 0 ∨ j = 1 := by simp at hl; omega
  rcases h2 with rfl | rfl
  · have : v = u := by simpa using hj
    subst this
    simp [go_sem, Addr.add]
  · have : v2 = u := by simpa using hj
    subst this
    simp [go_sem, Addr.add]

set_option maxHeartbeats 400000 in
theorem List_any (A : Option Addr) (c : Nat) (L : List (List UInt8)) (w : World) (hr : Texts w w.heap.size A L) :
    Calls Try.prog 14 #[.slice A L.length c] w fun e w' => e = .returned (two (Oct.listE L).1 (Oct.listE L).2) ∧ Below w.heap.size w w' := by
  obtain ⟨i0, hi, hz0, hz1, hz2⟩ := info_parts str_info
  have Hi := Lib.hid hi; clear hi
  have Hz0 := Lib.hid hz0; clear hz0
  have Hz1 := Lib.hid hz1; clear hz1
  have Hz2 := Lib.hid hz2; clear hz2
  by_cases hbig : 1024 < L.length
  · have e : Oct.listE L = ([], 3) := by unfold Oct.listE; rw [if_pos hbig]
    rw [e]
    have hd : decide ((1024 : Int) < (L.length : Int)) = true := by simp; omega
    have hd2 : decide (1024 < L.length) = true := by simp; omega
    go_enter Try.func14, Try.ntmps14
    go_wp2_with fail
    go_ret2
    exact ⟨rfl, Below.refl _ _⟩
  · have hlist : Oct.listE L = laid (Oct.num L.length) (Oct.listGo 65536 L) := by
      unfold Oct.listE; rw [if_neg hbig]
      cases Oct.listGo 65536 L <;> rfl
    have hd : decide ((1024 : Int) < (L.length : Int)) = false := by simp; omega
    have hd2 : decide (1024 < L.length) = false := by simp; omega
    have Hlist := Lib.hid hlist
    clear hlist
    have hmk : ∀ W : World, (Instr.makeSlice 28 (.int .i64 0) (.int .i64 (2 * (L.length : Int) + 1))).run Try.prog W = .ok (.slice (some ⟨W.heap.size, 0, none⟩) 0 (2 * L.length + 1)) (W.alloc (.cells (madeCells (Value.string ByteArray.empty).cells ((2 * L.length + 1) * 1)) 9)) := by
      intro W
      have hr := run_make (P := Try.prog) W 28 9 i0 _ Try.underlying28 Hi.out Hz0.out .i64 .i64 0 (2 * (L.length : Int) + 1) (by omega) (by omega) (by rw [Hz2.out]; omega) (by omega)
      have e1 : (2 * (L.length : Int) + 1).toNat = 2 * L.length + 1 := by omega
      rw [Hz1.out, e1] at hr
      exact hr
    have hmade := World.ownsRow_made (base := w.heap.size) (e := 9) (size := 1) w (madeCells (Value.string ByteArray.empty).cells ((2 * L.length + 1) * 1)) (2 * L.length + 1) (Nat.le_refl _) (by unfold maxLen; omega) (by rw [size_madeCells])
    obtain ⟨mc, hmc⟩ : ∃ mc, mc = madeCells (Value.string ByteArray.empty).cells ((2 * L.length + 1) * 1) := ⟨_, rfl⟩
    rw [← hmc] at hmade
    simp only [← hmc] at hmk
    clear hmc
    have Hmade := Lib.hid hmade
    clear hmade
    go_enter Try.func14, Try.ntmps14
    go_wp2_with fail
    refine (number_any _ _ (by omega) (by omega)).mono ?_
    rintro e w1 ⟨rfl, hb1⟩
    rw [Int.toNat_natCast]
    have hbw : Below w.heap.size w (w.alloc (.cells mc 9)) := (Below.refl _ _).alloc (Nat.le_refl _) _
    have hb1' : Below w.heap.size w (w1.alloc (.cells #[S (Oct.num L.length)] 9)) := (hbw.trans (hb1.mono hbw.size)).alloc (hbw.trans (hb1.mono hbw.size)).size _
    have hown1 := (own_below Hmade.out hb1).alloc (.cells #[S (Oct.num L.length)] 9)
    have hsz := hb1'.size
    have hc1 := one_at w1 9 (S (Oct.num L.length))
    have Hown1 := Lib.hid hown1
    have Hc1 := Lib.hid hc1
    clear hown1 hc1 hmk
    go_wp2_with (at_builtin; refine wpList_append_own _ rfl (.tmp 16) (.tmp 20) _ rfl w.heap.size 9 i0 _ 1 16 Try.underlying28 Hi.out Hz0.out Hz1.out Hz2.out rfl (by decide) (.slice (some ⟨w.heap.size, 0, none⟩) 0 (2 * L.length + 1)) 0 [] rfl Hown1.out ⟨w1.heap.size, 0, none⟩ 1 1 [S (Oct.num L.length)] rfl rfl Hc1.out (by simp [Value.oneCell']) (by unfold maxLen; omega) (by omega) hsz ?_; intro v2 w2 hown2 hgr2 _)
    have hb2 : Below w.heap.size w w2 := hb1'.grown hgr2 hsz (fun g hg => (Hown1.out.lt g hg).1)
    go_loopw [4, 5, 24] (fun left v i wr => ∃ (k : Nat) (acc : List (List UInt8)) (lf : Nat) (a : List UInt8), k ≤ L.length ∧ acc.length = 2 * k + 1 ∧ lf ≤ 65536 ∧ i = .int .i64 k ∧ left = .int .i64 lf ∧
        wr.ownsRow w.heap.size 9 1 v acc.length (acc.map S) ∧ Below w.heap.size w wr ∧ acc.flatten = Oct.num L.length ++ a ∧ Oct.listGo 65536 L = inFront a (Oct.listGo lf (L.drop k)) ∧ acc.flatten.length + lf ≤ 9 + 9 * k + 65536) (fun _ _ i _ => L.length - (intOf i).toNat)
    case atStart =>
      refine ⟨0, [Oct.num L.length], 65536, [], by omega, rfl, by omega, rfl, rfl, hown2, hb2, by simp, ?_, ?_⟩
      · rw [List.drop_zero]; unfold inFront; cases Oct.listGo 65536 L <;> simp
      · have := Oct.num_length_le L.length
        simp; omega
    case round =>
      obtain ⟨k, acc, lf, a, hk, hacc, hlf, rfl, rfl, hown, hbel, hflat, hrem, hlen⟩ := hrel
      have Hacc := Lib.hid hacc
      have Hrem := Lib.hid hrem
      have Hflat := Lib.hid hflat
      have Hown := Lib.hid hown
      have Hlen := Lib.hid hlen
      clear hacc hrem hflat hown hlen hb2 hown2 hgr2
      by_cases hlt : k < L.length
      · obtain ⟨b, off, rfl, hbb, hc⟩ := hr (by rintro rfl; simp at hlt)
        have hck := (hbel.cell (p := ⟨b, off + k, none⟩) hbb).trans (hc k hlt)
        clear hc
        by_cases hbg : lf < L[k].length
        · have hfin : Oct.listE L = ([], 3) := by rw [Hlist.out, Hrem.out, inFront_none hlt hbg]; rfl
          have Hfin := Lib.hid hfin
          have hd3 : decide ((lf : Int) < (L[k].length : Int)) = true := by simp; omega
          have hd4 : decide (lf < L[k].length) = true := by simp; omega
          clear hfin
          go_wp2_with fail
          go_ret2
          rw [Hfin.out]
          exact ⟨rfl, hbel⟩
        · have hrem2 := Hrem.out
          rw [inFront_step hlt hbg] at hrem2
          have Hrem2 := Lib.hid hrem2
          have hd3 : decide ((lf : Int) < (L[k].length : Int)) = false := by simp; omega
          have hd4 : decide (lf < L[k].length) = false := by simp; omega
          have hsub : (L[k].length : Int) ≤ lf := by omega
          clear hrem2
          go_wp2_with fail
          refine (number_any _ _ (by omega) (by omega)).mono ?_
          rintro e w3 ⟨rfl, hb3⟩
          rw [Int.toNat_natCast]
          have hb3' : Below w.heap.size w (w3.alloc (.cells #[S (Oct.num L[k].length), S L[k]] 9)) := (hbel.trans (hb3.mono hbel.size)).alloc (hbel.trans (hb3.mono hbel.size)).size _
          have hown3 := (own_below Hown.out hb3).alloc (.cells #[S (Oct.num L[k].length), S L[k]] 9)
          have hsz3 := hb3'.size
          have hc3 := two_at w3 9 (S (Oct.num L[k].length)) (S L[k])
          have hal := Hacc.out
          have hm3 : acc.length + 2 ≤ maxLen := by unfold maxLen; omega
          have hm4 : (acc.length + 2) * 16 ≤ 140737488355328 := by omega
          have Hown3 := Lib.hid hown3
          have Hc3 := Lib.hid hc3
          clear hown3 hc3 hal
          go_wp2_with (at_builtin; refine wpList_append_own _ rfl (.tmp 36) (.tmp 41) _ rfl w.heap.size 9 i0 _ 1 16 Try.underlying28 Hi.out Hz0.out Hz1.out Hz2.out rfl (by decide) u5 acc.length (acc.map S) rfl Hown3.out ⟨w3.heap.size, 0, none⟩ 2 2 [S (Oct.num L[k].length), S L[k]] rfl rfl Hc3.out (by simp [Value.oneCell']) hm3 hm4 hsz3 ?_; intro v4 w4 hown4 hgr4 _)
          refine ⟨⟨k + 1, acc ++ [Oct.num L[k].length, L[k]], lf - L[k].length, a ++ Oct.text L[k], by omega, by rw [List.length_append, Hacc.out]; simp; omega, by omega, by go_num, ?_, ?_, hb3'.grown hgr4 hsz3 (fun g hg => (Hown3.out.lt g hg).1), ?_, Hrem2.out, ?_⟩, by simp [intOf]; omega⟩
          · congr 1; omega
          · simpa using hown4
          · rw [List.flatten_append, Hflat.out]; simp [Oct.text]
          · have h1 := Hlen.out
            have h2 := Oct.num_length_le L[k].length
            rw [List.flatten_append, List.length_append]
            simp only [List.flatten_cons, List.flatten_nil, List.append_nil, List.length_append]
            omega
      · obtain rfl : k = L.length := by omega
        have hfin : Oct.listE L = (acc.flatten, 0) := by
          rw [Hlist.out, Hrem.out, List.drop_length, Hflat.out]
          simp [Oct.listGo, inFront, laid]
        have Hfin := Lib.hid hfin
        obtain ⟨A2, c2, rfl, ht2⟩ := texts_own Hown.out
        have hl1 := Hlen.out
        have hl2 := Hacc.out
        have hl3 : acc.length ≤ 9223372036854775807 := by omega
        have hl4 : acc.flatten.length ≤ 281474976710656 := by omega
        clear hfin hl1 hl2
        go_wp2_with fail
        refine (join_any A2 c2 acc _ ht2 hl3 hl4).mono ?_
        rintro e w3 ⟨rfl, hb3⟩
        go_wp2_with fail
        go_ret2
        rw [Hfin.out]
        exact ⟨rfl, hbel.trans (hb3.mono hbel.size)⟩
end Go.Proofs.Ytkbgeafkdeddjaa
