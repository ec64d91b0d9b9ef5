/- JournalOrder: the walk. -/
import Derived.Test.YtpphljdnnlfjhaaDoorJrFew
namespace Go.Proofs.YtpphljdnnlfjhaaDoor
open Go.RowKit
set_option maxRecDepth 100000
set_option linter.unusedVariables false
set_option linter.unusedSimpArgs false

theorem Lst.cut {w : World} {base : Nat} {A : Option Addr} {c : Nat} {L : List (List UInt8)} (h : Lst w base (.slice A L.length c) L) (hc : L.length ≤ c) (k : Nat) (hk : k ≤ L.length) :
    ∃ A2, (∀ W : World, (Instr.slice 22 (.slice A L.length c) none (some (.int .i64 (k : Int))) none).run Tryd.prog W = .ok (.slice A2 k c) W) ∧ Lst w base (.slice A2 k c) (L.take k) := by
  obtain ⟨A', c', hv, hr⟩ := h
  injection hv with e1 e2 e3
  subst e1
  subst e3
  have htk : (L.take k).length = k := by rw [List.length_take]; omega
  by_cases h0 : L = []
  · subst h0
    obtain rfl : k = 0 := by simpa using hk
    cases A with
    | none =>
      by_cases hc0 : c = 0
      · subst hc0
        exact ⟨none, fun W => by simp [go_sem], lst_nil _ _ _ _⟩
      · exact ⟨none, fun W => by simp [go_sem], lst_nil _ _ _ _⟩
    | some a => exact ⟨some a, fun W => by simp [go_sem], lst_nil _ _ _ _⟩
  · obtain ⟨b, e4, h1, h2, h3⟩ := hr h0
    subst e4
    have hkc : ¬ c < k := by omega
    refine ⟨some ⟨b, 0, none⟩, fun W => by simp [go_sem, hkc], some ⟨b, 0, none⟩, c, by rw [htk], fun _ => ⟨b, rfl, h1, h2, fun i hi => ?_⟩⟩
    rw [htk] at hi
    rw [h3 i (by omega)]
    simp
theorem quiet_same {W : World} {b1 b2 : Nat} {v1 v2 : Value} {L1 L2 : List (List UInt8)} (h1 : Lst W b1 v1 L1) (h2 : Lst W b2 v2 L2) (hl1 : L1.length ≤ 9223372036854775807) (he : L1 = L2) (n : Nat) :
    Calls Tryd.prog 11 #[v1, v2] (W.drewN n) fun e w' => e = .returned (.bool true) ∧ ∃ m, w' = W.drewN m := by
  subst he
  have hbm : Below W.heap.size W (W.drewN n) := bel_drewN (Below.refl _ _) n
  refine (same_lists (h1.below hbm) (h2.below hbm) hl1 hl1).mono ?_
  rintro e w' ⟨rfl, m, rfl⟩
  exact ⟨by simp, n + m, World.drewN_drewN _ _ _⟩
/-- what is told apart: the number k alone lacks -/
def Lacks (G : List (List UInt8)) (k i : Nat) (s : List UInt8) : Prop := (i ≤ k ∧ s = Jr.lays 0 (G.take i)) ∨ (k < i ∧ ∃ x, s = Jr.lays 0 (G.take k) ++ x)
theorem Lacks.skip {G : List (List UInt8)} {k : Nat} {s : List UInt8} (h : Lacks G k k s) : Lacks G k (k + 1) s := by
  rcases h with ⟨_, h⟩ | ⟨h, _⟩
  · exact .inr ⟨by omega, [], by rw [List.append_nil]; exact h⟩
  · omega
theorem Lacks.step {G : List (List UInt8)} {k i : Nat} {s : List UInt8} (h : Lacks G k i s) (hi : i < G.length) (hk : i ≠ k) : Lacks G k (i + 1) (s ++ Jr.lay i G[i]) := by
  rcases h with ⟨h1, h⟩ | ⟨h1, x, h⟩
  · refine .inl ⟨by omega, ?_⟩
    rw [List.take_succ_eq_append_getElem hi, Jr.lays_app, h, List.length_take, Nat.min_eq_left (by omega)]
    simp [Jr.lays]
  · exact .inr ⟨by omega, x ++ Jr.lay i G[i], by rw [h, List.append_assoc]⟩
set_option maxHeartbeats 3200000 in
theorem journalOrder_any (A : Option Addr) (c : Nat) (L : List (List UInt8)) (n : Int) (w : World) (hr : Texts w w.heap.size A L) (hL : L.length ≤ 8796093022208) (hs : ∀ l ∈ L, l.length ≤ 140737488351232) (hn : 0 ≤ n ∧ n ≤ 255) :
    Calls Tryd.prog 6 #[.slice A L.length c, .int .u8 n] w fun e w' => e = .returned (.bool true) ∧ Below w.heap.size w w' := by
  have kf := few_any A c L w hr hL hs
  have hsm := fewL_small L
  have hle := fewL_le L
  obtain ⟨F, hF⟩ : ∃ F, fewL L = F := ⟨_, rfl⟩
  rw [hF] at kf hsm hle
  have Kf := Lib.hid kf
  clear kf hF hs hr
  have hFl : F.length ≤ 8796093022208 := by omega
  clear hle hL
  by_cases h60 : 60 < F.length
  · have d0 : decide ((60 : Int) < (F.length : Int)) = true := by simp only [decide_eq_true_eq]; omega
    have d0' : decide (60 < F.length) = true := by simp only [decide_eq_true_eq]; omega
    go_enter Tryd.func6, Tryd.ntmps6
    go_wp2_with fail
    refine Kf.out.mono ?_
    rintro _ w1 ⟨⟨A2, c2, rfl, hc2, hl⟩, hb1⟩
    obtain ⟨A3, hsl, hl3⟩ := hl.cut hc2 60 (by omega)
    obtain ⟨G, hG⟩ : ∃ G, F.take 60 = G := ⟨_, rfl⟩
    have hGl : G.length = 60 := by rw [← hG, List.length_take]; omega
    have hGs : ∀ r ∈ G, r.length ≤ 4096 := fun r hr => hsm r (List.mem_of_mem_take (by rw [hG]; exact hr))
    rw [hG] at hl3
    have hl4 : Lst w1 w.heap.size (.slice A3 G.length c2) G := by rw [hGl]; exact hl3
    have hG60 : G.length ≤ 60 := by omega
    have hGc : G.length ≤ c2 := by omega
    have HGs := Lib.hid hGs
    have Hl := Lib.hid hl4
    have Hb1 := Lib.hid hb1
    have HG := Lib.hid hG
    have HGl := Lib.hid hGl
    clear hl hl3 hl4 hb1 hG hGs hsm hc2 h60 hFl
    have hsl60 : ∀ W : World, (Instr.slice 22 (.slice A2 F.length c2) none (some (.int .i64 60)) none).run Tryd.prog W = .ok (.slice A3 G.length c2) W := fun W => by rw [HGl.out]; exact hsl W
    clear hsl hGl
    have hne : G ≠ [] := by intro h; have := HGl.out; rw [h] at this; simp at this
    have hpos : 0 < G.length := by have := HGl.out; omega
    go_wp2_with fail
    refine (awake10 _).mono ?_
    rintro _ w2 ⟨rfl, hb2⟩
    have Hl2 := Lib.hid (Hl.out.below hb2)
    have Hb2 := Lib.hid (Hb1.out.trans (hb2.mono Hb1.out.size))
    clear hb2
    obtain ⟨k, hk⟩ : ∃ k : Nat, n % (G.length : Int) = (k : Int) := ⟨(n % (G.length : Int)).toNat, by have := Int.emod_nonneg n (b := (G.length : Int)) (by omega); omega⟩
    have hkl : k < G.length := by have := Int.emod_lt_of_pos n (b := (G.length : Int)) (by omega); omega
    have hrem : Int.tmod n (G.length : Int) = (k : Int) := by rw [Int.tmod_eq_emod_of_nonneg hn.1]; exact hk
    have hwk : IntKind.i64.wrap (k : Int) = (k : Int) := IntWalk.i64_in _ (by omega)
    have hwn : IntKind.i64.wrap n = n := IntWalk.i64_in _ (by omega)
    have e1 : ((G.length : Int) == 0) = false := by simp only [beq_eq_false_iff_ne]; omega
    have hp2 : (G.length : Int) ≠ 0 := by omega
    have hp3 : G.length ≠ 0 := by omega
    have Hk := Lib.hid hk
    clear hk
    go_wp2_with fail
    go_loopw [6, 7] (fun s i wr => ∃ (j : Nat) (sb : ByteArray), j ≤ G.length ∧ i = .int .i64 (j : Int) ∧ s = .string sb ∧ sb.size ≤ 4109 * j ∧ Lacks G k j sb.data.toList ∧ Below w2.heap.size w2 wr) (fun _ i _ => G.length - (intOf i).toNat)
    case atStart => exact ⟨0, ⟨#[]⟩, by omega, rfl, rfl, Nat.zero_le _, .inl ⟨Nat.zero_le _, rfl⟩, Below.refl _ _⟩
    case round =>
      obtain ⟨j, sb, hj, rfl, rfl, hsz, hla, hbr⟩ := hrel
      have hl3 := Hl2.out.below hbr
      have Hla := Lib.hid hla
      have Hl3 := Lib.hid hl3
      have Hbr := Lib.hid hbr
      clear hla hl3 hbr
      by_cases hlt : j < G.length
      · have d1 : decide ((j : Int) < (G.length : Int)) = true := by simp only [decide_eq_true_eq]; omega
        have d1' : decide (j < G.length) = true := by simp only [decide_eq_true_eq]; omega
        by_cases hjk : j = k
        · have d2 : ((j : Int) != (k : Int)) = false := by simp [hjk]
          have d2' : (j != k) = false := by simp [hjk]
          have d2'' : decide (j = k) = true := by simp [hjk]
          have Hjk := Lib.hid hjk
          clear hjk
          go_wp2_with fail
          refine ⟨⟨j + 1, sb, by omega, by go_num, rfl, by omega, ?_, Hbr.out⟩, by simp [intOf]; omega⟩
          have h := Hla.out
          rw [Hjk.out] at h ⊢
          exact h.skip
        · have d2 : ((j : Int) != (k : Int)) = true := by simp only [bne_iff_ne]; omega
          have d2' : (j != k) = true := by simp only [bne_iff_ne]; exact hjk
          have d2'' : decide (j = k) = false := by simp only [decide_eq_false_iff_not]; exact hjk
          obtain ⟨A', c', hv, hcs⟩ := Hl3.out
          injection hv with ev1 ev2 ev3
          obtain ⟨b, hA, _, _, hc⟩ := hcs (by intro h; rw [h] at hlt; simp at hlt)
          rw [hA] at ev1
          have hcell := hc j hlt
          obtain ⟨rb, hrb⟩ : ∃ r : ByteArray, (⟨G[j].toArray⟩ : ByteArray) = r := ⟨_, rfl⟩
          have hrl : rb.data.toList = G[j] := by rw [← hrb]
          have hrz : rb.size = G[j].length := by rw [← hrb]; rfl
          have hSv : S G[j] = .string rb := by rw [← hrb]
          rw [hSv] at hcell
          have hg4 := HGs.out G[j] (List.getElem_mem hlt)
          have kr := fun W : World => jrRec_any j rb W (by omega) (by omega)
          rw [hrl] at kr
          have hll := Jr.lay_le j G[j]
          obtain ⟨lb, hlb⟩ : ∃ lb : ByteArray, (⟨(Jr.lay j G[j]).toArray⟩ : ByteArray) = lb := ⟨_, rfl⟩
          have hlbl : lb.data.toList = Jr.lay j G[j] := by rw [← hlb]
          have hlbz : lb.size = (Jr.lay j G[j]).length := by rw [← hlb]; rfl
          have kr2 : ∀ W : World, Calls Tryd.prog 23 #[.int .i64 (j : Int), .string rb] W fun e w' => e = .returned (.string lb) ∧ Below W.heap.size W w' := by
            intro W; rw [← hlb]; exact kr W
          have hla2 : Lacks G k (j + 1) (sb ++ lb).data.toList := by
            have := Hla.out.step hlt hjk
            rw [← hlbl] at this
            simpa using this
          have hs2 : (sb ++ lb).size ≤ 4109 * (j + 1) := by rw [ByteArray.size_append]; omega
          have hlbs : lb.size ≤ 4109 := by omega
          have Kr := Lib.hid kr2
          have Hla2 := Lib.hid hla2
          have Hs2 := Lib.hid hs2
          clear kr kr2 hla2 hs2 hlb hlbl hlbz hll hg4 hSv hrz hrl hrb hc hcs ev2 ev3 hA hjk
          subst ev1
          go_wp2_with fail
          refine (Kr.out _).mono ?_
          rintro _ w4 ⟨rfl, hb4⟩
          have Hb4 := Lib.hid (Hbr.out.trans (hb4.mono Hbr.out.size))
          clear hb4
          go_wp2_with fail
          refine ⟨⟨j + 1, sb ++ lb, by omega, by go_num, rfl, Hs2.out, Hla2.out, Hb4.out⟩, by simp [intOf]; omega⟩
      · have d1 : decide ((j : Int) < (G.length : Int)) = false := by simp only [decide_eq_false_iff_not]; omega
        have d1' : decide (j < G.length) = false := by simp only [decide_eq_false_iff_not]; omega
        obtain ⟨x, hx⟩ : ∃ x, sb.data.toList = Jr.lays 0 (G.take k) ++ x := by
          rcases Hla.out with ⟨h, _⟩ | ⟨_, h⟩
          · omega
          · exact h
        have hpre := Jr.order_pre (G.take k) x (fun r hr => HGs.out r (List.mem_of_mem_take hr))
        rw [← hx] at hpre
        have kp := fun W : World => jrParse_cap sb W (by omega)
        have kq := fun W : World => jrRefParse_any sb W (by omega)
        have hmany := parse_many sb.data.toList
        have hsbl : sb.data.toList.length = sb.size := rfl
        obtain ⟨⟨P, m⟩, hp⟩ : ∃ x, Jr.parse sb.data.toList = x := ⟨_, rfl⟩
        rw [hp] at hpre hmany
        simp only [hp] at kp kq
        have hPl : P.length ≤ 9223372036854775807 := by
          have : P.length ≤ sb.data.toList.length := hmany
          omega
        have hgk : (G.take k).length = k := by rw [List.length_take]; omega
        have hkP : k ≤ P.length := by
          have := hpre.length_le
          simp only at this
          omega
        have htk : P.take k = G.take k := by
          have := List.prefix_iff_eq_take.1 hpre
          rw [hgk] at this
          exact this.symm
        have d4 : decide ((k : Int) ≤ (P.length : Int)) = true := by simp only [decide_eq_true_eq]; omega
        have d4' : decide (k ≤ P.length) = true := by simp only [decide_eq_true_eq]; exact hkP
        have Kp := Lib.hid kp
        have Kq := Lib.hid kq
        have Htk := Lib.hid htk
        clear kp kq htk hp hpre hx hmany hsbl hgk
        go_wp2_with fail
        refine (Kp.out _).mono ?_
        rintro _ w5 ⟨⟨AP, rfl, hl5⟩, hb5⟩
        have Hl5 := Lib.hid hl5
        have Hl3b := Lib.hid (Hl3.out.below hb5)
        have Hb5 := Lib.hid ((Hb2.out.trans (Hbr.out.mono Hb2.out.size)).trans (hb5.mono (Nat.le_trans Hb2.out.size Hbr.out.size)))
        clear hl5 hb5
        go_wp2_with fail
        refine (Kq.out _).mono ?_
        rintro _ w6 ⟨⟨v6, rfl, hl6⟩, hb6⟩
        have hb56 := Hb5.out.trans (hb6.mono Hb5.out.size)
        have hP6 := Hl5.out.below hb6
        have hG6 := Hl3b.out.below hb6
        obtain ⟨A7, hs7, hl7⟩ := hP6.cut (Nat.le_refl _) k hkP
        obtain ⟨A8, hs8, hl8⟩ := hG6.cut hGc k (by omega)
        have q1 := quiet_same hP6 hl6 hPl rfl
        have q2 := quiet_same hl7 hl8 (by rw [List.length_take]; omega) Htk.out
        have Hb6 := Lib.hid hb56
        have Q1 := Lib.hid q1
        have Q2 := Lib.hid q2
        clear q1 q2 hb56 hP6 hG6 hl7 hl8 hl6 hb6
        go_wp2_with fail
        go_quiet (first | (with_reducible exact Q1.out _) | (with_reducible exact Q2.out _))
        go_wp2_with fail
        go_ret
        exact ⟨by simp, bel_drewN Hb6.out _⟩
  · have d0 : decide ((60 : Int) < (F.length : Int)) = false := by simp only [decide_eq_false_iff_not]; omega
    have d0' : decide (60 < F.length) = false := by simp only [decide_eq_false_iff_not]; omega
    by_cases hne : F = []
    · subst hne
      go_enter Tryd.func6, Tryd.ntmps6
      go_wp2_with fail
      refine Kf.out.mono ?_
      rintro _ w1 ⟨⟨A3, c2, rfl, hc2, hl⟩, hb1⟩
      have Hb1 := Lib.hid hb1
      clear hl hb1 hc2
      simp only [List.length_nil] at *
      go_wp2_with fail
      refine (awake10 _).mono ?_
      rintro _ w2 ⟨rfl, hb2⟩
      have Hb2 := Lib.hid (Hb1.out.trans (hb2.mono Hb1.out.size))
      clear hb2
      go_wp2_with fail
      go_ret
      exact ⟨rfl, Hb2.out⟩
    · have hpos : 0 < F.length := List.length_pos_iff.2 hne
      have HGs := Lib.hid hsm
      have hG60 : F.length ≤ 60 := by omega
      clear hsm h60 hFl
      go_enter Tryd.func6, Tryd.ntmps6
      go_wp2_with fail
      refine Kf.out.mono ?_
      rintro _ w1 ⟨⟨A3, c2, rfl, hGc, hl⟩, hb1⟩
      have Hl := Lib.hid hl
      have Hb1 := Lib.hid hb1
      clear hl hb1
      go_wp2_with fail
      refine (awake10 _).mono ?_
      rintro _ w2 ⟨rfl, hb2⟩
      have Hl2 := Lib.hid (Hl.out.below hb2)
      have Hb2 := Lib.hid (Hb1.out.trans (hb2.mono Hb1.out.size))
      clear hb2
      obtain ⟨k, hk⟩ : ∃ k : Nat, n % (F.length : Int) = (k : Int) := ⟨(n % (F.length : Int)).toNat, by have := Int.emod_nonneg n (b := (F.length : Int)) (by omega); omega⟩
      have hkl : k < F.length := by have := Int.emod_lt_of_pos n (b := (F.length : Int)) (by omega); omega
      have hrem : Int.tmod n (F.length : Int) = (k : Int) := by rw [Int.tmod_eq_emod_of_nonneg hn.1]; exact hk
      have hwk : IntKind.i64.wrap (k : Int) = (k : Int) := IntWalk.i64_in _ (by omega)
      have hwn : IntKind.i64.wrap n = n := IntWalk.i64_in _ (by omega)
      have e1 : ((F.length : Int) == 0) = false := by simp only [beq_eq_false_iff_ne]; omega
      have hp2 : (F.length : Int) ≠ 0 := by omega
      have hp3 : F.length ≠ 0 := by omega
      have Hk := Lib.hid hk
      clear hk
      go_wp2_with fail
      go_loopw [6, 7] (fun s i wr => ∃ (j : Nat) (sb : ByteArray), j ≤ F.length ∧ i = .int .i64 (j : Int) ∧ s = .string sb ∧ sb.size ≤ 4109 * j ∧ Lacks F k j sb.data.toList ∧ Below w2.heap.size w2 wr) (fun _ i _ => F.length - (intOf i).toNat)
      case atStart => exact ⟨0, ⟨#[]⟩, by omega, rfl, rfl, Nat.zero_le _, .inl ⟨Nat.zero_le _, rfl⟩, Below.refl _ _⟩
      case round =>
        obtain ⟨j, sb, hj, rfl, rfl, hsz, hla, hbr⟩ := hrel
        have hl3 := Hl2.out.below hbr
        have Hla := Lib.hid hla
        have Hl3 := Lib.hid hl3
        have Hbr := Lib.hid hbr
        clear hla hl3 hbr
        by_cases hlt : j < F.length
        · have d1 : decide ((j : Int) < (F.length : Int)) = true := by simp only [decide_eq_true_eq]; omega
          have d1' : decide (j < F.length) = true := by simp only [decide_eq_true_eq]; omega
          by_cases hjk : j = k
          · have d2 : ((j : Int) != (k : Int)) = false := by simp [hjk]
            have d2' : (j != k) = false := by simp [hjk]
            have d2'' : decide (j = k) = true := by simp [hjk]
            have Hjk := Lib.hid hjk
            clear hjk
            go_wp2_with fail
            refine ⟨⟨j + 1, sb, by omega, by go_num, rfl, by omega, ?_, Hbr.out⟩, by simp [intOf]; omega⟩
            have h := Hla.out
            rw [Hjk.out] at h ⊢
            exact h.skip
          · have d2 : ((j : Int) != (k : Int)) = true := by simp only [bne_iff_ne]; omega
            have d2' : (j != k) = true := by simp only [bne_iff_ne]; exact hjk
            have d2'' : decide (j = k) = false := by simp only [decide_eq_false_iff_not]; exact hjk
            obtain ⟨A', c', hv, hcs⟩ := Hl3.out
            injection hv with ev1 ev2 ev3
            obtain ⟨b, hA, _, _, hc⟩ := hcs (by intro h; rw [h] at hlt; simp at hlt)
            rw [hA] at ev1
            have hcell := hc j hlt
            obtain ⟨rb, hrb⟩ : ∃ r : ByteArray, (⟨F[j].toArray⟩ : ByteArray) = r := ⟨_, rfl⟩
            have hrl : rb.data.toList = F[j] := by rw [← hrb]
            have hrz : rb.size = F[j].length := by rw [← hrb]; rfl
            have hSv : S F[j] = .string rb := by rw [← hrb]
            rw [hSv] at hcell
            have hg4 := HGs.out F[j] (List.getElem_mem hlt)
            have kr := fun W : World => jrRec_any j rb W (by omega) (by omega)
            rw [hrl] at kr
            have hll := Jr.lay_le j F[j]
            obtain ⟨lb, hlb⟩ : ∃ lb : ByteArray, (⟨(Jr.lay j F[j]).toArray⟩ : ByteArray) = lb := ⟨_, rfl⟩
            have hlbl : lb.data.toList = Jr.lay j F[j] := by rw [← hlb]
            have hlbz : lb.size = (Jr.lay j F[j]).length := by rw [← hlb]; rfl
            have kr2 : ∀ W : World, Calls Tryd.prog 23 #[.int .i64 (j : Int), .string rb] W fun e w' => e = .returned (.string lb) ∧ Below W.heap.size W w' := by
              intro W; rw [← hlb]; exact kr W
            have hla2 : Lacks F k (j + 1) (sb ++ lb).data.toList := by
              have := Hla.out.step hlt hjk
              rw [← hlbl] at this
              simpa using this
            have hs2 : (sb ++ lb).size ≤ 4109 * (j + 1) := by rw [ByteArray.size_append]; omega
            have hlbs : lb.size ≤ 4109 := by omega
            have Kr := Lib.hid kr2
            have Hla2 := Lib.hid hla2
            have Hs2 := Lib.hid hs2
            clear kr kr2 hla2 hs2 hlb hlbl hlbz hll hg4 hSv hrz hrl hrb hc hcs ev2 ev3 hA hjk
            subst ev1
            go_wp2_with fail
            refine (Kr.out _).mono ?_
            rintro _ w4 ⟨rfl, hb4⟩
            have Hb4 := Lib.hid (Hbr.out.trans (hb4.mono Hbr.out.size))
            clear hb4
            go_wp2_with fail
            refine ⟨⟨j + 1, sb ++ lb, by omega, by go_num, rfl, Hs2.out, Hla2.out, Hb4.out⟩, by simp [intOf]; omega⟩
        · have d1 : decide ((j : Int) < (F.length : Int)) = false := by simp only [decide_eq_false_iff_not]; omega
          have d1' : decide (j < F.length) = false := by simp only [decide_eq_false_iff_not]; omega
          obtain ⟨x, hx⟩ : ∃ x, sb.data.toList = Jr.lays 0 (F.take k) ++ x := by
            rcases Hla.out with ⟨h, _⟩ | ⟨_, h⟩
            · omega
            · exact h
          have hpre := Jr.order_pre (F.take k) x (fun r hr => HGs.out r (List.mem_of_mem_take hr))
          rw [← hx] at hpre
          have kp := fun W : World => jrParse_cap sb W (by omega)
          have kq := fun W : World => jrRefParse_any sb W (by omega)
          have hmany := parse_many sb.data.toList
          have hsbl : sb.data.toList.length = sb.size := rfl
          obtain ⟨⟨P, m⟩, hp⟩ : ∃ x, Jr.parse sb.data.toList = x := ⟨_, rfl⟩
          rw [hp] at hpre hmany
          simp only [hp] at kp kq
          have hPl : P.length ≤ 9223372036854775807 := by
            have : P.length ≤ sb.data.toList.length := hmany
            omega
          have hgk : (F.take k).length = k := by rw [List.length_take]; omega
          have hkP : k ≤ P.length := by
            have := hpre.length_le
            simp only at this
            omega
          have htk : P.take k = F.take k := by
            have := List.prefix_iff_eq_take.1 hpre
            rw [hgk] at this
            exact this.symm
          have d4 : decide ((k : Int) ≤ (P.length : Int)) = true := by simp only [decide_eq_true_eq]; omega
          have d4' : decide (k ≤ P.length) = true := by simp only [decide_eq_true_eq]; exact hkP
          have Kp := Lib.hid kp
          have Kq := Lib.hid kq
          have Htk := Lib.hid htk
          clear kp kq htk hp hpre hx hmany hsbl hgk
          go_wp2_with fail
          refine (Kp.out _).mono ?_
          rintro _ w5 ⟨⟨AP, rfl, hl5⟩, hb5⟩
          have Hl5 := Lib.hid hl5
          have Hl3b := Lib.hid (Hl3.out.below hb5)
          have Hb5 := Lib.hid ((Hb2.out.trans (Hbr.out.mono Hb2.out.size)).trans (hb5.mono (Nat.le_trans Hb2.out.size Hbr.out.size)))
          clear hl5 hb5
          go_wp2_with fail
          refine (Kq.out _).mono ?_
          rintro _ w6 ⟨⟨v6, rfl, hl6⟩, hb6⟩
          have hb56 := Hb5.out.trans (hb6.mono Hb5.out.size)
          have hP6 := Hl5.out.below hb6
          have hG6 := Hl3b.out.below hb6
          obtain ⟨A7, hs7, hl7⟩ := hP6.cut (Nat.le_refl _) k hkP
          obtain ⟨A8, hs8, hl8⟩ := hG6.cut hGc k (by omega)
          have q1 := quiet_same hP6 hl6 hPl rfl
          have q2 := quiet_same hl7 hl8 (by rw [List.length_take]; omega) Htk.out
          have Hb6 := Lib.hid hb56
          have Q1 := Lib.hid q1
          have Q2 := Lib.hid q2
          clear q1 q2 hb56 hP6 hG6 hl7 hl8 hl6 hb6
          go_wp2_with fail
          go_quiet (first | (with_reducible exact Q1.out _) | (with_reducible exact Q2.out _))
          go_wp2_with fail
          go_ret
          exact ⟨by simp, bel_drewN Hb6.out _⟩
end Go.Proofs.YtpphljdnnlfjhaaDoor
