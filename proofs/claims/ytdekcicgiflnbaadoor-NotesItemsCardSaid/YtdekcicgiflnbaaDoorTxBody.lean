/- tx.Body: its closure lay, and Body. -/
import Derived.Test.YtdekcicgiflnbaaDoorTxCheck
import Derived.Test.YtdekcicgiflnbaaDoorOwnStep
namespace Go.Proofs.YtdekcicgiflnbaaDoor
open Go.RowKit
set_option linter.unusedVariables false
set_option linter.unusedSimpArgs false

/-- the variable in block B holds a slice of texts of the call's own -/
def VarT (w : World) (base B : Nat) (L : List (List UInt8)) : Prop :=
  ∃ v, Row w B 73 [v] ∧ w.ownsRow base 9 1 v L.length (L.map S)
theorem apart_of {w : World} {base B n : Nat} {t : TypeId} {v : Value} {xs ys : List Value} (hv : Row w B t ys) (ht : t ≠ 9) (hown : w.ownsRow base 9 1 v n xs) : some B ≠ v.ownBlock := by
  intro e
  rcases hown.2 with ⟨rfl, _⟩ | ⟨g, cap, cur, rfl, hg, hh, _⟩
  · simp [Value.ownBlock] at e
  · simp only [Value.ownBlock, Option.some.injEq] at e
    subst e
    unfold Row at hv
    rw [hh] at hv
    simp at hv
    exact ht hv.2.symm
theorem number_ok (n : Int) (w : World) (h0 : 0 ≤ n) (h1 : n ≤ 9223372036854775807) :
    Calls Tryd.prog 55 #[.int .i64 n] w fun e w' => e = .returned (.tuple #[S (Oct.num n.toNat), .int .i64 0]) ∧ Below w.heap.size w w' := by
  have := Number_any n w h1
  unfold Oct.numE at this
  rw [if_neg (by omega)] at this
  exact this
/-- a text put behind those of the variable -/
theorem varT_push {w w1 : World} {base B nb : Nat} {L : List (List UInt8)} {v v' : Value} {s : List UInt8} {Q : List Value} {tq : TypeId} (hv : Row w B 73 [v]) (hown : w.ownsRow base 9 1 v L.length (L.map S))
    (hown' : w1.ownsRow base 9 1 v' (L.length + 1) (L.map S ++ [S s])) (hgrow : w.grownBy w1 v.ownBlock) (hB : base ≤ B) :
    w1.cell? ⟨B, 0, none⟩ = some v ∧ w1.frozen? ⟨B, 0, none⟩ = false ∧ VarT (w1.setCell ⟨B, 0, none⟩ v') base B (L ++ [s]) ∧ (∀ a, Below base a w → Below base a (w1.setCell ⟨B, 0, none⟩ v')) := by
  have hv1 := hv.kept hgrow (apart_of hv (by decide) hown)
  have hv1c := hv1.cell 0 (by simp)
  refine ⟨hv1c, hv1.free 0, ⟨v', hv1.set 0 v' (by simp), ?_⟩, fun a ha => ?_⟩
  · have := ownsRow_setCell_other hown' (fun e => apart_of hv1 (by decide) hown' e.symm) (a := ⟨B, 0, none⟩) v'
    simpa using this
  · exact (ha.grown hgrow (by have := ha.size; have := hv.lt; omega) (fun k hk => (hown.lt k hk).1)).setCell hB _
theorem nums_kept {w w1 : World} {base B nb : Nat} {L : List (List UInt8)} {v v' : Value} {ns : List Int} (hv : Row w B 73 [v]) (hown : w.ownsRow base 9 1 v L.length (L.map S)) (hgrow : w.grownBy w1 v.ownBlock) (hN : Row w nb 3 (Is ns)) :
    Row (w1.setCell ⟨B, 0, none⟩ v') nb 3 (Is ns) := by
  have hne : nb ≠ B := by
    rintro rfl
    unfold Row at hv hN
    rw [hv] at hN
    simp at hN
  exact (hN.kept hgrow (apart_of hN (by decide) hown)).kept (grownBy_set w1 B 0 v') (by simpa using hne)
theorem str_info5 : (Tryd.prog.info? 9).map (fun i => (i.zero, i.size, i.bytes)) = some (some (.string ByteArray.empty), 1, 16) := by kernel_rfl
theorem one_text (w : World) (t : TypeId) (s : List UInt8) : ∀ j u, [S s][j]? = some u → (w.alloc (.cells #[S s] t)).cell? ((⟨w.heap.size, 0, none⟩ : Addr).add j) = some u := by
  intro j u hj
  match j, hj with
  | 0, hj =>
    simp at hj
    subst hj
    simp [Addr.add]
theorem one_textc (s : List UInt8) : ∀ u ∈ [S s], u.oneCell' = true := by
  intro u hu
  simp at hu
  subst hu
  rfl

set_option maxRecDepth 20000 in
set_option maxHeartbeats 400000 in
theorem lay_any (ns : List Int) (c : Nat) (hns : ∀ n ∈ ns, 0 ≤ n ∧ n ≤ 9223372036854775807) (w : World) (base B nb : Nat) (L : List (List UInt8)) (hV : VarT w base B L) (hB : base ≤ B) (hN : Row w nb 3 (Is ns)) (hlen : L.length + ns.length ≤ 1000) :
    Calls Tryd.prog 54 #[.slice (some ⟨nb, 0, none⟩) ns.length c, .pointer (some ⟨B, 0, none⟩)] w fun e w' => e = .returned (.tuple #[]) ∧ VarT w' base B (L ++ ns.map fun n => Oct.num n.toNat) ∧ Below base w w' := by
  obtain ⟨i0, hi, h2⟩ := Option.map_eq_some_iff.1 str_info5
  simp only [Prod.mk.injEq] at h2
  obtain ⟨hz, hs, hby⟩ := h2
  have Hi := Lib.hid hi
  have Hz := Lib.hid hz
  have Hs := Lib.hid hs
  have Hby := Lib.hid hby
  have HV := Lib.hid hV
  have HN := Lib.hid hN
  have Hns := Lib.hid hns
  have hBw : base ≤ w.heap.size := by obtain ⟨v, h, _⟩ := hV; have := h.lt; omega
  obtain ⟨m, hm⟩ : ∃ m, m = ns.length := ⟨_, rfl⟩
  rw [← hm] at hlen ⊢
  have Hm := Lib.hid hm
  clear hi hz hs hby hV hN hns hm
  go_enter Tryd.func54, Tryd.ntmps54
  go_wp2_with fail
  go_loopw [9] (fun i wr => ∃ k : Nat, k ≤ m ∧ i = .int .i64 k ∧ VarT wr base B (L ++ (ns.take k).map fun n => Oct.num n.toNat) ∧ Row wr nb 3 (Is ns) ∧ Below base w wr) (fun i _ => m - (intOf i).toNat)
  case atStart => exact ⟨0, Nat.zero_le _, rfl, by simpa using HV.out, HN.out, Below.refl _ _⟩
  case round =>
    obtain ⟨k, hk, rfl, hVr, hNr, hbr⟩ := hrel
    obtain ⟨v, hv, hown⟩ := hVr
    have HNr := Lib.hid hNr
    have Hbr := Lib.hid hbr
    have Hv := Lib.hid hv
    have Hown := Lib.hid hown
    clear hNr hbr hv hown
    by_cases hlt : k < m
    · have hki : (k : Int) < (m : Int) := by omega
      have hkn : k < ns.length := by rw [← Hm.out]; exact hlt
      have cn := HNr.out.num k hkn
      obtain ⟨x, hx⟩ : ∃ x, x = ns.getD k 0 := ⟨_, rfl⟩
      have hxn : ns[k] = x := by rw [hx]; simp [List.getD, hkn]
      have hxb := Hns.out x (by rw [← hxn]; exact List.getElem_mem hkn)
      have htk : (L ++ (ns.take (k + 1)).map fun n => Oct.num n.toNat) = (L ++ (ns.take k).map fun n => Oct.num n.toNat) ++ [Oct.num x.toNat] := by
        rw [List.take_succ_eq_append_getElem hkn, List.map_append, List.append_assoc, hxn]; rfl
      rw [← hx] at cn
      have Htk := Lib.hid htk
      have hLl : (L ++ (ns.take k).map fun n => Oct.num n.toNat).length ≤ 1000 := by
        rw [List.length_append, List.length_map, List.length_take]; omega
      generalize (L ++ (ns.take k).map fun n => Oct.num n.toNat) = K at *
      clear htk hx hxn hkn
      go_wp2_with fail
      refine (number_ok x _ hxb.1 hxb.2).mono ?_
      rintro _ w1 ⟨rfl, hb1⟩
      have hg1 := grownBy_of_below hb1 none
      have hv1 := Hv.out.kept hg1 (by simp)
      have hown1 := Hown.out.kept hg1 (by cases v.ownBlock <;> simp)
      have hN1 := HNr.out.kept hg1 (by simp)
      have hb1' : Below base w w1 := Hbr.out.grown hg1 (Nat.le_trans hBw Hbr.out.size) (fun k hk => by cases hk)
      have hv2 := hv1.kept (grownBy_alloc w1 (.cells #[S (Oct.num x.toNat)] 9) none) (by simp)
      have hown2 := hown1.alloc (.cells #[S (Oct.num x.toNat)] 9)
      have hN2 := hN1.kept (grownBy_alloc w1 (.cells #[S (Oct.num x.toNat)] 9) none) (by simp)
      have hb2 : Below base w (w1.alloc (.cells #[S (Oct.num x.toNat)] 9)) := hb1'.alloc (Nat.le_trans hBw hb1'.size) _
      have cv := hv1.cell 0 (by simp)
      have hlt1 := hv1.lt
      simp only [List.getElem_cons_zero] at cv
      have hsz2 : base ≤ (w1.alloc (.cells #[S (Oct.num x.toNat)] 9)).heap.size := Nat.le_trans hBw hb2.size
      have hk63 : K.length + 1 ≤ maxLen := by unfold maxLen; omega
      have hk48 : ((K.length + 1) + (K.length + 1) / 4 + 192) * 16 ≤ 281474976710656 := by omega
      have Hv2 := Lib.hid hv2
      have Hown2 := Lib.hid hown2
      have HN2 := Lib.hid hN2
      have Hb2 := Lib.hid hb2
      clear hb1 hg1 hv1 hown1 hN1 hb1' hv2 hown2 hN2 hb2 Hv Hown HNr Hbr cn
      go_wp2_with (at_builtin; refine wpList_append_own_wide _ rfl (.tmp 18) (.tmp 20) 73 rfl base 9 i0 (.string ByteArray.empty) 1 16 Tryd.underlying73 Hi.out Hz.out Hs.out Hby.out rfl (by decide) _ _ _ rfl Hown2.out ⟨w1.heap.size, 0, none⟩ 1 1 [S (Oct.num x.toNat)] rfl rfl (one_text _ _ _) (one_textc _) hk63 hk48 hsz2 ?_
                   intro v' w3 hown3 hgrow3 _
                   obtain ⟨g, cap, rfl⟩ := ownsRow_succ hown3
                   obtain ⟨cB, fB, hV3, hb3⟩ := varT_push (nb := nb) (Q := []) (tq := 0) Hv2.out Hown2.out hown3 hgrow3 hB
                   have hN3 := nums_kept (v' := .slice (some ⟨g, 0, none⟩) (K.length + 1) cap) Hv2.out Hown2.out hgrow3 HN2.out
                   have HV3 := Lib.hid hV3
                   have Hb3 := Lib.hid (hb3 w Hb2.out)
                   have HN3 := Lib.hid hN3
                   clear hown3 hgrow3 hV3 hb3 hN3 cv)
      refine ⟨⟨k + 1, hlt, by go_num, by rw [Htk.out]; exact HV3.out, HN3.out, Hb3.out⟩, by simp [intOf]; omega⟩
    · have hki : (m : Int) ≤ (k : Int) := by omega
      have ekm : k = m := by omega
      have hfin : VarT wr base B (L ++ ns.map fun n => Oct.num n.toNat) := by
        refine ⟨v, Hv.out, ?_⟩
        have h := Hown.out
        rw [show ns.take k = ns by rw [ekm, Hm.out, List.take_length]] at h
        exact h
      have Hfin := Lib.hid hfin
      clear hfin ekm
      go_wp2_with fail
      go_end0
      exact ⟨rfl, Hfin.out, Hbr.out⟩
end Go.Proofs.YtdekcicgiflnbaaDoor
