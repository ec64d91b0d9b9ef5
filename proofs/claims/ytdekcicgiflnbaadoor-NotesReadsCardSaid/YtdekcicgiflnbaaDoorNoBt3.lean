/- notes: readParts. -/
import Derived.Test.YtdekcicgiflnbaaDoorNoF
import Derived.Test.YtdekcicgiflnbaaDoorNoB
import Derived.WalkMore
namespace Go.Proofs.YtdekcicgiflnbaaDoor
open Go.RowKit
set_option linter.unusedVariables false
set_option linter.unusedSimpArgs false

namespace Pt
def cells (p : Pt) : List Value := [.bool p.1, S p.2]
def flat (l : List Pt) : List Value := l.flatMap cells
theorem flat_snoc (l : List Pt) (p : Pt) : flat (l ++ [p]) = flat l ++ [.bool p.1, S p.2] := by
  unfold flat
  rw [List.flatMap_append]
  simp [cells]
theorem all_none {l : List No.T8} {k : Nat} (hk : k < l.length) (h : of l[k] = none) : all (l.drop k) = none := by
  rw [List.drop_eq_getElem_cons hk, all, h]
theorem all_go {l : List No.T8} {k : Nat} {p : Pt} (hk : k < l.length) (h : of l[k] = some p) : all (l.drop k) = (all (l.drop (k + 1))).map (p :: ·) := by
  rw [List.drop_eq_getElem_cons hk, all, h]
theorem map_app (o : Option (List Pt)) (a : List Pt) (x : Pt) : (o.map (x :: ·)).map (a ++ ·) = o.map ((a ++ [x]) ++ ·) := by
  cases o <;> simp
end Pt
theorem part_info5 : ∃ i0 : TypeInfo, Tryd.prog.info? 98 = some i0 ∧ i0.zero = some (.agg #[.bool false, .string ByteArray.empty]) ∧ i0.size = 2 ∧ i0.bytes = 24 := by
  obtain ⟨i0, hi, h2⟩ := Option.map_eq_some_iff.1 (by kernel_rfl : (Tryd.prog.info? 98).map (fun i => (i.zero, i.size, i.bytes)) = some (some (.agg #[.bool false, .string ByteArray.empty]), 2, 24))
  simp only [Prod.mk.injEq] at h2
  exact ⟨i0, hi, h2.1, h2.2.1, h2.2.2⟩
/-- what readParts leaves -/
def PartsOf (F : Option (List Pt)) (base : Nat) (e : Ending) (w' : World) : Prop :=
  match F with
  | some ps => ∃ A c, e = .returned (.tuple #[.slice A ps.length c, .bool true]) ∧ w'.ownsRow base 98 2 (.slice A ps.length c) ps.length (Pt.flat ps)
  | none => ∃ A n c, e = .returned (.tuple #[.slice A n c, .bool false])
theorem own_form {W : World} {base n size : Nat} {e : TypeId} {v : Value} {xs : List Value} (h : W.ownsRow base e size v n xs) : ∃ A c, v = .slice A n c := by
  rcases h.2 with ⟨rfl, h0⟩ | ⟨g, cap, cur, rfl, _⟩
  · exact ⟨none, 0, by rw [h0]⟩
  · exact ⟨_, cap, rfl⟩
theorem ext_tail (c : UInt8) (r : List UInt8) : (⟨(c :: r).toArray⟩ : ByteArray).extract 1 (r.length + 1) = ⟨r.toArray⟩ := by
  have h : ∀ a b : ByteArray, a.data = b.data → a = b := fun a b h => by cases a; cases b; simp only at h; rw [h]
  apply h
  rw [ByteArray.data_extract]
  simp
theorem ext_head (c : UInt8) (r : List UInt8) : (⟨(c :: r).toArray⟩ : ByteArray).extract 0 1 = ⟨#[c]⟩ := by
  have h : ∀ a b : ByteArray, a.data = b.data → a = b := fun a b h => by cases a; cases b; simp only at h; rw [h]
  apply h
  rw [ByteArray.data_extract]
  simp
theorem one_list (c : UInt8) : (⟨#[c]⟩ : ByteArray).toList = [c] := by
  unfold ByteArray.toList ByteArray.toList.loop ByteArray.toList.loop
  simp [ByteArray.size, ByteArray.get!]
set_option maxRecDepth 20000 in
set_option maxHeartbeats 1600000 in
theorem readParts_any (l : List No.T8) (A : Option Addr) (c : Nat) (w : World) (hl : ∀ x ∈ l, x.length ≤ 65536) (hll : l.length ≤ 2000) (hT : Texts w w.heap.size A l) :
    Calls Tryd.prog 93 #[.slice A l.length c] w fun e w' => PartsOf (Pt.all l) w.heap.size e w' ∧ Below w.heap.size w w' := by
  obtain ⟨i0, hi, hz, hs, hby⟩ := part_info5
  have Hi := Lib.hid hi
  have Hz := Lib.hid hz
  have Hs := Lib.hid hs
  have Hby := Lib.hid hby
  obtain ⟨m, hm⟩ : ∃ m, m = l.length := ⟨_, rfl⟩
  obtain ⟨F, hF⟩ : ∃ F, F = Pt.all l := ⟨_, rfl⟩
  rw [← hF]
  rw [← hm] at hll ⊢
  have HM := Lib.hid hm
  have Hl := Lib.hid hl
  have HT := Lib.hid hT
  have HF := Lib.hid hF
  clear hi hz hs hby hm hl hT hF
  go_enter Tryd.func93, Tryd.ntmps93
  go_wp2_with fail
  go_step3
  go_wp2_with fail
  go_step3
  go_wp2_with fail
  go_loopw [4, 5, 10] (fun v wg i wr => ∃ (k : Nat) (ps : List Pt), k ≤ m ∧ i = .int .i64 k ∧ wg = .bool false ∧ ps.length = k ∧ F = (Pt.all (l.drop k)).map (ps ++ ·) ∧ wr.ownsRow w.heap.size 98 2 v k (Pt.flat ps) ∧ Below w.heap.size w wr) (fun _ _ i _ => m - (intOf i).toNat)
  case atStart => exact ⟨0, [], Nat.zero_le _, rfl, rfl, rfl, by rw [HF.out]; simp, World.ownsRow_nil _ _ _ _, Below.refl _ _⟩
  case round =>
    obtain ⟨k, ps, hk, rfl, rfl, hps, hFk, hown, hbr⟩ := hrel
    have HFk := Lib.hid hFk
    have Hown := Lib.hid hown
    have Hbr := Lib.hid hbr
    have Hps := Lib.hid hps
    clear hFk hown hbr hps
    by_cases hkm : k < m
    · have hki : (k : Int) < (m : Int) := by omega
      have hkl : k < l.length := by rw [← HM.out]; exact hkm
      have hx0 : ∃ b off, A = some ⟨b, off, none⟩ ∧ wr.cell? ⟨b, off + k, none⟩ = some (S l[k]) := by
        obtain ⟨b, off, h1, h2, h3⟩ := HT.out (by intro e; rw [e] at hkl; simp at hkl)
        exact ⟨b, off, h1, (Hbr.out.cell (p := ⟨b, off + k, none⟩) h2).trans (h3 k hkl)⟩
      obtain ⟨b, off, rfl, c0⟩ := hx0
      have hxl := Hl.out _ (List.getElem_mem hkl)
      obtain ⟨x, hx⟩ : ∃ x, x = l[k] := ⟨_, rfl⟩
      rw [← hx] at c0 hxl
      by_cases h2 : x = [2]
      · have ho : Pt.of x = some (true, []) := by rw [h2]; rfl
        have hF2 : F = (Pt.all (l.drop (k + 1))).map ((ps ++ [(true, [])]) ++ ·) := by rw [HFk.out, Pt.all_go hkl (by rw [← hx]; exact ho), Pt.map_app]
        have HF2 := Lib.hid hF2
        subst h2
        have hown2 := Hown.out.alloc (.cells #[.bool true, S []] 98)
        have hb2 : Below w.heap.size w (wr.alloc (.cells #[.bool true, S []] 98)) := Hbr.out.alloc Hbr.out.size _
        have hsz2 := hb2.size
        have hk63 : k + 1 ≤ maxLen := by unfold maxLen; omega
        have hk48 : ((k + 1) + (k + 1) / 4 + 192) * 24 ≤ 281474976710656 := by omega
        have Hnew := Lib.hid (row_news (Row.new wr 98 [.bool true, S []]))
        have Hown2 := Lib.hid hown2
        have Hb2 := Lib.hid hb2
        clear hF2 hx ho hown2 hb2
        go_wp2_with (at_builtin; refine wpList_append_own_wide _ rfl (.tmp 17) (.tmp 19) 53 rfl w.heap.size 98 i0 (.agg #[.bool false, .string ByteArray.empty]) 2 24 Tryd.underlying53 Hi.out Hz.out Hs.out Hby.out rfl (by decide) _ _ _ rfl Hown2.out ⟨wr.heap.size, 0, none⟩ 1 1 [.bool true, S []] rfl rfl Hnew.out (by intro u hu; simp at hu; rcases hu with rfl | rfl <;> rfl) hk63 hk48 hsz2 ?_
                     intro v' w3 hown3 hgrow3 _
                     obtain ⟨g, cp, rfl⟩ := ownsRow_succ hown3
                     have Hb3 := Lib.hid (below_row Hb2.out hsz2 Hown2.out hgrow3)
                     have Hown3 := Lib.hid hown3
                     clear hown3 hgrow3)
        refine ⟨⟨k + 1, ps ++ [(true, [])], hkm, by go_num, rfl, by rw [List.length_append, Hps.out]; rfl, HF2.out, by rw [Pt.flat_snoc]; exact Hown3.out, Hb3.out⟩, by simp [intOf]; omega⟩
      · have d2 : (x == [2]) = false := by simpa using h2
        cases x with
        | nil =>
          have hFn : F = none := by rw [HFk.out, Pt.all_none hkl (by rw [← hx]; rfl)]; rfl
          have HFn := Lib.hid hFn
          obtain ⟨Av, cv, rfl⟩ := own_form Hown.out
          clear hFn hx h2
          go_wp2_with fail
          rw [Exit.noGoto_ret]
          go_ret2
          rw [HFn.out]
          exact ⟨⟨Av, k, cv, rfl⟩, Hbr.out⟩
        | cons c r =>
          have he : (⟨(c :: r).toArray⟩ : ByteArray).toList.isEmpty = false := by
            rw [Bool.eq_false_iff]
            intro h
            have := (No.empty_iff _).1 h
            simp at this
          have hex := ext_tail c r
          by_cases hc1 : c = 1
          · have d1 : ((((⟨(c :: r).toArray⟩ : ByteArray).extract 0 1).toList == [1])) = true := by rw [ext_head, one_list, hc1]; rfl
            have ho : Pt.of (c :: r) = some (false, r) := by
              unfold Pt.of
              rw [if_neg h2]
              simp only
              rw [if_pos hc1]
            have hF2 : F = (Pt.all (l.drop (k + 1))).map ((ps ++ [(false, r)]) ++ ·) := by rw [HFk.out, Pt.all_go hkl (by rw [← hx]; exact ho), Pt.map_app]
            have HF2 := Lib.hid hF2
            have hown2 := Hown.out.alloc (.cells #[.bool false, S r] 98)
            have hb2 : Below w.heap.size w (wr.alloc (.cells #[.bool false, S r] 98)) := Hbr.out.alloc Hbr.out.size _
            have hsz2 := hb2.size
            have hk63 : k + 1 ≤ maxLen := by unfold maxLen; omega
            have hk48 : ((k + 1) + (k + 1) / 4 + 192) * 24 ≤ 281474976710656 := by omega
            have Hnew := Lib.hid (row_news (Row.new wr 98 [.bool false, S r]))
            have Hown2 := Lib.hid hown2
            have Hb2 := Lib.hid hb2
            clear hF2 hx ho hown2 hb2 h2 hc1
            go_wp2_with (at_builtin; refine wpList_append_own_wide _ rfl (.tmp 29) (.tmp 33) 53 rfl w.heap.size 98 i0 (.agg #[.bool false, .string ByteArray.empty]) 2 24 Tryd.underlying53 Hi.out Hz.out Hs.out Hby.out rfl (by decide) _ _ _ rfl Hown2.out ⟨wr.heap.size, 0, none⟩ 1 1 [.bool false, S r] rfl rfl Hnew.out (by intro u hu; simp at hu; rcases hu with rfl | rfl <;> rfl) hk63 hk48 hsz2 ?_
                         intro v' w3 hown3 hgrow3 _
                         obtain ⟨g, cp, rfl⟩ := ownsRow_succ hown3
                         have Hb3 := Lib.hid (below_row Hb2.out hsz2 Hown2.out hgrow3)
                         have Hown3 := Lib.hid hown3
                         clear hown3 hgrow3)
            refine ⟨⟨k + 1, ps ++ [(false, r)], hkm, by go_num, rfl, by rw [List.length_append, Hps.out]; rfl, HF2.out, by rw [Pt.flat_snoc]; exact Hown3.out, Hb3.out⟩, by simp [intOf]; omega⟩
          · have d1 : ((((⟨(c :: r).toArray⟩ : ByteArray).extract 0 1).toList == [1])) = false := by rw [ext_head, one_list]; simpa using hc1
            have hFn : F = none := by
              rw [HFk.out, Pt.all_none hkl (by
                rw [← hx]
                unfold Pt.of
                rw [if_neg h2]
                simp only
                rw [if_neg hc1])]; rfl
            have HFn := Lib.hid hFn
            obtain ⟨Av, cv, rfl⟩ := own_form Hown.out
            clear hFn hx h2 hc1
            go_wp2_with fail
            rw [Exit.noGoto_ret]
            go_ret2
            rw [HFn.out]
            exact ⟨⟨Av, k, cv, rfl⟩, Hbr.out⟩
    · have hki : (m : Int) ≤ (k : Int) := by omega
      obtain rfl : k = m := by omega
      have hFe : F = some ps := by
        rw [HFk.out, List.drop_of_length_le (by have := HM.out; omega)]
        simp [Pt.all]
      have HFe := Lib.hid hFe
      obtain ⟨Av, cv, rfl⟩ := own_form Hown.out
      clear hFe
      go_wp2_with fail
      rw [Exit.noGoto_ret]
      go_ret2
      rw [HFe.out]
      exact ⟨⟨Av, cv, by rw [Hps.out]; rfl, by rw [Hps.out]; exact Hown.out⟩, Hbr.out⟩
end Go.Proofs.YtdekcicgiflnbaaDoor
