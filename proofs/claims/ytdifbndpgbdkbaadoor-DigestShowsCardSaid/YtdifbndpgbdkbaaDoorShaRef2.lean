/- cavalcaderef02.Bytes, padded: what they return. -/
import Derived.Test.YtdifbndpgbdkbaaDoorShaRef1
import Derived.Test.YtdifbndpgbdkbaaDoorOwn1
namespace Go.Proofs.YtdifbndpgbdkbaaDoor
open Go.RowKit
set_option linter.unusedVariables false
set_option linter.unusedSimpArgs false

def u8s (l : List UInt8) : List Value := l.map fun (b : UInt8) => Value.int .u8 (b.toNat : Int)
theorem u8s_len (l : List UInt8) : (u8s l).length = l.length := by simp [u8s]
theorem u8s_snoc (l : List UInt8) (b : UInt8) : u8s (l ++ [b]) = u8s l ++ [.int .u8 (b.toNat : Int)] := by simp [u8s]
theorem u8s_at (l : List UInt8) (i : Nat) (h : i < l.length) : (u8s l)[i]? = some (.int .u8 ((l.getD i 0).toNat : Int)) := by
  simp [u8s, h, List.getD]
theorem Own1.text {P : Program} {w : World} {base : Nat} {v : Value} {bs : List UInt8} (h : Own1 w base v (u8s bs)) (src e : TypeId) (hs : P.underlying src = some (.slice e)) (he : P.underlying e = some (.int .u8))
    (dst : TypeId) (hd : P.underlying dst = some .string) : (convert src dst v).run P w = .ok (S bs) w := by
  obtain ⟨g, cap, rfl, hg, hgs, hn, hm, hw, hc⟩ := h
  rw [u8s_len]
  have hr := run_convert_bytes_arg (P := P) w src e hs he g 0 bs.length cap (bs.map fun b => (b.toNat : Int)) (by simp) (fun i hi => by
    rw [Nat.zero_add, hc i _ (u8s_at bs i hi)]; simp [List.getD, hi]) dst hd
  rw [hr, bytes_of_]
/-- one byte more -/
theorem Own1.byte {w : World} {base : Nat} {v : Value} {bs : List UInt8} (h : Own1 w base v (u8s bs)) (b : UInt8) (x : Int) (hx : x = (b.toNat : Int)) (hlen : bs.length + 1 ≤ 140737488355328) (hbase : base ≤ w.heap.size) :
    ∃ v' w', (Builtin.append_ #[28, 28] 28 #[v, .slice (some ⟨w.heap.size, 0, none⟩) 1 1]).run Tryd.prog (w.alloc (.cells #[.int .u8 x] 5)) = .ok v' w' ∧ Own1 w' base v' (u8s (bs ++ [b])) ∧ Below base w w' := by
  subst hx
  obtain ⟨i0, hi, hz0, hz1, hz2⟩ := info_parts u8_info
  have hb1 : Below w.heap.size w (w.alloc (.cells #[.int .u8 (b.toNat : Int)] 5)) := (Below.refl _ _).alloc (Nat.le_refl _) _
  obtain ⟨v', w', h1, h2, h3⟩ := (h.below hb1).push (P := Tryd.prog) 28 28 5 i0 _ 1 Tryd.underlying28 hi hz0 hz1 hz2 rfl w.heap.size (.int .u8 (b.toNat : Int)) ((Holds.new w _ _).cell 0) rfl (by rw [u8s_len]; omega) (by rw [u8s_len]; omega) (Nat.le_trans hbase hb1.size)
  refine ⟨v', w', h1, ?_, (hb1.mono hbase).trans h3⟩
  rw [u8s_snoc]; exact h2
theorem Own1.empty (w : World) (T : TypeId) : Own1 (w.alloc (.cells #[] T)) w.heap.size (.slice (some ⟨w.heap.size, 0, none⟩) 0 0) (u8s []) :=
  ⟨w.heap.size, 0, rfl, Nat.le_refl _, by simp, Nat.le_refl _, by unfold maxLen; omega, fun i hi => by omega, fun i x hx => by simp [u8s] at hx⟩

set_option maxHeartbeats 1000000 in
set_option maxRecDepth 100000 in
theorem bytes_any (h : List UInt8) (w : World) (hh : h.length = 32) :
    Calls Tryd.prog 41 #[.agg (bRow h)] w fun e w' => e = .returned (S h) ∧ Below w.heap.size w w' := by
  have HH := Lib.hid hh
  clear hh
  go_enter Tryd.func41, Tryd.ntmps41
  go_wp2_with fail
  have hd0 : ∀ k : Nat, k < 32 → (bRow h)[k]? = some (.int .u8 ((h.getD k 0).toNat : Int)) := by
    intro k hk
    rw [bRow_yRow h HH.out, yRow_at h k (by rw [HH.out]; exact hk)]
    congr 2
    simp [List.getD, show k < h.length by rw [HH.out]; exact hk]
  have HD0 := Lib.hid hd0
  clear hd0
  have hcv : ∀ (W : World) (v : Value), Own1 W (w.heap.size + 1) v (u8s h) → (convert 28 9 v).run Tryd.prog W = .ok (S h) W :=
    fun W v ho => ho.text 28 5 Tryd.underlying28 Tryd.underlying5 9 Tryd.underlying9
  have HCV := Lib.hid hcv
  clear hcv
  go_loopw [3, 4] (fun v i wr => ∃ k : Nat, k ≤ 32 ∧ i = .int .i64 k ∧ Own1 wr (w.heap.size + 1) v (u8s (h.take k)) ∧ Holds wr w.heap.size (bRow h) ∧ Below w.heap.size w wr) (fun _ i _ => 32 - (intOf i).toNat)
  case atStart =>
    refine ⟨0, by omega, rfl, ?_, ?_, ?_⟩
    · have e : (w.alloc (.cells (bRow h) 24)).heap.size = w.heap.size + 1 := by simp
      have := Own1.empty (w.alloc (.cells (bRow h) 24)) 5
      rw [e] at this
      exact this
    · exact (Holds.new _ _ _).alloc _
    · exact ((Below.refl _ _).alloc (Nat.le_refl _) _).alloc (by simp) _
  case round =>
    obtain ⟨k, hk, rfl, hown, hH, hb⟩ := hrel
    by_cases hlt : k < 32
    · have hcell := (hH.cell k).trans (HD0.out k hlt)
      have hp0 : (0 : Int) ≤ (k : Int) := by omega
      have hp1 : (k : Int) < 32 := by omega
      have hkl : (h.take k).length = k := by rw [List.length_take, HH.out]; omega
      obtain ⟨v', w', hrun, hown', hb'⟩ := hown.byte (h.getD k 0) _ rfl (by rw [hkl]; omega) hH.lt
      have hnext : h.take k ++ [h.getD k 0] = h.take (k + 1) := by
        have hl : k < h.length := by rw [HH.out]; exact hlt
        rw [List.take_add_one, List.getElem?_eq_getElem hl]
        simp [List.getD, hl]
      rw [hnext] at hown'
      have hH2 : Holds w' w.heap.size (bRow h) := hH.below hb' (by omega)
      have Hrun := Lib.hid hrun
      have Hown := Lib.hid hown'
      have HH2 := Lib.hid hH2
      clear hrun hown' hH2 hown hH hkl hnext
      go_wp2_with (at_builtin; refine wpList_push_run _ rfl (.tmp 10) (.tmp 14) _ _ rfl _ _ rfl rfl Hrun.out ?_)
      exact ⟨⟨k + 1, by omega, by go_num, Hown.out, HH2.out, hb.trans (hb'.mono (by omega))⟩, by simp [intOf]; omega⟩
    · have e : h.take k = h := List.take_of_length_le (by rw [HH.out]; omega)
      rw [e] at hown
      have hcv := HCV.out wr _ hown
      clear hown hH
      go_wp2_with fail
      go_ret
      exact ⟨rfl, hb⟩
end Go.Proofs.YtdifbndpgbdkbaaDoor
