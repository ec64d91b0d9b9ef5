/- What later texts need of the earlier layers. -/
import Derived.Test.YtgdijbcoacgadaaDoorSlO
import Derived.Test.YtgdijbcoacgadaaDoorSlS
import Derived.Test.YtgdijbcoacgadaaDoorSlT
import Derived.Deep.QuietTactic
import Derived.BigQuiet
import Derived.Test.YtgdijbcoacgadaaDoorProg
import Derived.ArgAppend
import Derived.Lib.ConvBytes
import Derived.Laws.BytesArg
import Derived.Laws.IdiomCopy
import Derived.Below
import Derived.OwnWalk
import Derived.WalkKit
import Derived.Laws.MakeOwn
import Derived.Deep.MidRow
import Derived.Laws.CopyRow
import Derived.StillTailTactics
import Derived.Deep.RegionHeld3
/- ---- MShaC ---- -/
/- Contracts of the reference of layer 2, ahead of its Sum. -/
/- ---- ShaRef1 ---- -/
namespace Go.Proofs.YtgdijbcoacgadaaDoor
open Go.RowKit
set_option linter.unusedVariables false
set_option linter.unusedSimpArgs false

theorem shift_split (x n : Nat) : ((x : Int) / 2 ^ n) = ((x / 2 ^ n : Nat) : Int) := by simp
set_option maxRecDepth 20000 in
theorem right_any (x n : Nat) (w : World) (hx : x < 4294967296) (h1 : 1 ≤ n) (h2 : n ≤ 31) :
    Calls Tryd.prog 63 #[.int .u32 x, .int .i64 n] w fun e w' => e = .returned (.int .u32 (Sha.rot n x)) ∧ ∃ m, w' = w.drewN m := by
  have hn0 : (0 : Int) ≤ (n : Int) := by omega
  have hn1 : (0 : Int) ≤ 32 - (n : Int) := by omega
  have hw1 : IntKind.i64.wrap (32 - (n : Int)) = 32 - (n : Int) := by rw [IntKind.wrap_i64]; omega
  have ht : (32 - (n : Int)).toNat = 32 - n := by omega
  go_enter Tryd.func63, Tryd.ntmps63
  go_wp2_with fail
  go_quiet (fail)
  go_wp2_with fail
  go_ret
  have hr := Sha.rot_lt n x h1 h2 hx
  have e : (((x : Int) / 2 ^ n + (x : Int) * 2 ^ (32 - n) % 4294967296) % 4294967296) = ((Sha.rot n x : Nat) : Int) := by
    have e1 : (x : Int) * 2 ^ (32 - n) % 4294967296 = ((x * 2 ^ (32 - n) % 4294967296 : Nat) : Int) := by simp
    rw [shift_split, e1]
    unfold Sha.rot at hr ⊢
    generalize x / 2 ^ n = A at *
    generalize x * 2 ^ (32 - n) % 4294967296 = B at *
    omega
  exact ⟨by rw [e]; rfl, nq, rfl⟩
set_option maxRecDepth 20000 in
theorem three_any (x a b c : Nat) (w : World) (hx : x < 4294967296) (ha1 : 1 ≤ a) (ha2 : a ≤ 31) (hb1 : 1 ≤ b) (hb2 : b ≤ 31) (hc1 : 1 ≤ c) (hc2 : c ≤ 31) :
    Calls Tryd.prog 64 #[.int .u32 x, .int .i64 a, .int .i64 b, .int .i64 c] w fun e w' => e = .returned (.int .u32 ((Sha.rot a x ^^^ Sha.rot b x ^^^ Sha.rot c x : Nat) : Int)) ∧ ∃ m, w' = w.drewN m := by
  have hA := Sha.rot_lt a x ha1 ha2 hx
  have hB := Sha.rot_lt b x hb1 hb2 hx
  have hC := Sha.rot_lt c x hc1 hc2 hx
  have x1 := xor32 hA hB
  have x2 := xor32 (Sha.xor_lt hA hB) hC
  go_enter Tryd.func64, Tryd.ntmps64
  go_wp2_with fail
  refine (right_any x a _ hx ha1 ha2).mono ?_
  rintro e w1 ⟨rfl, m1, rfl⟩
  go_wp2_with fail
  refine (right_any x b _ hx hb1 hb2).mono ?_
  rintro e w1 ⟨rfl, m2, rfl⟩
  go_wp2_with fail
  refine (right_any x c _ hx hc1 hc2).mono ?_
  rintro e w1 ⟨rfl, m3, rfl⟩
  go_wp2_with fail
  go_ret
  exact ⟨rfl, _, rfl⟩
theorem word_at (t : Nat) (ht : t < 64) : (Sha.kk.map fun (k : Nat) => Value.int .u32 (k : Int))[t]'(by rw [List.length_map]; exact ht) = Value.int .u32 (Sha.kk.getD t 0 : Nat) := by
  have h : t < Sha.kk.length := ht
  rw [List.getElem_map]
  simp [List.getD, h]
set_option maxHeartbeats 1000000 in
set_option maxRecDepth 100000 in
theorem word_any (t : Nat) (w : World) (ht : t < 64) :
    Calls Tryd.prog 65 #[.int .i64 t] w fun e w' => e = .returned (.int .u32 (Sha.kk.getD t 0 : Nat)) ∧ Below w.heap.size w w' := by
  have ht0 : (0 : Int) ≤ (t : Int) := by omega
  have ht1 : (t : Int) < 64 := by omega
  go_enter Tryd.func65, Tryd.ntmps65
  go_wp2_with fail
  go_ret
  refine ⟨?_, (Below.refl _ _).alloc (Nat.le_refl _) _⟩
  exact congrArg Ending.returned (word_at t ht)
end Go.Proofs.YtgdijbcoacgadaaDoor

/- ---- Own1 ---- -/
namespace Go.Proofs.YtgdijbcoacgadaaDoor
open Go.RowKit
set_option linter.unusedVariables false
set_option linter.unusedSimpArgs false

/-- v holds the values xs in a row of the call's own, from block 'base' on; all its places up to the capacity can be written -/
def Own1 (w : World) (base : Nat) (v : Value) (xs : List Value) : Prop :=
  ∃ g cap, v = .slice (some ⟨g, 0, none⟩) xs.length cap ∧ base ≤ g ∧ g < w.heap.size ∧ xs.length ≤ cap ∧ cap ≤ maxLen ∧
    (∀ i, i < cap → (w.cell? ⟨g, i, none⟩).isSome = true ∧ w.frozen? ⟨g, i, none⟩ = false) ∧
    ∀ i x, xs[i]? = some x → w.cell? ⟨g, i, none⟩ = some x
theorem Own1.below {w w1 : World} {base : Nat} {v : Value} {xs : List Value} (h : Own1 w base v xs) (hb : Below w.heap.size w w1) : Own1 w1 base v xs := by
  obtain ⟨g, cap, rfl, hg, hgs, hn, hm, hw, hc⟩ := h
  refine ⟨g, cap, rfl, hg, Nat.lt_of_lt_of_le hgs hb.size, hn, hm, fun i hi => ?_, fun i x hi => ?_⟩
  · rw [hb.cell (p := ⟨g, i, none⟩) hgs, hb.frozen (p := ⟨g, i, none⟩) hgs]; exact hw i hi
  · rw [hb.cell (p := ⟨g, i, none⟩) hgs]; exact hc i x hi
theorem Own1.mono {w : World} {base b2 : Nat} {v : Value} {xs : List Value} (h : Own1 w base v xs) (hb : b2 ≤ base) : Own1 w b2 v xs := by
  obtain ⟨g, cap, h1, hg, h2⟩ := h
  exact ⟨g, cap, h1, Nat.le_trans hb hg, h2⟩
theorem Own1.drew {w : World} {base : Nat} {v : Value} {xs : List Value} (h : Own1 w base v xs) : Own1 w.drew base v xs := h
theorem cells1_size (b : Nat) : ∀ (vs : List Value) (o : Nat) (w : World), (w.setCells b o vs).heap.size = w.heap.size
  | [], _, _ => rfl
  | v :: r, o, w => by rw [World.setCells, cells1_size b r]; simp [World.setCell]
theorem add0 (b off i : Nat) : (⟨b, off, none⟩ : Addr).add i = ⟨b, off + i, none⟩ := by unfold Addr.add; split <;> simp_all
/-- a row that the model says is the call's own -/
theorem Own1.of_owns {w : World} {base : Nat} {e : TypeId} {v : Value} {n : Nat} {xs : List Value} (h : w.ownsRow base e 1 v n xs) (hn : 0 < n) : Own1 w base v xs := by
  obtain ⟨hl, ⟨_, h0⟩ | ⟨g, cap, cur, rfl, hg, hh, hnc, hcm, hcs, htk⟩⟩ := h
  · omega
  · have hgs : g < w.heap.size := by
      rcases Nat.lt_or_ge g w.heap.size with h1 | h1
      · exact h1
      · rw [Array.getElem?_eq_none h1] at hh; cases hh
    refine ⟨g, cap, by rw [hl, Nat.mul_one], hg, hgs, by omega, hcm, fun i hi => ⟨?_, ?_⟩, fun i x hx => ?_⟩
    · rw [cell_of_row w g i cur e (0, 0) hh, Array.getElem?_eq_getElem (by omega)]; rfl
    · exact frozen_of_row w g i cur e hh
    · rw [cell_of_row w g i cur e (0, 0) hh]
      rw [← htk, Nat.mul_one] at hx
      have hi : i < n := by
        have := (List.getElem?_eq_some_iff.1 hx).1
        rw [List.length_take] at this
        omega
      rw [List.getElem?_take, if_pos hi] at hx
      simpa using hx
theorem Own1.push {P : Program} {w : World} {base : Nat} {v : Value} {xs : List Value} (h : Own1 w base v xs) (t ty e : TypeId) (i : TypeInfo) (z : Value) (bytes : Nat)
    (ht : P.underlying t = some (.slice e)) (hi : P.info? e = some i) (hz : i.zero = some z) (hsize : i.size = 1) (hby : i.bytes = bytes) (hzs : z.cells.size = 1)
    (g2 : Nat) (u : Value) (hu : w.cell? ⟨g2, 0, none⟩ = some u) (h1 : u.oneCell' = true) (hbytes : (xs.length + 1) * bytes ≤ 140737488355328) (hlen : xs.length + 1 ≤ 140737488355328) (hbase : base ≤ w.heap.size) :
    ∃ v' w', (Builtin.append_ #[t, t] ty #[v, .slice (some ⟨g2, 0, none⟩) 1 1]).run P w = .ok v' w' ∧ Own1 w' base v' (xs ++ [u]) ∧ Below base w w' := by
  obtain ⟨g, cap, rfl, hg, hgs, hn, hm, hw, hc⟩ := h
  have hnews : ∀ j x, [u][j]? = some x → w.cell? ((⟨g2, 0, none⟩ : Addr).add j) = some x := by
    intro j x hj
    have hl : j < [u].length := (List.getElem?_eq_some_iff.1 hj).1
    have h2 : j = 0 := by simp at hl; omega
    subst h2
    rw [add0]
    have : u = x := by simpa using hj
    rw [← this]; exact hu
  by_cases hroom : xs.length + 1 ≤ cap
  · have hr := run_append_room_cells (P := P) w t ty e i ht hi g 0 xs.length cap ⟨g2, 0, none⟩ 1 1 [u] (by rw [hsize]; rfl) hnews (by simpa using h1) hroom
      (fun j hj => by rw [hsize]; have : j = 0 := by simp at hj; omega
                      subst this; simpa using (hw xs.length (by omega)).1)
      (fun j hj => by rw [hsize]; have : j = 0 := by simp at hj; omega
                      subst this; simpa using (hw xs.length (by omega)).2)
    rw [hsize] at hr
    simp only [Nat.mul_one, Nat.zero_add] at hr
    refine ⟨_, _, hr, ⟨g, cap, by rw [List.length_append]; rfl, hg, by rw [cells1_size]; exact hgs, by simpa using hroom, hm, fun j hj => ⟨?_, ?_⟩, fun j x hj => ?_⟩, (Below.refl _ _).setCell hg _⟩
    · by_cases hjx : j = xs.length
      · subst hjx
        show ((w.setCell ⟨g, xs.length, none⟩ u).cell? ⟨g, xs.length, none⟩).isSome = true
        have := World.cell?_setCells_in g [u] xs.length w (fun k hk => by have : k = 0 := by simp at hk; omega
                                                                          subst this; simpa using (hw xs.length (by omega)).1) 0 (by simp)
        simp only [Nat.add_zero, World.setCells] at this
        rw [this]; rfl
      · have := World.cell?_setCells_out g [u] xs.length w ⟨g, j, none⟩ (fun _ _ => by simp; omega)
        rw [this]
        exact (hw j hj).1
    · rw [World.frozen?_setCells]; exact (hw j hj).2
    · by_cases hjx : j < xs.length
      · rw [World.cell?_setCells_out g [u] xs.length w ⟨g, j, none⟩ (fun _ _ => Or.inl hjx)]
        rw [List.getElem?_append_left hjx] at hj
        exact hc j x hj
      · have hjl : j = xs.length := by
          have := (List.getElem?_eq_some_iff.1 hj).1
          simp at this
          omega
        subst hjl
        have e1 := World.cell?_setCells_in g [u] xs.length w (fun k hk => by have : k = 0 := by simp at hk; omega
                                                                             subst this; simpa using (hw xs.length (by omega)).1) 0 (by simp)
        simp only [Nat.add_zero] at e1
        rw [e1, ← hj]
        simp
  · have holds : ∀ j x, xs[j]? = some x → w.cell? ((⟨g, 0, none⟩ : Addr).add j) = some x := by
      intro j x hj
      rw [add0, Nat.zero_add]
      exact hc j x hj
    obtain ⟨v', w', hr, hown, hgr⟩ := run_append_arg_grows (P := P) w t ty e i z 1 bytes ht hi hz hsize hby hzs (by omega) ⟨g, 0, none⟩ xs.length cap xs (by simp) holds ⟨g2, 0, none⟩ 1 1 [u] rfl hnews (by omega) (by unfold maxLen; omega) hbytes
    exact ⟨v', w', hr, (Own1.of_owns hown (by omega)).mono hbase, (Below.refl base w).grown hgr hbase (fun g hg => by cases hg)⟩
/-- the operation append, where its run is known -/
theorem wpList_push_run {P : Program} (w : World) {ops : Array Oper} {rest : List Oper} {o : Oper} {a : Act} {Q : Exit → Act → World → Prop} (hgd : o.guard = none) (s x : Operand) (t t' : TypeId)
    (ho : o.op = .call { callee := .builtin .append, args := #[s, x], argTypes := #[t, t'] }) (v u : Value) (hs : a.eval s = v) (hx : a.eval x = u) {v' : Value} {w' : World}
    (hr : (Builtin.append_ #[t, t'] o.type #[v, u]).run P w = .ok v' w') (h : wpList P ops Q rest (a.put o.dst v') w') : wpList P ops Q (o :: rest) a w := by
  refine wpList_plain hgd fun K hK => ?_
  unfold Oper.wp execOp
  simp only [ho, resolve, invoke, builtin, Sem.run_bind, Sem.run_pure, Result.andThen_ok, List.map_toArray, List.map_cons, List.map_nil, hs, hx, hr]
  exact hK _ _ h
end Go.Proofs.YtgdijbcoacgadaaDoor

/- ---- ShaRef2 ---- -/
namespace Go.Proofs.YtgdijbcoacgadaaDoor
open Go.RowKit
set_option linter.unusedVariables false
set_option linter.unusedSimpArgs false

def u8s (l : List UInt8) : List Value := l.map fun (b : UInt8) => Value.int .u8 (b.toNat : Int)
theorem u8s_len (l : List UInt8) : (u8s l).length = l.length := by simp [u8s]
theorem u8s_snoc (l : List UInt8) (b : UInt8) : u8s (l ++ [b]) = u8s l ++ [.int .u8 (b.toNat : Int)] := by simp [u8s]
theorem u8s_at (l : List UInt8) (i : Nat) (h : i < l.length) : (u8s l)[i]? = some (.int .u8 ((l.getD i 0).toNat : Int)) := by
  simp [u8s, h, List.getD]
theorem Own1.text {P : Program} {w : World} {base : Nat} {v : Value} {bs : List UInt8} (h : Own1 w base v (u8s bs)) (src e : TypeId) (hs : P.underlying src = some (.slice e)) (he : P.underlying e = some (.int .u8))
    (dst : TypeId) (hd : P.underlying dst = some .string) : (convert src dst v).run P w = .ok (S bs) w := by
  obtain ⟨g, cap, rfl, hg, hgs, hn, hm, hw, hc⟩ := h
  rw [u8s_len]
  have hr := run_convert_bytes_arg (P := P) w src e hs he g 0 bs.length cap (bs.map fun b => (b.toNat : Int)) (by simp) (fun i hi => by
    rw [Nat.zero_add, hc i _ (u8s_at bs i hi)]; simp [List.getD, hi]) dst hd
  rw [hr, bytes_of_]
set_option maxRecDepth 20000 in
/-- one byte more -/
theorem Own1.byte {w : World} {base : Nat} {v : Value} {bs : List UInt8} (h : Own1 w base v (u8s bs)) (b : UInt8) (x : Int) (hx : x = (b.toNat : Int)) (hlen : bs.length + 1 ≤ 140737488355328) (hbase : base ≤ w.heap.size) :
    ∃ v' w', (Builtin.append_ #[96, 96] 96 #[v, .slice (some ⟨w.heap.size, 0, none⟩) 1 1]).run Tryd.prog (w.alloc (.cells #[.int .u8 x] 5)) = .ok v' w' ∧ Own1 w' base v' (u8s (bs ++ [b])) ∧ Below base w w' := by
  subst hx
  obtain ⟨i0, hi, hz0, hz1, hz2⟩ := info_parts u8_info
  have hb1 : Below w.heap.size w (w.alloc (.cells #[.int .u8 (b.toNat : Int)] 5)) := (Below.refl _ _).alloc (Nat.le_refl _) _
  obtain ⟨v', w', h1, h2, h3⟩ := (h.below hb1).push (P := Tryd.prog) 96 96 5 i0 _ 1 Tryd.underlying96 hi hz0 hz1 hz2 rfl w.heap.size (.int .u8 (b.toNat : Int)) ((Holds.new w _ _).cell 0) rfl (by rw [u8s_len]; omega) (by rw [u8s_len]; omega) (Nat.le_trans hbase hb1.size)
  refine ⟨v', w', h1, ?_, (hb1.mono hbase).trans h3⟩
  rw [u8s_snoc]; exact h2
theorem Own1.empty (w : World) (T : TypeId) : Own1 (w.alloc (.cells #[] T)) w.heap.size (.slice (some ⟨w.heap.size, 0, none⟩) 0 0) (u8s []) :=
  ⟨w.heap.size, 0, rfl, Nat.le_refl _, by simp, Nat.le_refl _, by unfold maxLen; omega, fun i hi => by omega, fun i x hx => by simp [u8s] at hx⟩
set_option maxHeartbeats 1000000 in
set_option maxRecDepth 100000 in
theorem bytes_any (h : List UInt8) (w : World) (hh : h.length = 32) :
    Calls Tryd.prog 49 #[.agg (bRow h)] w fun e w' => e = .returned (S h) ∧ Below w.heap.size w w' := by
  have HH := Lib.hid hh
  clear hh
  go_enter Tryd.func49, Tryd.ntmps49
  go_wp2_with fail
  have hd0 : ∀ k : Nat, k < 32 → (bRow h)[k]? = some (.int .u8 ((h.getD k 0).toNat : Int)) := by
    intro k hk
    rw [bRow_yRow h HH.out, yRow_at h k (by rw [HH.out]; exact hk)]
    congr 2
    simp [List.getD, show k < h.length by rw [HH.out]; exact hk]
  have HD0 := Lib.hid hd0
  clear hd0
  have hcv : ∀ (W : World) (v : Value), Own1 W (w.heap.size + 1) v (u8s h) → (convert 96 9 v).run Tryd.prog W = .ok (S h) W :=
    fun W v ho => ho.text 96 5 Tryd.underlying96 Tryd.underlying5 9 Tryd.underlying9
  have HCV := Lib.hid hcv
  clear hcv
  go_loopw [3, 4] (fun v i wr => ∃ k : Nat, k ≤ 32 ∧ i = .int .i64 k ∧ Own1 wr (w.heap.size + 1) v (u8s (h.take k)) ∧ Holds wr w.heap.size (bRow h) ∧ Below w.heap.size w wr) (fun _ i _ => 32 - (intOf i).toNat)
  case atStart =>
    refine ⟨0, by omega, rfl, ?_, ?_, ?_⟩
    · have e : (w.alloc (.cells (bRow h) 28)).heap.size = w.heap.size + 1 := by simp
      have := Own1.empty (w.alloc (.cells (bRow h) 28)) 5
      rw [e] at this
      exact this
    · exact (Holds.new _ _ _).alloc _
    · exact ((Below.refl _ _).alloc (Nat.le_refl _) _).alloc (by simp) _
  case round =>
    obtain ⟨k, hk, rfl, hown, hH, hb⟩ := hrel
    by_cases hlt : k < 32
    · have hcell := (hH.cell k).trans (HD0.out k hlt)
      have hp0 : (0 : Int) ≤ (k : Int) := by omega
      have hp1 : (k : Int) < 32 := by omega
      have hkl : (h.take k).length = k := by rw [List.length_take, HH.out]; omega
      obtain ⟨v', w', hrun, hown', hb'⟩ := hown.byte (h.getD k 0) _ rfl (by rw [hkl]; omega) hH.lt
      have hnext : h.take k ++ [h.getD k 0] = h.take (k + 1) := by
        have hl : k < h.length := by rw [HH.out]; exact hlt
        rw [List.take_add_one, List.getElem?_eq_getElem hl]
        simp [List.getD, hl]
      rw [hnext] at hown'
      have hH2 : Holds w' w.heap.size (bRow h) := hH.below hb' (by omega)
      have Hrun := Lib.hid hrun
      have Hown := Lib.hid hown'
      have HH2 := Lib.hid hH2
      clear hrun hown' hH2 hown hH hkl hnext
      go_wp2_with (at_builtin; refine wpList_push_run _ rfl (.tmp 10) (.tmp 14) _ _ rfl _ _ rfl rfl Hrun.out ?_)
      exact ⟨⟨k + 1, by omega, by go_num, Hown.out, HH2.out, hb.trans (hb'.mono (by omega))⟩, by simp [intOf]; omega⟩
    · have e : h.take k = h := List.take_of_length_le (by rw [HH.out]; omega)
      rw [e] at hown
      have hcv := HCV.out wr _ hown
      clear hown hH
      go_wp2_with fail
      go_ret
      exact ⟨rfl, hb⟩
end Go.Proofs.YtgdijbcoacgadaaDoor

/- ---- ShaRef3 ---- -/
namespace Go.Proofs.YtgdijbcoacgadaaDoor
open Go.RowKit
set_option linter.unusedVariables false
set_option linter.unusedSimpArgs false

theorem below_text (w : World) (e : TypeId) (s : ByteArray) : Below w.heap.size w (Lib.bytesWorld w e s) :=
  ⟨rfl, rfl, rfl, by rw [Lib.bytesWorld_size]; omega, fun k hk => Lib.bytesWorld_at_old w e s k hk⟩
theorem Own1.of_string (w : World) (e : TypeId) (s : ByteArray) (hs : s.size ≤ maxLen) :
    Own1 (Lib.bytesWorld w e s) w.heap.size (.slice (some ⟨w.heap.size, 0, none⟩) s.size (grownCap w s.size 0 e)) (u8s s.data.toList) := by
  have hge := grownCap_ge w s.size 0 e
  have hl : s.data.toList.length = s.size := rfl
  have hcs : (Lib.bytesCells w e s).size = grownCap w s.size 0 e := by
    unfold Lib.bytesCells
    have : s.data.size = s.size := rfl
    simp [this]; omega
  refine ⟨w.heap.size, _, by rw [u8s_len, hl], Nat.le_refl _, by rw [Lib.bytesWorld_size]; omega, by rw [u8s_len, hl]; exact hge, grownCap_le_maxLen w s.size 0 e hs, fun i hi => ⟨?_, ?_⟩, fun i x hx => ?_⟩
  · have h1 := Lib.bytesWorld_at_new w e s
    have h2 : i < (Lib.bytesCells w e s).size := by omega
    simp [World.cell?, h1, h2]
  · have h1 := Lib.bytesWorld_at_new w e s
    simp [World.frozen?, h1]
    intro h; omega
  · have hi : i < s.data.toList.length := by have := (List.getElem?_eq_some_iff.1 hx).1; rw [u8s_len] at this; exact this
    rw [Lib.bytesWorld_cell w e s i hi, ← hx, u8s_at _ i hi]
/-- what stands in a slice's length -/
def vlen : Value → Nat
  | .slice _ n _ => n
  | _ => 0
/-- how many zeros a padding takes -/
def zn (n : Nat) : Nat := (119 - n % 64) % 64
theorem zn_test (n k : Nat) (hk : k ≤ zn n) : (n + 1 + k) % 64 = 56 ↔ k = zn n := by unfold zn at *; omega
theorem len8_next (n r : Nat) (h : r < 8) : (Sha.len8 n).take (8 - (r + 1)) ++ [UInt8.ofNat (n * 8 % 18446744073709551616 / 2 ^ (8 * r) % 256)] = (Sha.len8 n).take (8 - r) := by
  have : r = 0 ∨ r = 1 ∨ r = 2 ∨ r = 3 ∨ r = 4 ∨ r = 5 ∨ r = 6 ∨ r = 7 := by omega
  rcases this with rfl | rfl | rfl | rfl | rfl | rfl | rfl | rfl <;> rfl
set_option maxHeartbeats 1000000 in
set_option maxRecDepth 100000 in
theorem refPadded_any (s : ByteArray) (w : World) (hs : s.size ≤ 140737488355000) :
    Calls Tryd.prog 62 #[.string s] w fun e w' => ∃ v, e = .returned v ∧ Own1 w' w.heap.size v (u8s (Sha.pad s.data.toList)) ∧ Below w.heap.size w w' := by
  have hl : s.data.toList.length = s.size := rfl
  have hcv := Lib.run_convert_string_bytes (P := Tryd.prog) w 9 96 5 s Tryd.underlying9 Tryd.underlying96 Tryd.underlying5
  have ho := Own1.of_string w 5 s (by unfold maxLen; omega)
  have hb0 := below_text w 5 s
  generalize Lib.bytesWorld w 5 s = w0 at *
  generalize grownCap w s.size 0 5 = cap at *
  obtain ⟨v1, w1, hrun, ho1, hb1⟩ := ho.byte 128 128 rfl (by rw [hl]; omega) hb0.size
  have hb1 := hb0.trans hb1
  have Hrun := Lib.hid hrun
  have Ho1 := Lib.hid ho1
  have HL := Lib.hid hl
  clear ho hrun ho1 hl hb0
  go_enter Tryd.func62, Tryd.ntmps62
  go_wp2_with (at_builtin; refine wpList_push_run _ rfl (.tmp 8) (.tmp 9) _ _ rfl _ _ rfl rfl Hrun.out ?_)
  obtain ⟨l, hll⟩ : ∃ l, l = s.data.toList := ⟨_, rfl⟩
  have HL2 := HL.out
  have ho1 := Ho1.out
  rw [← hll] at HL2 ho1
  have HLL := Lib.hid hll
  have HL3 := Lib.hid HL2
  clear Hrun hcv HL HL2 hll Ho1
  go_loopw [3] (fun v wr => ∃ k : Nat, k ≤ zn s.size ∧ Own1 wr w.heap.size v (u8s (l ++ 128 :: zs k)) ∧ Below w.heap.size w wr) (fun v _ => s.size + 70 - vlen v)
  case atStart => exact ⟨0, by omega, ho1, hb1⟩
  case round =>
    clear ho1 hb1
    obtain ⟨k, hk, hown, hb⟩ := hrel
    have hlen : (l ++ 128 :: zs k).length = s.size + 1 + k := by simp [zs_len, HL3.out]; omega
    obtain ⟨g, c, hg, _⟩ := id hown
    rw [u8s_len, hlen] at hg
    subst hg
    have hz := zn_test s.size k hk
    have hzn : zn s.size ≤ 63 := by unfold zn; omega
    by_cases hlt : k < zn s.size
    · have ht2 : (((s.size : Int) + 1 + (k : Int)) % 64 != 56) = true := by simp; omega
      obtain ⟨v', w', hrun, hown', hb'⟩ := hown.byte 0 0 rfl (by rw [hlen]; omega) hb.size
      rw [List.append_assoc, List.cons_append, ← zs_snoc] at hown'
      have Hrun := Lib.hid hrun
      have Hown := Lib.hid hown'
      clear hrun hown' hown hz
      go_wp2_with (at_builtin; refine wpList_push_run _ rfl (.tmp 15) (.tmp 16) _ _ rfl _ _ rfl rfl Hrun.out ?_)
      have hlen2 : (l ++ 128 :: zs (k + 1)).length = s.size + 1 + (k + 1) := by simp [zs_len, HL3.out]; omega
      obtain ⟨g2, c2, hg2, _⟩ := id Hown.out
      rw [u8s_len, hlen2] at hg2
      refine ⟨⟨k + 1, by omega, Hown.out, hb.trans hb'⟩, ?_⟩
      show s.size + 70 - vlen v' < s.size + 70 - (s.size + 1 + k)
      rw [hg2]
      show s.size + 70 - (s.size + 1 + (k + 1)) < s.size + 70 - (s.size + 1 + k)
      omega
    · have ht2 : (((s.size : Int) + 1 + (k : Int)) % 64 != 56) = false := by simp; omega
      have EK := Lib.hid (show k = zn s.size by omega)
      have Hown := Lib.hid hown
      have hw1 : IntKind.u64.wrap (s.size : Int) = (s.size : Int) := by rw [IntKind.wrap_u64]; omega
      have hw2 : IntKind.u64.wrap ((s.size : Int) * 8) = (s.size : Int) * 8 := by rw [IntKind.wrap_u64]; omega
      clear hown hz
      go_wp2_with fail
      have Hown2 := Lib.hid (show Own1 wr w.heap.size (.slice (some ⟨g, 0, none⟩) (s.size + 1 + k) c) (u8s ((l ++ 128 :: zs (zn s.size)) ++ (Sha.len8 s.size).take (8 - 8))) by rw [← EK.out, Nat.sub_self, List.take_zero, List.append_nil]; exact Hown.out)
      clear Hown hw1 hw2 ht2
      go_loopw [3, 5] (fun v i wr => ∃ q : Nat, q ≤ 8 ∧ i = .int .i64 ((q : Int) - 1) ∧ Own1 wr w.heap.size v (u8s ((l ++ 128 :: zs (zn s.size)) ++ (Sha.len8 s.size).take (8 - q))) ∧ Below w.heap.size w wr) (fun _ i _ => (intOf i + 1).toNat)
      case atStart => exact ⟨8, by omega, rfl, Hown2.out, hb⟩
      case round =>
        clear Hown2 hb
        obtain ⟨q, hq, rfl, hown, hb⟩ := hrel
        match q, hq, hown with
        | 0, _, hown =>
          have Hown := Lib.hid hown
          clear hown
          go_wp2_with fail
          go_ret
          refine ⟨_, rfl, ?_, hb⟩
          have e : (l ++ 128 :: zs (zn s.size)) ++ (Sha.len8 s.size).take (8 - 0) = Sha.pad s.data.toList := by
            rw [List.take_of_length_le (by rw [Sha.len8_len]; omega), HLL.out]
            unfold Sha.pad zs zn
            have : s.data.toList.length = s.size := rfl
            rw [this]
            simp
          have := Hown.out
          rw [e] at this
          exact this
        | r + 1, hq, hown =>
          have ei : (((r + 1 : Nat) : Int) - 1) = (r : Int) := by omega
          rw [ei]
          have hr0 : (0 : Int) ≤ (r : Int) := by omega
          have hr1 : (0 : Int) ≤ 8 * (r : Int) := by omega
          have hlen : (l ++ 128 :: zs (zn s.size) ++ (Sha.len8 s.size).take (8 - (r + 1))).length ≤ s.size + 100 := by
            simp only [List.length_append, List.length_cons, zs_len, HL3.out, List.length_take, Sha.len8_len]; omega
          have hval : (s.size : Int) * 8 / 2 ^ (8 * r) % 256 = ((UInt8.ofNat (s.size * 8 % 18446744073709551616 / 2 ^ (8 * r) % 256)).toNat : Int) := by
            rw [UInt8.toNat_ofNat', Nat.mod_eq_of_lt (show s.size * 8 < 18446744073709551616 by omega)]
            simp
          obtain ⟨v', w', hrun, hown', hb'⟩ := hown.byte (UInt8.ofNat (s.size * 8 % 18446744073709551616 / 2 ^ (8 * r) % 256)) _ hval (by omega) hb.size
          rw [List.append_assoc, len8_next s.size r (by omega)] at hown'
          have Hrun := Lib.hid hrun
          have Hown := Lib.hid hown'
          clear hrun hown' hown hval hlen
          go_wp2_with (at_builtin; refine wpList_push_run _ rfl (.tmp 26) (.tmp 32) _ _ rfl _ _ rfl rfl Hrun.out ?_)
          exact ⟨⟨r, by omega, rfl, Hown.out, hb.trans hb'⟩, by simp [intOf]⟩
end Go.Proofs.YtgdijbcoacgadaaDoor

/- ---- ShaCp ---- -/
namespace Go.Proofs.YtgdijbcoacgadaaDoor
open Go.RowKit
set_option linter.unusedVariables false
set_option linter.unusedSimpArgs false

set_option maxRecDepth 20000 in
theorem u32_info : (Tryd.prog.info? 99).map (fun i => (i.zero, i.size, i.bytes)) = some (some (.int .u32 0), 1, 4) := by kernel_rfl
theorem made_words (n : Nat) (h : n = 64) : madeCells (Value.int .u32 0).cells (n * 1) = wRow [] := by
  subst h
  kernel_rfl
set_option maxRecDepth 20000 in
theorem make64 (W : World) : (Instr.makeSlice 100 (.int .i64 64) (.int .i64 64)).run Tryd.prog W = .ok (.slice (some ⟨W.heap.size, 0, none⟩) 64 64) (W.alloc (.cells (wRow []) 99)) := by
  obtain ⟨i0, hi, hz0, hz1, hz2⟩ := info_parts u32_info
  have hr := run_make (P := Tryd.prog) W 100 99 i0 _ Tryd.underlying100 hi hz0 .i64 .i64 64 64 (by omega) (by omega) (by rw [hz2]; omega) (by omega)
  rw [hz1, show (64 : Int).toNat = 64 from rfl, made_words 64 rfl] at hr
  exact hr
/-- bytes lie in memory -/
def Bts (w : World) (g : Nat) (P : List UInt8) : Prop := ∀ i, i < P.length → w.cell? ⟨g, i, none⟩ = some (.int .u8 ((P.getD i 0).toNat : Int))
theorem Bts.below {w w' : World} {B g : Nat} {P : List UInt8} (h : Bts w g P) (hb : Below B w w') (hg : g < B) : Bts w' g P := fun i hi => (hb.cell (p := ⟨g, i, none⟩) hg).trans (h i hi)
/-- a block's word out of all bytes -/
theorem word_blk (P : List UInt8) (k t : Nat) (h : 64 * (k + 1) ≤ P.length) (ht : t < 16) :
    ((P.getD (64 * k + 4 * t) 0).toNat : Int) * 16777216 + ((P.getD (64 * k + 4 * t + 1) 0).toNat : Int) * 65536 + ((P.getD (64 * k + 4 * t + 2) 0).toNat : Int) * 256 + ((P.getD (64 * k + 4 * t + 3) 0).toNat : Int) = ((Sha.word ((P.drop (64 * k)).take 64) t : Nat) : Int) := by
  have e : ∀ j, j < 64 → ((P.drop (64 * k)).take 64).getD j 0 = P.getD (64 * k + j) 0 := by
    intro j hj
    simp [List.getD, List.getElem?_take, hj]
  unfold Sha.word
  rw [e (4 * t) (by omega), e (4 * t + 1) (by omega), e (4 * t + 2) (by omega), e (4 * t + 3) (by omega)]
  simp only [Nat.add_assoc]
  omega
/-- a state's words lie in memory -/
def Eight (w : World) (g : Nat) (st : Sha.St) : Prop := ∀ i, i < 8 → w.cell? ⟨g, i, none⟩ = (st8 st)[i]?
theorem Eight.below {w w' : World} {B g : Nat} {st : Sha.St} (h : Eight w g st) (hb : Below B w w') (hg : g < B) : Eight w' g st := fun i hi => (hb.cell (p := ⟨g, i, none⟩) hg).trans (h i hi)
set_option maxRecDepth 20000 in
/-- a state's words copied into a new slice -/
theorem copy_run (w : World) (gh : Nat) (st : Sha.St) (h : Holds w gh (st8 st)) :
    ∃ gv c w', (Builtin.append_ #[100, 100] 100 #[.slice (some ⟨w.heap.size, 0, none⟩) 0 0, .slice (some ⟨gh, 0, none⟩) 8 8]).run Tryd.prog (w.alloc (.cells #[] 99)) = .ok (.slice (some ⟨gv, 0, none⟩) 8 c) w' ∧
      Eight w' gv st ∧ w.heap.size ≤ gv ∧ gv < w'.heap.size ∧ Below w.heap.size w w' := by
  obtain ⟨i0, hi, hz0, hz1, hz2⟩ := info_parts u32_info
  have hb1 : Below w.heap.size w (w.alloc (.cells #[] 99)) := (Below.refl _ _).alloc (Nat.le_refl _) _
  have h2 := h.alloc (.cells #[] 99)
  have hnews : ∀ j u, (st8 st).toList[j]? = some u → (w.alloc (.cells #[] 99)).cell? ((⟨gh, 0, none⟩ : Addr).add j) = some u := by
    intro j u hj
    rw [add0, Nat.zero_add, h2.cell j, ← hj]
    simp
  obtain ⟨v', w', hr, hown, hgr⟩ := run_append_arg_grows (P := Tryd.prog) (w.alloc (.cells #[] 99)) 100 100 99 i0 (.int .u32 0) 1 4 Tryd.underlying100 hi hz0 hz1 hz2 rfl (by omega) ⟨w.heap.size, 0, none⟩ 0 0 [] rfl (fun j u hj => by simp at hj) ⟨gh, 0, none⟩ 8 8 (st8 st).toList rfl hnews (by omega) (by unfold maxLen; omega) (by omega)
  obtain ⟨g, cap, rfl, hg, hgs, _, _, _, hc⟩ := Own1.of_owns hown (by omega)
  refine ⟨g, cap, w', ?_, fun i hi => ?_, Nat.le_trans hb1.size hg, hgs, hb1.trans ((Below.refl w.heap.size _).grown hgr hb1.size (fun g hg => by cases hg))⟩
  · rw [hr]; rfl
  · have hl : i < (st8 st).size := hi
    have := hc i (st8 st)[i] (by simp [hl])
    rw [this, Array.getElem?_eq_getElem hl]
/-- a state's first words with another's put to them -/
def part (a b : Sha.St) (j : Nat) : Sha.St := ⟨if 0 < j then Sha.add a.a b.a else a.a, if 1 < j then Sha.add a.b b.b else a.b, if 2 < j then Sha.add a.c b.c else a.c, if 3 < j then Sha.add a.d b.d else a.d,
  if 4 < j then Sha.add a.e b.e else a.e, if 5 < j then Sha.add a.f b.f else a.f, if 6 < j then Sha.add a.g b.g else a.g, if 7 < j then Sha.add a.h b.h else a.h⟩
theorem part_8 (a b : Sha.St) : part a b 8 = Sha.plus a b := rfl
theorem part_at (a b : Sha.St) (j : Nat) (h : j < 8) : (st8 (part a b j))[j]? = some (.int .u32 (Sha.at_ a j : Nat)) := by
  have : j = 0 ∨ j = 1 ∨ j = 2 ∨ j = 3 ∨ j = 4 ∨ j = 5 ∨ j = 6 ∨ j = 7 := by omega
  rcases this with rfl | rfl | rfl | rfl | rfl | rfl | rfl | rfl <;> rfl
theorem part_set (a b : Sha.St) (j : Nat) (h : j < 8) : (st8 (part a b j)).setIfInBounds j (.int .u32 (Sha.add (Sha.at_ a j) (Sha.at_ b j) : Nat)) = st8 (part a b (j + 1)) := by
  have : j = 0 ∨ j = 1 ∨ j = 2 ∨ j = 3 ∨ j = 4 ∨ j = 5 ∨ j = 6 ∨ j = 7 := by omega
  rcases this with rfl | rfl | rfl | rfl | rfl | rfl | rfl | rfl <;> rfl
theorem Eight.far {w : World} {g : Nat} {st : Sha.St} (h : Eight w g st) {p : Addr} (hp : g ≠ p.block) (u : Value) : Eight (w.setCell p u) g st := fun i hi =>
  (World.cell?_setCell_other w p ⟨g, i, none⟩ u (by intro e; exact hp (by rw [e]))).trans (h i hi)
end Go.Proofs.YtgdijbcoacgadaaDoor

/- ---- ShaRef4 ---- -/
namespace Go.Proofs.YtgdijbcoacgadaaDoor
open Go.RowKit
set_option linter.unusedVariables false
set_option linter.unusedSimpArgs false

set_option maxRecDepth 20000 in
/-- what the reference's Sum is to return (proved apart) -/
def RefSum : Prop := ∀ (s : ByteArray) (w : World), s.size ≤ 140737488355000 →
    Calls Tryd.prog 48 #[.string s] w fun e w' => e = .returned (.agg (bRow (Sha.sum s.data.toList))) ∧ Below w.heap.size w w'
set_option maxHeartbeats 1000000 in
set_option maxRecDepth 100000 in
theorem refChain_any (hRS : RefSum) (h : List UInt8) (s : ByteArray) (w : World) (hh : h.length = 32) (hs : s.size ≤ 140737488354900) :
    Calls Tryd.prog 35 #[.agg (bRow h), .string s] w fun e w' => e = .returned (.agg (bRow (Sha.sum (h ++ s.data.toList)))) ∧ Below w.heap.size w w' := by
  have HH := Lib.hid hh
  have hbig : ¬ (9223372036854775807 < h.length + s.size) := by omega
  have i24 : (Tryd.prog.info? 28).map (·.size) = some 32 := by kernel_rfl
  have I24 := Lib.hid i24
  clear hh i24
  go_enter Tryd.func35, Tryd.ntmps35
  have hz2 := bRow_size h (by rw [HH.out]; omega)
  have I24h := Lib.hid (I24.out.trans (congrArg some hz2.symm))
  have HRS := Lib.hid hRS
  clear hz2 hRS
  go_wp2_with (refine wpList_load_row rfl 28 (.tmp 2) rfl w.heap.size rfl 28 _ (0, 0) _ (heap_alloc2_old w _ _) Tryd.underlying28 rfl I24h.out ?_)
  refine calls_named ?_
  intro w1 hw1
  have hR : Holds w1 (w.heap.size + 1) (bRow []) := by rw [hw1]; exact Holds.new2 (by simp) rfl
  have hb1 : Below w.heap.size w w1 := by rw [hw1]; exact ((Below.refl _ _).alloc (Nat.le_refl _) _).alloc (by simp) _
  clear hw1
  refine (bytes_any h w1 HH.out).mono ?_
  rintro e w2 ⟨rfl, hb2⟩
  have HR := Lib.hid (hR.below hb2 hR.lt)
  have hb2 := hb1.trans (hb2.mono hb1.size)
  clear hR
  go_wp2_with fail
  have hsz : ((⟨h.toArray⟩ : ByteArray) ++ s).size = 32 + s.size := by rw [ByteArray.size_append, ← HH.out]; rfl
  have hdl : ((⟨h.toArray⟩ : ByteArray) ++ s).data.toList = h ++ s.data.toList := by rw [ByteArray.data_append]; simp
  refine (HRS.out _ w2 (by rw [hsz]; omega)).mono ?_
  rw [hdl]
  rintro e w3 ⟨rfl, hb3⟩
  have HR2 := Lib.hid (HR.out.below hb3 HR.out.lt)
  have hz := bRow_size (Sha.sum (h ++ s.data.toList)) (by rw [Sha.sum_len]; omega)
  have I24b := Lib.hid (I24.out.trans (congrArg some hz.symm))
  have Hold := Lib.hid ((bRow_size [] (by simp)).trans hz.symm)
  clear hz hsz hdl
  go_wp2_with (refine wpList_store_named rfl 28 (.tmp 4) (.tmp 9) rfl (w.heap.size + 1) (bRow (Sha.sum (h ++ s.data.toList))) rfl rfl _ HR2.out I24b.out Hold.out (bRow_one _) ?_; intro w5 hw5)
  obtain ⟨T5, hT5⟩ := (show Holds w5 (w.heap.size + 1) (bRow (Sha.sum (h ++ s.data.toList))) from by rw [hw5]; exact HR2.out.row _)
  exact bodyPost_ret (results_cell_row rfl _ _ (w.heap.size + 1) T5 _ (0, 0) _ rfl hT5 Tryd.underlying28 rfl I24b.out) rfl ⟨rfl, by rw [hw5]; exact below_setRow (hb2.trans (hb3.mono hb2.size)) (by omega) _⟩
end Go.Proofs.YtgdijbcoacgadaaDoor

/- ---- KeptR ---- -/
namespace Go.Proofs.YtgdijbcoacgadaaDoor
open Go.RowKit
set_option linter.unusedVariables false
set_option linter.unusedSimpArgs false

/-- below stands what stood; the result's row (32 cells) lies in block g; these rows lie -/
def KeptR (w : World) (g : Nat) (L : List (Nat × Array Value)) (w' : World) : Prop :=
  Below w.heap.size w w' ∧ (∃ cs : Array Value, cs.size = 32 ∧ Holds w' g cs) ∧ ∀ p ∈ L, Holds w' p.1 p.2
section
variable {w w' w'' : World} {g : Nat} {L : List (Nat × Array Value)}
theorem KeptR.step (h : KeptR w g L w') (hb : Below w'.heap.size w' w'') : KeptR w g L w'' := by
  obtain ⟨h1, ⟨cs, h2, h3⟩, h4⟩ := h
  exact ⟨h1.trans (hb.mono h1.size), ⟨cs, h2, h3.below hb h3.lt⟩, fun p hp => (h4 p hp).below hb (h4 p hp).lt⟩
theorem KeptR.drew (h : KeptR w g L w') : KeptR w g L w'.drew := h.step (Below.refl _ _).drew
theorem KeptR.alloc (h : KeptR w g L w') (o : Obj) : KeptR w g L (w'.alloc o) := h.step ((Below.refl _ _).alloc (Nat.le_refl _) _)
theorem KeptR.there (h : KeptR w g L w') {n : Nat} (hn : n = 32) : w'.there g 0 n := by
  obtain ⟨h1, ⟨cs, h2, h3⟩, h4⟩ := h
  exact h3.there (by omega)
theorem KeptR.range (h : KeptR w g L w') {b : Nat} {cs : Array Value} (hp : (b, cs) ∈ L) : w'.rangeAt b 0 cs.toList := fun j v hj => by
  have := (h.2.2 _ hp).cell j
  rw [Nat.zero_add, this]
  simpa using hj
theorem KeptR.set (h : KeptR w g L w') {V : Array Value} (hV : V.size = 32) (hg : w.heap.size ≤ g) (hL : ∀ p ∈ L, p.1 ≠ g) :
    KeptR w g L (w'.setCells g 0 V.toList) ∧ Holds (w'.setCells g 0 V.toList) g V := by
  obtain ⟨h1, ⟨cs, h2, h3⟩, h4⟩ := h
  have h5 := h3.cells (V := V) (h2.trans hV.symm)
  refine ⟨⟨below_cells hg _ _ _ h1, ⟨V, hV, h5⟩, fun p hp => ?_⟩, h5⟩
  have : ∀ (vs : List Value) (o : Nat) (w : World), Holds w p.1 p.2 → Holds (w.setCells g o vs) p.1 p.2 := by
    intro vs
    induction vs with
    | nil => intro o w h; exact h
    | cons v vs ih => intro o w h; exact ih _ _ (h.far (p := ⟨g, o, none⟩) (hL p hp) v)
  exact this _ _ _ (h4 p hp)
end
end Go.Proofs.YtgdijbcoacgadaaDoor

/- ---- ShaCr ---- -/
namespace Go.Proofs.YtgdijbcoacgadaaDoor
open Go.RowKit
set_option linter.unusedVariables false
set_option linter.unusedSimpArgs false
theorem five_keep {wr w' w'' : World} {g0 g1 t : Nat} {v7 v4 v5 v6 v : Value} (hb : Below w'.heap.size w' w'') (hg : g0 < wr.heap.size) (hg1 : g1 < wr.heap.size)
    (h : Below wr.heap.size wr w' ∧ w'.cell? ⟨g0, 7, none⟩ = some v7 ∧ w'.cell? ⟨g0, 4, none⟩ = some v4 ∧ w'.cell? ⟨g0, 5, none⟩ = some v5 ∧ w'.cell? ⟨g0, 6, none⟩ = some v6 ∧ w'.cell? ⟨g1, t, none⟩ = some v) :
    Below wr.heap.size wr w'' ∧ w''.cell? ⟨g0, 7, none⟩ = some v7 ∧ w''.cell? ⟨g0, 4, none⟩ = some v4 ∧ w''.cell? ⟨g0, 5, none⟩ = some v5 ∧ w''.cell? ⟨g0, 6, none⟩ = some v6 ∧ w''.cell? ⟨g1, t, none⟩ = some v := by
  obtain ⟨h0, h1, h2, h3, h4, h5⟩ := h
  have e0 : g0 < w'.heap.size := Nat.lt_of_lt_of_le hg h0.size
  have e1 : g1 < w'.heap.size := Nat.lt_of_lt_of_le hg1 h0.size
  exact ⟨h0.trans (hb.mono h0.size), (hb.cell (p := ⟨g0, 7, none⟩) e0).trans h1, (hb.cell (p := ⟨g0, 4, none⟩) e0).trans h2, (hb.cell (p := ⟨g0, 5, none⟩) e0).trans h3, (hb.cell (p := ⟨g0, 6, none⟩) e0).trans h4, (hb.cell (p := ⟨g1, t, none⟩) e1).trans h5⟩
end Go.Proofs.YtgdijbcoacgadaaDoor

/- ---- MSeal ---- -/
/- Contracts of package seal and of the reference of layer 3. -/
/- ---- SealKey ---- -/
namespace Go.Proofs.YtgdijbcoacgadaaDoor
open Go.RowKit
set_option linter.unusedVariables false
set_option linter.unusedSimpArgs false

set_option maxRecDepth 20000 in
theorem i24_any (R : List UInt8) (h : R.length ≤ 32) : (Tryd.prog.info? 28).map (·.size) = some (bRow R).size := by
  have i24 : (Tryd.prog.info? 28).map (·.size) = some 32 := by kernel_rfl
  rw [i24, bRow_size R h]
theorem bRow_same (R Q : List UInt8) (h : R.length ≤ 32) (hq : Q.length ≤ 32) : (bRow R).size = (bRow Q).size := by rw [bRow_size R h, bRow_size Q hq]
/-- what a hash and a number are told as -/
abbrev HN (R : List UInt8) (e : Int) : Value := .tuple #[.agg (bRow R), .int .i64 e]
set_option maxHeartbeats 1000000 in
set_option maxRecDepth 100000 in
theorem key_no (who : Int) (w : World) (h : who < 0 ∨ 64 < who) :
    Calls Tryd.prog 91 #[.int .i64 who] w fun e w' => e = .returned (HN Seal.hz 20) ∧ Below w.heap.size w w' := by
  rw [show HN Seal.hz 20 = HN [] 20 by unfold HN; rw [bRow_hz]]
  have I24 := Lib.hid (i24_any [] (by simp))
  rcases h with h | h
  all_goals
    go_enter Tryd.func91, Tryd.ntmps91
    go_wp2_with (refine wpList_store_named rfl 28 (.tmp 2) (.tmp 12) rfl w.heap.size (bRow []) rfl rfl (bRow []) (Holds.new2 rfl rfl) I24.out rfl (bRow_one _) ?_; intro w5 hw5; have Hw5 := Lib.hid hw5; clear hw5)
    have hR : Holds w5 w.heap.size (bRow []) := by rw [Hw5.out]; exact (Holds.new _ _ _).row _
    exact bodyPost_ret (results_row_tmp rfl _ _ w.heap.size (bRow []) _ rfl hR Tryd.underlying28 rfl I24.out _ rfl) rfl ⟨rfl, by rw [Hw5.out]; exact below_setRow ((Below.refl _ _).alloc (Nat.le_refl _) _) (Nat.le_refl _) _⟩
set_option maxHeartbeats 1000000 in
set_option maxRecDepth 100000 in
theorem key_yes (who : Int) (w : World) (hT : Tab w) (h0 : 0 ≤ who) (h1 : who ≤ 64) :
    Calls Tryd.prog 91 #[.int .i64 who] w fun e w' => e = .returned (HN (Seal.keyL who.toNat) 0) ∧ Below w.heap.size w w' := by
  have HT := Lib.hid hT
  have hpos := hT.pos
  obtain ⟨R, hR⟩ : ∃ R, R = Seal.keyL who.toNat := ⟨_, rfl⟩
  have hR32 : R.length ≤ 32 := by rw [hR, Seal.keyL_len]; omega
  have I24 := Lib.hid (i24_any R hR32)
  have Hold := Lib.hid (bRow_same [] R (by simp) hR32)
  have hnl : (Oct.num who.toNat).length ≤ 9 := Oct.num_length_le who.toNat
  rw [← hR]
  have HR := Lib.hid hR
  clear hT hR hR32
  go_enter Tryd.func91, Tryd.ntmps91
  go_wp2_with fail
  refine calls_named ?_
  intro w1 hw1
  have hH : Holds w1 w.heap.size (bRow []) := by rw [hw1]; exact Holds.new _ _ _
  have hb1 : Below w.heap.size w w1 := by rw [hw1]; exact (Below.refl _ _).alloc (Nat.le_refl _) _
  clear hw1
  refine (Number_pos _ _ h0 (by omega)).mono ?_
  rintro e w2 ⟨rfl, hb2⟩
  have hH2 := hH.below hb2 hH.lt
  have hb2 := hb1.trans (hb2.mono hb1.size)
  have HH2 := Lib.hid hH2
  clear hH hH2
  have hbig : ¬ (9223372036854775807 < 3 + (Oct.num who.toNat).length) := by omega
  go_wp2_with fail
  have hsz : ((⟨#[107, 101, 121]⟩ : ByteArray) ++ (⟨(Oct.num who.toNat).toArray⟩ : ByteArray)).size = 3 + (Oct.num who.toNat).length := by
    rw [ByteArray.size_append]; rfl
  have hdl : ((⟨#[107, 101, 121]⟩ : ByteArray) ++ (⟨(Oct.num who.toNat).toArray⟩ : ByteArray)).data.toList = [107, 101, 121] ++ Oct.num who.toNat := by rw [ByteArray.data_append]; simp
  refine (sum_any _ w2 (HT.out.below hb2 hpos) (by rw [hsz]; omega)).mono ?_
  rw [hdl, show Sha.sum ([107, 101, 121] ++ Oct.num who.toNat) = R from HR.out.symm]
  rintro e w3 ⟨rfl, hb3⟩
  have HH3 := Lib.hid (HH2.out.below hb3 HH2.out.lt)
  have hb3 := hb2.trans (hb3.mono hb2.size)
  clear hsz hdl
  go_wp2_with (refine wpList_store_named rfl 28 (.tmp 2) (.tmp 20) rfl w.heap.size (bRow R) rfl rfl _ HH3.out I24.out Hold.out (bRow_one _) ?_; intro w5 hw5; have Hw5 := Lib.hid hw5; clear hw5)
  have hR5 : Holds w5 w.heap.size (bRow R) := by rw [Hw5.out]; exact HH3.out.row _
  exact bodyPost_ret (results_row_tmp rfl _ _ w.heap.size (bRow R) _ rfl hR5 Tryd.underlying28 rfl I24.out _ rfl) rfl ⟨rfl, by rw [Hw5.out]; exact below_setRow hb3 (Nat.le_refl _) _⟩
set_option maxHeartbeats 1000000 in
set_option maxRecDepth 100000 in
theorem refKey_no (who : Int) (w : World) (h : who < 0 ∨ 64 < who) :
    Calls Tryd.prog 67 #[.int .i64 who] w fun e w' => e = .returned (HN Seal.hz 20) ∧ Below w.heap.size w w' := by
  rw [show HN Seal.hz 20 = HN [] 20 by unfold HN; rw [bRow_hz]]
  have I24 := Lib.hid (i24_any [] (by simp))
  rcases h with h | h
  all_goals
    go_enter Tryd.func67, Tryd.ntmps67
    go_wp2_with (refine wpList_store_named rfl 28 (.tmp 2) (.tmp 10) rfl w.heap.size (bRow []) rfl rfl (bRow []) (Holds.new2 rfl rfl) I24.out rfl (bRow_one _) ?_; intro w5 hw5; have Hw5 := Lib.hid hw5; clear hw5)
    have hR : Holds w5 w.heap.size (bRow []) := by rw [Hw5.out]; exact (Holds.new _ _ _).row _
    exact bodyPost_ret (results_row_tmp rfl _ _ w.heap.size (bRow []) _ rfl hR Tryd.underlying28 rfl I24.out _ rfl) rfl ⟨rfl, by rw [Hw5.out]; exact below_setRow ((Below.refl _ _).alloc (Nat.le_refl _) _) (Nat.le_refl _) _⟩
set_option maxHeartbeats 1000000 in
set_option maxRecDepth 100000 in
theorem refKey_zero (hRS : RefSum) (w : World) :
    Calls Tryd.prog 67 #[.int .i64 0] w fun e w' => e = .returned (HN (Seal.keyL 0) 0) ∧ Below w.heap.size w w' := by
  obtain ⟨R, hR⟩ : ∃ R, R = Seal.keyL 0 := ⟨_, rfl⟩
  have hR32 : R.length ≤ 32 := by rw [hR, Seal.keyL_len]; omega
  have I24 := Lib.hid (i24_any R hR32)
  have Hold := Lib.hid (bRow_same [] R (by simp) hR32)
  rw [← hR]
  rw [Seal.keyL_zero] at hR
  have HR := Lib.hid hR
  have HRS := Lib.hid hRS
  clear hR hR32 hRS
  go_enter Tryd.func67, Tryd.ntmps67
  go_wp2_with fail
  refine calls_named ?_
  intro w1 hw1
  have hH : Holds w1 w.heap.size (bRow []) := by rw [hw1]; exact Holds.new _ _ _
  have hb1 : Below w.heap.size w w1 := by rw [hw1]; exact (Below.refl _ _).alloc (Nat.le_refl _) _
  clear hw1
  have hc := HRS.out ⟨#[107, 101, 121, 0]⟩ w1 (by decide)
  change Calls _ _ _ _ (fun e w' => e = .returned (.agg (bRow (Sha.sum [107, 101, 121, 0]))) ∧ _) at hc
  rw [← HR.out] at hc
  refine hc.mono ?_
  rintro e w3 ⟨rfl, hb3⟩
  have HH3 := Lib.hid (hH.below hb3 hH.lt)
  have hb3 := hb1.trans (hb3.mono hb1.size)
  clear hc hH
  go_wp2_with (refine wpList_store_named rfl 28 (.tmp 2) (.tmp 13) rfl w.heap.size (bRow R) rfl rfl _ HH3.out I24.out Hold.out (bRow_one _) ?_; intro w5 hw5; have Hw5 := Lib.hid hw5; clear hw5)
  have hR5 : Holds w5 w.heap.size (bRow R) := by rw [Hw5.out]; exact HH3.out.row _
  exact bodyPost_ret (results_row_tmp rfl _ _ w.heap.size (bRow R) _ rfl hR5 Tryd.underlying28 rfl I24.out _ rfl) rfl ⟨rfl, by rw [Hw5.out]; exact below_setRow hb3 (Nat.le_refl _) _⟩
set_option maxRecDepth 20000 in
theorem one_byte_ (T : TypeId) (W : World) (x : Int) : (convert 96 9 (.slice (some ⟨W.heap.size, 0, none⟩) 1 1)).run Tryd.prog (W.alloc (.cells #[.int .u8 x] T)) = .ok (S [UInt8.ofNat x.toNat]) (W.alloc (.cells #[.int .u8 x] T)) := by
  have := run_convert_bytes_arg (P := Tryd.prog) (W.alloc (.cells #[.int .u8 x] T)) 96 5 Tryd.underlying96 Tryd.underlying5 W.heap.size 0 1 1 [x] rfl (fun i hi => by
    obtain rfl : i = 0 := by omega
    simp [go_sem]) 9 Tryd.underlying9
  exact this
set_option maxHeartbeats 1000000 in
set_option maxRecDepth 100000 in
theorem refKey_pos (hRS : RefSum) (who : Int) (w : World) (h0 : 0 < who) (h1 : who ≤ 64) :
    Calls Tryd.prog 67 #[.int .i64 who] w fun e w' => e = .returned (HN (Seal.keyL who.toNat) 0) ∧ Below w.heap.size w w' := by
  obtain ⟨R, hR⟩ : ∃ R, R = Seal.keyL who.toNat := ⟨_, rfl⟩
  have hR32 : R.length ≤ 32 := by rw [hR, Seal.keyL_len]; omega
  have I24 := Lib.hid (i24_any R hR32)
  have Hold := Lib.hid (bRow_same [] R (by simp) hR32)
  rw [← hR]
  rw [Seal.keyL_pos who.toNat (by omega) (by omega)] at hR
  have HR := Lib.hid hR
  have HRS := Lib.hid hRS
  have hne : (who == 0) = false := by simp only [beq_eq_false_iff_ne]; omega
  clear hR hR32 hRS
  go_enter Tryd.func67, Tryd.ntmps67
  have hcv : ∀ (X : Obj) (T : TypeId), (convert 96 9 (.slice (some ⟨w.heap.size + 1, 0, none⟩) 1 1)).run Tryd.prog ((w.alloc X).alloc (.cells #[.int .u8 who] T)) = .ok (S [UInt8.ofNat who.toNat]) ((w.alloc X).alloc (.cells #[.int .u8 who] T)) := by
    intro X T
    have := one_byte_ T (w.alloc X) who
    rwa [show (w.alloc X).heap.size = w.heap.size + 1 from by simp] at this
  go_wp2_with fail
  clear hcv
  refine calls_named ?_
  intro w1 hw1
  have hH : Holds w1 w.heap.size (bRow []) := by rw [hw1]; exact (Holds.new2 rfl rfl).alloc _
  have hb1 : Below w.heap.size w w1 := by rw [hw1]; exact ((Below.refl _ _).alloc (Nat.le_refl _) _).alloc (by simp) _
  clear hw1
  have hc := HRS.out ⟨#[107, 101, 121, 1, UInt8.ofNat who.toNat]⟩ w1 (by show 5 ≤ _; decide)
  change Calls _ _ _ _ (fun e w' => e = .returned (.agg (bRow (Sha.sum [107, 101, 121, 1, UInt8.ofNat who.toNat]))) ∧ _) at hc
  rw [← HR.out] at hc
  refine hc.mono ?_
  rintro e w3 ⟨rfl, hb3⟩
  have HH3 := Lib.hid (hH.below hb3 hH.lt)
  have hb3 := hb1.trans (hb3.mono hb1.size)
  clear hc hH
  go_wp2_with (refine wpList_store_named rfl 28 (.tmp 2) (.tmp 19) rfl w.heap.size (bRow R) rfl rfl _ HH3.out I24.out Hold.out (bRow_one _) ?_; intro w5 hw5; have Hw5 := Lib.hid hw5; clear hw5)
  have hR5 : Holds w5 w.heap.size (bRow R) := by rw [Hw5.out]; exact HH3.out.row _
  exact bodyPost_ret (results_row_tmp rfl _ _ w.heap.size (bRow R) _ rfl hR5 Tryd.underlying28 rfl I24.out _ rfl) rfl ⟨rfl, by rw [Hw5.out]; exact below_setRow hb3 (Nat.le_refl _) _⟩
set_option maxRecDepth 20000 in
theorem refKey_any (hRS : RefSum) (who : Int) (w : World) :
    Calls Tryd.prog 67 #[.int .i64 who] w fun e w' => e = .returned (HN (Seal.key who).1 (Seal.key who).2) ∧ Below w.heap.size w w' := by
  unfold Seal.key
  by_cases h : who < 0 ∨ 64 < who
  · rw [if_pos h]; exact refKey_no who w h
  · rw [if_neg h]
    by_cases h0 : who = 0
    · subst h0; rw [show (0 : Int).toNat = 0 from rfl]; exact refKey_zero hRS w
    · exact refKey_pos hRS who w (by omega) (by omega)
end Go.Proofs.YtgdijbcoacgadaaDoor

/- ---- SealTag ---- -/
namespace Go.Proofs.YtgdijbcoacgadaaDoor
open Go.RowKit
set_option linter.unusedVariables false
set_option linter.unusedSimpArgs false

/-- one row copied onto another one's head; the world behind it by a name -/
theorem wpList_copy_rows {P : Program} {w : World} {ops : Array Oper} {rest : List Oper} {o : Oper} {a : Act} {Q : Exit → Act → World → Prop} (hgd : o.guard = none) (d s : Operand) (dT sT elem : TypeId)
    (ho : o.op = .call { callee := .builtin .copy, args := #[d, s], argTypes := #[dT, sT] }) (hu : P.underlying dT = some (.slice elem)) (hz : (P.info? elem).map (·.size) = some 1)
    (g gs dLen dCap sLen sCap : Nat) (cur : Array Value) (cs : List Value) (hd : a.eval d = .slice (some ⟨g, 0, none⟩) dLen dCap) (hs : a.eval s = .slice (some ⟨gs, 0, none⟩) sLen sCap)
    (hg : Holds w g cur) (hgs : Holds w gs cs.toArray) (hn : cs.length = Nat.min sLen dLen) (hfit : cs.length ≤ cur.size) (h1 : ∀ v ∈ cs, v.oneCell' = true)
    (h : ∀ w', w' = w.setRow g (cs ++ cur.toList.drop cs.length).toArray → wpList P ops Q rest (a.put o.dst (goInt cs.length)) w') : wpList P ops Q (o :: rest) a w := by
  obtain ⟨T, hT⟩ := hg
  have hr := run_copy_row (P := P) w dT sT o.type elem g 0 dLen dCap ⟨gs, 0, none⟩ sLen sCap cur T cs hu hz hT hn (fun j v hj => by
    have e : (⟨gs, 0, none⟩ : Addr).add j = ⟨gs, j, none⟩ := by unfold Addr.add; split <;> simp_all
    rw [e, hgs.cell j]; simpa using hj) (by simpa using hfit) h1
  refine wpList_plain hgd fun K hK => ?_
  unfold Oper.wp execOp
  simp only [ho, resolve, invoke, builtin, Sem.run_bind, Sem.run_pure, Result.andThen_ok, List.map_toArray, List.map_cons, List.map_nil, hd, hs, hr]
  refine hK _ _ (h _ ?_)
  simp
set_option maxRecDepth 20000 in
/-- bytes of a row as a text -/
theorem row_text (W : World) (g n : Nat) (h : List UInt8) (hh : h.length = n) (hg : Holds W g (yRow h)) :
    (Go.convert 96 9 (.slice (some ⟨g, 0, none⟩) n n)).run Tryd.prog W = .ok (S h) W := by
  have := run_convert_bytes_arg (P := Tryd.prog) W 96 5 Tryd.underlying96 Tryd.underlying5 g 0 n n (h.map fun b => (b.toNat : Int)) (by rw [List.length_map, hh]) (fun i hi => by
    rw [Nat.zero_add, hg.cell i]
    exact yRow_at h i (by omega)) 9 Tryd.underlying9
  rw [bytes_of_] at this
  exact this
theorem yRow_one (l : List UInt8) : ∀ v ∈ (yRow l).toList, v.oneCell' = true := by unfold yRow; simp [Value.oneCell']
theorem yRow_toList (l : List UInt8) : (yRow l).toList.toArray = yRow l := by simp
set_option maxHeartbeats 1000000 in
set_option maxRecDepth 100000 in
theorem tag_any (k : List UInt8) (dom : Int) (body : ByteArray) (w : World) (hT : Tab w) (hk : k.length = 32) (h0 : 0 ≤ dom) (h1 : dom ≤ 255) (hs : body.size ≤ 1152921504606846900) :
    Calls Tryd.prog 92 #[.agg (bRow k), .int .u8 dom, .string body] w fun e w' => e = .returned (.agg (bRow (Seal.tagL k dom.toNat body.data.toList))) ∧ Below w.heap.size w w' := by
  have HT := Lib.hid hT
  have hpos := hT.pos
  obtain ⟨R, hR⟩ : ∃ R, R = Seal.tagL k dom.toNat body.data.toList := ⟨_, rfl⟩
  have hR32 : R.length ≤ 32 := by rw [hR, Seal.tagL_len]; omega
  have I24 := Lib.hid (i24_any R hR32)
  have Hold := Lib.hid (bRow_same [] R (by simp) hR32)
  have I5 : Hid ((Tryd.prog.info? 5).map (·.size) = some 1) := (by kernel_rfl : (Tryd.prog.info? 5).map (·.size) = some 1)
  rw [← hR]
  have HR := Lib.hid hR
  have HK := Lib.hid hk
  obtain ⟨hd, hhd⟩ : ∃ hd, hd = k ++ [UInt8.ofNat dom.toNat] := ⟨_, rfl⟩
  have hhl : hd.length = 33 := by rw [hhd]; simp [hk]
  have HD := Lib.hid hhd
  have HL := Lib.hid hhl
  clear hT hR hR32 hk hhd
  go_enter Tryd.func92, Tryd.ntmps92
  go_wp2_with fail
  refine region_tail 2 (by kernel_rfl) (by kernel_rfl) ?_
  intro wd hwd
  have k0 : Holds wd w.heap.size (yRow k) := by rw [hwd, ← bRow_yRow k HK.out]; exact ((Holds.new2 rfl rfl).alloc _).alloc _
  have k1 : Holds wd (w.heap.size + 1) (bRow []) := by rw [hwd]; exact (Holds.new2 (by simp) rfl).alloc _
  have k2 : Holds wd (w.heap.size + 1 + 1) (yRow (List.replicate 33 0)) := by rw [hwd]; exact Holds.new2 (by simp) rfl
  have kb : Below w.heap.size w wd := by rw [hwd]; exact ((((Below.refl _ _).alloc (Nat.le_refl _) _).alloc (by simp) _).alloc (by simp; omega) _).drew
  clear hwd
  simp only [List.take_succ_cons, List.take_zero, List.drop_succ_cons, List.drop_zero]
  repeat still_step
  refine wpStill_nil ?_
  have hkl := HK.out
  refine wpList_copy_rows rfl (.tmp 8) (.tmp 9) _ _ 5 rfl Tryd.underlying96 I5.out (w.heap.size + 1 + 1) w.heap.size 33 33 32 32 (yRow (List.replicate 33 0)) (yRow k).toList rfl rfl k2 (by rw [yRow_toList]; exact k0)
    (by rw [Array.length_toList, yRow_size, hkl]; rfl) (by rw [Array.length_toList, yRow_size, yRow_size, hkl, List.length_replicate]; omega) (yRow_one k) ?_
  intro w4 hw4
  have c2 : Holds w4 (w.heap.size + 1 + 1) (yRow (k ++ [0])) := by
    rw [hw4]
    have := k2.row ((yRow k).toList ++ (yRow (List.replicate 33 0)).toList.drop (yRow k).toList.length).toArray
    have e : ((yRow k).toList ++ (yRow (List.replicate 33 0)).toList.drop (yRow k).toList.length).toArray = yRow (k ++ [0]) := by
      rw [Array.length_toList, yRow_size, hkl]
      unfold yRow
      simp
    rw [e] at this ⊢
    exact this
  have c1 : Holds w4 (w.heap.size + 1) (bRow []) := by rw [hw4]; exact k1.rowFar (by omega) _
  have cb : Below w.heap.size w w4 := by rw [hw4]; exact below_setRow kb (by omega) _
  have q := c2.cell 32
  have qf := c2.free 32
  have hd0 : (yRow (k ++ [0]))[32]? = some (.int .u8 0) := by
    rw [yRow_at _ 32 (by simp [hkl])]
    simp [List.getD, hkl]
  rw [hd0] at q
  have c3 := c2.set_ 32 (.int .u8 dom)
  have hset : (yRow (k ++ [0])).setIfInBounds 32 (.int .u8 dom) = yRow hd := by
    have := yRow_set k [] 0 (UInt8.ofNat dom.toNat) dom (by rw [UInt8.toNat_ofNat']; omega)
    rw [hkl] at this
    rw [this, HD.out]
  rw [hset] at c3
  have c1s := Lib.hid (c1.far (p := ⟨w.heap.size + 1 + 1, 32, none⟩) (show w.heap.size + 1 ≠ w.heap.size + 1 + 1 by omega) (Value.int .u8 dom))
  have cbs := cb.setCell (p := ⟨w.heap.size + 1 + 1, 32, none⟩) (show w.heap.size ≤ w.heap.size + 1 + 1 by omega) (Value.int .u8 dom)
  have C3 := Lib.hid c3
  clear hw4 k0 k1 k2 kb c2 c1 cb hd0 hset c3 hkl
  go_wp2_with fail
  rw [row_text _ _ 33 hd HL.out C3.out]
  have hlen := HL.out
  have hbig : ¬ (9223372036854775807 < hd.length + body.size) := by omega
  clear hlen
  go_wp2_with fail
  have hsz : ((⟨hd.toArray⟩ : ByteArray) ++ body).size = 33 + body.size := by rw [ByteArray.size_append, ← HL.out]; rfl
  have hdl : ((⟨hd.toArray⟩ : ByteArray) ++ body).data.toList = hd ++ body.data.toList := by rw [ByteArray.data_append]; simp
  refine calls_named ?_
  intro w5 hw5
  have c1s := (show Holds w5 (w.heap.size + 1) (bRow []) by rw [hw5]; exact c1s.out)
  have cbs := (show Below w.heap.size w w5 by rw [hw5]; exact cbs)
  clear hw5
  refine (sum_any _ w5 (HT.out.below cbs hpos) (by rw [hsz]; omega)).mono ?_
  rw [hdl, show Sha.sum (hd ++ body.data.toList) = R by rw [HR.out, HD.out]; unfold Seal.tagL; rw [List.append_assoc]; rfl]
  rintro e w6 ⟨rfl, hb6⟩
  have HH6 := Lib.hid (c1s.below hb6 c1s.lt)
  have hb6 := cbs.trans (hb6.mono cbs.size)
  clear hsz hdl c1s cbs
  go_wp2_with (refine wpList_store_named rfl 28 (.tmp 6) (.tmp 17) rfl (w.heap.size + 1) (bRow R) rfl rfl _ HH6.out I24.out Hold.out (bRow_one _) ?_; intro w7 hw7; have Hw7 := Lib.hid hw7; clear hw7)
  obtain ⟨T5, hT5⟩ := (show Holds w7 (w.heap.size + 1) (bRow R) from by rw [Hw7.out]; exact HH6.out.row _)
  exact bodyPost_ret (results_cell_row rfl _ _ (w.heap.size + 1) T5 _ (0, 0) _ rfl hT5 Tryd.underlying28 rfl I24.out) rfl ⟨rfl, by rw [Hw7.out]; exact below_setRow hb6 (by omega) _⟩
end Go.Proofs.YtgdijbcoacgadaaDoor

/- ---- SealTag2 ---- -/
namespace Go.Proofs.YtgdijbcoacgadaaDoor
open Go.RowKit
set_option linter.unusedVariables false
set_option linter.unusedSimpArgs false

theorem HN_hz (e : Int) : HN Seal.hz e = HN [] e := by unfold HN; rw [bRow_hz]
set_option maxHeartbeats 1000000 in
set_option maxRecDepth 100000 in
theorem Tag_who (who dom : Int) (body : ByteArray) (w : World) (h : who < 0 ∨ 64 < who) :
    Calls Tryd.prog 84 #[.int .i64 who, .int .i64 dom, .string body] w fun e w' => e = .returned (HN Seal.hz 20) ∧ Below w.heap.size w w' := by
  have I24 := Lib.hid (i24_any [] (by simp))
  rw [HN_hz]
  go_enter Tryd.func84, Tryd.ntmps84
  go_wp2_with fail
  refine calls_named ?_
  intro w1 hw1
  have hH : Holds w1 w.heap.size (bRow []) := by rw [hw1]; exact Holds.new _ _ _
  have hb1 : Below w.heap.size w w1 := by rw [hw1]; exact (Below.refl _ _).alloc (Nat.le_refl _) _
  clear hw1
  have hk := key_no who w1 h
  rw [HN_hz] at hk
  refine hk.mono ?_
  rintro e w2 ⟨rfl, hb2⟩
  have HH2 := Lib.hid (hH.below hb2 hH.lt)
  have hb2 := hb1.trans (hb2.mono hb1.size)
  clear hk hH
  go_wp2_with (first
    | (refine wpList_store_named rfl 28 (.tmp 8) (.tmp 13) rfl w2.heap.size (bRow []) rfl rfl (bRow []) (Holds.new2 rfl rfl) I24.out rfl (bRow_one _) ?_; intro w5 hw5
       have H5 := Lib.hid (show Holds w5 w.heap.size (bRow []) by rw [hw5]; exact (HH2.out.alloc _).rowFar (by have := HH2.out.lt; omega) _)
       have hb5 := (show Below w.heap.size w w5 by rw [hw5]; exact below_setRow (hb2.alloc hb2.size _) hb2.size _)
       clear hw5)
    | (refine wpList_store_named rfl 28 (.tmp 6) (.tmp 17) rfl w.heap.size (bRow []) rfl rfl (bRow []) H5.out I24.out rfl (bRow_one _) ?_; intro w7 hw7; have Hw7 := Lib.hid hw7; clear hw7))
  have hR7 : Holds w7 w.heap.size (bRow []) := by rw [Hw7.out]; exact H5.out.row _
  exact bodyPost_ret (results_row_tmp rfl _ _ w.heap.size (bRow []) _ rfl hR7 Tryd.underlying28 rfl I24.out _ rfl) rfl ⟨rfl, by rw [Hw7.out]; exact below_setRow hb5 (Nat.le_refl _) _⟩
set_option maxHeartbeats 1000000 in
set_option maxRecDepth 100000 in
theorem Tag_dom (who dom : Int) (body : ByteArray) (w : World) (h0 : 0 ≤ who) (h1 : who ≤ 64) (hT : Tab w) (h : dom < 1 ∨ 4 < dom) :
    Calls Tryd.prog 84 #[.int .i64 who, .int .i64 dom, .string body] w fun e w' => e = .returned (HN Seal.hz 2) ∧ Below w.heap.size w w' := by
  obtain ⟨K, hK⟩ : ∃ K, K = Seal.keyL who.toNat := ⟨_, rfl⟩
  have hK32 : K.length ≤ 32 := by rw [hK, Seal.keyL_len]; omega
  have I24 := Lib.hid (i24_any [] (by simp))
  have I24k := Lib.hid (i24_any K hK32)
  have Hold := Lib.hid (bRow_same [] K (by simp) hK32)
  have key := fun (w1 : World) (hb1 : Below w.heap.size w w1) => key_yes who w1 (hT.below hb1 hT.pos) h0 h1
  rw [← hK] at key
  have KEY := Lib.hid key
  rw [HN_hz]
  clear hK hK32 key hT
  rcases h with h | h
  all_goals
    go_enter Tryd.func84, Tryd.ntmps84
    go_wp2_with fail
    refine calls_named ?_
    intro w1 hw1
    have hH : Holds w1 w.heap.size (bRow []) := by rw [hw1]; exact Holds.new _ _ _
    have hb1 : Below w.heap.size w w1 := by rw [hw1]; exact (Below.refl _ _).alloc (Nat.le_refl _) _
    clear hw1
    refine (KEY.out w1 hb1).mono ?_
    rintro e w2 ⟨rfl, hb2⟩
    have HH2 := Lib.hid (hH.below hb2 hH.lt)
    have hb2 := hb1.trans (hb2.mono hb1.size)
    clear hH
    go_wp2_with (first
      | (refine wpList_store_named rfl 28 (.tmp 8) (.tmp 13) rfl w2.heap.size (bRow K) rfl rfl (bRow []) (Holds.new2 rfl rfl) I24k.out Hold.out (bRow_one _) ?_; intro w5 hw5
         have H5 := Lib.hid (show Holds w5 w.heap.size (bRow []) by rw [hw5]; exact (HH2.out.alloc _).rowFar (by have := HH2.out.lt; omega) _)
         have hb5 := (show Below w.heap.size w w5 by rw [hw5]; exact below_setRow (hb2.alloc hb2.size _) hb2.size _)
         clear hw5)
      | (refine wpList_store_named rfl 28 (.tmp 6) (.tmp 25) rfl w.heap.size (bRow []) rfl rfl (bRow []) H5.out I24.out rfl (bRow_one _) ?_; intro w7 hw7; have Hw7 := Lib.hid hw7; clear hw7))
    have hR7 : Holds w7 w.heap.size (bRow []) := by rw [Hw7.out]; exact H5.out.row _
    exact bodyPost_ret (results_row_tmp rfl _ _ w.heap.size (bRow []) _ rfl hR7 Tryd.underlying28 rfl I24.out _ rfl) rfl ⟨rfl, by rw [Hw7.out]; exact below_setRow hb5 (Nat.le_refl _) _⟩
set_option maxHeartbeats 1000000 in
set_option maxRecDepth 100000 in
theorem Tag_yes (who dom : Int) (body : ByteArray) (w : World) (hT : Tab w) (h0 : 0 ≤ who) (h1 : who ≤ 64) (h2 : 1 ≤ dom) (h3 : dom ≤ 4) (hs : body.size ≤ 1152921504606846900) :
    Calls Tryd.prog 84 #[.int .i64 who, .int .i64 dom, .string body] w fun e w' => e = .returned (HN (Seal.tagL (Seal.keyL who.toNat) dom.toNat body.data.toList) 0) ∧ Below w.heap.size w w' := by
  have HT := Lib.hid hT
  have hpos := hT.pos
  obtain ⟨K, hK⟩ : ∃ K, K = Seal.keyL who.toNat := ⟨_, rfl⟩
  have hK32 : K.length ≤ 32 := by rw [hK, Seal.keyL_len]; omega
  have hKl : K.length = 32 := by rw [hK, Seal.keyL_len]
  have I24k := Lib.hid (i24_any K hK32)
  have Hold := Lib.hid (bRow_same [] K (by simp) hK32)
  have key := fun (w1 : World) (hb1 : Below w.heap.size w w1) => key_yes who w1 (hT.below hb1 hT.pos) h0 h1
  rw [← hK] at key
  have KEY := Lib.hid key
  have HKl := Lib.hid hKl
  rw [← hK]
  clear hK hK32 key hT hKl
  obtain ⟨R, hR⟩ : ∃ R, R = Seal.tagL K dom.toNat body.data.toList := ⟨_, rfl⟩
  have hR32 : R.length ≤ 32 := by rw [hR, Seal.tagL_len]; omega
  have I24 := Lib.hid (i24_any R hR32)
  have HoldR := Lib.hid (bRow_same [] R (by simp) hR32)
  have hut : IntKind.u8.wrap dom = dom := by rw [IntKind.wrap_u8]; omega
  rw [← hR]
  have HR := Lib.hid hR
  clear hR hR32
  go_enter Tryd.func84, Tryd.ntmps84
  go_wp2_with fail
  refine calls_named ?_
  intro w1 hw1
  have hH : Holds w1 w.heap.size (bRow []) := by rw [hw1]; exact Holds.new _ _ _
  have hb1 : Below w.heap.size w w1 := by rw [hw1]; exact (Below.refl _ _).alloc (Nat.le_refl _) _
  clear hw1
  refine (KEY.out w1 hb1).mono ?_
  rintro e w2 ⟨rfl, hb2⟩
  have HH2 := Lib.hid (hH.below hb2 hH.lt)
  have hb2 := hb1.trans (hb2.mono hb1.size)
  clear hH
  go_wp2_with (first
    | (refine wpList_store_named rfl 28 (.tmp 8) (.tmp 13) rfl w2.heap.size (bRow K) rfl rfl (bRow []) (Holds.new2 rfl rfl) I24k.out Hold.out (bRow_one _) ?_; intro w5 hw5
       have H5 := Lib.hid (show Holds w5 w.heap.size (bRow []) by rw [hw5]; exact (HH2.out.alloc _).rowFar (by have := HH2.out.lt; omega) _)
       have hb5 := (show Below w.heap.size w w5 by rw [hw5]; exact below_setRow (hb2.alloc hb2.size _) hb2.size _)
       obtain ⟨T5, hT5⟩ := (show Holds w5 w2.heap.size (bRow K) by rw [hw5]; exact (Holds.new2 rfl rfl).row _)
       have G5 := Lib.hid hT5
       clear hw5 hT5)
    | (refine wpList_load_row rfl 28 (.tmp 8) rfl w2.heap.size rfl T5 _ (0, 0) _ G5.out Tryd.underlying28 rfl I24k.out ?_))
  refine (tag_any K dom body w5 (HT.out.below hb5 hpos) HKl.out (by omega) (by omega) hs).mono ?_
  rw [← HR.out]
  rintro e w6 ⟨rfl, hb6⟩
  have H6 := Lib.hid (H5.out.below hb6 H5.out.lt)
  have hb6 := hb5.trans (hb6.mono hb5.size)
  go_wp2_with (refine wpList_store_named rfl 28 (.tmp 6) (.tmp 30) rfl w.heap.size (bRow R) rfl rfl (bRow []) H6.out I24.out HoldR.out (bRow_one _) ?_; intro w7 hw7; have Hw7 := Lib.hid hw7; clear hw7)
  have hR7 : Holds w7 w.heap.size (bRow R) := by rw [Hw7.out]; exact H6.out.row _
  exact bodyPost_ret (results_row_tmp rfl _ _ w.heap.size (bRow R) _ rfl hR7 Tryd.underlying28 rfl I24.out _ rfl) rfl ⟨rfl, by rw [Hw7.out]; exact below_setRow hb6 (Nat.le_refl _) _⟩
set_option maxRecDepth 20000 in
theorem Tag_any (who dom : Int) (body : ByteArray) (w : World) (hT : Tab w) (hs : body.size ≤ 1152921504606846900) :
    Calls Tryd.prog 84 #[.int .i64 who, .int .i64 dom, .string body] w fun e w' => e = .returned (HN (Seal.tag who dom body.data.toList).1 (Seal.tag who dom body.data.toList).2) ∧ Below w.heap.size w w' := by
  unfold Seal.tag
  by_cases h : who < 0 ∨ 64 < who
  · rw [if_pos h]; exact Tag_who who dom body w h
  · rw [if_neg h]
    by_cases h2 : dom < 1 ∨ 4 < dom
    · rw [if_pos h2]; exact Tag_dom who dom body w (by omega) (by omega) hT h2
    · rw [if_neg h2]; exact Tag_yes who dom body w hT (by omega) (by omega) (by omega) (by omega) hs
end Go.Proofs.YtgdijbcoacgadaaDoor

/- ---- SealTag3 ---- -/
namespace Go.Proofs.YtgdijbcoacgadaaDoor
open Go.RowKit
set_option linter.unusedVariables false
set_option linter.unusedSimpArgs false

set_option maxHeartbeats 1000000 in
set_option maxRecDepth 100000 in
theorem refTag_who (who dom : Int) (body : ByteArray) (w : World) (h : who < 0 ∨ 64 < who) :
    Calls Tryd.prog 54 #[.int .i64 who, .int .i64 dom, .string body] w fun e w' => e = .returned (HN Seal.hz 20) ∧ Below w.heap.size w w' := by
  have I24 := Lib.hid (i24_any [] (by simp))
  rw [HN_hz]
  go_enter Tryd.func54, Tryd.ntmps54
  go_wp2_with fail
  refine calls_named ?_
  intro w1 hw1
  have hH : Holds w1 w.heap.size (bRow []) := by rw [hw1]; exact Holds.new _ _ _
  have hb1 : Below w.heap.size w w1 := by rw [hw1]; exact (Below.refl _ _).alloc (Nat.le_refl _) _
  clear hw1
  have hk := refKey_no who w1 h
  rw [HN_hz] at hk
  refine hk.mono ?_
  rintro e w2 ⟨rfl, hb2⟩
  have HH2 := Lib.hid (hH.below hb2 hH.lt)
  have hb2 := hb1.trans (hb2.mono hb1.size)
  clear hk hH
  go_wp2_with (first
    | (refine wpList_store_named rfl 28 (.tmp 8) (.tmp 13) rfl w2.heap.size (bRow []) rfl rfl (bRow []) (Holds.new2 rfl rfl) I24.out rfl (bRow_one _) ?_; intro w5 hw5
       have H5 := Lib.hid (show Holds w5 w.heap.size (bRow []) by rw [hw5]; exact (HH2.out.alloc _).rowFar (by have := HH2.out.lt; omega) _)
       have hb5 := (show Below w.heap.size w w5 by rw [hw5]; exact below_setRow (hb2.alloc hb2.size _) hb2.size _)
       clear hw5)
    | (refine wpList_store_named rfl 28 (.tmp 6) (.tmp 17) rfl w.heap.size (bRow []) rfl rfl (bRow []) H5.out I24.out rfl (bRow_one _) ?_; intro w7 hw7; have Hw7 := Lib.hid hw7; clear hw7))
  have hR7 : Holds w7 w.heap.size (bRow []) := by rw [Hw7.out]; exact H5.out.row _
  exact bodyPost_ret (results_row_tmp rfl _ _ w.heap.size (bRow []) _ rfl hR7 Tryd.underlying28 rfl I24.out _ rfl) rfl ⟨rfl, by rw [Hw7.out]; exact below_setRow hb5 (Nat.le_refl _) _⟩
set_option maxRecDepth 20000 in
theorem refKey_any_ (hRS : RefSum) (who : Int) (w : World) (h0 : 0 ≤ who) (h1 : who ≤ 64) :
    Calls Tryd.prog 67 #[.int .i64 who] w fun e w' => e = .returned (HN (Seal.keyL who.toNat) 0) ∧ Below w.heap.size w w' := by
  have h := refKey_any hRS who w
  unfold Seal.key at h
  rw [if_neg (by omega)] at h
  exact h
set_option maxHeartbeats 1000000 in
set_option maxRecDepth 100000 in
theorem refTag_dom (hRS : RefSum) (who dom : Int) (body : ByteArray) (w : World) (h0 : 0 ≤ who) (h1 : who ≤ 64) (h : dom < 1 ∨ 4 < dom) :
    Calls Tryd.prog 54 #[.int .i64 who, .int .i64 dom, .string body] w fun e w' => e = .returned (HN Seal.hz 2) ∧ Below w.heap.size w w' := by
  obtain ⟨K, hK⟩ : ∃ K, K = Seal.keyL who.toNat := ⟨_, rfl⟩
  have hK32 : K.length ≤ 32 := by rw [hK, Seal.keyL_len]; omega
  have I24 := Lib.hid (i24_any [] (by simp))
  have I24k := Lib.hid (i24_any K hK32)
  have Hold := Lib.hid (bRow_same [] K (by simp) hK32)
  have key := fun (w1 : World) (hb1 : Below w.heap.size w w1) => refKey_any_ hRS who w1 h0 h1
  rw [← hK] at key
  have KEY := Lib.hid key
  rw [HN_hz]
  clear hK hK32 key hRS
  rcases h with h | h
  all_goals
    go_enter Tryd.func54, Tryd.ntmps54
    go_wp2_with fail
    refine calls_named ?_
    intro w1 hw1
    have hH : Holds w1 w.heap.size (bRow []) := by rw [hw1]; exact Holds.new _ _ _
    have hb1 : Below w.heap.size w w1 := by rw [hw1]; exact (Below.refl _ _).alloc (Nat.le_refl _) _
    clear hw1
    refine (KEY.out w1 hb1).mono ?_
    rintro e w2 ⟨rfl, hb2⟩
    have HH2 := Lib.hid (hH.below hb2 hH.lt)
    have hb2 := hb1.trans (hb2.mono hb1.size)
    clear hH
    go_wp2_with (first
      | (refine wpList_store_named rfl 28 (.tmp 8) (.tmp 13) rfl w2.heap.size (bRow K) rfl rfl (bRow []) (Holds.new2 rfl rfl) I24k.out Hold.out (bRow_one _) ?_; intro w5 hw5
         have H5 := Lib.hid (show Holds w5 w.heap.size (bRow []) by rw [hw5]; exact (HH2.out.alloc _).rowFar (by have := HH2.out.lt; omega) _)
         have hb5 := (show Below w.heap.size w w5 by rw [hw5]; exact below_setRow (hb2.alloc hb2.size _) hb2.size _)
         clear hw5)
      | (refine wpList_store_named rfl 28 (.tmp 6) (.tmp 25) rfl w.heap.size (bRow []) rfl rfl (bRow []) H5.out I24.out rfl (bRow_one _) ?_; intro w7 hw7; have Hw7 := Lib.hid hw7; clear hw7))
    have hR7 : Holds w7 w.heap.size (bRow []) := by rw [Hw7.out]; exact H5.out.row _
    exact bodyPost_ret (results_row_tmp rfl _ _ w.heap.size (bRow []) _ rfl hR7 Tryd.underlying28 rfl I24.out _ rfl) rfl ⟨rfl, by rw [Hw7.out]; exact below_setRow hb5 (Nat.le_refl _) _⟩
set_option maxRecDepth 20000 in
theorem one_byte_run (W : World) (g : Nat) (x : Int) (h : W.cell? ⟨g, 0, none⟩ = some (.int .u8 x)) : (convert 96 9 (.slice (some ⟨g, 0, none⟩) 1 1)).run Tryd.prog W = .ok (S [UInt8.ofNat x.toNat]) W := by
  have := run_convert_bytes_arg (P := Tryd.prog) W 96 5 Tryd.underlying96 Tryd.underlying5 g 0 1 1 [x] rfl (fun i hi => by
    obtain rfl : i = 0 := by omega
    simpa using h) 9 Tryd.underlying9
  exact this
set_option maxHeartbeats 2000000 in
set_option maxRecDepth 100000 in
theorem refTag_yes (hRS : RefSum) (who dom : Int) (body : ByteArray) (w : World) (h0 : 0 ≤ who) (h1 : who ≤ 64) (h2 : 1 ≤ dom) (h3 : dom ≤ 4) (hs : body.size ≤ 140737488354900) :
    Calls Tryd.prog 54 #[.int .i64 who, .int .i64 dom, .string body] w fun e w' => e = .returned (HN (Seal.tagL (Seal.keyL who.toNat) dom.toNat body.data.toList) 0) ∧ Below w.heap.size w w' := by
  obtain ⟨K, hK⟩ : ∃ K, K = Seal.keyL who.toNat := ⟨_, rfl⟩
  have hK32 : K.length ≤ 32 := by rw [hK, Seal.keyL_len]; omega
  have hKl : K.length = 32 := by rw [hK, Seal.keyL_len]
  have I24k := Lib.hid (i24_any K hK32)
  have Hold := Lib.hid (bRow_same [] K (by simp) hK32)
  have key := fun (w1 : World) (hb1 : Below w.heap.size w w1) => refKey_any_ hRS who w1 h0 h1
  rw [← hK] at key
  have KEY := Lib.hid key
  have HRS := Lib.hid hRS
  have HKl := Lib.hid hKl
  rw [← hK]
  clear hK hK32 key hKl hRS
  obtain ⟨R, hR⟩ : ∃ R, R = Seal.tagL K dom.toNat body.data.toList := ⟨_, rfl⟩
  have hR32 : R.length ≤ 32 := by rw [hR, Seal.tagL_len]; omega
  have hRl : R.length = 32 := by rw [hR, Seal.tagL_len]
  have I24 := Lib.hid (i24_any R hR32)
  have HoldR := Lib.hid (bRow_same [] R (by simp) hR32)
  have hut : IntKind.u8.wrap dom = dom := by rw [IntKind.wrap_u8]; omega
  rw [← hR]
  have HR := Lib.hid hR
  have HRl := Lib.hid hRl
  clear hR hR32 hRl
  go_enter Tryd.func54, Tryd.ntmps54
  go_wp2_with fail
  refine calls_named ?_
  intro w1 hw1
  have hH : Holds w1 w.heap.size (bRow []) := by rw [hw1]; exact Holds.new _ _ _
  have hb1 : Below w.heap.size w w1 := by rw [hw1]; exact (Below.refl _ _).alloc (Nat.le_refl _) _
  clear hw1
  refine (KEY.out w1 hb1).mono ?_
  rintro e w2 ⟨rfl, hb2⟩
  have HH2 := Lib.hid (hH.below hb2 hH.lt)
  have hb2 := hb1.trans (hb2.mono hb1.size)
  have hlt2 := HH2.out.lt
  clear hH
  go_wp2_with (refine wpList_store_named rfl 28 (.tmp 8) (.tmp 13) rfl w2.heap.size (bRow K) rfl rfl (bRow []) (Holds.new2 rfl rfl) I24k.out Hold.out (bRow_one _) ?_; intro w5 hw5
               have H5 := Lib.hid (show KeptR w w.heap.size [(w2.heap.size, bRow K)] w5 by
                 rw [hw5]
                 exact ⟨below_setRow (hb2.alloc hb2.size _) hb2.size _, ⟨bRow [], bRow_size [] (by simp), (HH2.out.alloc _).rowFar (by omega) _⟩, fun p hp => by
                   obtain rfl : p = (w2.heap.size, bRow K) := by simpa using hp
                   exact (Holds.new2 rfl rfl).row _⟩)
               clear hw5)
  obtain ⟨V, hV⟩ : ∃ V, V = bRow R := ⟨_, rfl⟩
  obtain ⟨U, hU⟩ : ∃ U, U = bRow K := ⟨_, rfl⟩
  have hVs : V.size = 32 := by rw [hV, bRow_size R (by rw [HRl.out]; omega)]
  have hUs : U.size = 32 := by rw [hU, bRow_size K (by rw [HKl.out]; omega)]
  have hVl : V.toList.length = 32 := by simp [hVs]
  have hUl : U.toList.length = 32 := by simp [hUs]
  have hV1 : ∀ v ∈ V.toList, v.oneCell' = true := by
    have := bRow_one R
    rw [← hV] at this
    intro v hv
    rw [Array.all_eq_true_iff_forall_mem] at this
    exact this v (Array.mem_toList_iff.1 hv)
  have i24 : (Tryd.prog.info? 28).map (·.size) = some 32 := by kernel_rfl
  have hVi : (Tryd.prog.info? 28).map (·.size) = some V.toList.length := i24.trans (congrArg some hVl.symm)
  have hUi : (Tryd.prog.info? 28).map (·.size) = some U.toList.length := i24.trans (congrArg some hUl.symm)
  have hu := Tryd.underlying28
  rw [← hU] at H5
  have hkeep0 : KeptR w w.heap.size [(w2.heap.size, U)] w5.drew := H5.out.drew
  have HV := Lib.hid hV
  have HU := Lib.hid hU
  have HVs := Lib.hid hVs
  have b1 : ∀ w' : World, Calls Tryd.prog 49 #[.agg U] w' fun e w'' => e = .returned (S K) ∧ Below w'.heap.size w' w'' := fun w' => by rw [HU.out]; exact bytes_any K w' HKl.out
  have hdl : ((⟨K.toArray⟩ : ByteArray) ++ (⟨[UInt8.ofNat dom.toNat].toArray⟩ : ByteArray) ++ body).data.toList = K ++ UInt8.ofNat dom.toNat :: body.data.toList := by rw [ByteArray.data_append, ByteArray.data_append]; simp
  have hsz : ((⟨K.toArray⟩ : ByteArray) ++ (⟨[UInt8.ofNat dom.toNat].toArray⟩ : ByteArray) ++ body).size = 33 + body.size := by
    rw [ByteArray.size_append, ByteArray.size_append]
    show K.length + 1 + body.size = _
    rw [HKl.out]
  have c1 : ∀ w' : World, Calls Tryd.prog 48 #[.string ((⟨K.toArray⟩ : ByteArray) ++ (⟨[UInt8.ofNat dom.toNat].toArray⟩ : ByteArray) ++ body)] w' fun e w'' => e = .returned (.agg V) ∧ Below w'.heap.size w' w'' := fun w' => by
    have := HRS.out ((⟨K.toArray⟩ : ByteArray) ++ (⟨[UInt8.ofNat dom.toNat].toArray⟩ : ByteArray) ++ body) w' (by rw [hsz]; omega)
    rw [hdl] at this
    rw [HV.out, HR.out]
    exact this
  have hg1 : ¬ (9223372036854775807 < K.length + 1) := by rw [HKl.out]; omega
  have hg2 : ¬ (9223372036854775807 < K.length + 1 + body.size) := by rw [HKl.out]; omega
  have B1 := Lib.hid b1
  have C1 := Lib.hid c1
  have hsum0 : ∀ W, KeptR w w.heap.size [(w2.heap.size, U)] W → KeptR w w.heap.size [(w2.heap.size, U)] W := fun _ h => h
  clear hV hU hVs hUs i24 b1 c1 hdl hsz hsum0
  have HFar : Hid (∀ p ∈ [(w2.heap.size, U)], p.1 ≠ w.heap.size) := fun p hp => by
    obtain rfl : p = (w2.heap.size, U) := by simpa using hp
    show w2.heap.size ≠ w.heap.size
    omega
  refine wp_region_noPanic ?_
  refine wp_region_held_drew (S := fun w' => KeptR w w.heap.size [(w2.heap.size, U)] w') (by kernel_rfl) hkeep0 (fun hHeld => ?_)
  generalize w5.drew = w6 at *
  refine' wpAnyH_take (i := 0) (v := _) rfl (by kernel_rfl) (by kernel_rfl) (by kernel_rfl) (fun _ _ _ h => h) (yieldsIf_load_mid (by rfl) _ _ rfl w2.heap.size 0 rfl U.toList _ (fun w' hS => KeptR.range hS (by simp)) hu rfl hUi) hHeld ?_
  try simp only [Act.put, List.getElem_toArray, List.getElem_cons_succ, List.getElem_cons_zero, List.setIfInBounds_toArray, List.set_cons_zero, List.set_cons_succ]
  refine wpAnyH_take (i := 2) (v := .int .i64 dom) rfl (by kernel_rfl) (by kernel_rfl) (by kernel_rfl) (fun _ _ _ h => h) (Or.inl ⟨by rfl, fun w' hSw => by go_simp⟩) hHeld ?_
  try simp only [Act.put, List.getElem_toArray, List.getElem_cons_succ, List.getElem_cons_zero, List.setIfInBounds_toArray, List.set_cons_zero, List.set_cons_succ]
  refine wpAnyH_take (i := 3) (v := .int .u8 dom) rfl (by kernel_rfl) (by kernel_rfl) (by kernel_rfl) (fun _ _ _ h => h) (Or.inl ⟨by rfl, fun w' hSw => by go_simp⟩) hHeld ?_
  try simp only [Act.put, List.getElem_toArray, List.getElem_cons_succ, List.getElem_cons_zero, List.setIfInBounds_toArray, List.set_cons_zero, List.set_cons_succ]
  refine wpAnyH_take (i := 7) (v := .string body) rfl (by kernel_rfl) (by kernel_rfl) (by kernel_rfl) (fun _ _ _ h => h) (Or.inl ⟨by rfl, fun w' hSw => by go_simp⟩) hHeld ?_
  try simp only [Act.put, List.getElem_toArray, List.getElem_cons_succ, List.getElem_cons_zero, List.setIfInBounds_toArray, List.set_cons_zero, List.set_cons_succ]
  refine wpAnyH_ready (rs := [1, 4]) (by kernel_rfl) (by simp) (AllReadyH.cons rfl (fun K1 hK1 => ?_) (AllReadyH.cons rfl (fun K1 hK1 => ?_) AllReadyH.nil))
  · try simp only [Act.put, List.getElem_toArray, List.getElem_cons_succ, List.getElem_cons_zero, List.setIfInBounds_toArray, List.set_cons_zero, List.set_cons_succ]
    go_simp
    refine Calls.mono (B1.out _) ?_
    rintro e wb ⟨rfl, hbb⟩
    refine hK1.out _ _ (hHeld.step hbb) (fun hHeld => ?_)
    clear hK1 K1
    try simp only [Act.put, List.getElem_toArray, List.getElem_cons_succ, List.getElem_cons_zero, List.setIfInBounds_toArray, List.set_cons_zero, List.set_cons_succ]
    refine wpAnyH_ready (rs := [4]) (by kernel_rfl) (by simp) (AllReadyH.cons rfl (fun K1 hK1 => ?_) AllReadyH.nil)
    try simp only [Act.put, List.getElem_toArray, List.getElem_cons_succ, List.getElem_cons_zero, List.setIfInBounds_toArray, List.set_cons_zero, List.set_cons_succ]
    go_simp
    obtain ⟨wa, hwa⟩ : ∃ wa, wa = wb.alloc (.cells #[.int .u8 dom] 5) := ⟨_, rfl⟩
    rw [← hwa]
    have hca : wa.cell? ⟨wb.heap.size, 0, none⟩ = some (.int .u8 dom) := by rw [hwa]; simp [go_sem]
    have hla : wb.heap.size < wa.heap.size := by rw [hwa]; simp
    refine hK1.out _ _ ((by rw [hwa]; exact hHeld.alloc _)) (fun hHeld => ?_)
    clear hK1 K1 hwa
    try simp only [Act.put, List.getElem_toArray, List.getElem_cons_succ, List.getElem_cons_zero, List.setIfInBounds_toArray, List.set_cons_zero, List.set_cons_succ]
    refine wpAnyH_ready (rs := [5]) (by kernel_rfl) (by simp) (AllReadyH.cons rfl (fun K1 hK1 => ?_) AllReadyH.nil)
    try simp only [Act.put, List.getElem_toArray, List.getElem_cons_succ, List.getElem_cons_zero, List.setIfInBounds_toArray, List.set_cons_zero, List.set_cons_succ]
    have hcv := one_byte_run wa wb.heap.size dom hca
    go_simp
    clear hcv
    refine hK1.out _ _ (hHeld) (fun hHeld => ?_)
    clear hK1 K1
    try simp only [Act.put, List.getElem_toArray, List.getElem_cons_succ, List.getElem_cons_zero, List.setIfInBounds_toArray, List.set_cons_zero, List.set_cons_succ]
    refine wpAnyH_take (i := 6) (v := .string ((⟨K.toArray⟩ : ByteArray) ++ (⟨[UInt8.ofNat dom.toNat].toArray⟩ : ByteArray))) rfl (by kernel_rfl) (by kernel_rfl) (by kernel_rfl) (fun _ _ _ h => h) (Or.inl ⟨by rfl, fun w' hSw => by go_simp⟩) hHeld ?_
    try simp only [Act.put, List.getElem_toArray, List.getElem_cons_succ, List.getElem_cons_zero, List.setIfInBounds_toArray, List.set_cons_zero, List.set_cons_succ]
    refine wpAnyH_take (i := 8) (v := .string ((⟨K.toArray⟩ : ByteArray) ++ (⟨[UInt8.ofNat dom.toNat].toArray⟩ : ByteArray) ++ body)) rfl (by kernel_rfl) (by kernel_rfl) (by kernel_rfl) (fun _ _ _ h => h) (Or.inl ⟨by rfl, fun w' hSw => by go_simp⟩) hHeld ?_
    try simp only [Act.put, List.getElem_toArray, List.getElem_cons_succ, List.getElem_cons_zero, List.setIfInBounds_toArray, List.set_cons_zero, List.set_cons_succ]
    refine wpAnyH_ready (rs := [9]) (by kernel_rfl) (by simp) (AllReadyH.cons rfl (fun K1 hK1 => ?_) AllReadyH.nil)
    try simp only [Act.put, List.getElem_toArray, List.getElem_cons_succ, List.getElem_cons_zero, List.setIfInBounds_toArray, List.set_cons_zero, List.set_cons_succ]
    go_simp
    refine Calls.mono (C1.out _) ?_
    rintro e wb2 ⟨rfl, hbb2⟩
    refine hK1.out _ _ (hHeld.step hbb2) (fun hHeld => ?_)
    clear hK1 K1
    try simp only [Act.put, List.getElem_toArray, List.getElem_cons_succ, List.getElem_cons_zero, List.setIfInBounds_toArray, List.set_cons_zero, List.set_cons_succ]
    refine wpAnyH_ready (rs := [10]) (by kernel_rfl) (by simp) (AllReadyH.cons rfl (fun K1 hK1 => ?_) AllReadyH.nil)
    try simp only [Act.put, List.getElem_toArray, List.getElem_cons_succ, List.getElem_cons_zero, List.setIfInBounds_toArray, List.set_cons_zero, List.set_cons_succ]
    rw [if_pos (by rfl)]
    refine wp_store_mid _ _ _ rfl w.heap.size 0 V rfl rfl (hHeld.there HVs.out) (by rw [← Array.length_toList]; exact hVi) (by rw [HV.out]; exact bRow_one _) ?_
    have hset := hHeld.set HVs.out (Nat.le_refl _) HFar.out
    generalize wb2.setCells w.heap.size 0 V.toList = w9 at *
    have H9 := Lib.hid hset.2
    have hset1 := hset.1
    clear hset
    refine hK1.out _ _ (hset1) (fun hHeld => ?_)
    clear hK1 K1
    try simp only [Act.put, List.getElem_toArray, List.getElem_cons_succ, List.getElem_cons_zero, List.setIfInBounds_toArray, List.set_cons_zero, List.set_cons_succ]
    refine wpAnyH_ready (rs := [11]) (by kernel_rfl) (by simp) (AllReadyH.cons rfl (fun K1 hK1 => ?_) AllReadyH.nil)
    try simp only [Act.put, List.getElem_toArray, List.getElem_cons_succ, List.getElem_cons_zero, List.setIfInBounds_toArray, List.set_cons_zero, List.set_cons_succ]
    try go_simp
    refine hK1.out _ _ (hset1) (fun hHeld => ?_)
    clear hK1 K1
    try simp only [Act.put, List.getElem_toArray, List.getElem_cons_succ, List.getElem_cons_zero, List.setIfInBounds_toArray, List.set_cons_zero, List.set_cons_succ]
    refine wpAnyH_done (by kernel_rfl) ?_ _
    refine NoPanic.normal ?_
    have hbe := hset1.1
    clear hset1 hHeld
    go_wp2_with fail
    rw [HV.out] at H9
    exact bodyPost_ret (results_row_tmp rfl _ _ w.heap.size (bRow R) _ rfl H9.out Tryd.underlying28 rfl I24.out _ rfl) rfl ⟨rfl, hbe⟩
  · try simp only [Act.put, List.getElem_toArray, List.getElem_cons_succ, List.getElem_cons_zero, List.setIfInBounds_toArray, List.set_cons_zero, List.set_cons_succ]
    go_simp
    obtain ⟨wa, hwa⟩ : ∃ wa, wa = w6.alloc (.cells #[.int .u8 dom] 5) := ⟨_, rfl⟩
    rw [← hwa]
    have hca : wa.cell? ⟨w6.heap.size, 0, none⟩ = some (.int .u8 dom) := by rw [hwa]; simp [go_sem]
    have hla : w6.heap.size < wa.heap.size := by rw [hwa]; simp
    refine hK1.out _ _ ((by rw [hwa]; exact hHeld.alloc _)) (fun hHeld => ?_)
    clear hK1 K1 hwa
    try simp only [Act.put, List.getElem_toArray, List.getElem_cons_succ, List.getElem_cons_zero, List.setIfInBounds_toArray, List.set_cons_zero, List.set_cons_succ]
    refine wpAnyH_ready (rs := [1, 5]) (by kernel_rfl) (by simp) (AllReadyH.cons rfl (fun K1 hK1 => ?_) (AllReadyH.cons rfl (fun K1 hK1 => ?_) AllReadyH.nil))
    · try simp only [Act.put, List.getElem_toArray, List.getElem_cons_succ, List.getElem_cons_zero, List.setIfInBounds_toArray, List.set_cons_zero, List.set_cons_succ]
      go_simp
      refine Calls.mono (B1.out _) ?_
      rintro e wb ⟨rfl, hbb⟩
      refine hK1.out _ _ (hHeld.step hbb) (fun hHeld => ?_)
      clear hK1 K1
      try simp only [Act.put, List.getElem_toArray, List.getElem_cons_succ, List.getElem_cons_zero, List.setIfInBounds_toArray, List.set_cons_zero, List.set_cons_succ]
      have hca := (hbb.cell (p := ⟨w6.heap.size, 0, none⟩) hla).trans hca
      refine wpAnyH_ready (rs := [5]) (by kernel_rfl) (by simp) (AllReadyH.cons rfl (fun K1 hK1 => ?_) AllReadyH.nil)
      try simp only [Act.put, List.getElem_toArray, List.getElem_cons_succ, List.getElem_cons_zero, List.setIfInBounds_toArray, List.set_cons_zero, List.set_cons_succ]
      have hcv := one_byte_run wb w6.heap.size dom hca
      go_simp
      clear hcv
      refine hK1.out _ _ (hHeld) (fun hHeld => ?_)
      clear hK1 K1
      try simp only [Act.put, List.getElem_toArray, List.getElem_cons_succ, List.getElem_cons_zero, List.setIfInBounds_toArray, List.set_cons_zero, List.set_cons_succ]
      refine wpAnyH_take (i := 6) (v := .string ((⟨K.toArray⟩ : ByteArray) ++ (⟨[UInt8.ofNat dom.toNat].toArray⟩ : ByteArray))) rfl (by kernel_rfl) (by kernel_rfl) (by kernel_rfl) (fun _ _ _ h => h) (Or.inl ⟨by rfl, fun w' hSw => by go_simp⟩) hHeld ?_
      try simp only [Act.put, List.getElem_toArray, List.getElem_cons_succ, List.getElem_cons_zero, List.setIfInBounds_toArray, List.set_cons_zero, List.set_cons_succ]
      refine wpAnyH_take (i := 8) (v := .string ((⟨K.toArray⟩ : ByteArray) ++ (⟨[UInt8.ofNat dom.toNat].toArray⟩ : ByteArray) ++ body)) rfl (by kernel_rfl) (by kernel_rfl) (by kernel_rfl) (fun _ _ _ h => h) (Or.inl ⟨by rfl, fun w' hSw => by go_simp⟩) hHeld ?_
      try simp only [Act.put, List.getElem_toArray, List.getElem_cons_succ, List.getElem_cons_zero, List.setIfInBounds_toArray, List.set_cons_zero, List.set_cons_succ]
      refine wpAnyH_ready (rs := [9]) (by kernel_rfl) (by simp) (AllReadyH.cons rfl (fun K1 hK1 => ?_) AllReadyH.nil)
      try simp only [Act.put, List.getElem_toArray, List.getElem_cons_succ, List.getElem_cons_zero, List.setIfInBounds_toArray, List.set_cons_zero, List.set_cons_succ]
      go_simp
      refine Calls.mono (C1.out _) ?_
      rintro e wb2 ⟨rfl, hbb2⟩
      refine hK1.out _ _ (hHeld.step hbb2) (fun hHeld => ?_)
      clear hK1 K1
      try simp only [Act.put, List.getElem_toArray, List.getElem_cons_succ, List.getElem_cons_zero, List.setIfInBounds_toArray, List.set_cons_zero, List.set_cons_succ]
      refine wpAnyH_ready (rs := [10]) (by kernel_rfl) (by simp) (AllReadyH.cons rfl (fun K1 hK1 => ?_) AllReadyH.nil)
      try simp only [Act.put, List.getElem_toArray, List.getElem_cons_succ, List.getElem_cons_zero, List.setIfInBounds_toArray, List.set_cons_zero, List.set_cons_succ]
      rw [if_pos (by rfl)]
      refine wp_store_mid _ _ _ rfl w.heap.size 0 V rfl rfl (hHeld.there HVs.out) (by rw [← Array.length_toList]; exact hVi) (by rw [HV.out]; exact bRow_one _) ?_
      have hset := hHeld.set HVs.out (Nat.le_refl _) HFar.out
      generalize wb2.setCells w.heap.size 0 V.toList = w9 at *
      have H9 := Lib.hid hset.2
      have hset1 := hset.1
      clear hset
      refine hK1.out _ _ (hset1) (fun hHeld => ?_)
      clear hK1 K1
      try simp only [Act.put, List.getElem_toArray, List.getElem_cons_succ, List.getElem_cons_zero, List.setIfInBounds_toArray, List.set_cons_zero, List.set_cons_succ]
      refine wpAnyH_ready (rs := [11]) (by kernel_rfl) (by simp) (AllReadyH.cons rfl (fun K1 hK1 => ?_) AllReadyH.nil)
      try simp only [Act.put, List.getElem_toArray, List.getElem_cons_succ, List.getElem_cons_zero, List.setIfInBounds_toArray, List.set_cons_zero, List.set_cons_succ]
      try go_simp
      refine hK1.out _ _ (hset1) (fun hHeld => ?_)
      clear hK1 K1
      try simp only [Act.put, List.getElem_toArray, List.getElem_cons_succ, List.getElem_cons_zero, List.setIfInBounds_toArray, List.set_cons_zero, List.set_cons_succ]
      refine wpAnyH_done (by kernel_rfl) ?_ _
      refine NoPanic.normal ?_
      have hbe := hset1.1
      clear hset1 hHeld
      go_wp2_with fail
      rw [HV.out] at H9
      exact bodyPost_ret (results_row_tmp rfl _ _ w.heap.size (bRow R) _ rfl H9.out Tryd.underlying28 rfl I24.out _ rfl) rfl ⟨rfl, hbe⟩
    · try simp only [Act.put, List.getElem_toArray, List.getElem_cons_succ, List.getElem_cons_zero, List.setIfInBounds_toArray, List.set_cons_zero, List.set_cons_succ]
      have hcv := one_byte_run wa w6.heap.size dom hca
      go_simp
      clear hcv
      refine hK1.out _ _ (hHeld) (fun hHeld => ?_)
      clear hK1 K1
      try simp only [Act.put, List.getElem_toArray, List.getElem_cons_succ, List.getElem_cons_zero, List.setIfInBounds_toArray, List.set_cons_zero, List.set_cons_succ]
      refine wpAnyH_ready (rs := [1]) (by kernel_rfl) (by simp) (AllReadyH.cons rfl (fun K1 hK1 => ?_) AllReadyH.nil)
      try simp only [Act.put, List.getElem_toArray, List.getElem_cons_succ, List.getElem_cons_zero, List.setIfInBounds_toArray, List.set_cons_zero, List.set_cons_succ]
      go_simp
      refine Calls.mono (B1.out _) ?_
      rintro e wb ⟨rfl, hbb⟩
      refine hK1.out _ _ (hHeld.step hbb) (fun hHeld => ?_)
      clear hK1 K1
      try simp only [Act.put, List.getElem_toArray, List.getElem_cons_succ, List.getElem_cons_zero, List.setIfInBounds_toArray, List.set_cons_zero, List.set_cons_succ]
      refine wpAnyH_take (i := 6) (v := .string ((⟨K.toArray⟩ : ByteArray) ++ (⟨[UInt8.ofNat dom.toNat].toArray⟩ : ByteArray))) rfl (by kernel_rfl) (by kernel_rfl) (by kernel_rfl) (fun _ _ _ h => h) (Or.inl ⟨by rfl, fun w' hSw => by go_simp⟩) hHeld ?_
      try simp only [Act.put, List.getElem_toArray, List.getElem_cons_succ, List.getElem_cons_zero, List.setIfInBounds_toArray, List.set_cons_zero, List.set_cons_succ]
      refine wpAnyH_take (i := 8) (v := .string ((⟨K.toArray⟩ : ByteArray) ++ (⟨[UInt8.ofNat dom.toNat].toArray⟩ : ByteArray) ++ body)) rfl (by kernel_rfl) (by kernel_rfl) (by kernel_rfl) (fun _ _ _ h => h) (Or.inl ⟨by rfl, fun w' hSw => by go_simp⟩) hHeld ?_
      try simp only [Act.put, List.getElem_toArray, List.getElem_cons_succ, List.getElem_cons_zero, List.setIfInBounds_toArray, List.set_cons_zero, List.set_cons_succ]
      refine wpAnyH_ready (rs := [9]) (by kernel_rfl) (by simp) (AllReadyH.cons rfl (fun K1 hK1 => ?_) AllReadyH.nil)
      try simp only [Act.put, List.getElem_toArray, List.getElem_cons_succ, List.getElem_cons_zero, List.setIfInBounds_toArray, List.set_cons_zero, List.set_cons_succ]
      go_simp
      refine Calls.mono (C1.out _) ?_
      rintro e wb2 ⟨rfl, hbb2⟩
      refine hK1.out _ _ (hHeld.step hbb2) (fun hHeld => ?_)
      clear hK1 K1
      try simp only [Act.put, List.getElem_toArray, List.getElem_cons_succ, List.getElem_cons_zero, List.setIfInBounds_toArray, List.set_cons_zero, List.set_cons_succ]
      refine wpAnyH_ready (rs := [10]) (by kernel_rfl) (by simp) (AllReadyH.cons rfl (fun K1 hK1 => ?_) AllReadyH.nil)
      try simp only [Act.put, List.getElem_toArray, List.getElem_cons_succ, List.getElem_cons_zero, List.setIfInBounds_toArray, List.set_cons_zero, List.set_cons_succ]
      rw [if_pos (by rfl)]
      refine wp_store_mid _ _ _ rfl w.heap.size 0 V rfl rfl (hHeld.there HVs.out) (by rw [← Array.length_toList]; exact hVi) (by rw [HV.out]; exact bRow_one _) ?_
      have hset := hHeld.set HVs.out (Nat.le_refl _) HFar.out
      generalize wb2.setCells w.heap.size 0 V.toList = w9 at *
      have H9 := Lib.hid hset.2
      have hset1 := hset.1
      clear hset
      refine hK1.out _ _ (hset1) (fun hHeld => ?_)
      clear hK1 K1
      try simp only [Act.put, List.getElem_toArray, List.getElem_cons_succ, List.getElem_cons_zero, List.setIfInBounds_toArray, List.set_cons_zero, List.set_cons_succ]
      refine wpAnyH_ready (rs := [11]) (by kernel_rfl) (by simp) (AllReadyH.cons rfl (fun K1 hK1 => ?_) AllReadyH.nil)
      try simp only [Act.put, List.getElem_toArray, List.getElem_cons_succ, List.getElem_cons_zero, List.setIfInBounds_toArray, List.set_cons_zero, List.set_cons_succ]
      try go_simp
      refine hK1.out _ _ (hset1) (fun hHeld => ?_)
      clear hK1 K1
      try simp only [Act.put, List.getElem_toArray, List.getElem_cons_succ, List.getElem_cons_zero, List.setIfInBounds_toArray, List.set_cons_zero, List.set_cons_succ]
      refine wpAnyH_done (by kernel_rfl) ?_ _
      refine NoPanic.normal ?_
      have hbe := hset1.1
      clear hset1 hHeld
      go_wp2_with fail
      rw [HV.out] at H9
      exact bodyPost_ret (results_row_tmp rfl _ _ w.heap.size (bRow R) _ rfl H9.out Tryd.underlying28 rfl I24.out _ rfl) rfl ⟨rfl, hbe⟩
set_option maxRecDepth 20000 in
theorem refTag_any (hRS : RefSum) (who dom : Int) (body : ByteArray) (w : World) (hs : body.size ≤ 140737488354900) :
    Calls Tryd.prog 54 #[.int .i64 who, .int .i64 dom, .string body] w fun e w' => e = .returned (HN (Seal.tag who dom body.data.toList).1 (Seal.tag who dom body.data.toList).2) ∧ Below w.heap.size w w' := by
  unfold Seal.tag
  by_cases h : who < 0 ∨ 64 < who
  · rw [if_pos h]; exact refTag_who who dom body w h
  · rw [if_neg h]
    by_cases h2 : dom < 1 ∨ 4 < dom
    · rw [if_pos h2]; exact refTag_dom hRS who dom body w (by omega) (by omega) h2
    · rw [if_neg h2]; exact refTag_yes hRS who dom body w (by omega) (by omega) (by omega) (by omega) hs
end Go.Proofs.YtgdijbcoacgadaaDoor

/- ---- SealCheck ---- -/
namespace Go.Proofs.YtgdijbcoacgadaaDoor
open Go.RowKit
set_option linter.unusedVariables false
set_option linter.unusedSimpArgs false

namespace Seal
def check2 (who dom : Int) (body t : List UInt8) : Int := if (tag who dom body).2 ≠ 0 then (tag who dom body).2 else if (tag who dom body).1 ≠ t then 21 else 0
end Seal

set_option maxHeartbeats 1000000 in
set_option maxRecDepth 100000 in
theorem Check_any (who dom : Int) (body : ByteArray) (t : List UInt8) (w : World) (hT : Tab w) (ht : t.length = 32) (hs : body.size ≤ 140737488354900) :
    Calls Tryd.prog 72 #[.int .i64 who, .int .i64 dom, .string body, .agg (bRow t)] w fun e w' => e = .returned (.int .i64 (Seal.check2 who dom body.data.toList t)) ∧ Below w.heap.size w w' := by
  have hlen := Seal.tag_len who dom body.data.toList
  have tagc := fun (w1 : World) (hb : Below w.heap.size w w1) => Tag_any who dom body w1 (hT.below hb hT.pos) (by omega)
  unfold Seal.check2
  generalize (Seal.tag who dom body.data.toList).1 = R at *
  generalize (Seal.tag who dom body.data.toList).2 = e0 at *
  have heqs : ∀ W, (Op.equalIn 10000 28 (.agg (bRow R)) (.agg (bRow t))).run Tryd.prog W = .ok (decide (R = t)) W := fun W => hash_eq W R t hlen ht
  have I24 := Lib.hid (i24_any R (by omega))
  have I24t := Lib.hid (i24_any t (by omega))
  have Hold := Lib.hid (bRow_same [] R (by simp) (by omega))
  have TAG := Lib.hid tagc
  clear tagc hlen ht hT
  by_cases he : e0 = 0
  · have hb : (e0 != 0) = false := by simp [he]
    by_cases hR : R = t
    · have hd : decide (R = t) = true := by simp [hR]
      rw [if_neg (by simpa using he), if_neg (by simpa using hR)]
      have HE := Lib.hid he
      have HR := Lib.hid hR
      clear he hR
      go_enter Tryd.func72, Tryd.ntmps72
      go_wp2_with fail
      refine calls_named ?_
      intro w1 hw1
      have hH : Holds w1 w.heap.size (bRow t) := by rw [hw1]; exact Holds.new _ _ _
      have hb1 : Below w.heap.size w w1 := by rw [hw1]; exact (Below.refl _ _).alloc (Nat.le_refl _) _
      clear hw1
      refine (TAG.out w1 hb1).mono ?_
      rintro e w2 ⟨rfl, hb2⟩
      have hH2 := hH.below hb2 hH.lt
      have HH2 := Lib.hid hH2
      have hb2 := hb1.trans (hb2.mono hb1.size)
      have hlt := hH2.lt
      clear hH hH2
      go_wp2_with (first
        | (refine wpList_store_named rfl 28 (.tmp 9) (.tmp 16) rfl w2.heap.size (bRow R) rfl rfl (bRow []) (Holds.new2 rfl rfl) I24.out Hold.out (bRow_one _) ?_; intro w5 hw5
           obtain ⟨T5, hT5⟩ := (show Holds w5 w2.heap.size (bRow R) by rw [hw5]; exact (Holds.new2 rfl rfl).row _)
           obtain ⟨T6, hT6⟩ := (show Holds w5 w.heap.size (bRow t) by rw [hw5]; exact (HH2.out.alloc _).rowFar (by omega) _)
           have G5 := Lib.hid hT5
           have G6 := Lib.hid hT6
           have hb5 := (show Below w.heap.size w w5 by rw [hw5]; exact below_setRow (hb2.alloc hb2.size _) hb2.size _)
           clear hw5 hT5 hT6)
        | (refine wpList_load_row rfl 28 (.tmp 9) rfl w2.heap.size rfl T5 _ (0, 0) _ G5.out Tryd.underlying28 rfl I24.out ?_)
        | (refine wpList_load_row rfl 28 (.tmp 7) rfl w.heap.size rfl T6 _ (0, 0) _ G6.out Tryd.underlying28 rfl I24t.out ?_))
      go_ret
      exact ⟨rfl, hb5⟩
    · have hd : decide (R = t) = false := by simp [hR]
      rw [if_neg (by simpa using he), if_pos hR]
      have HE := Lib.hid he
      have HR := Lib.hid hR
      clear he hR
      go_enter Tryd.func72, Tryd.ntmps72
      go_wp2_with fail
      refine calls_named ?_
      intro w1 hw1
      have hH : Holds w1 w.heap.size (bRow t) := by rw [hw1]; exact Holds.new _ _ _
      have hb1 : Below w.heap.size w w1 := by rw [hw1]; exact (Below.refl _ _).alloc (Nat.le_refl _) _
      clear hw1
      refine (TAG.out w1 hb1).mono ?_
      rintro e w2 ⟨rfl, hb2⟩
      have hH2 := hH.below hb2 hH.lt
      have HH2 := Lib.hid hH2
      have hb2 := hb1.trans (hb2.mono hb1.size)
      have hlt := hH2.lt
      clear hH hH2
      go_wp2_with (first
        | (refine wpList_store_named rfl 28 (.tmp 9) (.tmp 16) rfl w2.heap.size (bRow R) rfl rfl (bRow []) (Holds.new2 rfl rfl) I24.out Hold.out (bRow_one _) ?_; intro w5 hw5
           obtain ⟨T5, hT5⟩ := (show Holds w5 w2.heap.size (bRow R) by rw [hw5]; exact (Holds.new2 rfl rfl).row _)
           obtain ⟨T6, hT6⟩ := (show Holds w5 w.heap.size (bRow t) by rw [hw5]; exact (HH2.out.alloc _).rowFar (by omega) _)
           have G5 := Lib.hid hT5
           have G6 := Lib.hid hT6
           have hb5 := (show Below w.heap.size w w5 by rw [hw5]; exact below_setRow (hb2.alloc hb2.size _) hb2.size _)
           clear hw5 hT5 hT6)
        | (refine wpList_load_row rfl 28 (.tmp 9) rfl w2.heap.size rfl T5 _ (0, 0) _ G5.out Tryd.underlying28 rfl I24.out ?_)
        | (refine wpList_load_row rfl 28 (.tmp 7) rfl w.heap.size rfl T6 _ (0, 0) _ G6.out Tryd.underlying28 rfl I24t.out ?_))
      go_ret
      exact ⟨rfl, hb5⟩
  · have hb : (e0 != 0) = true := by simpa using he
    rw [if_pos he]
    have HE := Lib.hid he
    clear he
    go_enter Tryd.func72, Tryd.ntmps72
    go_wp2_with fail
    refine calls_named ?_
    intro w1 hw1
    have hH : Holds w1 w.heap.size (bRow t) := by rw [hw1]; exact Holds.new _ _ _
    have hb1 : Below w.heap.size w w1 := by rw [hw1]; exact (Below.refl _ _).alloc (Nat.le_refl _) _
    clear hw1
    refine (TAG.out w1 hb1).mono ?_
    rintro e w2 ⟨rfl, hb2⟩
    have hH2 := hH.below hb2 hH.lt
    have HH2 := Lib.hid hH2
    have hb2 := hb1.trans (hb2.mono hb1.size)
    have hlt := hH2.lt
    clear hH hH2
    go_wp2_with (first
      | (refine wpList_store_named rfl 28 (.tmp 9) (.tmp 16) rfl w2.heap.size (bRow R) rfl rfl (bRow []) (Holds.new2 rfl rfl) I24.out Hold.out (bRow_one _) ?_; intro w5 hw5
         obtain ⟨T5, hT5⟩ := (show Holds w5 w2.heap.size (bRow R) by rw [hw5]; exact (Holds.new2 rfl rfl).row _)
         obtain ⟨T6, hT6⟩ := (show Holds w5 w.heap.size (bRow t) by rw [hw5]; exact (HH2.out.alloc _).rowFar (by omega) _)
         have G5 := Lib.hid hT5
         have G6 := Lib.hid hT6
         have hb5 := (show Below w.heap.size w w5 by rw [hw5]; exact below_setRow (hb2.alloc hb2.size _) hb2.size _)
         clear hw5 hT5 hT6)
      | (refine wpList_load_row rfl 28 (.tmp 9) rfl w2.heap.size rfl T5 _ (0, 0) _ G5.out Tryd.underlying28 rfl I24.out ?_)
      | (refine wpList_load_row rfl 28 (.tmp 7) rfl w.heap.size rfl T6 _ (0, 0) _ G6.out Tryd.underlying28 rfl I24t.out ?_))
    go_ret
    exact ⟨rfl, hb5⟩
set_option maxHeartbeats 1000000 in
set_option maxRecDepth 100000 in
theorem refCheck_any (hRS : RefSum) (who dom : Int) (body : ByteArray) (t : List UInt8) (w : World) (ht : t.length = 32) (hs : body.size ≤ 140737488354900) :
    Calls Tryd.prog 41 #[.int .i64 who, .int .i64 dom, .string body, .agg (bRow t)] w fun e w' => e = .returned (.int .i64 (Seal.check2 who dom body.data.toList t)) ∧ Below w.heap.size w w' := by
  have hlen := Seal.tag_len who dom body.data.toList
  have tagc := fun (w1 : World) (hb : Below w.heap.size w w1) => refTag_any hRS who dom body w1 hs
  unfold Seal.check2
  generalize (Seal.tag who dom body.data.toList).1 = R at *
  generalize (Seal.tag who dom body.data.toList).2 = e0 at *
  have heqs : ∀ W, (Op.equalIn 10000 28 (.agg (bRow R)) (.agg (bRow t))).run Tryd.prog W = .ok (decide (R = t)) W := fun W => hash_eq W R t hlen ht
  have I24 := Lib.hid (i24_any R (by omega))
  have I24t := Lib.hid (i24_any t (by omega))
  have Hold := Lib.hid (bRow_same [] R (by simp) (by omega))
  have TAG := Lib.hid tagc
  clear tagc hlen ht hRS
  by_cases he : e0 = 0
  · have hb : (e0 != 0) = false := by simp [he]
    by_cases hR : R = t
    · have hd : decide (R = t) = true := by simp [hR]
      rw [if_neg (by simpa using he), if_neg (by simpa using hR)]
      have HE := Lib.hid he
      have HR := Lib.hid hR
      clear he hR
      go_enter Tryd.func41, Tryd.ntmps41
      go_wp2_with fail
      refine calls_named ?_
      intro w1 hw1
      have hH : Holds w1 w.heap.size (bRow t) := by rw [hw1]; exact Holds.new _ _ _
      have hb1 : Below w.heap.size w w1 := by rw [hw1]; exact (Below.refl _ _).alloc (Nat.le_refl _) _
      clear hw1
      refine (TAG.out w1 hb1).mono ?_
      rintro e w2 ⟨rfl, hb2⟩
      have hH2 := hH.below hb2 hH.lt
      have HH2 := Lib.hid hH2
      have hb2 := hb1.trans (hb2.mono hb1.size)
      have hlt := hH2.lt
      clear hH hH2
      go_wp2_with (first
        | (refine wpList_store_named rfl 28 (.tmp 9) (.tmp 16) rfl w2.heap.size (bRow R) rfl rfl (bRow []) (Holds.new2 rfl rfl) I24.out Hold.out (bRow_one _) ?_; intro w5 hw5
           obtain ⟨T5, hT5⟩ := (show Holds w5 w2.heap.size (bRow R) by rw [hw5]; exact (Holds.new2 rfl rfl).row _)
           obtain ⟨T6, hT6⟩ := (show Holds w5 w.heap.size (bRow t) by rw [hw5]; exact (HH2.out.alloc _).rowFar (by omega) _)
           have G5 := Lib.hid hT5
           have G6 := Lib.hid hT6
           have hb5 := (show Below w.heap.size w w5 by rw [hw5]; exact below_setRow (hb2.alloc hb2.size _) hb2.size _)
           clear hw5 hT5 hT6)
        | (refine wpList_load_row rfl 28 (.tmp 9) rfl w2.heap.size rfl T5 _ (0, 0) _ G5.out Tryd.underlying28 rfl I24.out ?_)
        | (refine wpList_load_row rfl 28 (.tmp 7) rfl w.heap.size rfl T6 _ (0, 0) _ G6.out Tryd.underlying28 rfl I24t.out ?_))
      go_ret
      exact ⟨rfl, hb5⟩
    · have hd : decide (R = t) = false := by simp [hR]
      rw [if_neg (by simpa using he), if_pos hR]
      have HE := Lib.hid he
      have HR := Lib.hid hR
      clear he hR
      go_enter Tryd.func41, Tryd.ntmps41
      go_wp2_with fail
      refine calls_named ?_
      intro w1 hw1
      have hH : Holds w1 w.heap.size (bRow t) := by rw [hw1]; exact Holds.new _ _ _
      have hb1 : Below w.heap.size w w1 := by rw [hw1]; exact (Below.refl _ _).alloc (Nat.le_refl _) _
      clear hw1
      refine (TAG.out w1 hb1).mono ?_
      rintro e w2 ⟨rfl, hb2⟩
      have hH2 := hH.below hb2 hH.lt
      have HH2 := Lib.hid hH2
      have hb2 := hb1.trans (hb2.mono hb1.size)
      have hlt := hH2.lt
      clear hH hH2
      go_wp2_with (first
        | (refine wpList_store_named rfl 28 (.tmp 9) (.tmp 16) rfl w2.heap.size (bRow R) rfl rfl (bRow []) (Holds.new2 rfl rfl) I24.out Hold.out (bRow_one _) ?_; intro w5 hw5
           obtain ⟨T5, hT5⟩ := (show Holds w5 w2.heap.size (bRow R) by rw [hw5]; exact (Holds.new2 rfl rfl).row _)
           obtain ⟨T6, hT6⟩ := (show Holds w5 w.heap.size (bRow t) by rw [hw5]; exact (HH2.out.alloc _).rowFar (by omega) _)
           have G5 := Lib.hid hT5
           have G6 := Lib.hid hT6
           have hb5 := (show Below w.heap.size w w5 by rw [hw5]; exact below_setRow (hb2.alloc hb2.size _) hb2.size _)
           clear hw5 hT5 hT6)
        | (refine wpList_load_row rfl 28 (.tmp 9) rfl w2.heap.size rfl T5 _ (0, 0) _ G5.out Tryd.underlying28 rfl I24.out ?_)
        | (refine wpList_load_row rfl 28 (.tmp 7) rfl w.heap.size rfl T6 _ (0, 0) _ G6.out Tryd.underlying28 rfl I24t.out ?_))
      go_ret
      exact ⟨rfl, hb5⟩
  · have hb : (e0 != 0) = true := by simpa using he
    rw [if_pos he]
    have HE := Lib.hid he
    clear he
    go_enter Tryd.func41, Tryd.ntmps41
    go_wp2_with fail
    refine calls_named ?_
    intro w1 hw1
    have hH : Holds w1 w.heap.size (bRow t) := by rw [hw1]; exact Holds.new _ _ _
    have hb1 : Below w.heap.size w w1 := by rw [hw1]; exact (Below.refl _ _).alloc (Nat.le_refl _) _
    clear hw1
    refine (TAG.out w1 hb1).mono ?_
    rintro e w2 ⟨rfl, hb2⟩
    have hH2 := hH.below hb2 hH.lt
    have HH2 := Lib.hid hH2
    have hb2 := hb1.trans (hb2.mono hb1.size)
    have hlt := hH2.lt
    clear hH hH2
    go_wp2_with (first
      | (refine wpList_store_named rfl 28 (.tmp 9) (.tmp 16) rfl w2.heap.size (bRow R) rfl rfl (bRow []) (Holds.new2 rfl rfl) I24.out Hold.out (bRow_one _) ?_; intro w5 hw5
         obtain ⟨T5, hT5⟩ := (show Holds w5 w2.heap.size (bRow R) by rw [hw5]; exact (Holds.new2 rfl rfl).row _)
         obtain ⟨T6, hT6⟩ := (show Holds w5 w.heap.size (bRow t) by rw [hw5]; exact (HH2.out.alloc _).rowFar (by omega) _)
         have G5 := Lib.hid hT5
         have G6 := Lib.hid hT6
         have hb5 := (show Below w.heap.size w w5 by rw [hw5]; exact below_setRow (hb2.alloc hb2.size _) hb2.size _)
         clear hw5 hT5 hT6)
      | (refine wpList_load_row rfl 28 (.tmp 9) rfl w2.heap.size rfl T5 _ (0, 0) _ G5.out Tryd.underlying28 rfl I24.out ?_)
      | (refine wpList_load_row rfl 28 (.tmp 7) rfl w.heap.size rfl T6 _ (0, 0) _ G6.out Tryd.underlying28 rfl I24t.out ?_))
    go_ret
    exact ⟨rfl, hb5⟩
end Go.Proofs.YtgdijbcoacgadaaDoor
