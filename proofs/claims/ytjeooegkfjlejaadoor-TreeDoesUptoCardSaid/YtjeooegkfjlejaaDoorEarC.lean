/- What later texts need of the earlier layers. -/
import Derived.Test.YtjeooegkfjlejaaDoorEarO
import Derived.Test.YtjeooegkfjlejaaDoorEarS
import Derived.Test.YtjeooegkfjlejaaDoorEarT
import Derived.Deep.QuietTactic
import Derived.BigQuiet
import Derived.Test.YtjeooegkfjlejaaDoorProg
import Derived.ArgAppend
import Derived.Lib.ConvBytes
import Derived.Laws.BytesArg
import Derived.Laws.IdiomCopy
import Derived.Below
import Derived.OwnWalk
import Derived.WalkKit
import Derived.Laws.MakeOwn
import Derived.Deep.MidRow
import Derived.Laws.CopyRow
import Derived.StillTailTactics
import Derived.Deep.RegionHeld3
/- ---- EarC ---- -/
/- What later texts need of the earlier layers. -/
/- ---- MShaC ---- -/
/- Contracts of the reference of layer 2, ahead of its Sum. -/
/- ---- ShaRef1 ---- -/
namespace Go.Proofs.YtjeooegkfjlejaaDoor
open Go.RowKit
set_option linter.unusedVariables false
set_option linter.unusedSimpArgs false

theorem shift_split (x n : Nat) : ((x : Int) / 2 ^ n) = ((x / 2 ^ n : Nat) : Int) := by simp
set_option maxRecDepth 20000 in
theorem right_any (x n : Nat) (w : World) (hx : x < 4294967296) (h1 : 1 ≤ n) (h2 : n ≤ 31) :
    Calls Tryd.prog 73 #[.int .u32 x, .int .i64 n] w fun e w' => e = .returned (.int .u32 (Sha.rot n x)) ∧ ∃ m, w' = w.drewN m := by
  have hn0 : (0 : Int) ≤ (n : Int) := by omega
  have hn1 : (0 : Int) ≤ 32 - (n : Int) := by omega
  have hw1 : IntKind.i64.wrap (32 - (n : Int)) = 32 - (n : Int) := by rw [IntKind.wrap_i64]; omega
  have ht : (32 - (n : Int)).toNat = 32 - n := by omega
  go_enter Tryd.func73, Tryd.ntmps73
  go_wp2_with fail
  go_quiet (fail)
  go_wp2_with fail
  go_ret
  have hr := Sha.rot_lt n x h1 h2 hx
  have e : (((x : Int) / 2 ^ n + (x : Int) * 2 ^ (32 - n) % 4294967296) % 4294967296) = ((Sha.rot n x : Nat) : Int) := by
    have e1 : (x : Int) * 2 ^ (32 - n) % 4294967296 = ((x * 2 ^ (32 - n) % 4294967296 : Nat) : Int) := by simp
    rw [shift_split, e1]
    unfold Sha.rot at hr ⊢
    generalize x / 2 ^ n = A at *
    generalize x * 2 ^ (32 - n) % 4294967296 = B at *
    omega
  exact ⟨by rw [e]; rfl, nq, rfl⟩
set_option maxRecDepth 20000 in
theorem three_any (x a b c : Nat) (w : World) (hx : x < 4294967296) (ha1 : 1 ≤ a) (ha2 : a ≤ 31) (hb1 : 1 ≤ b) (hb2 : b ≤ 31) (hc1 : 1 ≤ c) (hc2 : c ≤ 31) :
    Calls Tryd.prog 74 #[.int .u32 x, .int .i64 a, .int .i64 b, .int .i64 c] w fun e w' => e = .returned (.int .u32 ((Sha.rot a x ^^^ Sha.rot b x ^^^ Sha.rot c x : Nat) : Int)) ∧ ∃ m, w' = w.drewN m := by
  have hA := Sha.rot_lt a x ha1 ha2 hx
  have hB := Sha.rot_lt b x hb1 hb2 hx
  have hC := Sha.rot_lt c x hc1 hc2 hx
  have x1 := xor32 hA hB
  have x2 := xor32 (Sha.xor_lt hA hB) hC
  go_enter Tryd.func74, Tryd.ntmps74
  go_wp2_with fail
  refine (right_any x a _ hx ha1 ha2).mono ?_
  rintro e w1 ⟨rfl, m1, rfl⟩
  go_wp2_with fail
  refine (right_any x b _ hx hb1 hb2).mono ?_
  rintro e w1 ⟨rfl, m2, rfl⟩
  go_wp2_with fail
  refine (right_any x c _ hx hc1 hc2).mono ?_
  rintro e w1 ⟨rfl, m3, rfl⟩
  go_wp2_with fail
  go_ret
  exact ⟨rfl, _, rfl⟩
theorem word_at (t : Nat) (ht : t < 64) : (Sha.kk.map fun (k : Nat) => Value.int .u32 (k : Int))[t]'(by rw [List.length_map]; exact ht) = Value.int .u32 (Sha.kk.getD t 0 : Nat) := by
  have h : t < Sha.kk.length := ht
  rw [List.getElem_map]
  simp [List.getD, h]
set_option maxHeartbeats 1000000 in
set_option maxRecDepth 100000 in
theorem word_any (t : Nat) (w : World) (ht : t < 64) :
    Calls Tryd.prog 75 #[.int .i64 t] w fun e w' => e = .returned (.int .u32 (Sha.kk.getD t 0 : Nat)) ∧ Below w.heap.size w w' := by
  have ht0 : (0 : Int) ≤ (t : Int) := by omega
  have ht1 : (t : Int) < 64 := by omega
  go_enter Tryd.func75, Tryd.ntmps75
  go_wp2_with fail
  go_ret
  refine ⟨?_, (Below.refl _ _).alloc (Nat.le_refl _) _⟩
  exact congrArg Ending.returned (word_at t ht)
end Go.Proofs.YtjeooegkfjlejaaDoor

/- ---- Own1 ---- -/
namespace Go.Proofs.YtjeooegkfjlejaaDoor
open Go.RowKit
set_option linter.unusedVariables false
set_option linter.unusedSimpArgs false

/-- v holds the values xs in a row of the call's own, from block 'base' on; all its places up to the capacity can be written -/
def Own1 (w : World) (base : Nat) (v : Value) (xs : List Value) : Prop :=
  ∃ g cap, v = .slice (some ⟨g, 0, none⟩) xs.length cap ∧ base ≤ g ∧ g < w.heap.size ∧ xs.length ≤ cap ∧ cap ≤ maxLen ∧
    (∀ i, i < cap → (w.cell? ⟨g, i, none⟩).isSome = true ∧ w.frozen? ⟨g, i, none⟩ = false) ∧
    ∀ i x, xs[i]? = some x → w.cell? ⟨g, i, none⟩ = some x
theorem Own1.below {w w1 : World} {base : Nat} {v : Value} {xs : List Value} (h : Own1 w base v xs) (hb : Below w.heap.size w w1) : Own1 w1 base v xs := by
  obtain ⟨g, cap, rfl, hg, hgs, hn, hm, hw, hc⟩ := h
  refine ⟨g, cap, rfl, hg, Nat.lt_of_lt_of_le hgs hb.size, hn, hm, fun i hi => ?_, fun i x hi => ?_⟩
  · rw [hb.cell (p := ⟨g, i, none⟩) hgs, hb.frozen (p := ⟨g, i, none⟩) hgs]; exact hw i hi
  · rw [hb.cell (p := ⟨g, i, none⟩) hgs]; exact hc i x hi
theorem Own1.mono {w : World} {base b2 : Nat} {v : Value} {xs : List Value} (h : Own1 w base v xs) (hb : b2 ≤ base) : Own1 w b2 v xs := by
  obtain ⟨g, cap, h1, hg, h2⟩ := h
  exact ⟨g, cap, h1, Nat.le_trans hb hg, h2⟩
theorem Own1.drew {w : World} {base : Nat} {v : Value} {xs : List Value} (h : Own1 w base v xs) : Own1 w.drew base v xs := h
theorem cells1_size (b : Nat) : ∀ (vs : List Value) (o : Nat) (w : World), (w.setCells b o vs).heap.size = w.heap.size
  | [], _, _ => rfl
  | v :: r, o, w => by rw [World.setCells, cells1_size b r]; simp [World.setCell]
theorem add0 (b off i : Nat) : (⟨b, off, none⟩ : Addr).add i = ⟨b, off + i, none⟩ := by unfold Addr.add; split <;> simp_all
/-- a row that the model says is the call's own -/
theorem Own1.of_owns {w : World} {base : Nat} {e : TypeId} {v : Value} {n : Nat} {xs : List Value} (h : w.ownsRow base e 1 v n xs) (hn : 0 < n) : Own1 w base v xs := by
  obtain ⟨hl, ⟨_, h0⟩ | ⟨g, cap, cur, rfl, hg, hh, hnc, hcm, hcs, htk⟩⟩ := h
  · omega
  · have hgs : g < w.heap.size := by
      rcases Nat.lt_or_ge g w.heap.size with h1 | h1
      · exact h1
      · rw [Array.getElem?_eq_none h1] at hh; cases hh
    refine ⟨g, cap, by rw [hl, Nat.mul_one], hg, hgs, by omega, hcm, fun i hi => ⟨?_, ?_⟩, fun i x hx => ?_⟩
    · rw [cell_of_row w g i cur e (0, 0) hh, Array.getElem?_eq_getElem (by omega)]; rfl
    · exact frozen_of_row w g i cur e hh
    · rw [cell_of_row w g i cur e (0, 0) hh]
      rw [← htk, Nat.mul_one] at hx
      have hi : i < n := by
        have := (List.getElem?_eq_some_iff.1 hx).1
        rw [List.length_take] at this
        omega
      rw [List.getElem?_take, if_pos hi] at hx
      simpa using hx
theorem Own1.push {P : Program} {w : World} {base : Nat} {v : Value} {xs : List Value} (h : Own1 w base v xs) (t ty e : TypeId) (i : TypeInfo) (z : Value) (bytes : Nat)
    (ht : P.underlying t = some (.slice e)) (hi : P.info? e = some i) (hz : i.zero = some z) (hsize : i.size = 1) (hby : i.bytes = bytes) (hzs : z.cells.size = 1)
    (g2 : Nat) (u : Value) (hu : w.cell? ⟨g2, 0, none⟩ = some u) (h1 : u.oneCell' = true) (hbytes : (xs.length + 1) * bytes ≤ 140737488355328) (hlen : xs.length + 1 ≤ 140737488355328) (hbase : base ≤ w.heap.size) :
    ∃ v' w', (Builtin.append_ #[t, t] ty #[v, .slice (some ⟨g2, 0, none⟩) 1 1]).run P w = .ok v' w' ∧ Own1 w' base v' (xs ++ [u]) ∧ Below base w w' := by
  obtain ⟨g, cap, rfl, hg, hgs, hn, hm, hw, hc⟩ := h
  have hnews : ∀ j x, [u][j]? = some x → w.cell? ((⟨g2, 0, none⟩ : Addr).add j) = some x := by
    intro j x hj
    have hl : j < [u].length := (List.getElem?_eq_some_iff.1 hj).1
    have h2 : j = 0 := by simp at hl; omega
    subst h2
    rw [add0]
    have : u = x := by simpa using hj
    rw [← this]; exact hu
  by_cases hroom : xs.length + 1 ≤ cap
  · have hr := run_append_room_cells (P := P) w t ty e i ht hi g 0 xs.length cap ⟨g2, 0, none⟩ 1 1 [u] (by rw [hsize]; rfl) hnews (by simpa using h1) hroom
      (fun j hj => by rw [hsize]; have : j = 0 := by simp at hj; omega
                      subst this; simpa using (hw xs.length (by omega)).1)
      (fun j hj => by rw [hsize]; have : j = 0 := by simp at hj; omega
                      subst this; simpa using (hw xs.length (by omega)).2)
    rw [hsize] at hr
    simp only [Nat.mul_one, Nat.zero_add] at hr
    refine ⟨_, _, hr, ⟨g, cap, by rw [List.length_append]; rfl, hg, by rw [cells1_size]; exact hgs, by simpa using hroom, hm, fun j hj => ⟨?_, ?_⟩, fun j x hj => ?_⟩, (Below.refl _ _).setCell hg _⟩
    · by_cases hjx : j = xs.length
      · subst hjx
        show ((w.setCell ⟨g, xs.length, none⟩ u).cell? ⟨g, xs.length, none⟩).isSome = true
        have := World.cell?_setCells_in g [u] xs.length w (fun k hk => by have : k = 0 := by simp at hk; omega
                                                                          subst this; simpa using (hw xs.length (by omega)).1) 0 (by simp)
        simp only [Nat.add_zero, World.setCells] at this
        rw [this]; rfl
      · have := World.cell?_setCells_out g [u] xs.length w ⟨g, j, none⟩ (fun _ _ => by simp; omega)
        rw [this]
        exact (hw j hj).1
    · rw [World.frozen?_setCells]; exact (hw j hj).2
    · by_cases hjx : j < xs.length
      · rw [World.cell?_setCells_out g [u] xs.length w ⟨g, j, none⟩ (fun _ _ => Or.inl hjx)]
        rw [List.getElem?_append_left hjx] at hj
        exact hc j x hj
      · have hjl : j = xs.length := by
          have := (List.getElem?_eq_some_iff.1 hj).1
          simp at this
          omega
        subst hjl
        have e1 := World.cell?_setCells_in g [u] xs.length w (fun k hk => by have : k = 0 := by simp at hk; omega
                                                                             subst this; simpa using (hw xs.length (by omega)).1) 0 (by simp)
        simp only [Nat.add_zero] at e1
        rw [e1, ← hj]
        simp
  · have holds : ∀ j x, xs[j]? = some x → w.cell? ((⟨g, 0, none⟩ : Addr).add j) = some x := by
      intro j x hj
      rw [add0, Nat.zero_add]
      exact hc j x hj
    obtain ⟨v', w', hr, hown, hgr⟩ := run_append_arg_grows (P := P) w t ty e i z 1 bytes ht hi hz hsize hby hzs (by omega) ⟨g, 0, none⟩ xs.length cap xs (by simp) holds ⟨g2, 0, none⟩ 1 1 [u] rfl hnews (by omega) (by unfold maxLen; omega) hbytes
    exact ⟨v', w', hr, (Own1.of_owns hown (by omega)).mono hbase, (Below.refl base w).grown hgr hbase (fun g hg => by cases hg)⟩
/-- the operation append, where its run is known -/
theorem wpList_push_run {P : Program} (w : World) {ops : Array Oper} {rest : List Oper} {o : Oper} {a : Act} {Q : Exit → Act → World → Prop} (hgd : o.guard = none) (s x : Operand) (t t' : TypeId)
    (ho : o.op = .call { callee := .builtin .append, args := #[s, x], argTypes := #[t, t'] }) (v u : Value) (hs : a.eval s = v) (hx : a.eval x = u) {v' : Value} {w' : World}
    (hr : (Builtin.append_ #[t, t'] o.type #[v, u]).run P w = .ok v' w') (h : wpList P ops Q rest (a.put o.dst v') w') : wpList P ops Q (o :: rest) a w := by
  refine wpList_plain hgd fun K hK => ?_
  unfold Oper.wp execOp
  simp only [ho, resolve, invoke, builtin, Sem.run_bind, Sem.run_pure, Result.andThen_ok, List.map_toArray, List.map_cons, List.map_nil, hs, hx, hr]
  exact hK _ _ h
end Go.Proofs.YtjeooegkfjlejaaDoor

/- ---- ShaRef2 ---- -/
namespace Go.Proofs.YtjeooegkfjlejaaDoor
open Go.RowKit
set_option linter.unusedVariables false
set_option linter.unusedSimpArgs false

def u8s (l : List UInt8) : List Value := l.map fun (b : UInt8) => Value.int .u8 (b.toNat : Int)
theorem u8s_len (l : List UInt8) : (u8s l).length = l.length := by simp [u8s]
theorem u8s_snoc (l : List UInt8) (b : UInt8) : u8s (l ++ [b]) = u8s l ++ [.int .u8 (b.toNat : Int)] := by simp [u8s]
theorem u8s_at (l : List UInt8) (i : Nat) (h : i < l.length) : (u8s l)[i]? = some (.int .u8 ((l.getD i 0).toNat : Int)) := by
  simp [u8s, h, List.getD]
theorem Own1.text {P : Program} {w : World} {base : Nat} {v : Value} {bs : List UInt8} (h : Own1 w base v (u8s bs)) (src e : TypeId) (hs : P.underlying src = some (.slice e)) (he : P.underlying e = some (.int .u8))
    (dst : TypeId) (hd : P.underlying dst = some .string) : (convert src dst v).run P w = .ok (S bs) w := by
  obtain ⟨g, cap, rfl, hg, hgs, hn, hm, hw, hc⟩ := h
  rw [u8s_len]
  have hr := run_convert_bytes_arg (P := P) w src e hs he g 0 bs.length cap (bs.map fun b => (b.toNat : Int)) (by simp) (fun i hi => by
    rw [Nat.zero_add, hc i _ (u8s_at bs i hi)]; simp [List.getD, hi]) dst hd
  rw [hr, bytes_of_]
set_option maxRecDepth 20000 in
/-- one byte more -/
theorem Own1.byte {w : World} {base : Nat} {v : Value} {bs : List UInt8} (h : Own1 w base v (u8s bs)) (b : UInt8) (x : Int) (hx : x = (b.toNat : Int)) (hlen : bs.length + 1 ≤ 140737488355328) (hbase : base ≤ w.heap.size) :
    ∃ v' w', (Builtin.append_ #[103, 103] 103 #[v, .slice (some ⟨w.heap.size, 0, none⟩) 1 1]).run Tryd.prog (w.alloc (.cells #[.int .u8 x] 5)) = .ok v' w' ∧ Own1 w' base v' (u8s (bs ++ [b])) ∧ Below base w w' := by
  subst hx
  obtain ⟨i0, hi, hz0, hz1, hz2⟩ := info_parts u8_info
  have hb1 : Below w.heap.size w (w.alloc (.cells #[.int .u8 (b.toNat : Int)] 5)) := (Below.refl _ _).alloc (Nat.le_refl _) _
  obtain ⟨v', w', h1, h2, h3⟩ := (h.below hb1).push (P := Tryd.prog) 103 103 5 i0 _ 1 Tryd.underlying103 hi hz0 hz1 hz2 rfl w.heap.size (.int .u8 (b.toNat : Int)) ((Holds.new w _ _).cell 0) rfl (by rw [u8s_len]; omega) (by rw [u8s_len]; omega) (Nat.le_trans hbase hb1.size)
  refine ⟨v', w', h1, ?_, (hb1.mono hbase).trans h3⟩
  rw [u8s_snoc]; exact h2
theorem Own1.empty (w : World) (T : TypeId) : Own1 (w.alloc (.cells #[] T)) w.heap.size (.slice (some ⟨w.heap.size, 0, none⟩) 0 0) (u8s []) :=
  ⟨w.heap.size, 0, rfl, Nat.le_refl _, by simp, Nat.le_refl _, by unfold maxLen; omega, fun i hi => by omega, fun i x hx => by simp [u8s] at hx⟩
set_option maxHeartbeats 1000000 in
set_option maxRecDepth 100000 in
theorem bytes_any (h : List UInt8) (w : World) (hh : h.length = 32) :
    Calls Tryd.prog 53 #[.agg (bRow h)] w fun e w' => e = .returned (S h) ∧ Below w.heap.size w w' := by
  have HH := Lib.hid hh
  clear hh
  go_enter Tryd.func53, Tryd.ntmps53
  go_wp2_with fail
  have hd0 : ∀ k : Nat, k < 32 → (bRow h)[k]? = some (.int .u8 ((h.getD k 0).toNat : Int)) := by
    intro k hk
    rw [bRow_yRow h HH.out, yRow_at h k (by rw [HH.out]; exact hk)]
    congr 2
    simp [List.getD, show k < h.length by rw [HH.out]; exact hk]
  have HD0 := Lib.hid hd0
  clear hd0
  have hcv : ∀ (W : World) (v : Value), Own1 W (w.heap.size + 1) v (u8s h) → (convert 103 9 v).run Tryd.prog W = .ok (S h) W :=
    fun W v ho => ho.text 103 5 Tryd.underlying103 Tryd.underlying5 9 Tryd.underlying9
  have HCV := Lib.hid hcv
  clear hcv
  go_loopw [3, 4] (fun v i wr => ∃ k : Nat, k ≤ 32 ∧ i = .int .i64 k ∧ Own1 wr (w.heap.size + 1) v (u8s (h.take k)) ∧ Holds wr w.heap.size (bRow h) ∧ Below w.heap.size w wr) (fun _ i _ => 32 - (intOf i).toNat)
  case atStart =>
    refine ⟨0, by omega, rfl, ?_, ?_, ?_⟩
    · have e : (w.alloc (.cells (bRow h) 42)).heap.size = w.heap.size + 1 := by simp
      have := Own1.empty (w.alloc (.cells (bRow h) 42)) 5
      rw [e] at this
      exact this
    · exact (Holds.new _ _ _).alloc _
    · exact ((Below.refl _ _).alloc (Nat.le_refl _) _).alloc (by simp) _
  case round =>
    obtain ⟨k, hk, rfl, hown, hH, hb⟩ := hrel
    by_cases hlt : k < 32
    · have hcell := (hH.cell k).trans (HD0.out k hlt)
      have hp0 : (0 : Int) ≤ (k : Int) := by omega
      have hp1 : (k : Int) < 32 := by omega
      have hkl : (h.take k).length = k := by rw [List.length_take, HH.out]; omega
      obtain ⟨v', w', hrun, hown', hb'⟩ := hown.byte (h.getD k 0) _ rfl (by rw [hkl]; omega) hH.lt
      have hnext : h.take k ++ [h.getD k 0] = h.take (k + 1) := by
        have hl : k < h.length := by rw [HH.out]; exact hlt
        rw [List.take_add_one, List.getElem?_eq_getElem hl]
        simp [List.getD, hl]
      rw [hnext] at hown'
      have hH2 : Holds w' w.heap.size (bRow h) := hH.below hb' (by omega)
      have Hrun := Lib.hid hrun
      have Hown := Lib.hid hown'
      have HH2 := Lib.hid hH2
      clear hrun hown' hH2 hown hH hkl hnext
      go_wp2_with (at_builtin; refine wpList_push_run _ rfl (.tmp 10) (.tmp 14) _ _ rfl _ _ rfl rfl Hrun.out ?_)
      exact ⟨⟨k + 1, by omega, by go_num, Hown.out, HH2.out, hb.trans (hb'.mono (by omega))⟩, by simp [intOf]; omega⟩
    · have e : h.take k = h := List.take_of_length_le (by rw [HH.out]; omega)
      rw [e] at hown
      have hcv := HCV.out wr _ hown
      clear hown hH
      go_wp2_with fail
      go_ret
      exact ⟨rfl, hb⟩
end Go.Proofs.YtjeooegkfjlejaaDoor

/- ---- ShaRef3 ---- -/
namespace Go.Proofs.YtjeooegkfjlejaaDoor
open Go.RowKit
set_option linter.unusedVariables false
set_option linter.unusedSimpArgs false

theorem below_text (w : World) (e : TypeId) (s : ByteArray) : Below w.heap.size w (Lib.bytesWorld w e s) :=
  ⟨rfl, rfl, rfl, by rw [Lib.bytesWorld_size]; omega, fun k hk => Lib.bytesWorld_at_old w e s k hk⟩
theorem Own1.of_string (w : World) (e : TypeId) (s : ByteArray) (hs : s.size ≤ maxLen) :
    Own1 (Lib.bytesWorld w e s) w.heap.size (.slice (some ⟨w.heap.size, 0, none⟩) s.size (grownCap w s.size 0 e)) (u8s s.data.toList) := by
  have hge := grownCap_ge w s.size 0 e
  have hl : s.data.toList.length = s.size := rfl
  have hcs : (Lib.bytesCells w e s).size = grownCap w s.size 0 e := by
    unfold Lib.bytesCells
    have : s.data.size = s.size := rfl
    simp [this]; omega
  refine ⟨w.heap.size, _, by rw [u8s_len, hl], Nat.le_refl _, by rw [Lib.bytesWorld_size]; omega, by rw [u8s_len, hl]; exact hge, grownCap_le_maxLen w s.size 0 e hs, fun i hi => ⟨?_, ?_⟩, fun i x hx => ?_⟩
  · have h1 := Lib.bytesWorld_at_new w e s
    have h2 : i < (Lib.bytesCells w e s).size := by omega
    simp [World.cell?, h1, h2]
  · have h1 := Lib.bytesWorld_at_new w e s
    simp [World.frozen?, h1]
    intro h; omega
  · have hi : i < s.data.toList.length := by have := (List.getElem?_eq_some_iff.1 hx).1; rw [u8s_len] at this; exact this
    rw [Lib.bytesWorld_cell w e s i hi, ← hx, u8s_at _ i hi]
/-- what stands in a slice's length -/
def vlen : Value → Nat
  | .slice _ n _ => n
  | _ => 0
/-- how many zeros a padding takes -/
def zn (n : Nat) : Nat := (119 - n % 64) % 64
theorem zn_test (n k : Nat) (hk : k ≤ zn n) : (n + 1 + k) % 64 = 56 ↔ k = zn n := by unfold zn at *; omega
theorem len8_next (n r : Nat) (h : r < 8) : (Sha.len8 n).take (8 - (r + 1)) ++ [UInt8.ofNat (n * 8 % 18446744073709551616 / 2 ^ (8 * r) % 256)] = (Sha.len8 n).take (8 - r) := by
  have : r = 0 ∨ r = 1 ∨ r = 2 ∨ r = 3 ∨ r = 4 ∨ r = 5 ∨ r = 6 ∨ r = 7 := by omega
  rcases this with rfl | rfl | rfl | rfl | rfl | rfl | rfl | rfl <;> rfl
set_option maxHeartbeats 1000000 in
set_option maxRecDepth 100000 in
theorem refPadded_any (s : ByteArray) (w : World) (hs : s.size ≤ 140737488355000) :
    Calls Tryd.prog 72 #[.string s] w fun e w' => ∃ v, e = .returned v ∧ Own1 w' w.heap.size v (u8s (Sha.pad s.data.toList)) ∧ Below w.heap.size w w' := by
  have hl : s.data.toList.length = s.size := rfl
  have hcv := Lib.run_convert_string_bytes (P := Tryd.prog) w 9 103 5 s Tryd.underlying9 Tryd.underlying103 Tryd.underlying5
  have ho := Own1.of_string w 5 s (by unfold maxLen; omega)
  have hb0 := below_text w 5 s
  generalize Lib.bytesWorld w 5 s = w0 at *
  generalize grownCap w s.size 0 5 = cap at *
  obtain ⟨v1, w1, hrun, ho1, hb1⟩ := ho.byte 128 128 rfl (by rw [hl]; omega) hb0.size
  have hb1 := hb0.trans hb1
  have Hrun := Lib.hid hrun
  have Ho1 := Lib.hid ho1
  have HL := Lib.hid hl
  clear ho hrun ho1 hl hb0
  go_enter Tryd.func72, Tryd.ntmps72
  go_wp2_with (at_builtin; refine wpList_push_run _ rfl (.tmp 8) (.tmp 9) _ _ rfl _ _ rfl rfl Hrun.out ?_)
  obtain ⟨l, hll⟩ : ∃ l, l = s.data.toList := ⟨_, rfl⟩
  have HL2 := HL.out
  have ho1 := Ho1.out
  rw [← hll] at HL2 ho1
  have HLL := Lib.hid hll
  have HL3 := Lib.hid HL2
  clear Hrun hcv HL HL2 hll Ho1
  go_loopw [3] (fun v wr => ∃ k : Nat, k ≤ zn s.size ∧ Own1 wr w.heap.size v (u8s (l ++ 128 :: zs k)) ∧ Below w.heap.size w wr) (fun v _ => s.size + 70 - vlen v)
  case atStart => exact ⟨0, by omega, ho1, hb1⟩
  case round =>
    clear ho1 hb1
    obtain ⟨k, hk, hown, hb⟩ := hrel
    have hlen : (l ++ 128 :: zs k).length = s.size + 1 + k := by simp [zs_len, HL3.out]; omega
    obtain ⟨g, c, hg, _⟩ := id hown
    rw [u8s_len, hlen] at hg
    subst hg
    have hz := zn_test s.size k hk
    have hzn : zn s.size ≤ 63 := by unfold zn; omega
    by_cases hlt : k < zn s.size
    · have ht2 : (((s.size : Int) + 1 + (k : Int)) % 64 != 56) = true := by simp; omega
      obtain ⟨v', w', hrun, hown', hb'⟩ := hown.byte 0 0 rfl (by rw [hlen]; omega) hb.size
      rw [List.append_assoc, List.cons_append, ← zs_snoc] at hown'
      have Hrun := Lib.hid hrun
      have Hown := Lib.hid hown'
      clear hrun hown' hown hz
      go_wp2_with (at_builtin; refine wpList_push_run _ rfl (.tmp 15) (.tmp 16) _ _ rfl _ _ rfl rfl Hrun.out ?_)
      have hlen2 : (l ++ 128 :: zs (k + 1)).length = s.size + 1 + (k + 1) := by simp [zs_len, HL3.out]; omega
      obtain ⟨g2, c2, hg2, _⟩ := id Hown.out
      rw [u8s_len, hlen2] at hg2
      refine ⟨⟨k + 1, by omega, Hown.out, hb.trans hb'⟩, ?_⟩
      show s.size + 70 - vlen v' < s.size + 70 - (s.size + 1 + k)
      rw [hg2]
      show s.size + 70 - (s.size + 1 + (k + 1)) < s.size + 70 - (s.size + 1 + k)
      omega
    · have ht2 : (((s.size : Int) + 1 + (k : Int)) % 64 != 56) = false := by simp; omega
      have EK := Lib.hid (show k = zn s.size by omega)
      have Hown := Lib.hid hown
      have hw1 : IntKind.u64.wrap (s.size : Int) = (s.size : Int) := by rw [IntKind.wrap_u64]; omega
      have hw2 : IntKind.u64.wrap ((s.size : Int) * 8) = (s.size : Int) * 8 := by rw [IntKind.wrap_u64]; omega
      clear hown hz
      go_wp2_with fail
      have Hown2 := Lib.hid (show Own1 wr w.heap.size (.slice (some ⟨g, 0, none⟩) (s.size + 1 + k) c) (u8s ((l ++ 128 :: zs (zn s.size)) ++ (Sha.len8 s.size).take (8 - 8))) by rw [← EK.out, Nat.sub_self, List.take_zero, List.append_nil]; exact Hown.out)
      clear Hown hw1 hw2 ht2
      go_loopw [3, 5] (fun v i wr => ∃ q : Nat, q ≤ 8 ∧ i = .int .i64 ((q : Int) - 1) ∧ Own1 wr w.heap.size v (u8s ((l ++ 128 :: zs (zn s.size)) ++ (Sha.len8 s.size).take (8 - q))) ∧ Below w.heap.size w wr) (fun _ i _ => (intOf i + 1).toNat)
      case atStart => exact ⟨8, by omega, rfl, Hown2.out, hb⟩
      case round =>
        clear Hown2 hb
        obtain ⟨q, hq, rfl, hown, hb⟩ := hrel
        match q, hq, hown with
        | 0, _, hown =>
          have Hown := Lib.hid hown
          clear hown
          go_wp2_with fail
          go_ret
          refine ⟨_, rfl, ?_, hb⟩
          have e : (l ++ 128 :: zs (zn s.size)) ++ (Sha.len8 s.size).take (8 - 0) = Sha.pad s.data.toList := by
            rw [List.take_of_length_le (by rw [Sha.len8_len]; omega), HLL.out]
            unfold Sha.pad zs zn
            have : s.data.toList.length = s.size := rfl
            rw [this]
            simp
          have := Hown.out
          rw [e] at this
          exact this
        | r + 1, hq, hown =>
          have ei : (((r + 1 : Nat) : Int) - 1) = (r : Int) := by omega
          rw [ei]
          have hr0 : (0 : Int) ≤ (r : Int) := by omega
          have hr1 : (0 : Int) ≤ 8 * (r : Int) := by omega
          have hlen : (l ++ 128 :: zs (zn s.size) ++ (Sha.len8 s.size).take (8 - (r + 1))).length ≤ s.size + 100 := by
            simp only [List.length_append, List.length_cons, zs_len, HL3.out, List.length_take, Sha.len8_len]; omega
          have hval : (s.size : Int) * 8 / 2 ^ (8 * r) % 256 = ((UInt8.ofNat (s.size * 8 % 18446744073709551616 / 2 ^ (8 * r) % 256)).toNat : Int) := by
            rw [UInt8.toNat_ofNat', Nat.mod_eq_of_lt (show s.size * 8 < 18446744073709551616 by omega)]
            simp
          obtain ⟨v', w', hrun, hown', hb'⟩ := hown.byte (UInt8.ofNat (s.size * 8 % 18446744073709551616 / 2 ^ (8 * r) % 256)) _ hval (by omega) hb.size
          rw [List.append_assoc, len8_next s.size r (by omega)] at hown'
          have Hrun := Lib.hid hrun
          have Hown := Lib.hid hown'
          clear hrun hown' hown hval hlen
          go_wp2_with (at_builtin; refine wpList_push_run _ rfl (.tmp 26) (.tmp 32) _ _ rfl _ _ rfl rfl Hrun.out ?_)
          exact ⟨⟨r, by omega, rfl, Hown.out, hb.trans hb'⟩, by simp [intOf]⟩
end Go.Proofs.YtjeooegkfjlejaaDoor

/- ---- ShaCp ---- -/
namespace Go.Proofs.YtjeooegkfjlejaaDoor
open Go.RowKit
set_option linter.unusedVariables false
set_option linter.unusedSimpArgs false

set_option maxRecDepth 20000 in
theorem u32_info : (Tryd.prog.info? 115).map (fun i => (i.zero, i.size, i.bytes)) = some (some (.int .u32 0), 1, 4) := by kernel_rfl
theorem made_words (n : Nat) (h : n = 64) : madeCells (Value.int .u32 0).cells (n * 1) = wRow [] := by
  subst h
  kernel_rfl
set_option maxRecDepth 20000 in
theorem make64 (W : World) : (Instr.makeSlice 116 (.int .i64 64) (.int .i64 64)).run Tryd.prog W = .ok (.slice (some ⟨W.heap.size, 0, none⟩) 64 64) (W.alloc (.cells (wRow []) 115)) := by
  obtain ⟨i0, hi, hz0, hz1, hz2⟩ := info_parts u32_info
  have hr := run_make (P := Tryd.prog) W 116 115 i0 _ Tryd.underlying116 hi hz0 .i64 .i64 64 64 (by omega) (by omega) (by rw [hz2]; omega) (by omega)
  rw [hz1, show (64 : Int).toNat = 64 from rfl, made_words 64 rfl] at hr
  exact hr
/-- bytes lie in memory -/
def Bts (w : World) (g : Nat) (P : List UInt8) : Prop := ∀ i, i < P.length → w.cell? ⟨g, i, none⟩ = some (.int .u8 ((P.getD i 0).toNat : Int))
theorem Bts.below {w w' : World} {B g : Nat} {P : List UInt8} (h : Bts w g P) (hb : Below B w w') (hg : g < B) : Bts w' g P := fun i hi => (hb.cell (p := ⟨g, i, none⟩) hg).trans (h i hi)
/-- a block's word out of all bytes -/
theorem word_blk (P : List UInt8) (k t : Nat) (h : 64 * (k + 1) ≤ P.length) (ht : t < 16) :
    ((P.getD (64 * k + 4 * t) 0).toNat : Int) * 16777216 + ((P.getD (64 * k + 4 * t + 1) 0).toNat : Int) * 65536 + ((P.getD (64 * k + 4 * t + 2) 0).toNat : Int) * 256 + ((P.getD (64 * k + 4 * t + 3) 0).toNat : Int) = ((Sha.word ((P.drop (64 * k)).take 64) t : Nat) : Int) := by
  have e : ∀ j, j < 64 → ((P.drop (64 * k)).take 64).getD j 0 = P.getD (64 * k + j) 0 := by
    intro j hj
    simp [List.getD, List.getElem?_take, hj]
  unfold Sha.word
  rw [e (4 * t) (by omega), e (4 * t + 1) (by omega), e (4 * t + 2) (by omega), e (4 * t + 3) (by omega)]
  simp only [Nat.add_assoc]
  omega
/-- a state's words lie in memory -/
def Eight (w : World) (g : Nat) (st : Sha.St) : Prop := ∀ i, i < 8 → w.cell? ⟨g, i, none⟩ = (st8 st)[i]?
theorem Eight.below {w w' : World} {B g : Nat} {st : Sha.St} (h : Eight w g st) (hb : Below B w w') (hg : g < B) : Eight w' g st := fun i hi => (hb.cell (p := ⟨g, i, none⟩) hg).trans (h i hi)
set_option maxRecDepth 20000 in
/-- a state's words copied into a new slice -/
theorem copy_run (w : World) (gh : Nat) (st : Sha.St) (h : Holds w gh (st8 st)) :
    ∃ gv c w', (Builtin.append_ #[116, 116] 116 #[.slice (some ⟨w.heap.size, 0, none⟩) 0 0, .slice (some ⟨gh, 0, none⟩) 8 8]).run Tryd.prog (w.alloc (.cells #[] 115)) = .ok (.slice (some ⟨gv, 0, none⟩) 8 c) w' ∧
      Eight w' gv st ∧ w.heap.size ≤ gv ∧ gv < w'.heap.size ∧ Below w.heap.size w w' := by
  obtain ⟨i0, hi, hz0, hz1, hz2⟩ := info_parts u32_info
  have hb1 : Below w.heap.size w (w.alloc (.cells #[] 115)) := (Below.refl _ _).alloc (Nat.le_refl _) _
  have h2 := h.alloc (.cells #[] 115)
  have hnews : ∀ j u, (st8 st).toList[j]? = some u → (w.alloc (.cells #[] 115)).cell? ((⟨gh, 0, none⟩ : Addr).add j) = some u := by
    intro j u hj
    rw [add0, Nat.zero_add, h2.cell j, ← hj]
    simp
  obtain ⟨v', w', hr, hown, hgr⟩ := run_append_arg_grows (P := Tryd.prog) (w.alloc (.cells #[] 115)) 116 116 115 i0 (.int .u32 0) 1 4 Tryd.underlying116 hi hz0 hz1 hz2 rfl (by omega) ⟨w.heap.size, 0, none⟩ 0 0 [] rfl (fun j u hj => by simp at hj) ⟨gh, 0, none⟩ 8 8 (st8 st).toList rfl hnews (by omega) (by unfold maxLen; omega) (by omega)
  obtain ⟨g, cap, rfl, hg, hgs, _, _, _, hc⟩ := Own1.of_owns hown (by omega)
  refine ⟨g, cap, w', ?_, fun i hi => ?_, Nat.le_trans hb1.size hg, hgs, hb1.trans ((Below.refl w.heap.size _).grown hgr hb1.size (fun g hg => by cases hg))⟩
  · rw [hr]; rfl
  · have hl : i < (st8 st).size := hi
    have := hc i (st8 st)[i] (by simp [hl])
    rw [this, Array.getElem?_eq_getElem hl]
/-- a state's first words with another's put to them -/
def part (a b : Sha.St) (j : Nat) : Sha.St := ⟨if 0 < j then Sha.add a.a b.a else a.a, if 1 < j then Sha.add a.b b.b else a.b, if 2 < j then Sha.add a.c b.c else a.c, if 3 < j then Sha.add a.d b.d else a.d,
  if 4 < j then Sha.add a.e b.e else a.e, if 5 < j then Sha.add a.f b.f else a.f, if 6 < j then Sha.add a.g b.g else a.g, if 7 < j then Sha.add a.h b.h else a.h⟩
theorem part_8 (a b : Sha.St) : part a b 8 = Sha.plus a b := rfl
theorem part_at (a b : Sha.St) (j : Nat) (h : j < 8) : (st8 (part a b j))[j]? = some (.int .u32 (Sha.at_ a j : Nat)) := by
  have : j = 0 ∨ j = 1 ∨ j = 2 ∨ j = 3 ∨ j = 4 ∨ j = 5 ∨ j = 6 ∨ j = 7 := by omega
  rcases this with rfl | rfl | rfl | rfl | rfl | rfl | rfl | rfl <;> rfl
theorem part_set (a b : Sha.St) (j : Nat) (h : j < 8) : (st8 (part a b j)).setIfInBounds j (.int .u32 (Sha.add (Sha.at_ a j) (Sha.at_ b j) : Nat)) = st8 (part a b (j + 1)) := by
  have : j = 0 ∨ j = 1 ∨ j = 2 ∨ j = 3 ∨ j = 4 ∨ j = 5 ∨ j = 6 ∨ j = 7 := by omega
  rcases this with rfl | rfl | rfl | rfl | rfl | rfl | rfl | rfl <;> rfl
theorem Eight.far {w : World} {g : Nat} {st : Sha.St} (h : Eight w g st) {p : Addr} (hp : g ≠ p.block) (u : Value) : Eight (w.setCell p u) g st := fun i hi =>
  (World.cell?_setCell_other w p ⟨g, i, none⟩ u (by intro e; exact hp (by rw [e]))).trans (h i hi)
end Go.Proofs.YtjeooegkfjlejaaDoor

/- ---- ShaRef4 ---- -/
namespace Go.Proofs.YtjeooegkfjlejaaDoor
open Go.RowKit
set_option linter.unusedVariables false
set_option linter.unusedSimpArgs false

set_option maxRecDepth 20000 in
/-- what the reference's Sum is to return (proved apart) -/
def RefSum : Prop := ∀ (s : ByteArray) (w : World), s.size ≤ 140737488355000 →
    Calls Tryd.prog 55 #[.string s] w fun e w' => e = .returned (.agg (bRow (Sha.sum s.data.toList))) ∧ Below w.heap.size w w'
end Go.Proofs.YtjeooegkfjlejaaDoor

/- ---- KeptR ---- -/
namespace Go.Proofs.YtjeooegkfjlejaaDoor
open Go.RowKit
set_option linter.unusedVariables false
set_option linter.unusedSimpArgs false

/-- below stands what stood; the result's row (32 cells) lies in block g; these rows lie -/
def KeptR (w : World) (g : Nat) (L : List (Nat × Array Value)) (w' : World) : Prop :=
  Below w.heap.size w w' ∧ (∃ cs : Array Value, cs.size = 32 ∧ Holds w' g cs) ∧ ∀ p ∈ L, Holds w' p.1 p.2
section
variable {w w' w'' : World} {g : Nat} {L : List (Nat × Array Value)}
theorem KeptR.step (h : KeptR w g L w') (hb : Below w'.heap.size w' w'') : KeptR w g L w'' := by
  obtain ⟨h1, ⟨cs, h2, h3⟩, h4⟩ := h
  exact ⟨h1.trans (hb.mono h1.size), ⟨cs, h2, h3.below hb h3.lt⟩, fun p hp => (h4 p hp).below hb (h4 p hp).lt⟩
theorem KeptR.drew (h : KeptR w g L w') : KeptR w g L w'.drew := h.step (Below.refl _ _).drew
theorem KeptR.alloc (h : KeptR w g L w') (o : Obj) : KeptR w g L (w'.alloc o) := h.step ((Below.refl _ _).alloc (Nat.le_refl _) _)
theorem KeptR.range (h : KeptR w g L w') {b : Nat} {cs : Array Value} (hp : (b, cs) ∈ L) : w'.rangeAt b 0 cs.toList := fun j v hj => by
  have := (h.2.2 _ hp).cell j
  rw [Nat.zero_add, this]
  simpa using hj
theorem KeptR.set (h : KeptR w g L w') {V : Array Value} (hV : V.size = 32) (hg : w.heap.size ≤ g) (hL : ∀ p ∈ L, p.1 ≠ g) :
    KeptR w g L (w'.setCells g 0 V.toList) ∧ Holds (w'.setCells g 0 V.toList) g V := by
  obtain ⟨h1, ⟨cs, h2, h3⟩, h4⟩ := h
  have h5 := h3.cells (V := V) (h2.trans hV.symm)
  refine ⟨⟨below_cells hg _ _ _ h1, ⟨V, hV, h5⟩, fun p hp => ?_⟩, h5⟩
  have : ∀ (vs : List Value) (o : Nat) (w : World), Holds w p.1 p.2 → Holds (w.setCells g o vs) p.1 p.2 := by
    intro vs
    induction vs with
    | nil => intro o w h; exact h
    | cons v vs ih => intro o w h; exact ih _ _ (h.far (p := ⟨g, o, none⟩) (hL p hp) v)
  exact this _ _ _ (h4 p hp)
end
end Go.Proofs.YtjeooegkfjlejaaDoor

/- ---- ShaCr ---- -/
namespace Go.Proofs.YtjeooegkfjlejaaDoor
open Go.RowKit
set_option linter.unusedVariables false
set_option linter.unusedSimpArgs false
theorem five_keep {wr w' w'' : World} {g0 g1 t : Nat} {v7 v4 v5 v6 v : Value} (hb : Below w'.heap.size w' w'') (hg : g0 < wr.heap.size) (hg1 : g1 < wr.heap.size)
    (h : Below wr.heap.size wr w' ∧ w'.cell? ⟨g0, 7, none⟩ = some v7 ∧ w'.cell? ⟨g0, 4, none⟩ = some v4 ∧ w'.cell? ⟨g0, 5, none⟩ = some v5 ∧ w'.cell? ⟨g0, 6, none⟩ = some v6 ∧ w'.cell? ⟨g1, t, none⟩ = some v) :
    Below wr.heap.size wr w'' ∧ w''.cell? ⟨g0, 7, none⟩ = some v7 ∧ w''.cell? ⟨g0, 4, none⟩ = some v4 ∧ w''.cell? ⟨g0, 5, none⟩ = some v5 ∧ w''.cell? ⟨g0, 6, none⟩ = some v6 ∧ w''.cell? ⟨g1, t, none⟩ = some v := by
  obtain ⟨h0, h1, h2, h3, h4, h5⟩ := h
  have e0 : g0 < w'.heap.size := Nat.lt_of_lt_of_le hg h0.size
  have e1 : g1 < w'.heap.size := Nat.lt_of_lt_of_le hg1 h0.size
  exact ⟨h0.trans (hb.mono h0.size), (hb.cell (p := ⟨g0, 7, none⟩) e0).trans h1, (hb.cell (p := ⟨g0, 4, none⟩) e0).trans h2, (hb.cell (p := ⟨g0, 5, none⟩) e0).trans h3, (hb.cell (p := ⟨g0, 6, none⟩) e0).trans h4, (hb.cell (p := ⟨g1, t, none⟩) e1).trans h5⟩
end Go.Proofs.YtjeooegkfjlejaaDoor

/- ---- MSeal ---- -/
/- Contracts of package seal and of the reference of layer 3. -/
/- ---- SealKey ---- -/
namespace Go.Proofs.YtjeooegkfjlejaaDoor
open Go.RowKit
set_option linter.unusedVariables false
set_option linter.unusedSimpArgs false

/-- what a hash and a number are told as -/
abbrev HN (R : List UInt8) (e : Int) : Value := .tuple #[.agg (bRow R), .int .i64 e]
end Go.Proofs.YtjeooegkfjlejaaDoor

/- ---- SealTag ---- -/
namespace Go.Proofs.YtjeooegkfjlejaaDoor
open Go.RowKit
set_option linter.unusedVariables false
set_option linter.unusedSimpArgs false

end Go.Proofs.YtjeooegkfjlejaaDoor

/- ---- SealTag2 ---- -/
namespace Go.Proofs.YtjeooegkfjlejaaDoor
open Go.RowKit
set_option linter.unusedVariables false
set_option linter.unusedSimpArgs false

end Go.Proofs.YtjeooegkfjlejaaDoor

/- ---- SealTag3 ---- -/
namespace Go.Proofs.YtjeooegkfjlejaaDoor
open Go.RowKit
set_option linter.unusedVariables false
set_option linter.unusedSimpArgs false

end Go.Proofs.YtjeooegkfjlejaaDoor

/- ---- SealCheck ---- -/
namespace Go.Proofs.YtjeooegkfjlejaaDoor
open Go.RowKit
set_option linter.unusedVariables false
set_option linter.unusedSimpArgs false

namespace Seal
end Seal

end Go.Proofs.YtjeooegkfjlejaaDoor
