/- What later texts need of the earlier layers. -/
import Derived.Test.YtalfnadejpmjnaaGreatDoorNSlO
import Derived.Test.YtalfnadejpmjnaaGreatDoorNSlS
import Derived.Test.YtalfnadejpmjnaaGreatDoorNSlT
import Derived.Deep.QuietTactic
import Derived.BigQuiet
import Derived.Test.YtalfnadejpmjnaaGreatDoorProg
import Derived.ArgAppend
import Derived.Lib.ConvBytes
import Derived.Laws.BytesArg
import Derived.Laws.IdiomCopy
import Derived.Below
import Derived.OwnWalk
import Derived.WalkKit
import Derived.Laws.MakeOwn
import Derived.Deep.MidRow
import Derived.Laws.CopyRow
import Derived.StillTailTactics
import Derived.Deep.RegionHeld3
/- ---- SlC ---- -/
/- What later texts need of the earlier layers. -/
/- ---- MShaC ---- -/
/- Contracts of the reference of layer 2, ahead of its Sum. -/
/- ---- ShaRef1 ---- -/
namespace Go.Proofs.YtalfnadejpmjnaaGreatDoor
open Go.RowKit
set_option linter.unusedVariables false
set_option linter.unusedSimpArgs false

end Go.Proofs.YtalfnadejpmjnaaGreatDoor

/- ---- Own1 ---- -/
namespace Go.Proofs.YtalfnadejpmjnaaGreatDoor
open Go.RowKit
set_option linter.unusedVariables false
set_option linter.unusedSimpArgs false

/-- v holds the values xs in a row of the call's own, from block 'base' on; all its places up to the capacity can be written -/
def Own1 (w : World) (base : Nat) (v : Value) (xs : List Value) : Prop :=
  ∃ g cap, v = .slice (some ⟨g, 0, none⟩) xs.length cap ∧ base ≤ g ∧ g < w.heap.size ∧ xs.length ≤ cap ∧ cap ≤ maxLen ∧
    (∀ i, i < cap → (w.cell? ⟨g, i, none⟩).isSome = true ∧ w.frozen? ⟨g, i, none⟩ = false) ∧
    ∀ i x, xs[i]? = some x → w.cell? ⟨g, i, none⟩ = some x
theorem Own1.below {w w1 : World} {base : Nat} {v : Value} {xs : List Value} (h : Own1 w base v xs) (hb : Below w.heap.size w w1) : Own1 w1 base v xs := by
  obtain ⟨g, cap, rfl, hg, hgs, hn, hm, hw, hc⟩ := h
  refine ⟨g, cap, rfl, hg, Nat.lt_of_lt_of_le hgs hb.size, hn, hm, fun i hi => ?_, fun i x hi => ?_⟩
  · rw [hb.cell (p := ⟨g, i, none⟩) hgs, hb.frozen (p := ⟨g, i, none⟩) hgs]; exact hw i hi
  · rw [hb.cell (p := ⟨g, i, none⟩) hgs]; exact hc i x hi
theorem Own1.mono {w : World} {base b2 : Nat} {v : Value} {xs : List Value} (h : Own1 w base v xs) (hb : b2 ≤ base) : Own1 w b2 v xs := by
  obtain ⟨g, cap, h1, hg, h2⟩ := h
  exact ⟨g, cap, h1, Nat.le_trans hb hg, h2⟩
theorem Own1.drew {w : World} {base : Nat} {v : Value} {xs : List Value} (h : Own1 w base v xs) : Own1 w.drew base v xs := h
theorem cells1_size (b : Nat) : ∀ (vs : List Value) (o : Nat) (w : World), (w.setCells b o vs).heap.size = w.heap.size
  | [], _, _ => rfl
  | v :: r, o, w => by rw [World.setCells, cells1_size b r]; simp [World.setCell]
theorem add0 (b off i : Nat) : (⟨b, off, none⟩ : Addr).add i = ⟨b, off + i, none⟩ := by unfold Addr.add; split <;> simp_all
/-- a row that the model says is the call's own -/
theorem Own1.of_owns {w : World} {base : Nat} {e : TypeId} {v : Value} {n : Nat} {xs : List Value} (h : w.ownsRow base e 1 v n xs) (hn : 0 < n) : Own1 w base v xs := by
  obtain ⟨hl, ⟨_, h0⟩ | ⟨g, cap, cur, rfl, hg, hh, hnc, hcm, hcs, htk⟩⟩ := h
  · omega
  · have hgs : g < w.heap.size := by
      rcases Nat.lt_or_ge g w.heap.size with h1 | h1
      · exact h1
      · rw [Array.getElem?_eq_none h1] at hh; cases hh
    refine ⟨g, cap, by rw [hl, Nat.mul_one], hg, hgs, by omega, hcm, fun i hi => ⟨?_, ?_⟩, fun i x hx => ?_⟩
    · rw [cell_of_row w g i cur e (0, 0) hh, Array.getElem?_eq_getElem (by omega)]; rfl
    · exact frozen_of_row w g i cur e hh
    · rw [cell_of_row w g i cur e (0, 0) hh]
      rw [← htk, Nat.mul_one] at hx
      have hi : i < n := by
        have := (List.getElem?_eq_some_iff.1 hx).1
        rw [List.length_take] at this
        omega
      rw [List.getElem?_take, if_pos hi] at hx
      simpa using hx
theorem Own1.push {P : Program} {w : World} {base : Nat} {v : Value} {xs : List Value} (h : Own1 w base v xs) (t ty e : TypeId) (i : TypeInfo) (z : Value) (bytes : Nat)
    (ht : P.underlying t = some (.slice e)) (hi : P.info? e = some i) (hz : i.zero = some z) (hsize : i.size = 1) (hby : i.bytes = bytes) (hzs : z.cells.size = 1)
    (g2 : Nat) (u : Value) (hu : w.cell? ⟨g2, 0, none⟩ = some u) (h1 : u.oneCell' = true) (hbytes : (xs.length + 1) * bytes ≤ 140737488355328) (hlen : xs.length + 1 ≤ 140737488355328) (hbase : base ≤ w.heap.size) :
    ∃ v' w', (Builtin.append_ #[t, t] ty #[v, .slice (some ⟨g2, 0, none⟩) 1 1]).run P w = .ok v' w' ∧ Own1 w' base v' (xs ++ [u]) ∧ Below base w w' := by
  obtain ⟨g, cap, rfl, hg, hgs, hn, hm, hw, hc⟩ := h
  have hnews : ∀ j x, [u][j]? = some x → w.cell? ((⟨g2, 0, none⟩ : Addr).add j) = some x := by
    intro j x hj
    have hl : j < [u].length := (List.getElem?_eq_some_iff.1 hj).1
    have h2 : j = 0 := by simp at hl; omega
    subst h2
    rw [add0]
    have : u = x := by simpa using hj
    rw [← this]; exact hu
  by_cases hroom : xs.length + 1 ≤ cap
  · have hr := run_append_room_cells (P := P) w t ty e i ht hi g 0 xs.length cap ⟨g2, 0, none⟩ 1 1 [u] (by rw [hsize]; rfl) hnews (by simpa using h1) hroom
      (fun j hj => by rw [hsize]; have : j = 0 := by simp at hj; omega
                      subst this; simpa using (hw xs.length (by omega)).1)
      (fun j hj => by rw [hsize]; have : j = 0 := by simp at hj; omega
                      subst this; simpa using (hw xs.length (by omega)).2)
    rw [hsize] at hr
    simp only [Nat.mul_one, Nat.zero_add] at hr
    refine ⟨_, _, hr, ⟨g, cap, by rw [List.length_append]; rfl, hg, by rw [cells1_size]; exact hgs, by simpa using hroom, hm, fun j hj => ⟨?_, ?_⟩, fun j x hj => ?_⟩, (Below.refl _ _).setCell hg _⟩
    · by_cases hjx : j = xs.length
      · subst hjx
        show ((w.setCell ⟨g, xs.length, none⟩ u).cell? ⟨g, xs.length, none⟩).isSome = true
        have := World.cell?_setCells_in g [u] xs.length w (fun k hk => by have : k = 0 := by simp at hk; omega
                                                                          subst this; simpa using (hw xs.length (by omega)).1) 0 (by simp)
        simp only [Nat.add_zero, World.setCells] at this
        rw [this]; rfl
      · have := World.cell?_setCells_out g [u] xs.length w ⟨g, j, none⟩ (fun _ _ => by simp; omega)
        rw [this]
        exact (hw j hj).1
    · rw [World.frozen?_setCells]; exact (hw j hj).2
    · by_cases hjx : j < xs.length
      · rw [World.cell?_setCells_out g [u] xs.length w ⟨g, j, none⟩ (fun _ _ => Or.inl hjx)]
        rw [List.getElem?_append_left hjx] at hj
        exact hc j x hj
      · have hjl : j = xs.length := by
          have := (List.getElem?_eq_some_iff.1 hj).1
          simp at this
          omega
        subst hjl
        have e1 := World.cell?_setCells_in g [u] xs.length w (fun k hk => by have : k = 0 := by simp at hk; omega
                                                                             subst this; simpa using (hw xs.length (by omega)).1) 0 (by simp)
        simp only [Nat.add_zero] at e1
        rw [e1, ← hj]
        simp
  · have holds : ∀ j x, xs[j]? = some x → w.cell? ((⟨g, 0, none⟩ : Addr).add j) = some x := by
      intro j x hj
      rw [add0, Nat.zero_add]
      exact hc j x hj
    obtain ⟨v', w', hr, hown, hgr⟩ := run_append_arg_grows (P := P) w t ty e i z 1 bytes ht hi hz hsize hby hzs (by omega) ⟨g, 0, none⟩ xs.length cap xs (by simp) holds ⟨g2, 0, none⟩ 1 1 [u] rfl hnews (by omega) (by unfold maxLen; omega) hbytes
    exact ⟨v', w', hr, (Own1.of_owns hown (by omega)).mono hbase, (Below.refl base w).grown hgr hbase (fun g hg => by cases hg)⟩
end Go.Proofs.YtalfnadejpmjnaaGreatDoor

/- ---- ShaRef2 ---- -/
namespace Go.Proofs.YtalfnadejpmjnaaGreatDoor
open Go.RowKit
set_option linter.unusedVariables false
set_option linter.unusedSimpArgs false

def u8s (l : List UInt8) : List Value := l.map fun (b : UInt8) => Value.int .u8 (b.toNat : Int)
theorem u8s_len (l : List UInt8) : (u8s l).length = l.length := by simp [u8s]
theorem u8s_at (l : List UInt8) (i : Nat) (h : i < l.length) : (u8s l)[i]? = some (.int .u8 ((l.getD i 0).toNat : Int)) := by
  simp [u8s, h, List.getD]
theorem Own1.text {P : Program} {w : World} {base : Nat} {v : Value} {bs : List UInt8} (h : Own1 w base v (u8s bs)) (src e : TypeId) (hs : P.underlying src = some (.slice e)) (he : P.underlying e = some (.int .u8))
    (dst : TypeId) (hd : P.underlying dst = some .string) : (convert src dst v).run P w = .ok (S bs) w := by
  obtain ⟨g, cap, rfl, hg, hgs, hn, hm, hw, hc⟩ := h
  rw [u8s_len]
  have hr := run_convert_bytes_arg (P := P) w src e hs he g 0 bs.length cap (bs.map fun b => (b.toNat : Int)) (by simp) (fun i hi => by
    rw [Nat.zero_add, hc i _ (u8s_at bs i hi)]; simp [List.getD, hi]) dst hd
  rw [hr, bytes_of_]
theorem Own1.empty (w : World) (T : TypeId) : Own1 (w.alloc (.cells #[] T)) w.heap.size (.slice (some ⟨w.heap.size, 0, none⟩) 0 0) (u8s []) :=
  ⟨w.heap.size, 0, rfl, Nat.le_refl _, by simp, Nat.le_refl _, by unfold maxLen; omega, fun i hi => by omega, fun i x hx => by simp [u8s] at hx⟩
end Go.Proofs.YtalfnadejpmjnaaGreatDoor

/- ---- ShaRef3 ---- -/
namespace Go.Proofs.YtalfnadejpmjnaaGreatDoor
open Go.RowKit
set_option linter.unusedVariables false
set_option linter.unusedSimpArgs false

end Go.Proofs.YtalfnadejpmjnaaGreatDoor

/- ---- ShaCp ---- -/
namespace Go.Proofs.YtalfnadejpmjnaaGreatDoor
open Go.RowKit
set_option linter.unusedVariables false
set_option linter.unusedSimpArgs false

/-- bytes lie in memory -/
def Bts (w : World) (g : Nat) (P : List UInt8) : Prop := ∀ i, i < P.length → w.cell? ⟨g, i, none⟩ = some (.int .u8 ((P.getD i 0).toNat : Int))
theorem Bts.below {w w' : World} {B g : Nat} {P : List UInt8} (h : Bts w g P) (hb : Below B w w') (hg : g < B) : Bts w' g P := fun i hi => (hb.cell (p := ⟨g, i, none⟩) hg).trans (h i hi)
/-- a state's words lie in memory -/
def Eight (w : World) (g : Nat) (st : Sha.St) : Prop := ∀ i, i < 8 → w.cell? ⟨g, i, none⟩ = (st8 st)[i]?
theorem Eight.below {w w' : World} {B g : Nat} {st : Sha.St} (h : Eight w g st) (hb : Below B w w') (hg : g < B) : Eight w' g st := fun i hi => (hb.cell (p := ⟨g, i, none⟩) hg).trans (h i hi)
theorem Eight.far {w : World} {g : Nat} {st : Sha.St} (h : Eight w g st) {p : Addr} (hp : g ≠ p.block) (u : Value) : Eight (w.setCell p u) g st := fun i hi =>
  (World.cell?_setCell_other w p ⟨g, i, none⟩ u (by intro e; exact hp (by rw [e]))).trans (h i hi)
end Go.Proofs.YtalfnadejpmjnaaGreatDoor

/- ---- ShaRef4 ---- -/
namespace Go.Proofs.YtalfnadejpmjnaaGreatDoor
open Go.RowKit
set_option linter.unusedVariables false
set_option linter.unusedSimpArgs false

end Go.Proofs.YtalfnadejpmjnaaGreatDoor

/- ---- KeptR ---- -/
namespace Go.Proofs.YtalfnadejpmjnaaGreatDoor
open Go.RowKit
set_option linter.unusedVariables false
set_option linter.unusedSimpArgs false

/-- below stands what stood; the result's row (32 cells) lies in block g; these rows lie -/
def KeptR (w : World) (g : Nat) (L : List (Nat × Array Value)) (w' : World) : Prop :=
  Below w.heap.size w w' ∧ (∃ cs : Array Value, cs.size = 32 ∧ Holds w' g cs) ∧ ∀ p ∈ L, Holds w' p.1 p.2
section
variable {w w' w'' : World} {g : Nat} {L : List (Nat × Array Value)}
theorem KeptR.step (h : KeptR w g L w') (hb : Below w'.heap.size w' w'') : KeptR w g L w'' := by
  obtain ⟨h1, ⟨cs, h2, h3⟩, h4⟩ := h
  exact ⟨h1.trans (hb.mono h1.size), ⟨cs, h2, h3.below hb h3.lt⟩, fun p hp => (h4 p hp).below hb (h4 p hp).lt⟩
theorem KeptR.drew (h : KeptR w g L w') : KeptR w g L w'.drew := h.step (Below.refl _ _).drew
theorem KeptR.alloc (h : KeptR w g L w') (o : Obj) : KeptR w g L (w'.alloc o) := h.step ((Below.refl _ _).alloc (Nat.le_refl _) _)
theorem KeptR.range (h : KeptR w g L w') {b : Nat} {cs : Array Value} (hp : (b, cs) ∈ L) : w'.rangeAt b 0 cs.toList := fun j v hj => by
  have := (h.2.2 _ hp).cell j
  rw [Nat.zero_add, this]
  simpa using hj
theorem KeptR.set (h : KeptR w g L w') {V : Array Value} (hV : V.size = 32) (hg : w.heap.size ≤ g) (hL : ∀ p ∈ L, p.1 ≠ g) :
    KeptR w g L (w'.setCells g 0 V.toList) ∧ Holds (w'.setCells g 0 V.toList) g V := by
  obtain ⟨h1, ⟨cs, h2, h3⟩, h4⟩ := h
  have h5 := h3.cells (V := V) (h2.trans hV.symm)
  refine ⟨⟨below_cells hg _ _ _ h1, ⟨V, hV, h5⟩, fun p hp => ?_⟩, h5⟩
  have : ∀ (vs : List Value) (o : Nat) (w : World), Holds w p.1 p.2 → Holds (w.setCells g o vs) p.1 p.2 := by
    intro vs
    induction vs with
    | nil => intro o w h; exact h
    | cons v vs ih => intro o w h; exact ih _ _ (h.far (p := ⟨g, o, none⟩) (hL p hp) v)
  exact this _ _ _ (h4 p hp)
end
end Go.Proofs.YtalfnadejpmjnaaGreatDoor

/- ---- ShaCr ---- -/
namespace Go.Proofs.YtalfnadejpmjnaaGreatDoor
open Go.RowKit
set_option linter.unusedVariables false
set_option linter.unusedSimpArgs false
end Go.Proofs.YtalfnadejpmjnaaGreatDoor

/- ---- MSeal ---- -/
/- Contracts of package seal and of the reference of layer 3. -/
/- ---- SealKey ---- -/
namespace Go.Proofs.YtalfnadejpmjnaaGreatDoor
open Go.RowKit
set_option linter.unusedVariables false
set_option linter.unusedSimpArgs false

set_option maxRecDepth 20000 in
theorem i24_any (R : List UInt8) (h : R.length ≤ 32) : (Tryz.prog.info? 62).map (·.size) = some (bRow R).size := by
  have i24 : (Tryz.prog.info? 62).map (·.size) = some 32 := by kernel_rfl
  rw [i24, bRow_size R h]
theorem bRow_same (R Q : List UInt8) (h : R.length ≤ 32) (hq : Q.length ≤ 32) : (bRow R).size = (bRow Q).size := by rw [bRow_size R h, bRow_size Q hq]
/-- what a hash and a number are told as -/
abbrev HN (R : List UInt8) (e : Int) : Value := .tuple #[.agg (bRow R), .int .i64 e]
set_option maxHeartbeats 1000000 in
set_option maxRecDepth 100000 in
theorem key_no (who : Int) (w : World) (h : who < 0 ∨ 64 < who) :
    Calls Tryz.prog 202 #[.int .i64 who] w fun e w' => e = .returned (HN Seal.hz 20) ∧ Below w.heap.size w w' := by
  rw [show HN Seal.hz 20 = HN [] 20 by unfold HN; rw [bRow_hz]]
  have I24 := Lib.hid (i24_any [] (by simp))
  rcases h with h | h
  all_goals
    go_enter Tryz.func202, Tryz.ntmps202
    go_wp2_with (refine wpList_store_named rfl 62 (.tmp 2) (.tmp 12) rfl w.heap.size (bRow []) rfl rfl (bRow []) (Holds.new2 rfl rfl) I24.out rfl (bRow_one _) ?_; intro w5 hw5; have Hw5 := Lib.hid hw5; clear hw5)
    have hR : Holds w5 w.heap.size (bRow []) := by rw [Hw5.out]; exact (Holds.new _ _ _).row _
    exact bodyPost_ret (results_row_tmp rfl _ _ w.heap.size (bRow []) _ rfl hR Tryz.underlying62 rfl I24.out _ rfl) rfl ⟨rfl, by rw [Hw5.out]; exact below_setRow ((Below.refl _ _).alloc (Nat.le_refl _) _) (Nat.le_refl _) _⟩
set_option maxHeartbeats 1000000 in
set_option maxRecDepth 100000 in
theorem key_yes (who : Int) (w : World) (hT : Tab w) (h0 : 0 ≤ who) (h1 : who ≤ 64) :
    Calls Tryz.prog 202 #[.int .i64 who] w fun e w' => e = .returned (HN (Seal.keyL who.toNat) 0) ∧ Below w.heap.size w w' := by
  have HT := Lib.hid hT
  have hpos := hT.pos
  obtain ⟨R, hR⟩ : ∃ R, R = Seal.keyL who.toNat := ⟨_, rfl⟩
  have hR32 : R.length ≤ 32 := by rw [hR, Seal.keyL_len]; omega
  have I24 := Lib.hid (i24_any R hR32)
  have Hold := Lib.hid (bRow_same [] R (by simp) hR32)
  have hnl : (Oct.num who.toNat).length ≤ 9 := Oct.num_length_le who.toNat
  rw [← hR]
  have HR := Lib.hid hR
  clear hT hR hR32
  go_enter Tryz.func202, Tryz.ntmps202
  go_wp2_with fail
  refine calls_named ?_
  intro w1 hw1
  have hH : Holds w1 w.heap.size (bRow []) := by rw [hw1]; exact Holds.new _ _ _
  have hb1 : Below w.heap.size w w1 := by rw [hw1]; exact (Below.refl _ _).alloc (Nat.le_refl _) _
  clear hw1
  refine (Number_pos _ _ h0 (by omega)).mono ?_
  rintro e w2 ⟨rfl, hb2⟩
  have hH2 := hH.below hb2 hH.lt
  have hb2 := hb1.trans (hb2.mono hb1.size)
  have HH2 := Lib.hid hH2
  clear hH hH2
  have hbig : ¬ (9223372036854775807 < 3 + (Oct.num who.toNat).length) := by omega
  go_wp2_with fail
  have hsz : ((⟨#[107, 101, 121]⟩ : ByteArray) ++ (⟨(Oct.num who.toNat).toArray⟩ : ByteArray)).size = 3 + (Oct.num who.toNat).length := by
    rw [ByteArray.size_append]; rfl
  have hdl : ((⟨#[107, 101, 121]⟩ : ByteArray) ++ (⟨(Oct.num who.toNat).toArray⟩ : ByteArray)).data.toList = [107, 101, 121] ++ Oct.num who.toNat := by rw [ByteArray.data_append]; simp
  refine (sum_any _ w2 (HT.out.below hb2 hpos) (by rw [hsz]; omega)).mono ?_
  rw [hdl, show Sha.sum ([107, 101, 121] ++ Oct.num who.toNat) = R from HR.out.symm]
  rintro e w3 ⟨rfl, hb3⟩
  have HH3 := Lib.hid (HH2.out.below hb3 HH2.out.lt)
  have hb3 := hb2.trans (hb3.mono hb2.size)
  clear hsz hdl
  go_wp2_with (refine wpList_store_named rfl 62 (.tmp 2) (.tmp 20) rfl w.heap.size (bRow R) rfl rfl _ HH3.out I24.out Hold.out (bRow_one _) ?_; intro w5 hw5; have Hw5 := Lib.hid hw5; clear hw5)
  have hR5 : Holds w5 w.heap.size (bRow R) := by rw [Hw5.out]; exact HH3.out.row _
  exact bodyPost_ret (results_row_tmp rfl _ _ w.heap.size (bRow R) _ rfl hR5 Tryz.underlying62 rfl I24.out _ rfl) rfl ⟨rfl, by rw [Hw5.out]; exact below_setRow hb3 (Nat.le_refl _) _⟩
end Go.Proofs.YtalfnadejpmjnaaGreatDoor

/- ---- SealTag ---- -/
namespace Go.Proofs.YtalfnadejpmjnaaGreatDoor
open Go.RowKit
set_option linter.unusedVariables false
set_option linter.unusedSimpArgs false

/-- one row copied onto another one's head; the world behind it by a name -/
theorem wpList_copy_rows {P : Program} {w : World} {ops : Array Oper} {rest : List Oper} {o : Oper} {a : Act} {Q : Exit → Act → World → Prop} (hgd : o.guard = none) (d s : Operand) (dT sT elem : TypeId)
    (ho : o.op = .call { callee := .builtin .copy, args := #[d, s], argTypes := #[dT, sT] }) (hu : P.underlying dT = some (.slice elem)) (hz : (P.info? elem).map (·.size) = some 1)
    (g gs dLen dCap sLen sCap : Nat) (cur : Array Value) (cs : List Value) (hd : a.eval d = .slice (some ⟨g, 0, none⟩) dLen dCap) (hs : a.eval s = .slice (some ⟨gs, 0, none⟩) sLen sCap)
    (hg : Holds w g cur) (hgs : Holds w gs cs.toArray) (hn : cs.length = Nat.min sLen dLen) (hfit : cs.length ≤ cur.size) (h1 : ∀ v ∈ cs, v.oneCell' = true)
    (h : ∀ w', w' = w.setRow g (cs ++ cur.toList.drop cs.length).toArray → wpList P ops Q rest (a.put o.dst (goInt cs.length)) w') : wpList P ops Q (o :: rest) a w := by
  obtain ⟨T, hT⟩ := hg
  have hr := run_copy_row (P := P) w dT sT o.type elem g 0 dLen dCap ⟨gs, 0, none⟩ sLen sCap cur T cs hu hz hT hn (fun j v hj => by
    have e : (⟨gs, 0, none⟩ : Addr).add j = ⟨gs, j, none⟩ := by unfold Addr.add; split <;> simp_all
    rw [e, hgs.cell j]; simpa using hj) (by simpa using hfit) h1
  refine wpList_plain hgd fun K hK => ?_
  unfold Oper.wp execOp
  simp only [ho, resolve, invoke, builtin, Sem.run_bind, Sem.run_pure, Result.andThen_ok, List.map_toArray, List.map_cons, List.map_nil, hd, hs, hr]
  refine hK _ _ (h _ ?_)
  simp
set_option maxRecDepth 20000 in
/-- bytes of a row as a text -/
theorem row_text (W : World) (g n : Nat) (h : List UInt8) (hh : h.length = n) (hg : Holds W g (yRow h)) :
    (Go.convert 85 9 (.slice (some ⟨g, 0, none⟩) n n)).run Tryz.prog W = .ok (S h) W := by
  have := run_convert_bytes_arg (P := Tryz.prog) W 85 5 Tryz.underlying85 Tryz.underlying5 g 0 n n (h.map fun b => (b.toNat : Int)) (by rw [List.length_map, hh]) (fun i hi => by
    rw [Nat.zero_add, hg.cell i]
    exact yRow_at h i (by omega)) 9 Tryz.underlying9
  rw [bytes_of_] at this
  exact this
theorem yRow_one (l : List UInt8) : ∀ v ∈ (yRow l).toList, v.oneCell' = true := by unfold yRow; simp [Value.oneCell']
theorem yRow_toList (l : List UInt8) : (yRow l).toList.toArray = yRow l := by simp
set_option maxHeartbeats 1000000 in
set_option maxRecDepth 100000 in
theorem tag_any (k : List UInt8) (dom : Int) (body : ByteArray) (w : World) (hT : Tab w) (hk : k.length = 32) (h0 : 0 ≤ dom) (h1 : dom ≤ 255) (hs : body.size ≤ 1152921504606846900) :
    Calls Tryz.prog 203 #[.agg (bRow k), .int .u8 dom, .string body] w fun e w' => e = .returned (.agg (bRow (Seal.tagL k dom.toNat body.data.toList))) ∧ Below w.heap.size w w' := by
  have HT := Lib.hid hT
  have hpos := hT.pos
  obtain ⟨R, hR⟩ : ∃ R, R = Seal.tagL k dom.toNat body.data.toList := ⟨_, rfl⟩
  have hR32 : R.length ≤ 32 := by rw [hR, Seal.tagL_len]; omega
  have I24 := Lib.hid (i24_any R hR32)
  have Hold := Lib.hid (bRow_same [] R (by simp) hR32)
  have I5 : Hid ((Tryz.prog.info? 5).map (·.size) = some 1) := (by kernel_rfl : (Tryz.prog.info? 5).map (·.size) = some 1)
  rw [← hR]
  have HR := Lib.hid hR
  have HK := Lib.hid hk
  obtain ⟨hd, hhd⟩ : ∃ hd, hd = k ++ [UInt8.ofNat dom.toNat] := ⟨_, rfl⟩
  have hhl : hd.length = 33 := by rw [hhd]; simp [hk]
  have HD := Lib.hid hhd
  have HL := Lib.hid hhl
  clear hT hR hR32 hk hhd
  go_enter Tryz.func203, Tryz.ntmps203
  go_wp2_with fail
  refine region_tail 2 (by kernel_rfl) (by kernel_rfl) ?_
  intro wd hwd
  have k0 : Holds wd w.heap.size (yRow k) := by rw [hwd, ← bRow_yRow k HK.out]; exact ((Holds.new2 rfl rfl).alloc _).alloc _
  have k1 : Holds wd (w.heap.size + 1) (bRow []) := by rw [hwd]; exact (Holds.new2 (by simp) rfl).alloc _
  have k2 : Holds wd (w.heap.size + 1 + 1) (yRow (List.replicate 33 0)) := by rw [hwd]; exact Holds.new2 (by simp) rfl
  have kb : Below w.heap.size w wd := by rw [hwd]; exact ((((Below.refl _ _).alloc (Nat.le_refl _) _).alloc (by simp) _).alloc (by simp; omega) _).drew
  clear hwd
  simp only [List.take_succ_cons, List.take_zero, List.drop_succ_cons, List.drop_zero]
  repeat still_step
  refine wpStill_nil ?_
  have hkl := HK.out
  refine wpList_copy_rows rfl (.tmp 8) (.tmp 9) _ _ 5 rfl Tryz.underlying85 I5.out (w.heap.size + 1 + 1) w.heap.size 33 33 32 32 (yRow (List.replicate 33 0)) (yRow k).toList rfl rfl k2 (by rw [yRow_toList]; exact k0)
    (by rw [Array.length_toList, yRow_size, hkl]; rfl) (by rw [Array.length_toList, yRow_size, yRow_size, hkl, List.length_replicate]; omega) (yRow_one k) ?_
  intro w4 hw4
  have c2 : Holds w4 (w.heap.size + 1 + 1) (yRow (k ++ [0])) := by
    rw [hw4]
    have := k2.row ((yRow k).toList ++ (yRow (List.replicate 33 0)).toList.drop (yRow k).toList.length).toArray
    have e : ((yRow k).toList ++ (yRow (List.replicate 33 0)).toList.drop (yRow k).toList.length).toArray = yRow (k ++ [0]) := by
      rw [Array.length_toList, yRow_size, hkl]
      unfold yRow
      simp
    rw [e] at this ⊢
    exact this
  have c1 : Holds w4 (w.heap.size + 1) (bRow []) := by rw [hw4]; exact k1.rowFar (by omega) _
  have cb : Below w.heap.size w w4 := by rw [hw4]; exact below_setRow kb (by omega) _
  have q := c2.cell 32
  have qf := c2.free 32
  have hd0 : (yRow (k ++ [0]))[32]? = some (.int .u8 0) := by
    rw [yRow_at _ 32 (by simp [hkl])]
    simp [List.getD, hkl]
  rw [hd0] at q
  have c3 := c2.set_ 32 (.int .u8 dom)
  have hset : (yRow (k ++ [0])).setIfInBounds 32 (.int .u8 dom) = yRow hd := by
    have := yRow_set k [] 0 (UInt8.ofNat dom.toNat) dom (by rw [UInt8.toNat_ofNat']; omega)
    rw [hkl] at this
    rw [this, HD.out]
  rw [hset] at c3
  have c1s := Lib.hid (c1.far (p := ⟨w.heap.size + 1 + 1, 32, none⟩) (show w.heap.size + 1 ≠ w.heap.size + 1 + 1 by omega) (Value.int .u8 dom))
  have cbs := cb.setCell (p := ⟨w.heap.size + 1 + 1, 32, none⟩) (show w.heap.size ≤ w.heap.size + 1 + 1 by omega) (Value.int .u8 dom)
  have C3 := Lib.hid c3
  clear hw4 k0 k1 k2 kb c2 c1 cb hd0 hset c3 hkl
  go_wp2_with fail
  rw [row_text _ _ 33 hd HL.out C3.out]
  have hlen := HL.out
  have hbig : ¬ (9223372036854775807 < hd.length + body.size) := by omega
  clear hlen
  go_wp2_with fail
  have hsz : ((⟨hd.toArray⟩ : ByteArray) ++ body).size = 33 + body.size := by rw [ByteArray.size_append, ← HL.out]; rfl
  have hdl : ((⟨hd.toArray⟩ : ByteArray) ++ body).data.toList = hd ++ body.data.toList := by rw [ByteArray.data_append]; simp
  refine calls_named ?_
  intro w5 hw5
  have c1s := (show Holds w5 (w.heap.size + 1) (bRow []) by rw [hw5]; exact c1s.out)
  have cbs := (show Below w.heap.size w w5 by rw [hw5]; exact cbs)
  clear hw5
  refine (sum_any _ w5 (HT.out.below cbs hpos) (by rw [hsz]; omega)).mono ?_
  rw [hdl, show Sha.sum (hd ++ body.data.toList) = R by rw [HR.out, HD.out]; unfold Seal.tagL; rw [List.append_assoc]; rfl]
  rintro e w6 ⟨rfl, hb6⟩
  have HH6 := Lib.hid (c1s.below hb6 c1s.lt)
  have hb6 := cbs.trans (hb6.mono cbs.size)
  clear hsz hdl c1s cbs
  go_wp2_with (refine wpList_store_named rfl 62 (.tmp 6) (.tmp 17) rfl (w.heap.size + 1) (bRow R) rfl rfl _ HH6.out I24.out Hold.out (bRow_one _) ?_; intro w7 hw7; have Hw7 := Lib.hid hw7; clear hw7)
  obtain ⟨T5, hT5⟩ := (show Holds w7 (w.heap.size + 1) (bRow R) from by rw [Hw7.out]; exact HH6.out.row _)
  exact bodyPost_ret (results_cell_row rfl _ _ (w.heap.size + 1) T5 _ (0, 0) _ rfl hT5 Tryz.underlying62 rfl I24.out) rfl ⟨rfl, by rw [Hw7.out]; exact below_setRow hb6 (by omega) _⟩
end Go.Proofs.YtalfnadejpmjnaaGreatDoor

/- ---- SealTag2 ---- -/
namespace Go.Proofs.YtalfnadejpmjnaaGreatDoor
open Go.RowKit
set_option linter.unusedVariables false
set_option linter.unusedSimpArgs false

theorem HN_hz (e : Int) : HN Seal.hz e = HN [] e := by unfold HN; rw [bRow_hz]
set_option maxHeartbeats 1000000 in
set_option maxRecDepth 100000 in
theorem Tag_who (who dom : Int) (body : ByteArray) (w : World) (h : who < 0 ∨ 64 < who) :
    Calls Tryz.prog 198 #[.int .i64 who, .int .i64 dom, .string body] w fun e w' => e = .returned (HN Seal.hz 20) ∧ Below w.heap.size w w' := by
  have I24 := Lib.hid (i24_any [] (by simp))
  rw [HN_hz]
  go_enter Tryz.func198, Tryz.ntmps198
  go_wp2_with fail
  refine calls_named ?_
  intro w1 hw1
  have hH : Holds w1 w.heap.size (bRow []) := by rw [hw1]; exact Holds.new _ _ _
  have hb1 : Below w.heap.size w w1 := by rw [hw1]; exact (Below.refl _ _).alloc (Nat.le_refl _) _
  clear hw1
  have hk := key_no who w1 h
  rw [HN_hz] at hk
  refine hk.mono ?_
  rintro e w2 ⟨rfl, hb2⟩
  have HH2 := Lib.hid (hH.below hb2 hH.lt)
  have hb2 := hb1.trans (hb2.mono hb1.size)
  clear hk hH
  go_wp2_with (first
    | (refine wpList_store_named rfl 62 (.tmp 8) (.tmp 13) rfl w2.heap.size (bRow []) rfl rfl (bRow []) (Holds.new2 rfl rfl) I24.out rfl (bRow_one _) ?_; intro w5 hw5
       have H5 := Lib.hid (show Holds w5 w.heap.size (bRow []) by rw [hw5]; exact (HH2.out.alloc _).rowFar (by have := HH2.out.lt; omega) _)
       have hb5 := (show Below w.heap.size w w5 by rw [hw5]; exact below_setRow (hb2.alloc hb2.size _) hb2.size _)
       clear hw5)
    | (refine wpList_store_named rfl 62 (.tmp 6) (.tmp 17) rfl w.heap.size (bRow []) rfl rfl (bRow []) H5.out I24.out rfl (bRow_one _) ?_; intro w7 hw7; have Hw7 := Lib.hid hw7; clear hw7))
  have hR7 : Holds w7 w.heap.size (bRow []) := by rw [Hw7.out]; exact H5.out.row _
  exact bodyPost_ret (results_row_tmp rfl _ _ w.heap.size (bRow []) _ rfl hR7 Tryz.underlying62 rfl I24.out _ rfl) rfl ⟨rfl, by rw [Hw7.out]; exact below_setRow hb5 (Nat.le_refl _) _⟩
set_option maxHeartbeats 1000000 in
set_option maxRecDepth 100000 in
theorem Tag_dom (who dom : Int) (body : ByteArray) (w : World) (h0 : 0 ≤ who) (h1 : who ≤ 64) (hT : Tab w) (h : dom < 1 ∨ 4 < dom) :
    Calls Tryz.prog 198 #[.int .i64 who, .int .i64 dom, .string body] w fun e w' => e = .returned (HN Seal.hz 2) ∧ Below w.heap.size w w' := by
  obtain ⟨K, hK⟩ : ∃ K, K = Seal.keyL who.toNat := ⟨_, rfl⟩
  have hK32 : K.length ≤ 32 := by rw [hK, Seal.keyL_len]; omega
  have I24 := Lib.hid (i24_any [] (by simp))
  have I24k := Lib.hid (i24_any K hK32)
  have Hold := Lib.hid (bRow_same [] K (by simp) hK32)
  have key := fun (w1 : World) (hb1 : Below w.heap.size w w1) => key_yes who w1 (hT.below hb1 hT.pos) h0 h1
  rw [← hK] at key
  have KEY := Lib.hid key
  rw [HN_hz]
  clear hK hK32 key hT
  rcases h with h | h
  all_goals
    go_enter Tryz.func198, Tryz.ntmps198
    go_wp2_with fail
    refine calls_named ?_
    intro w1 hw1
    have hH : Holds w1 w.heap.size (bRow []) := by rw [hw1]; exact Holds.new _ _ _
    have hb1 : Below w.heap.size w w1 := by rw [hw1]; exact (Below.refl _ _).alloc (Nat.le_refl _) _
    clear hw1
    refine (KEY.out w1 hb1).mono ?_
    rintro e w2 ⟨rfl, hb2⟩
    have HH2 := Lib.hid (hH.below hb2 hH.lt)
    have hb2 := hb1.trans (hb2.mono hb1.size)
    clear hH
    go_wp2_with (first
      | (refine wpList_store_named rfl 62 (.tmp 8) (.tmp 13) rfl w2.heap.size (bRow K) rfl rfl (bRow []) (Holds.new2 rfl rfl) I24k.out Hold.out (bRow_one _) ?_; intro w5 hw5
         have H5 := Lib.hid (show Holds w5 w.heap.size (bRow []) by rw [hw5]; exact (HH2.out.alloc _).rowFar (by have := HH2.out.lt; omega) _)
         have hb5 := (show Below w.heap.size w w5 by rw [hw5]; exact below_setRow (hb2.alloc hb2.size _) hb2.size _)
         clear hw5)
      | (refine wpList_store_named rfl 62 (.tmp 6) (.tmp 25) rfl w.heap.size (bRow []) rfl rfl (bRow []) H5.out I24.out rfl (bRow_one _) ?_; intro w7 hw7; have Hw7 := Lib.hid hw7; clear hw7))
    have hR7 : Holds w7 w.heap.size (bRow []) := by rw [Hw7.out]; exact H5.out.row _
    exact bodyPost_ret (results_row_tmp rfl _ _ w.heap.size (bRow []) _ rfl hR7 Tryz.underlying62 rfl I24.out _ rfl) rfl ⟨rfl, by rw [Hw7.out]; exact below_setRow hb5 (Nat.le_refl _) _⟩
set_option maxHeartbeats 1000000 in
set_option maxRecDepth 100000 in
theorem Tag_yes (who dom : Int) (body : ByteArray) (w : World) (hT : Tab w) (h0 : 0 ≤ who) (h1 : who ≤ 64) (h2 : 1 ≤ dom) (h3 : dom ≤ 4) (hs : body.size ≤ 1152921504606846900) :
    Calls Tryz.prog 198 #[.int .i64 who, .int .i64 dom, .string body] w fun e w' => e = .returned (HN (Seal.tagL (Seal.keyL who.toNat) dom.toNat body.data.toList) 0) ∧ Below w.heap.size w w' := by
  have HT := Lib.hid hT
  have hpos := hT.pos
  obtain ⟨K, hK⟩ : ∃ K, K = Seal.keyL who.toNat := ⟨_, rfl⟩
  have hK32 : K.length ≤ 32 := by rw [hK, Seal.keyL_len]; omega
  have hKl : K.length = 32 := by rw [hK, Seal.keyL_len]
  have I24k := Lib.hid (i24_any K hK32)
  have Hold := Lib.hid (bRow_same [] K (by simp) hK32)
  have key := fun (w1 : World) (hb1 : Below w.heap.size w w1) => key_yes who w1 (hT.below hb1 hT.pos) h0 h1
  rw [← hK] at key
  have KEY := Lib.hid key
  have HKl := Lib.hid hKl
  rw [← hK]
  clear hK hK32 key hT hKl
  obtain ⟨R, hR⟩ : ∃ R, R = Seal.tagL K dom.toNat body.data.toList := ⟨_, rfl⟩
  have hR32 : R.length ≤ 32 := by rw [hR, Seal.tagL_len]; omega
  have I24 := Lib.hid (i24_any R hR32)
  have HoldR := Lib.hid (bRow_same [] R (by simp) hR32)
  have hut : IntKind.u8.wrap dom = dom := by rw [IntKind.wrap_u8]; omega
  rw [← hR]
  have HR := Lib.hid hR
  clear hR hR32
  go_enter Tryz.func198, Tryz.ntmps198
  go_wp2_with fail
  refine calls_named ?_
  intro w1 hw1
  have hH : Holds w1 w.heap.size (bRow []) := by rw [hw1]; exact Holds.new _ _ _
  have hb1 : Below w.heap.size w w1 := by rw [hw1]; exact (Below.refl _ _).alloc (Nat.le_refl _) _
  clear hw1
  refine (KEY.out w1 hb1).mono ?_
  rintro e w2 ⟨rfl, hb2⟩
  have HH2 := Lib.hid (hH.below hb2 hH.lt)
  have hb2 := hb1.trans (hb2.mono hb1.size)
  clear hH
  go_wp2_with (first
    | (refine wpList_store_named rfl 62 (.tmp 8) (.tmp 13) rfl w2.heap.size (bRow K) rfl rfl (bRow []) (Holds.new2 rfl rfl) I24k.out Hold.out (bRow_one _) ?_; intro w5 hw5
       have H5 := Lib.hid (show Holds w5 w.heap.size (bRow []) by rw [hw5]; exact (HH2.out.alloc _).rowFar (by have := HH2.out.lt; omega) _)
       have hb5 := (show Below w.heap.size w w5 by rw [hw5]; exact below_setRow (hb2.alloc hb2.size _) hb2.size _)
       obtain ⟨T5, hT5⟩ := (show Holds w5 w2.heap.size (bRow K) by rw [hw5]; exact (Holds.new2 rfl rfl).row _)
       have G5 := Lib.hid hT5
       clear hw5 hT5)
    | (refine wpList_load_row rfl 62 (.tmp 8) rfl w2.heap.size rfl T5 _ (0, 0) _ G5.out Tryz.underlying62 rfl I24k.out ?_))
  refine (tag_any K dom body w5 (HT.out.below hb5 hpos) HKl.out (by omega) (by omega) hs).mono ?_
  rw [← HR.out]
  rintro e w6 ⟨rfl, hb6⟩
  have H6 := Lib.hid (H5.out.below hb6 H5.out.lt)
  have hb6 := hb5.trans (hb6.mono hb5.size)
  go_wp2_with (refine wpList_store_named rfl 62 (.tmp 6) (.tmp 30) rfl w.heap.size (bRow R) rfl rfl (bRow []) H6.out I24.out HoldR.out (bRow_one _) ?_; intro w7 hw7; have Hw7 := Lib.hid hw7; clear hw7)
  have hR7 : Holds w7 w.heap.size (bRow R) := by rw [Hw7.out]; exact H6.out.row _
  exact bodyPost_ret (results_row_tmp rfl _ _ w.heap.size (bRow R) _ rfl hR7 Tryz.underlying62 rfl I24.out _ rfl) rfl ⟨rfl, by rw [Hw7.out]; exact below_setRow hb6 (Nat.le_refl _) _⟩
set_option maxRecDepth 20000 in
theorem Tag_any (who dom : Int) (body : ByteArray) (w : World) (hT : Tab w) (hs : body.size ≤ 1152921504606846900) :
    Calls Tryz.prog 198 #[.int .i64 who, .int .i64 dom, .string body] w fun e w' => e = .returned (HN (Seal.tag who dom body.data.toList).1 (Seal.tag who dom body.data.toList).2) ∧ Below w.heap.size w w' := by
  unfold Seal.tag
  by_cases h : who < 0 ∨ 64 < who
  · rw [if_pos h]; exact Tag_who who dom body w h
  · rw [if_neg h]
    by_cases h2 : dom < 1 ∨ 4 < dom
    · rw [if_pos h2]; exact Tag_dom who dom body w (by omega) (by omega) hT h2
    · rw [if_neg h2]; exact Tag_yes who dom body w hT (by omega) (by omega) (by omega) (by omega) hs
end Go.Proofs.YtalfnadejpmjnaaGreatDoor

/- ---- SealTag3 ---- -/
namespace Go.Proofs.YtalfnadejpmjnaaGreatDoor
open Go.RowKit
set_option linter.unusedVariables false
set_option linter.unusedSimpArgs false

end Go.Proofs.YtalfnadejpmjnaaGreatDoor

/- ---- SealCheck ---- -/
namespace Go.Proofs.YtalfnadejpmjnaaGreatDoor
open Go.RowKit
set_option linter.unusedVariables false
set_option linter.unusedSimpArgs false

namespace Seal
def check2 (who dom : Int) (body t : List UInt8) : Int := if (tag who dom body).2 ≠ 0 then (tag who dom body).2 else if (tag who dom body).1 ≠ t then 21 else 0
end Seal

set_option maxHeartbeats 1000000 in
set_option maxRecDepth 100000 in
theorem Check_any (who dom : Int) (body : ByteArray) (t : List UInt8) (w : World) (hT : Tab w) (ht : t.length = 32) (hs : body.size ≤ 140737488354900) :
    Calls Tryz.prog 183 #[.int .i64 who, .int .i64 dom, .string body, .agg (bRow t)] w fun e w' => e = .returned (.int .i64 (Seal.check2 who dom body.data.toList t)) ∧ Below w.heap.size w w' := by
  have hlen := Seal.tag_len who dom body.data.toList
  have tagc := fun (w1 : World) (hb : Below w.heap.size w w1) => Tag_any who dom body w1 (hT.below hb hT.pos) (by omega)
  unfold Seal.check2
  generalize (Seal.tag who dom body.data.toList).1 = R at *
  generalize (Seal.tag who dom body.data.toList).2 = e0 at *
  have heqs : ∀ W, (Op.equalIn 10000 62 (.agg (bRow R)) (.agg (bRow t))).run Tryz.prog W = .ok (decide (R = t)) W := fun W => hash_eq W R t hlen ht
  have I24 := Lib.hid (i24_any R (by omega))
  have I24t := Lib.hid (i24_any t (by omega))
  have Hold := Lib.hid (bRow_same [] R (by simp) (by omega))
  have TAG := Lib.hid tagc
  clear tagc hlen ht hT
  by_cases he : e0 = 0
  · have hb : (e0 != 0) = false := by simp [he]
    by_cases hR : R = t
    · have hd : decide (R = t) = true := by simp [hR]
      rw [if_neg (by simpa using he), if_neg (by simpa using hR)]
      have HE := Lib.hid he
      have HR := Lib.hid hR
      clear he hR
      go_enter Tryz.func183, Tryz.ntmps183
      go_wp2_with fail
      refine calls_named ?_
      intro w1 hw1
      have hH : Holds w1 w.heap.size (bRow t) := by rw [hw1]; exact Holds.new _ _ _
      have hb1 : Below w.heap.size w w1 := by rw [hw1]; exact (Below.refl _ _).alloc (Nat.le_refl _) _
      clear hw1
      refine (TAG.out w1 hb1).mono ?_
      rintro e w2 ⟨rfl, hb2⟩
      have hH2 := hH.below hb2 hH.lt
      have HH2 := Lib.hid hH2
      have hb2 := hb1.trans (hb2.mono hb1.size)
      have hlt := hH2.lt
      clear hH hH2
      go_wp2_with (first
        | (refine wpList_store_named rfl 62 (.tmp 9) (.tmp 16) rfl w2.heap.size (bRow R) rfl rfl (bRow []) (Holds.new2 rfl rfl) I24.out Hold.out (bRow_one _) ?_; intro w5 hw5
           obtain ⟨T5, hT5⟩ := (show Holds w5 w2.heap.size (bRow R) by rw [hw5]; exact (Holds.new2 rfl rfl).row _)
           obtain ⟨T6, hT6⟩ := (show Holds w5 w.heap.size (bRow t) by rw [hw5]; exact (HH2.out.alloc _).rowFar (by omega) _)
           have G5 := Lib.hid hT5
           have G6 := Lib.hid hT6
           have hb5 := (show Below w.heap.size w w5 by rw [hw5]; exact below_setRow (hb2.alloc hb2.size _) hb2.size _)
           clear hw5 hT5 hT6)
        | (refine wpList_load_row rfl 62 (.tmp 9) rfl w2.heap.size rfl T5 _ (0, 0) _ G5.out Tryz.underlying62 rfl I24.out ?_)
        | (refine wpList_load_row rfl 62 (.tmp 7) rfl w.heap.size rfl T6 _ (0, 0) _ G6.out Tryz.underlying62 rfl I24t.out ?_))
      go_ret
      exact ⟨rfl, hb5⟩
    · have hd : decide (R = t) = false := by simp [hR]
      rw [if_neg (by simpa using he), if_pos hR]
      have HE := Lib.hid he
      have HR := Lib.hid hR
      clear he hR
      go_enter Tryz.func183, Tryz.ntmps183
      go_wp2_with fail
      refine calls_named ?_
      intro w1 hw1
      have hH : Holds w1 w.heap.size (bRow t) := by rw [hw1]; exact Holds.new _ _ _
      have hb1 : Below w.heap.size w w1 := by rw [hw1]; exact (Below.refl _ _).alloc (Nat.le_refl _) _
      clear hw1
      refine (TAG.out w1 hb1).mono ?_
      rintro e w2 ⟨rfl, hb2⟩
      have hH2 := hH.below hb2 hH.lt
      have HH2 := Lib.hid hH2
      have hb2 := hb1.trans (hb2.mono hb1.size)
      have hlt := hH2.lt
      clear hH hH2
      go_wp2_with (first
        | (refine wpList_store_named rfl 62 (.tmp 9) (.tmp 16) rfl w2.heap.size (bRow R) rfl rfl (bRow []) (Holds.new2 rfl rfl) I24.out Hold.out (bRow_one _) ?_; intro w5 hw5
           obtain ⟨T5, hT5⟩ := (show Holds w5 w2.heap.size (bRow R) by rw [hw5]; exact (Holds.new2 rfl rfl).row _)
           obtain ⟨T6, hT6⟩ := (show Holds w5 w.heap.size (bRow t) by rw [hw5]; exact (HH2.out.alloc _).rowFar (by omega) _)
           have G5 := Lib.hid hT5
           have G6 := Lib.hid hT6
           have hb5 := (show Below w.heap.size w w5 by rw [hw5]; exact below_setRow (hb2.alloc hb2.size _) hb2.size _)
           clear hw5 hT5 hT6)
        | (refine wpList_load_row rfl 62 (.tmp 9) rfl w2.heap.size rfl T5 _ (0, 0) _ G5.out Tryz.underlying62 rfl I24.out ?_)
        | (refine wpList_load_row rfl 62 (.tmp 7) rfl w.heap.size rfl T6 _ (0, 0) _ G6.out Tryz.underlying62 rfl I24t.out ?_))
      go_ret
      exact ⟨rfl, hb5⟩
  · have hb : (e0 != 0) = true := by simpa using he
    rw [if_pos he]
    have HE := Lib.hid he
    clear he
    go_enter Tryz.func183, Tryz.ntmps183
    go_wp2_with fail
    refine calls_named ?_
    intro w1 hw1
    have hH : Holds w1 w.heap.size (bRow t) := by rw [hw1]; exact Holds.new _ _ _
    have hb1 : Below w.heap.size w w1 := by rw [hw1]; exact (Below.refl _ _).alloc (Nat.le_refl _) _
    clear hw1
    refine (TAG.out w1 hb1).mono ?_
    rintro e w2 ⟨rfl, hb2⟩
    have hH2 := hH.below hb2 hH.lt
    have HH2 := Lib.hid hH2
    have hb2 := hb1.trans (hb2.mono hb1.size)
    have hlt := hH2.lt
    clear hH hH2
    go_wp2_with (first
      | (refine wpList_store_named rfl 62 (.tmp 9) (.tmp 16) rfl w2.heap.size (bRow R) rfl rfl (bRow []) (Holds.new2 rfl rfl) I24.out Hold.out (bRow_one _) ?_; intro w5 hw5
         obtain ⟨T5, hT5⟩ := (show Holds w5 w2.heap.size (bRow R) by rw [hw5]; exact (Holds.new2 rfl rfl).row _)
         obtain ⟨T6, hT6⟩ := (show Holds w5 w.heap.size (bRow t) by rw [hw5]; exact (HH2.out.alloc _).rowFar (by omega) _)
         have G5 := Lib.hid hT5
         have G6 := Lib.hid hT6
         have hb5 := (show Below w.heap.size w w5 by rw [hw5]; exact below_setRow (hb2.alloc hb2.size _) hb2.size _)
         clear hw5 hT5 hT6)
      | (refine wpList_load_row rfl 62 (.tmp 9) rfl w2.heap.size rfl T5 _ (0, 0) _ G5.out Tryz.underlying62 rfl I24.out ?_)
      | (refine wpList_load_row rfl 62 (.tmp 7) rfl w.heap.size rfl T6 _ (0, 0) _ G6.out Tryz.underlying62 rfl I24t.out ?_))
    go_ret
    exact ⟨rfl, hb5⟩
end Go.Proofs.YtalfnadejpmjnaaGreatDoor
