/- tx.Text. -/
import Derived.Test.YtdekcicgiflnbaaDoorTxBodies
import Derived.Deep.RegionHeld3
namespace Go.Proofs.YtdekcicgiflnbaaDoor
open Go.RowKit
set_option linter.unusedVariables false
set_option linter.unusedSimpArgs false

namespace Tx
def outer (t : Tx) (b : List UInt8) : List (List UInt8) := if t.lane = true then [b, t.tag, t.bY] else [b, t.tag]
def textE (t : Tx) : List UInt8 × Int := if t.bodyE.2 = 0 then Oct.listE (t.outer t.bodyE.1) else ([], t.bodyE.2)
end Tx
theorem hash_str4 (W : World) (g o : Nat) (h : List UInt8) (hh : h.length = 32) (hg : W.rangeAt g o (bRow h).toList) :
    (Go.convert 81 9 (.slice (some ⟨g, o, none⟩) 32 32)).run Tryd.prog W = .ok (S h) W := by
  have := run_convert_bytes_arg (P := Tryd.prog) W 81 5 Tryd.underlying81 Tryd.underlying5 g o 32 32 (h.map fun b => (b.toNat : Int)) (by rw [List.length_map, hh]) (fun i hi => by
    have e : (bRow h).toList[i]? = (yRow h)[i]? := by rw [bRow_yRow h hh]; simp
    have := hg i _ (e.trans (yRow_at h i (by omega)))
    exact this) 9 Tryd.underlying9
  rw [bytes_of_] at this
  exact this
theorem texts_new (W : World) (t : TypeId) (L : List (List UInt8)) : Texts (W.alloc (.cells (L.map S).toArray t)) (W.alloc (.cells (L.map S).toArray t)).heap.size (some ⟨W.heap.size, 0, none⟩) L := by
  intro hne
  refine ⟨W.heap.size, 0, rfl, by simp, fun i hi => ?_⟩
  have h := (Row.new W t (L.map S)).cell i (by simpa using hi)
  rw [Nat.zero_add, h]
  simp
theorem list_3 (a b c : List UInt8) (W : World) : Calls Tryd.prog 56 #[.slice (some ⟨W.heap.size, 0, none⟩) 3 3] (W.alloc (.cells #[S a, S b, S c] 9)) fun e w' => e = .returned (.tuple #[S (Oct.listE [a, b, c]).1, .int .i64 (Oct.listE [a, b, c]).2]) ∧ Below (W.alloc (.cells #[S a, S b, S c] 9)).heap.size (W.alloc (.cells #[S a, S b, S c] 9)) w' :=
  List_any _ 3 [a, b, c] _ (texts_new W 9 [a, b, c])
theorem list_2 (a b : List UInt8) (W : World) : Calls Tryd.prog 56 #[.slice (some ⟨W.heap.size, 0, none⟩) 2 2] (W.alloc (.cells #[S a, S b] 9)) fun e w' => e = .returned (.tuple #[S (Oct.listE [a, b]).1, .int .i64 (Oct.listE [a, b]).2]) ∧ Below (W.alloc (.cells #[S a, S b] 9)).heap.size (W.alloc (.cells #[S a, S b] 9)) w' :=
  List_any _ 2 [a, b] _ (texts_new W 9 [a, b])
theorem tx_step {w0 w w' : World} {g : Nat} {a b : List UInt8} {o1 o2 : Nat} (h1 : a.length = 32) (h2 : b.length = 32)
    (h : (Go.convert 81 9 (.slice (some ⟨g, o1, none⟩) 32 32)).run Tryd.prog w = .ok (S a) w ∧ (Go.convert 81 9 (.slice (some ⟨g, o2, none⟩) 32 32)).run Tryd.prog w = .ok (S b) w ∧ (w.rangeAt g o1 (bRow a).toList ∧ w.rangeAt g o2 (bRow b).toList ∧ Below w0.heap.size w0 w))
    (hb : Below w.heap.size w w') :
    (Go.convert 81 9 (.slice (some ⟨g, o1, none⟩) 32 32)).run Tryd.prog w' = .ok (S a) w' ∧ (Go.convert 81 9 (.slice (some ⟨g, o2, none⟩) 32 32)).run Tryd.prog w' = .ok (S b) w' ∧ (w'.rangeAt g o1 (bRow a).toList ∧ w'.rangeAt g o2 (bRow b).toList ∧ Below w0.heap.size w0 w') := by
  have hg := grownBy_of_below hb none
  have r1 : w'.rangeAt g o1 (bRow a).toList := fun j v hv => hg.cell (h.2.2.1 j v hv) (by simp)
  have r2 : w'.rangeAt g o2 (bRow b).toList := fun j v hv => hg.cell (h.2.2.2.1 j v hv) (by simp)
  exact ⟨hash_str4 w' g o1 a h1 r1, hash_str4 w' g o2 b h2 r2, r1, r2, h.2.2.2.2.grown hg h.2.2.2.2.size (fun k hk => by cases hk)⟩

theorem two_below' {w w1 w2 : World} (h1 : Below w.heap.size w w1) (h2 : Below w1.heap.size w1 w2) : Below w.heap.size w w2 := h1.grown (grownBy_of_below h2 none) h1.size (fun k hk => by cases hk)
set_option maxRecDepth 20000 in
set_option maxHeartbeats 800000 in
theorem text4_any (t : Tx) (ht : t.Ok) (w : World) :
    Calls Tryd.prog 16 #[t.v] w fun e w' => e = .returned (two (t.textE).1 (t.textE).2) ∧ Below w.heap.size w w' := by
  have hrow0 := Row.new w 25 t.cells
  have hrng := tx_range hrow0
  have hlen := Tx.cells_length ht
  have BD : Hid (∀ W, Calls Tryd.prog 14 #[.agg t.cells.toArray] W fun e w' => e = .returned (.tuple #[S t.bodyE.1, .int .i64 t.bodyE.2]) ∧ Below W.heap.size W w') := fun W => body_any t ht W
  have BX : Hid (∀ (W : World) (g : Nat) (T : TypeId), Row W g T t.cells → W.cell? ⟨g, 5, none⟩ = some (.bool t.lane) ∧ W.rangeAt g 8 (bRow t.bY).toList ∧ W.rangeAt g 40 (bRow t.tag).toList) := fun W g T h =>
    ⟨(tx_box ht h).2.2.2.2.2.1, (tx_hash_at ht h).1, (tx_hash_at ht h).2⟩
  have hT := ht.tag
  have hY := ht.bY
  have HT := Lib.hid hT
  have HY := Lib.hid hY
  have htx : t.bodyE.2 = 0 → t.lane = true → t.textE = Oct.listE [t.bodyE.1, t.tag, t.bY] := fun h1 h2 => by unfold Tx.textE Tx.outer; rw [if_pos h1, if_pos h2]
  have htx2 : t.bodyE.2 = 0 → t.lane = false → t.textE = Oct.listE [t.bodyE.1, t.tag] := fun h1 h2 => by unfold Tx.textE Tx.outer; rw [if_pos h1, if_neg (by rw [h2]; simp)]
  have htx3 : t.bodyE.2 ≠ 0 → t.textE = ([], t.bodyE.2) := fun h1 => by unfold Tx.textE; rw [if_neg h1]
  show Calls _ _ #[.agg t.cells.toArray] _ _
  generalize t.cells = C at *
  generalize t.textE = TE at *
  generalize hbe : t.bodyE = BE at *
  obtain ⟨bs, be⟩ := BE
  simp only at htx htx2 htx3 BD
  have Htx := Lib.hid htx
  have Htx2 := Lib.hid htx2
  have Htx3 := Lib.hid htx3
  have HL := Lib.hid hlen
  have Hrng := Lib.hid hrng
  have Hrow0 := Lib.hid hrow0
  clear hrow0 hrng hlen hT hY htx htx2 htx3 hbe ht
  by_cases he : be = 0
  · subst he
    rcases Bool.eq_false_or_eq_true t.lane with hl | hl
    · have Hlane := Lib.hid hl
      go_enter Tryd.func16, Tryd.ntmps16
      go_wp2_with (with_reducible show wpList _ _ _ (⟨_, .load 25 _, _, _, _, _⟩ :: _) _ _; refine wpList_load_tx rfl 25 (.tmp 1) rfl w.heap.size 0 rfl C _ Hrng.out Tryd.underlying25 rfl (by rw [tx_info, HL.out]) ?_)
      refine (BD.out _).mono ?_
      rintro _ w1 ⟨rfl, hb1⟩
      have hg1 := grownBy_of_below hb1 none
      have hr1 := Hrow0.out.kept hg1 (by simp)
      obtain ⟨c5, ry, rt⟩ := BX.out _ _ _ hr1
      have hbt1 := tx_below hg1
      have hS0 : (Go.convert 81 9 (.slice (some ⟨w.heap.size, 40, none⟩) 32 32)).run Tryd.prog w1.drew = .ok (S t.tag) w1.drew ∧ (Go.convert 81 9 (.slice (some ⟨w.heap.size, 8, none⟩) 32 32)).run Tryd.prog w1.drew = .ok (S t.bY) w1.drew ∧ (w1.drew.rangeAt w.heap.size 40 (bRow t.tag).toList ∧ w1.drew.rangeAt w.heap.size 8 (bRow t.bY).toList ∧ Below w.heap.size w w1.drew) :=
        ⟨hash_str4 w1.drew _ _ _ HT.out rt, hash_str4 w1.drew _ _ _ HY.out ry, rt, ry, hbt1.drew⟩
      have HS0 := Lib.hid hS0
      have LT : Hid (Calls Tryd.prog 56 #[.slice (some ⟨w1.heap.size, 0, none⟩) 3 3] (w1.alloc (.cells #[S bs, S t.tag, S t.bY] 9)).drew fun e w' => e = .returned (.tuple #[S (Oct.listE [bs, t.tag, t.bY]).1, .int .i64 (Oct.listE [bs, t.tag, t.bY]).2]) ∧ Below (w1.alloc (.cells #[S bs, S t.tag, S t.bY] 9)).drew.heap.size (w1.alloc (.cells #[S bs, S t.tag, S t.bY] 9)).drew w') := list_3 bs t.tag t.bY w1.drew
      have HA : Hid (Below w1.drew.heap.size w1.drew (w1.alloc (.cells #[S bs, S t.tag, S t.bY] 9)).drew) := Lib.hid ((Below.refl w1.drew.heap.size w1.drew).alloc (Nat.le_refl _) (.cells #[S bs, S t.tag, S t.bY] 9))
      clear hb1 hg1 hr1 ry rt hbt1 hS0
      go_wp2_with fail
      have hS0 := HS0.out
      have hS1 := tx_step HT.out HY.out HS0.out HA.out
      go_region_held3 (fun W => (Go.convert 81 9 (.slice (some ⟨w.heap.size, 40, none⟩) 32 32)).run Tryd.prog W = .ok (S t.tag) W ∧ (Go.convert 81 9 (.slice (some ⟨w.heap.size, 8, none⟩) 32 32)).run Tryd.prog W = .ok (S t.bY) W ∧ (W.rangeAt w.heap.size 40 (bRow t.tag).toList ∧ W.rangeAt w.heap.size 8 (bRow t.bY).toList ∧ Below w.heap.size w W))
        (first | assumption | exact hS0 | (exact tx_step HT.out HY.out (by assumption) (by assumption)) | exact hS1)
        (first
          | (go_at_call 56; with_reducible refine Calls.mono LT.out ?_; rintro e w' ⟨rfl, hb⟩))
      have hbe : Below w.heap.size w w' := HS0.out.2.2.2.2.grown (grownBy_of_below (two_below' HA.out hb) none) HS0.out.2.2.2.2.size (fun k hk => by cases hk)
      have Hbe := Lib.hid hbe
      clear hbe
      go_wp2_with fail
      go_ret2
      rw [Htx.out trivial Hlane.out]
      exact ⟨rfl, Hbe.out⟩
    · have Hlane := Lib.hid hl
      go_enter Tryd.func16, Tryd.ntmps16
      go_wp2_with (with_reducible show wpList _ _ _ (⟨_, .load 25 _, _, _, _, _⟩ :: _) _ _; refine wpList_load_tx rfl 25 (.tmp 1) rfl w.heap.size 0 rfl C _ Hrng.out Tryd.underlying25 rfl (by rw [tx_info, HL.out]) ?_)
      refine (BD.out _).mono ?_
      rintro _ w1 ⟨rfl, hb1⟩
      have hg1 := grownBy_of_below hb1 none
      have hr1 := Hrow0.out.kept hg1 (by simp)
      obtain ⟨c5, ry, rt⟩ := BX.out _ _ _ hr1
      have Hbt1 := Lib.hid (tx_below hg1)
      have hcv := hash_str4 w1 _ _ _ HT.out rt
      have LT := Lib.hid (list_2 bs t.tag w1)
      clear hb1 hg1 hr1 ry rt
      go_wp2_with fail
      refine LT.out.mono ?_
      rintro _ w2 ⟨rfl, hb2⟩
      have hbe : Below w.heap.size w w2 := (Hbt1.out.alloc Hbt1.out.size _).grown (grownBy_of_below hb2 none) (by have := Hbt1.out.size; simp; omega) (fun k hk => by cases hk)
      have Hbe := Lib.hid hbe
      clear hbe hb2 hcv
      go_wp2_with fail
      go_ret2
      rw [Htx2.out trivial Hlane.out]
      exact ⟨rfl, Hbe.out⟩
  · have hne : (be != 0) = true := by simpa using he
    have Hne := Lib.hid he
    clear he
    go_enter Tryd.func16, Tryd.ntmps16
    go_wp2_with (with_reducible show wpList _ _ _ (⟨_, .load 25 _, _, _, _, _⟩ :: _) _ _; refine wpList_load_tx rfl 25 (.tmp 1) rfl w.heap.size 0 rfl C _ Hrng.out Tryd.underlying25 rfl (by rw [tx_info, HL.out]) ?_)
    refine (BD.out _).mono ?_
    rintro _ w1 ⟨rfl, hb1⟩
    have Hbt1 := Lib.hid (tx_below (grownBy_of_below hb1 none))
    clear hb1
    go_wp2_with fail
    go_ret2
    rw [Htx3.out Hne.out]
    exact ⟨rfl, Hbt1.out⟩
end Go.Proofs.YtdekcicgiflnbaaDoor
