/- cavalcadelaw03.awake: what it returns. -/
import Derived.Test.YtdifbndpgbdkbaaDoorSealCheck
namespace Go.Proofs.YtdifbndpgbdkbaaDoor
open Go.RowKit
set_option linter.unusedVariables false
set_option linter.unusedSimpArgs false

/-- a row loaded by an operation that is guarded, and wanted -/
theorem wpList_load_wanted {P : Program} {ops : Array Oper} {rest : List Oper} {o : Oper} {a : Act} {w : World} {Q : Exit → Act → World → Prop} (hw : Region.wanted o (yielded ops a.tmps) = true) (ty : TypeId) (x : Operand) (ho : o.op = .load ty x)
    (g : Nat) (hx : a.eval x = .pointer (some ⟨g, 0, none⟩)) (t : TypeId) (cs : Array Value) (fr : Nat × Nat) (d : TypeDesc) (hg : w.heap[g]? = some (.cells cs t fr))
    (hu : P.underlying ty = some d) (hd : (match d with | .struct _ | .array _ _ => true | _ => false) = true) (hi : (P.info? ty).map (·.size) = some cs.size)
    (h : wpList P ops Q rest (a.put o.dst (.agg cs)) w) : wpList P ops Q (o :: rest) a w :=
  wpList_step fun K hK => by rw [if_pos hw]; exact wp_load_row ty x ho g hx t cs fr d hg hu hd hi (hK _ _ h)
theorem tag_a_ne : Seal.tagL (Seal.keyL 1) 1 [97] ≠ Seal.hz := by decide +kernel
theorem tag_a : Seal.tag 1 1 [97] = (Seal.tagL (Seal.keyL 1) 1 [97], 0) := by
  unfold Seal.tag
  rw [if_neg (by omega), if_neg (by omega)]
  rfl
theorem check_a : Seal.check2 1 1 [97] (Seal.tagL (Seal.keyL 1) 1 [97]) = 0 := by
  unfold Seal.check2
  rw [tag_a]
  simp only []
  rw [if_neg (by simp), if_neg (by simp)]
theorem check_b (R : List UInt8) : Seal.check2 65 1 [97] R = 20 := by
  unfold Seal.check2 Seal.tag
  simp
set_option maxHeartbeats 2000000 in
set_option maxRecDepth 100000 in
theorem awake3_any (w : World) (hT : Tab w) :
    Calls Tryd.prog 28 #[] w fun e w' => e = .returned (.bool true) ∧ Below w.heap.size w w' := by
  have HT := Lib.hid hT
  have hpos := hT.pos
  have htag := Tag_any 1 1 ⟨#[97]⟩ w hT (by decide)
  rw [show (⟨#[97]⟩ : ByteArray).data.toList = [97] from rfl, tag_a] at htag
  have c1 := fun (W : World) (hW : Tab W) => Check_any 1 1 ⟨#[97]⟩ (Seal.tagL (Seal.keyL 1) 1 [97]) W hW (Seal.tagL_len _ _ _) (by decide)
  have c2 := fun (W : World) (hW : Tab W) => Check_any 65 1 ⟨#[97]⟩ (Seal.tagL (Seal.keyL 1) 1 [97]) W hW (Seal.tagL_len _ _ _) (by decide)
  rw [show (⟨#[97]⟩ : ByteArray).data.toList = [97] from rfl, check_a] at c1
  rw [show (⟨#[97]⟩ : ByteArray).data.toList = [97] from rfl, check_b] at c2
  have hne := tag_a_ne
  obtain ⟨R, hR⟩ : ∃ R, R = Seal.tagL (Seal.keyL 1) 1 [97] := ⟨_, rfl⟩
  have hRl : R.length = 32 := by rw [hR, Seal.tagL_len]
  rw [← hR] at htag c1 c2 hne
  have heqs : ∀ W, (Op.equalIn 10000 24 (.agg (bRow R)) (.agg (bRow Seal.hz))).run Tryd.prog W = .ok false W := fun W => (hash_eq W R Seal.hz hRl Seal.hz_len).trans (by rw [decide_eq_false hne])
  rw [bRow_hz] at heqs
  have heqz : ∀ W, (Op.equalIn 10000 24 (.agg (bRow R)) (.agg #[.int .u8 0, .int .u8 0, .int .u8 0, .int .u8 0, .int .u8 0, .int .u8 0, .int .u8 0, .int .u8 0, .int .u8 0, .int .u8 0, .int .u8 0, .int .u8 0, .int .u8 0, .int .u8 0, .int .u8 0, .int .u8 0, .int .u8 0, .int .u8 0, .int .u8 0, .int .u8 0, .int .u8 0, .int .u8 0, .int .u8 0, .int .u8 0, .int .u8 0, .int .u8 0, .int .u8 0, .int .u8 0, .int .u8 0, .int .u8 0, .int .u8 0, .int .u8 0])).run Tryd.prog W = .ok false W := heqs
  clear heqs
  have I24 := Lib.hid (i24_any R (by omega))
  have Hold := Lib.hid (bRow_same [] R (by simp) (by omega))
  have HTAG := Lib.hid htag
  have C1 := Lib.hid c1
  have C2 := Lib.hid c2
  clear hT htag c1 c2 hne hR hRl
  go_enter Tryd.func28, Tryd.ntmps28
  go_wp2_with fail
  refine HTAG.out.mono ?_
  rintro e w1 ⟨rfl, hb1⟩
  go_wp2_with (first
    | (refine wpList_store_named rfl 24 (.tmp 1) (.tmp 5) rfl w1.heap.size (bRow R) rfl rfl (bRow []) (Holds.new2 rfl rfl) I24.out Hold.out (bRow_one _) ?_; intro w5 hw5
       have h5 := (show Holds w5 w1.heap.size (bRow R) by rw [hw5]; exact (Holds.new2 rfl rfl).row _)
       have H5 := Lib.hid h5
       obtain ⟨T5, hT5⟩ := h5
       have G5 := Lib.hid hT5
       have hb5 := (show Below w.heap.size w w5 by rw [hw5]; exact below_setRow (hb1.alloc hb1.size _) hb1.size _)
       clear hw5 hT5)
    | (refine wpList_load_wanted rfl 24 (.tmp 1) rfl w1.heap.size rfl T5 _ (0, 0) _ G5.out Tryd.underlying24 rfl I24.out ?_))
  refine (C1.out w5 (HT.out.below hb5 hpos)).mono ?_
  rintro e w6 ⟨rfl, hb6⟩
  have h6 := H5.out.below hb6 H5.out.lt
  have hb6 := hb5.trans (hb6.mono hb5.size)
  have H6 := Lib.hid h6
  obtain ⟨T6, hT6⟩ := h6
  have G6 := Lib.hid hT6
  clear hT6
  go_wp2_with (refine wpList_load_wanted rfl 24 (.tmp 1) rfl w1.heap.size rfl T6 _ (0, 0) _ G6.out Tryd.underlying24 rfl I24.out ?_)
  refine (C2.out w6 (HT.out.below hb6 hpos)).mono ?_
  rintro e w7 ⟨rfl, hb7⟩
  have h7 := H6.out.below hb7 H6.out.lt
  have hb7 := hb6.trans (hb7.mono hb6.size)
  obtain ⟨T7, hT7⟩ := h7
  have G7 := Lib.hid hT7
  clear hT7
  go_wp2_with (refine wpList_load_wanted rfl 24 (.tmp 1) rfl w1.heap.size rfl T7 _ (0, 0) _ G7.out Tryd.underlying24 rfl I24.out ?_)
  go_ret
  exact ⟨rfl, hb7⟩
end Go.Proofs.YtdifbndpgbdkbaaDoor
