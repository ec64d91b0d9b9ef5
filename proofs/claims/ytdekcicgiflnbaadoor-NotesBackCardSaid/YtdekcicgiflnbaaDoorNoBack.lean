/- The law NotesBack: what its function returns. -/
import Derived.Test.YtdekcicgiflnbaaDoorNoChain
import Derived.Test.YtdekcicgiflnbaaDoorNoOpen2
import Derived.Test.YtdekcicgiflnbaaDoorNoBatch
import Derived.Test.YtdekcicgiflnbaaDoorNoBt4
import Derived.Deep.DeepCutAuto
namespace Go.Proofs.YtdekcicgiflnbaaDoor
open Go.RowKit
set_option linter.unusedVariables false
set_option linter.unusedSimpArgs false

theorem It.text_len (b : It) : b.textE.1.length ≤ 100000 := by
  unfold It.textE
  split
  · exact listE_len _
  · simp
theorem Bt.text_len (b : Bt) : b.textE.1.length ≤ 100000 := by
  unfold Bt.textE
  split
  · exact listE_len _
  · simp
structure It.Fits (i : It) : Prop where
  kind : Tx.fits i.kind
  who : Tx.fits i.who
  n : Tx.fits i.n
  text : i.text.size ≤ 140737488351232
theorem It.ok_fits {i : It} (h : i.ok = true) : i.Fits := by
  have h := (It.ok_iff i).1 h
  have hs : i.text.data.toList.length = i.text.size := rfl
  refine ⟨⟨by omega, by omega⟩, ⟨by omega, by omega⟩, ⟨by omega, by omega⟩, ?_⟩
  rcases h with h | h
  · omega
  · rw [h.2.2.2.2] at hs
    simp at hs
    omega
theorem it_same {i : It} (h : i.Fits) (W : World) : (Op.equalIn 10000 59 (.agg i.cells.toArray) (.agg i.cells.toArray)).run Tryd.prog W = .ok true W := by
  have hc : Tryd.prog.cellsOf 59 = 4 := by kernel_rfl
  have hI : Tryd.prog.cellsOf 3 = 1 := by kernel_rfl
  have hS : Tryd.prog.cellsOf 9 = 1 := by kernel_rfl
  have hm : i.text.size ≤ maxLen := by have := h.text; unfold maxLen; omega
  have hL : Tryd.prog.keyLits 3 59 i.cells = some [.int .i64 i.kind, .int .i64 i.who, .int .i64 i.n, .string i.text.data.toList] := by
    unfold Program.keyLits
    simp only [Tryd.underlying59]
    rw [if_pos ⟨by rw [hc]; rfl, by kernel_rfl⟩]
    have e0 : Tryd.prog.keyLits 2 3 ((i.cells.drop 0).take (Tryd.prog.cellsOf 3)) = some [.int .i64 i.kind] := by rw [hI]; exact lit_int 1 h.kind
    have e1 : Tryd.prog.keyLits 2 3 ((i.cells.drop 1).take (Tryd.prog.cellsOf 3)) = some [.int .i64 i.who] := by rw [hI]; exact lit_int 1 h.who
    have e2 : Tryd.prog.keyLits 2 3 ((i.cells.drop 2).take (Tryd.prog.cellsOf 3)) = some [.int .i64 i.n] := by rw [hI]; exact lit_int 1 h.n
    have e3 : Tryd.prog.keyLits 2 9 ((i.cells.drop 3).take (Tryd.prog.cellsOf 9)) = some [.string i.text.data.toList] := by rw [hS]; exact lit_str 1 _ hm
    simp only [List.mapM_cons, List.mapM_nil, e0, e1, e2, e3, Option.bind_eq_bind, Option.bind_some, Option.pure_def, Option.map_some]
    rfl
  have hk : Tryd.prog.keyTypeAt 3 59 = true := by kernel_rfl
  have hf : (Value.agg i.cells.toArray).formed Tryd.prog 59 = true := by
    have : i.cells.toArray.size = 4 := rfl
    simp [Value.formed, Tryd.underlying59, hc, It.cells]
  obtain ⟨r, hr, hiff⟩ := run_equalIn_deep (P := Tryd.prog) 9997 3 59 hk W 3 3 (.agg i.cells.toArray) (.agg i.cells.toArray) _ _ hf hf hL hL
  have : r = true := hiff.2 rfl
  rw [hr, this]
theorem back_bid (b : Bd) (hf : b.Fits) : ∃ (ts : List UInt8) (te : Int), (∀ W, Calls Tryd.prog 30 #[.agg b.cells.toArray] W fun e w' => e = .returned (.tuple #[S ts, .int .i64 te]) ∧ Below W.heap.size W w') ∧
    (te = 0 → (∀ W, Calls Tryd.prog 45 #[S ts] W fun e w' => e = .returned (.tuple #[.agg b.cells.toArray, .int .i64 0]) ∧ Below W.heap.size W w') ∧ ∀ W, (Op.equalIn 10000 41 (.agg b.cells.toArray) (.agg b.cells.toArray)).run Tryd.prog W = .ok true W) :=
  ⟨b.textE.1, b.textE.2, fun W => writeBid_any b hf.tag W, fun h => ⟨fun W => by
    have := readBid_any ⟨b.textE.1.toArray⟩ W (by show b.textE.1.length ≤ _; have := b.text_len; omega)
    rw [show (⟨b.textE.1.toArray⟩ : ByteArray).data.toList = b.textE.1 from rfl, Bd.read_text hf.tag (Prod.ext rfl h)] at this
    exact this, fun W => bid_eqD W b b hf hf (by simp)⟩⟩
theorem back_rcpt (r : Rp) (hf : r.Fits) : ∃ (ts : List UInt8) (te : Int), (∀ W, Tab W → Calls Tryd.prog 37 #[.agg r.cells.toArray] W fun e w' => e = .returned (.tuple #[S ts, .int .i64 te]) ∧ Below W.heap.size W w') ∧
    (te = 0 → (∀ W, Tab W → Calls Tryd.prog 47 #[S ts] W fun e w' => e = .returned (.tuple #[.agg r.cells.toArray, .int .i64 0]) ∧ Below W.heap.size W w') ∧ ∀ W, (Op.equalIn 10000 48 (.agg r.cells.toArray) (.agg r.cells.toArray)).run Tryd.prog W = .ok true W) :=
  ⟨r.textE.1, r.textE.2, fun W hW => writeReceipt_any r hf.prev hf.hash W hW, fun h => ⟨fun W hW => by
    have := readReceipt_any ⟨r.textE.1.toArray⟩ W (by show r.textE.1.length ≤ _; have := r.text_len; omega) hW
    rw [show (⟨r.textE.1.toArray⟩ : ByteArray).data.toList = r.textE.1 from rfl, Rp.read_text hf.prev (Prod.ext rfl h)] at this
    exact this, fun W => rp_eqD W r r hf hf (by simp)⟩⟩
theorem back_item (i : It) : ∃ (ts : List UInt8) (te : Int), (∀ W, Calls Tryd.prog 43 #[.agg i.cells.toArray] W fun e w' => e = .returned (.tuple #[S ts, .int .i64 te]) ∧ Below W.heap.size W w') ∧
    (te = 0 → (∀ W, Calls Tryd.prog 51 #[S ts] W fun e w' => e = .returned (.tuple #[.agg i.cells.toArray, .int .i64 0]) ∧ Below W.heap.size W w') ∧ ∀ W, (Op.equalIn 10000 59 (.agg i.cells.toArray) (.agg i.cells.toArray)).run Tryd.prog W = .ok true W) :=
  ⟨i.textE.1, i.textE.2, fun W => writeItem_any i W, fun h => ⟨fun W => by
    have := readItem_any ⟨i.textE.1.toArray⟩ W (by show i.textE.1.length ≤ _; have := i.text_len; omega)
    rw [show (⟨i.textE.1.toArray⟩ : ByteArray).data.toList = i.textE.1 from rfl, It.read_text (Prod.ext rfl h)] at this
    exact this, fun W => it_same (It.ok_fits (by
      unfold It.textE at h
      split at h
      · assumption
      · cases h)) W⟩⟩
theorem back_batch (t : Bt) (hf : t.Fits) (A : Option Addr) (c : Nat) : ∃ (ts : List UInt8) (te : Int), (∀ W, PartsAt W W.heap.size A t.parts → Calls Tryd.prog 41 #[.agg (t.cells A c).toArray] W fun e w' => e = .returned (.tuple #[S ts, .int .i64 te]) ∧ Below W.heap.size W w') ∧
    (te = 0 → (∀ W, Calls Tryd.prog 49 #[S ts] W fun e w' => ∃ A2 c2, e = .returned (.tuple #[.agg (t.cells A2 c2).toArray, .int .i64 0]) ∧ PartsAt w' w'.heap.size A2 t.parts ∧ Below W.heap.size W w') ∧
      ∀ W A2 c2, PartsAt W W.heap.size A2 t.parts → PartsAt W W.heap.size A t.parts → Calls Tryd.prog 53 #[.agg (t.cells A2 c2).toArray, .agg (t.cells A c).toArray] W fun e w' => e = .returned (.bool true) ∧ Below W.heap.size W w') :=
  ⟨t.textE.1, t.textE.2, fun W hW => writeBatch_any t A c W hW, fun h => ⟨fun W => by
    have := readBatch_any ⟨t.textE.1.toArray⟩ W (by show t.textE.1.length ≤ _; have := t.text_len; omega)
    rw [show (⟨t.textE.1.toArray⟩ : ByteArray).data.toList = t.textE.1 from rfl, Bt.read_text (Prod.ext rfl h)] at this
    refine this.mono fun e w' ⟨⟨A2, c2, h1, h2, _⟩, hb⟩ => ⟨A2, c2, h1, h2.at, hb⟩, fun W A2 c2 h2 h1 => batches5_same t hf.texts (by
      unfold Bt.textE at h
      split at h
      · exact ((Bt.ok_iff t).1 ‹_›).2.1
      · cases h) A2 A c2 c W h2 h1⟩⟩
theorem read_batch_back (l : List UInt8) (hs : l.length ≤ 9223372036854775807) (W : World) : Calls Tryd.prog 49 #[S l] W fun e w' => ∃ (u : Bt) (A : Option Addr) (c : Nat) (E : Int), e = .returned (.tuple #[.agg (u.cells A c).toArray, .int .i64 E]) ∧ PartsAt w' w'.heap.size A u.parts ∧ (E = 6 ∨ (E = 0 ∧ u.textE = (l, 0))) ∧ Below W.heap.size W w' := by
  refine (readBatch_any ⟨l.toArray⟩ W hs).mono fun e w' ⟨he, hb⟩ => ?_
  rw [show (⟨l.toArray⟩ : ByteArray).data.toList = l from rfl] at he
  cases hR : Bt.read l with
  | none =>
    rw [hR] at he
    exact ⟨Bt.zero, none, 0, 6, he, fun h => absurd rfl h, .inl rfl, hb⟩
  | some u =>
    rw [hR] at he
    obtain ⟨A, c, h1, h2, _⟩ := he
    exact ⟨u, A, c, 0, h1, h2.at, .inr ⟨rfl, (Bt.text_read hR).1⟩, hb⟩
theorem read_item_back (l : List UInt8) (hs : l.length ≤ 9223372036854775807) (W : World) : Calls Tryd.prog 51 #[S l] W fun e w' => ∃ (u : It) (E : Int), e = .returned (.tuple #[.agg u.cells.toArray, .int .i64 E]) ∧ (E = 6 ∨ (E = 0 ∧ u.textE = (l, 0))) ∧ Below W.heap.size W w' := by
  refine (readItem_any ⟨l.toArray⟩ W hs).mono fun e w' ⟨he, hb⟩ => ?_
  rw [show (⟨l.toArray⟩ : ByteArray).data.toList = l from rfl] at he
  cases hR : It.read l with
  | none =>
    rw [hR] at he
    exact ⟨It.zero, 6, he, .inl rfl, hb⟩
  | some u =>
    rw [hR] at he
    exact ⟨u, 0, he, .inr ⟨rfl, It.text_read hR⟩, hb⟩
theorem range_mid {W : World} {g : Nat} {T : TypeId} (x y z : List Value) (h : Row W g T (x ++ (y ++ z))) : W.rangeAt g x.length y := by
  intro j v hv
  obtain ⟨hj, he⟩ := List.getElem?_eq_some_iff.1 hv
  have e : (x ++ (y ++ z))[x.length + j]? = some v := by
    rw [List.getElem?_append_right (by omega), Nat.add_sub_cancel_left, List.getElem?_append_left hj]; exact hv
  obtain ⟨h1, h2⟩ := List.getElem?_eq_some_iff.1 e
  rw [h.cell (x.length + j) h1, h2]
set_option maxRecDepth 20000 in
set_option maxHeartbeats 6400000 in
theorem notesBack_any (b : Bd) (r : Rp) (t : Bt) (A : Option Addr) (c : Nat) (i : It) (fb : b.Fits) (fr : r.Fits) (ft : t.Fits) (l : List UInt8) (hl : l.length ≤ 9223372036854775807) (w : World) (hP : PartsAt w w.heap.size A t.parts) (hT : Tab w) :
    Calls Tryd.prog 12 #[.agg (allC b r t A c i).toArray, S l] w fun e w' => e = .returned (.bool true) ∧ Below w.heap.size w w' := by
  obtain ⟨ts1, te1, WB1, RB1⟩ := back_bid b fb
  obtain ⟨ts2, te2, WB2, RB2⟩ := back_rcpt r fr
  obtain ⟨ts3, te3, WB3, RB3⟩ := back_batch t ft A c
  obtain ⟨ts4, te4, WB4, RB4⟩ := back_item i
  have H1 := Lib.hid RB1
  have H2 := Lib.hid RB2
  have H3 := Lib.hid RB3
  have H4 := Lib.hid RB4
  have W1 := Lib.hid WB1
  have W2 := Lib.hid WB2
  have W3 := Lib.hid WB3
  have W4 := Lib.hid WB4
  have RDB := Lib.hid (fun W => read_batch_back l hl W)
  have RDI := Lib.hid (fun W => read_item_back l hl W)
  have HTab := Lib.hid hT
  have Hp := Lib.hid hT.pos
  have HP := Lib.hid hP
  have l1 : b.cells.length = 36 := Bd.cells_len fb.tag
  have l2 : r.cells.length = 68 := Rp.cells_len fr.prev fr.hash
  have AB : Hid (∀ (W : World) (g : Nat) (T : TypeId), Row W g T (allC b r t A c i) → W.rangeAt g 0 b.cells ∧ W.rangeAt g 36 r.cells ∧ W.rangeAt g 104 (t.cells A c) ∧ W.rangeAt g 108 i.cells) := fun W g T h => by
    unfold allC at h
    refine ⟨range_mid [] b.cells _ h, ?_, ?_, ?_⟩
    · have := range_mid b.cells r.cells _ h
      rw [l1] at this; exact this
    · have := range_mid (b.cells ++ r.cells) (t.cells A c) i.cells (by rw [List.append_assoc]; exact h)
      rw [List.length_append, l1, l2] at this; exact this
    · have := range_mid (b.cells ++ (r.cells ++ t.cells A c)) i.cells [] (by simp only [List.append_assoc, List.append_nil]; exact h)
      rw [List.length_append, List.length_append, l1, l2] at this; exact this
  have HL1 := Lib.hid l1
  have HL2 := Lib.hid l2
  have HL3 : Hid (∀ A c, (t.cells A c).length = 4) := fun A c => rfl
  have HL4 : Hid (i.cells.length = 4) := It.cells_len i
  have HO1 := Lib.hid (Bd.cells_one fb.tag)
  have HO2 := Lib.hid (Rp.cells_one fr.prev fr.hash)
  have HO3 : Hid (∀ A c, ∀ v ∈ t.cells A c, v.oneCell' = true) := fun A c => Bt.cells_one t A c
  have HO4 := Lib.hid (It.cells_one i)
  have HZ1 := Lib.hid (Bd.cells_len (b := Bd.zero) rfl)
  have HZ2 := Lib.hid (Rp.cells_len (r := Rp.zero) rfl rfl)
  have HZ3 : Hid (Bt.zeroC.length = 4) := (rfl : Bt.zeroC.length = 4)
  have HZ4 := Lib.hid (It.cells_len It.zero)
  have hz41 : ∀ W : World, (zeroValue 41).run Tryd.prog W = .ok (.agg Bd.zero.cells.toArray) W := fun W => by kernel_rfl
  have hz48 : ∀ W : World, (zeroValue 48).run Tryd.prog W = .ok (.agg Rp.zero.cells.toArray) W := fun W => by kernel_rfl
  have hz55 : ∀ W : World, (zeroValue 55).run Tryd.prog W = .ok (.agg Bt.zeroC.toArray) W := fun W => by kernel_rfl
  have hz59 : ∀ W : World, (zeroValue 59).run Tryd.prog W = .ok (.agg It.zero.cells.toArray) W := fun W => by kernel_rfl
  have HB0 : Hid (Blocks w (w.alloc (.cells (allC b r t A c i).toArray 71)) [(w.heap.size, 71, allC b r t A c i)]) := Lib.hid ((Blocks.nil ((Below.refl w.heap.size w).alloc (Nat.le_refl _) _)).cons (Row.new w _ _))
  generalize Bd.zero.cells = Z1 at *
  generalize Rp.zero.cells = Z2 at *
  generalize Bt.zeroC = Z3 at *
  generalize It.zero.cells = Z4 at *
  generalize allC b r t A c i = C at *
  generalize b.cells = C1 at *
  generalize r.cells = C2 at *
  generalize i.cells = C4 at *
  generalize t.parts = P at *
  generalize t.cells = tc at *
  clear WB1 WB2 WB3 WB4 RB1 RB2 RB3 RB4 l1 l2 hT hP fb fr ft hl
  go_enter Tryd.func12, Tryd.ntmps12
  go_wp2_with fail
  refine (awake5_any _ (HTab.out.below HB0.out.1 Hp.out)).mono ?_
  rintro _ w1 ⟨rfl, hb1⟩
  have HB1 := Lib.hid (HB0.out.step hb1)
  clear hb1 HB0
  go_wp2_with (first | (with_reducible show wpList _ _ _ (⟨_, .load 41 (.tmp 32), _, _, _, _⟩ :: _) _ _; refine wpList_load_tx rfl 41 (.tmp 32) rfl (w.heap.size) 0 rfl C1 _ (AB.out _ _ _ HB1.out.hd).1 Tryd.underlying41 rfl (by rw [bid_info, HL1.out]) ?_))
  refine (W1.out _).mono ?_
  rintro _ w2 ⟨rfl, hb2⟩
  have HB2 := Lib.hid (HB1.out.step hb2)
  clear hb2
  go_upto_if 38 with (fail)
  go_cut [4] from 29 (fun s4 wc => s4 = .bool false ∧ Blocks w wc [(w.heap.size, 71, C)])
  case first =>
    by_cases hte : te1 = 0
    · obtain ⟨hRB, heq⟩ := H1.out hte
      have HRB := Lib.hid hRB
      subst hte
      clear hRB
      go_wp2_with fail
      refine (HRB.out _).mono ?_
      rintro _ w3 ⟨rfl, hb3⟩
      have HB3 := Lib.hid (HB2.out.step hb3)
      have Hz3 := Lib.hid (Row.new w3 41 Z1)
      clear hb3
      go_wp2_with (first
        | (with_reducible show wpList _ _ _ (⟨_, .store 41 (.tmp 7) _, _, _, _, _⟩ :: _) _ _
           refine wpList_store_at rfl 41 (.tmp 7) (.tmp 42) rfl w3.heap.size 0 C1 _ _ rfl rfl Hz3.out (by have := HZ1.out; have := HL1.out; omega) (by rw [bid_info, HL1.out]) (HO1.out) ?_
           intro wS hrS hgS
           rw [splice_all ((HL1.out).trans HZ1.out.symm)] at hrS
           have HB4 := Lib.hid (((HB3.out.alloc _).put hgS HB3.out.size HB3.out.fresh).cons hrS)
           clear hrS hgS)
        | (with_reducible show wpList _ _ _ (⟨_, .load 41 (.tmp 7), _, _, _, _⟩ :: _) _ _; refine wpList_load_tx rfl 41 (.tmp 7) rfl (w3.heap.size) 0 rfl C1 _ (row_range HB4.out.hd) Tryd.underlying41 rfl (by rw [bid_info, HL1.out]) ?_)
        | (with_reducible show wpList _ _ _ (⟨_, .load 41 (.tmp 48), _, _, _, _⟩ :: _) _ _; refine wpList_load_tx rfl 41 (.tmp 48) rfl (w.heap.size) 0 rfl C1 _ (AB.out _ _ _ HB4.out.tl.hd).1 Tryd.underlying41 rfl (by rw [bid_info, HL1.out]) ?_))
      go_meet
      case rel => exact ⟨rfl, HB4.out.tl⟩
    · have hteb : (te1 == 0) = false := by simpa using hte
      go_wp2_with fail
      go_meet
      case rel => exact ⟨rfl, HB2.out⟩
  obtain ⟨rfl, hB⟩ := hcut
  clear HB1 HB2
  have HB1 := Lib.hid hB
  clear hB
  go_wp2_with (first | (with_reducible show wpList _ _ _ (⟨_, .load 48 (.tmp 53), _, _, _, _⟩ :: _) _ _; refine wpList_load_tx rfl 48 (.tmp 53) rfl (w.heap.size) 36 rfl C2 _ (AB.out _ _ _ HB1.out.hd).2.1 Tryd.underlying48 rfl (by rw [rp_info, HL2.out]) ?_))
  refine (W2.out _ (HTab.out.below HB1.out.1 Hp.out)).mono ?_
  rintro _ w2 ⟨rfl, hb2⟩
  have HB2 := Lib.hid (HB1.out.step hb2)
  clear hb2
  go_upto_if 59 with (fail)
  go_cut [4] from 29 (fun s4 wc => s4 = .bool false ∧ Blocks w wc [(w.heap.size, 71, C)])
  case first =>
    by_cases hte : te2 = 0
    · obtain ⟨hRB, heq⟩ := H2.out hte
      have HRB := Lib.hid hRB
      subst hte
      clear hRB
      go_wp2_with fail
      refine (HRB.out _ (HTab.out.below HB2.out.1 Hp.out)).mono ?_
      rintro _ w3 ⟨rfl, hb3⟩
      have HB3 := Lib.hid (HB2.out.step hb3)
      have Hz3 := Lib.hid (Row.new w3 48 Z2)
      clear hb3
      go_wp2_with (first
        | (with_reducible show wpList _ _ _ (⟨_, .store 48 (.tmp 11) _, _, _, _, _⟩ :: _) _ _
           refine wpList_store_at rfl 48 (.tmp 11) (.tmp 63) rfl w3.heap.size 0 C2 _ _ rfl rfl Hz3.out (by have := HZ2.out; have := HL2.out; omega) (by rw [rp_info, HL2.out]) (HO2.out) ?_
           intro wS hrS hgS
           rw [splice_all ((HL2.out).trans HZ2.out.symm)] at hrS
           have HB4 := Lib.hid (((HB3.out.alloc _).put hgS HB3.out.size HB3.out.fresh).cons hrS)
           clear hrS hgS)
        | (with_reducible show wpList _ _ _ (⟨_, .load 48 (.tmp 11), _, _, _, _⟩ :: _) _ _; refine wpList_load_tx rfl 48 (.tmp 11) rfl (w3.heap.size) 0 rfl C2 _ (row_range HB4.out.hd) Tryd.underlying48 rfl (by rw [rp_info, HL2.out]) ?_)
        | (with_reducible show wpList _ _ _ (⟨_, .load 48 (.tmp 69), _, _, _, _⟩ :: _) _ _; refine wpList_load_tx rfl 48 (.tmp 69) rfl (w.heap.size) 36 rfl C2 _ (AB.out _ _ _ HB4.out.tl.hd).2.1 Tryd.underlying48 rfl (by rw [rp_info, HL2.out]) ?_))
      go_meet
      case rel => exact ⟨rfl, HB4.out.tl⟩
    · have hteb : (te2 == 0) = false := by simpa using hte
      go_wp2_with fail
      go_meet
      case rel => exact ⟨rfl, HB2.out⟩
  obtain ⟨rfl, hB⟩ := hcut
  clear HB1 HB2
  have HB1 := Lib.hid hB
  clear hB
  go_wp2_with (first | (with_reducible show wpList _ _ _ (⟨_, .load 55 (.tmp 74), _, _, _, _⟩ :: _) _ _; refine wpList_load_tx rfl 55 (.tmp 74) rfl (w.heap.size) 104 rfl (tc A c) _ (AB.out _ _ _ HB1.out.hd).2.2.1 Tryd.underlying55 rfl (by rw [batch_info, HL3.out A c]) ?_))
  refine (W3.out _ ((HP.out.below HB1.out.1).mono HB1.out.size)).mono ?_
  rintro _ w2 ⟨rfl, hb2⟩
  have HB2 := Lib.hid (HB1.out.step hb2)
  clear hb2
  go_upto_if 80 with (fail)
  go_cut [4] from 29 (fun s4 wc => s4 = .bool false ∧ Blocks w wc [(w.heap.size, 71, C)])
  case first =>
    by_cases hte : te3 = 0
    · obtain ⟨hRB, hBS⟩ := H3.out hte
      have HRB := Lib.hid hRB
      have HBS := Lib.hid hBS
      subst hte
      clear hRB hBS
      go_wp2_with fail
      refine (HRB.out _).mono ?_
      rintro _ w3 ⟨A2, c2, rfl, hP2, hb3⟩
      have HB3 := Lib.hid (HB2.out.step hb3)
      have Hz3 := Lib.hid (Row.new w3 55 Z3)
      have HP2 := Lib.hid hP2
      clear hb3 hP2
      go_wp2_with (first
        | (with_reducible show wpList _ _ _ (⟨_, .store 55 (.tmp 15) _, _, _, _, _⟩ :: _) _ _
           refine wpList_store_at rfl 55 (.tmp 15) (.tmp 84) rfl w3.heap.size 0 (tc A2 c2) _ _ rfl rfl Hz3.out (by have := HZ3.out; have := (HL3.out A2 c2); omega) (by rw [batch_info, (HL3.out A2 c2)]) (HO3.out A2 c2) ?_
           intro wS hrS hgS
           rw [splice_all (((HL3.out A2 c2)).trans HZ3.out.symm)] at hrS
           have HB4 := Lib.hid (((HB3.out.alloc _).put hgS HB3.out.size HB3.out.fresh).cons hrS)
           have HP4 := Lib.hid (((HP2.out.grown (grownBy_alloc w3 _ none) (fun k hk => by cases hk)).grown hgS (fun k hk => by cases hk; exact Nat.le_refl _)).mono (Nat.le_trans (by simp) hgS.size))
           clear hrS hgS)
        | (with_reducible show wpList _ _ _ (⟨_, .load 55 (.tmp 15), _, _, _, _⟩ :: _) _ _; refine wpList_load_tx rfl 55 (.tmp 15) rfl (w3.heap.size) 0 rfl (tc A2 c2) _ (row_range HB4.out.hd) Tryd.underlying55 rfl (by rw [batch_info, HL3.out A2 c2]) ?_)
        | (with_reducible show wpList _ _ _ (⟨_, .load 55 (.tmp 90), _, _, _, _⟩ :: _) _ _; refine wpList_load_tx rfl 55 (.tmp 90) rfl (w.heap.size) 104 rfl (tc A c) _ (AB.out _ _ _ HB4.out.tl.hd).2.2.1 Tryd.underlying55 rfl (by rw [batch_info, HL3.out A c]) ?_))
      refine (HBS.out _ A2 c2 HP4.out ((HP.out.below HB4.out.1).mono HB4.out.size)).mono ?_
      rintro _ w5 ⟨rfl, hb5⟩
      have HB5 := Lib.hid (HB4.out.step hb5)
      clear hb5
      go_wp2_with fail
      go_meet
      case rel => exact ⟨rfl, HB5.out.tl⟩
    · have hteb : (te3 == 0) = false := by simpa using hte
      go_wp2_with fail
      go_meet
      case rel => exact ⟨rfl, HB2.out⟩
  obtain ⟨rfl, hB⟩ := hcut
  clear HB1 HB2
  have HB1 := Lib.hid hB
  clear hB
  go_wp2_with (first | (with_reducible show wpList _ _ _ (⟨_, .load 59 (.tmp 96), _, _, _, _⟩ :: _) _ _; refine wpList_load_tx rfl 59 (.tmp 96) rfl (w.heap.size) 108 rfl C4 _ (AB.out _ _ _ HB1.out.hd).2.2.2 Tryd.underlying59 rfl (by rw [item_info, HL4.out]) ?_))
  refine (W4.out _).mono ?_
  rintro _ w2 ⟨rfl, hb2⟩
  have HB2 := Lib.hid (HB1.out.step hb2)
  clear hb2
  go_upto_if 102 with (fail)
  go_cut [4] from 29 (fun s4 wc => s4 = .bool false ∧ Blocks w wc [(w.heap.size, 71, C)])
  case first =>
    by_cases hte : te4 = 0
    · obtain ⟨hRB, heq⟩ := H4.out hte
      have HRB := Lib.hid hRB
      subst hte
      clear hRB
      go_wp2_with fail
      refine (HRB.out _).mono ?_
      rintro _ w3 ⟨rfl, hb3⟩
      have HB3 := Lib.hid (HB2.out.step hb3)
      have Hz3 := Lib.hid (Row.new w3 59 Z4)
      clear hb3
      go_wp2_with (first
        | (with_reducible show wpList _ _ _ (⟨_, .store 59 (.tmp 19) _, _, _, _, _⟩ :: _) _ _
           refine wpList_store_at rfl 59 (.tmp 19) (.tmp 106) rfl w3.heap.size 0 C4 _ _ rfl rfl Hz3.out (by have := HZ4.out; have := HL4.out; omega) (by rw [item_info, HL4.out]) (HO4.out) ?_
           intro wS hrS hgS
           rw [splice_all ((HL4.out).trans HZ4.out.symm)] at hrS
           have HB4 := Lib.hid (((HB3.out.alloc _).put hgS HB3.out.size HB3.out.fresh).cons hrS)
           clear hrS hgS)
        | (with_reducible show wpList _ _ _ (⟨_, .load 59 (.tmp 19), _, _, _, _⟩ :: _) _ _; refine wpList_load_tx rfl 59 (.tmp 19) rfl (w3.heap.size) 0 rfl C4 _ (row_range HB4.out.hd) Tryd.underlying59 rfl (by rw [item_info, HL4.out]) ?_)
        | (with_reducible show wpList _ _ _ (⟨_, .load 59 (.tmp 112), _, _, _, _⟩ :: _) _ _; refine wpList_load_tx rfl 59 (.tmp 112) rfl (w.heap.size) 108 rfl C4 _ (AB.out _ _ _ HB4.out.tl.hd).2.2.2 Tryd.underlying59 rfl (by rw [item_info, HL4.out]) ?_))
      go_meet
      case rel => exact ⟨rfl, HB4.out.tl⟩
    · have hteb : (te4 == 0) = false := by simpa using hte
      go_wp2_with fail
      go_meet
      case rel => exact ⟨rfl, HB2.out⟩
  obtain ⟨rfl, hB⟩ := hcut
  clear HB1 HB2
  have HB1 := Lib.hid hB
  clear hB
  go_wp2_with fail
  refine (RDB.out _).mono ?_
  rintro _ w2 ⟨u, A2, c2, E1, rfl, hP2, hE1, hb2⟩
  have HB2 := Lib.hid (HB1.out.step hb2)
  have Hz2 := Lib.hid (Row.new w2 55 Z3)
  have HP2 := Lib.hid hP2
  have HUL : Hid ((u.cells A2 c2).length = 4) := (rfl : (u.cells A2 c2).length = 4)
  have HU1 := Lib.hid (Bt.cells_one u A2 c2)
  have WU : Hid (∀ W, PartsAt W W.heap.size A2 u.parts → Calls Tryd.prog 41 #[.agg (u.cells A2 c2).toArray] W fun e w' => e = .returned (.tuple #[S u.textE.1, .int .i64 u.textE.2]) ∧ Below W.heap.size W w') := fun W hW => writeBatch_any u A2 c2 W hW
  have HE1 : Hid (E1 = 6 ∨ (E1 = 0 ∧ u.textE.1 = l ∧ u.textE.2 = 0)) := Lib.hid (hE1.imp id fun h => ⟨h.1, by rw [h.2], by rw [h.2]⟩)
  generalize u.textE.1 = T1 at *
  generalize u.textE.2 = G1 at *
  generalize u.cells A2 c2 = UC at *
  generalize u.parts = UP at *
  clear hb2 hP2 hE1 HB1
  go_wp2_with (first
    | (with_reducible show wpList _ _ _ (⟨_, .store 55 (.tmp 21) _, _, _, _, _⟩ :: _) _ _
       refine wpList_store_at rfl 55 (.tmp 21) (.tmp 119) rfl w2.heap.size 0 UC _ _ rfl rfl Hz2.out (by have := HZ3.out; have := HUL.out; omega) (by rw [batch_info, HUL.out]) (HU1.out) ?_
       intro wS hrS hgS
       rw [splice_all ((HUL.out).trans HZ3.out.symm)] at hrS
       have HB3 := Lib.hid (((HB2.out.alloc _).put hgS HB2.out.size HB2.out.fresh).cons hrS)
       have HP3 := Lib.hid (((HP2.out.grown (grownBy_alloc w2 _ none) (fun k hk => by cases hk)).grown hgS (fun k hk => by cases hk; exact Nat.le_refl _)).mono (Nat.le_trans (by simp) hgS.size))
       clear hrS hgS))
  refine (RDI.out _).mono ?_
  rintro _ w4 ⟨v, E2, rfl, hE2, hb4⟩
  have HB4 := Lib.hid (HB3.out.step hb4)
  have HP4 := Lib.hid ((HP3.out.below hb4).mono hb4.size)
  have Hz4 := Lib.hid (Row.new w4 59 Z4)
  have HVL : Hid (v.cells.length = 4) := It.cells_len v
  have HV1 := Lib.hid (It.cells_one v)
  have WV : Hid (∀ W, Calls Tryd.prog 43 #[.agg v.cells.toArray] W fun e w' => e = .returned (.tuple #[S v.textE.1, .int .i64 v.textE.2]) ∧ Below W.heap.size W w') := fun W => writeItem_any v W
  have HE2 : Hid (E2 = 6 ∨ (E2 = 0 ∧ v.textE.1 = l ∧ v.textE.2 = 0)) := Lib.hid (hE2.imp id fun h => ⟨h.1, by rw [h.2], by rw [h.2]⟩)
  generalize v.textE.1 = T2 at *
  generalize v.textE.2 = G2 at *
  generalize v.cells = VC at *
  clear hb4 hE2
  go_wp2_with (first
    | (with_reducible show wpList _ _ _ (⟨_, .store 59 (.tmp 23) _, _, _, _, _⟩ :: _) _ _
       refine wpList_store_at rfl 59 (.tmp 23) (.tmp 124) rfl w4.heap.size 0 VC _ _ rfl rfl Hz4.out (by have := HZ4.out; have := HVL.out; omega) (by rw [item_info, HVL.out]) (HV1.out) ?_
       intro wS hrS hgS
       rw [splice_all ((HVL.out).trans HZ4.out.symm)] at hrS
       have HB5 := Lib.hid (((HB4.out.alloc _).put hgS HB4.out.size HB4.out.fresh).cons hrS)
       have HP5 := Lib.hid (((HP4.out.grown (grownBy_alloc w4 _ none) (fun k hk => by cases hk)).grown hgS (fun k hk => by cases hk; exact Nat.le_refl _)).mono (Nat.le_trans (by simp) hgS.size))
       clear hrS hgS)
    | (with_reducible show wpList _ _ _ (⟨_, .load 55 (.tmp 21), _, _, _, _⟩ :: _) _ _; refine wpList_load_tx rfl 55 (.tmp 21) rfl (w2.heap.size) 0 rfl UC _ (row_range HB5.out.tl.hd) Tryd.underlying55 rfl (by rw [batch_info, HUL.out]) ?_))
  refine (WU.out _ HP5.out).mono ?_
  rintro _ w6 ⟨rfl, hb6⟩
  have HB6 := Lib.hid (HB5.out.step hb6)
  clear hb6
  go_wp2_with (first
    | (with_reducible show wpList _ _ _ (⟨_, .load 59 (.tmp 23), _, _, _, _⟩ :: _) _ _; refine wpList_load_tx rfl 59 (.tmp 23) rfl (w4.heap.size) 0 rfl VC _ (row_range HB6.out.hd) Tryd.underlying59 rfl (by rw [item_info, HVL.out]) ?_))
  refine (WV.out _).mono ?_
  rintro _ w7 ⟨rfl, hb7⟩
  have HB7 := Lib.hid (HB6.out.step hb7)
  clear hb7
  rcases HE1.out with rfl | ⟨rfl, rfl, rfl⟩
  · rcases HE2.out with rfl | ⟨rfl, rfl, rfl⟩
    · go_wp2_with fail
      go_ret
      exact ⟨rfl, HB7.out.1⟩
    · go_wp2_with fail
      go_ret
      exact ⟨rfl, HB7.out.1⟩
  · rcases HE2.out with rfl | ⟨rfl, h2, rfl⟩
    · go_wp2_with fail
      go_ret
      exact ⟨rfl, HB7.out.1⟩
    · subst h2
      go_wp2_with fail
      go_ret
      exact ⟨rfl, HB7.out.1⟩
end Go.Proofs.YtdekcicgiflnbaaDoor
