/- The law NotesReads: what its function returns. -/
import Derived.Test.YtdekcicgiflnbaaDoorNoIt
import Derived.Test.YtdekcicgiflnbaaDoorNoBatch
import Derived.Test.YtdekcicgiflnbaaDoorNoAwk
import Derived.Test.YtdekcicgiflnbaaDoorNoRf5
import Derived.Test.YtdekcicgiflnbaaDoorNoRf6
import Derived.Test.YtdekcicgiflnbaaDoorNoRf7
namespace Go.Proofs.YtdekcicgiflnbaaDoor
open Go.RowKit
set_option linter.unusedVariables false
set_option linter.unusedSimpArgs false

theorem bid_pair (s : ByteArray) (hs : s.size ≤ 140737488351232) : ∃ (C : List Value) (E : Int),
    (∀ W, Calls Tryd.prog 45 #[.string s] W fun e w' => e = .returned (.tuple #[.agg C.toArray, .int .i64 E]) ∧ Below W.heap.size W w') ∧
    (∀ W, Calls Tryd.prog 46 #[.string s] W fun e w' => e = .returned (.tuple #[.agg C.toArray, .int .i64 E]) ∧ Below W.heap.size W w') ∧
    C.length = 36 ∧ (∀ v ∈ C, v.oneCell' = true) ∧ ∀ W, (Op.equalIn 10000 41 (.agg C.toArray) (.agg C.toArray)).run Tryd.prog W = .ok true W := by
  have h1 := fun W => readBid_any s W (by omega)
  have h2 := fun W => rreadBid_any s W hs
  cases hR : Bd.read s.data.toList with
  | none =>
    rw [hR] at h1 h2
    have hz : Bd.zero.Fits := ⟨rfl, fits0, fits0, fits0, fits0⟩
    exact ⟨Bd.zero.cells, 6, h1, h2, Bd.cells_len hz.tag, Bd.cells_one hz.tag, fun W => bid_eqD W _ _ hz hz (by simp)⟩
  | some u =>
    rw [hR] at h1 h2
    obtain ⟨_, ht, hk⟩ := Bd.text_read hR
    have hi := (Bd.ok_iff u).1 hk
    have hf : u.Fits := ⟨ht, ⟨by omega, by omega⟩, ⟨by omega, by omega⟩, ⟨by omega, by omega⟩, ⟨by omega, by omega⟩⟩
    exact ⟨u.cells, 0, h1, h2, Bd.cells_len ht, Bd.cells_one ht, fun W => bid_eqD W _ _ hf hf (by simp)⟩
theorem rcpt_pair (hRS : RefSum) (s : ByteArray) (hs : s.size ≤ 140737488351232) : ∃ (C : List Value) (E : Int),
    (∀ W, Tab W → Calls Tryd.prog 47 #[.string s] W fun e w' => e = .returned (.tuple #[.agg C.toArray, .int .i64 E]) ∧ Below W.heap.size W w') ∧
    (∀ W, Calls Tryd.prog 48 #[.string s] W fun e w' => e = .returned (.tuple #[.agg C.toArray, .int .i64 E]) ∧ Below W.heap.size W w') ∧
    C.length = 68 ∧ (∀ v ∈ C, v.oneCell' = true) ∧ ∀ W, (Op.equalIn 10000 48 (.agg C.toArray) (.agg C.toArray)).run Tryd.prog W = .ok true W := by
  have h1 := fun W hW => readReceipt_any s W (by omega) hW
  have h2 := fun W => rreadReceipt_any hRS s W hs
  cases hR : Rp.read s.data.toList with
  | none =>
    rw [hR] at h1 h2
    have hz : Rp.zero.Fits := ⟨rfl, rfl, by decide, fits0, fits0, fits0⟩
    exact ⟨Rp.zero.cells, 6, h1, h2, Rp.cells_len hz.prev hz.hash, Rp.cells_one hz.prev hz.hash, fun W => rp_eqD W _ _ hz hz (by simp)⟩
  | some u =>
    rw [hR] at h1 h2
    obtain ⟨_, ⟨hp, hh⟩, hk, _⟩ := Rp.text_read hR
    have hi := (Rp.ok_iff u).1 hk
    have hf : u.Fits := ⟨hp, hh, by omega, ⟨by omega, by omega⟩, ⟨by omega, by omega⟩, ⟨by omega, by omega⟩⟩
    exact ⟨u.cells, 0, h1, h2, Rp.cells_len hp hh, Rp.cells_one hp hh, fun W => rp_eqD W _ _ hf hf (by simp)⟩
theorem item_pair (s : ByteArray) (hs : s.size ≤ 140737488351232) : ∃ (C : List Value) (E : Int),
    (∀ W, Calls Tryd.prog 51 #[.string s] W fun e w' => e = .returned (.tuple #[.agg C.toArray, .int .i64 E]) ∧ Below W.heap.size W w') ∧
    (∀ W, Calls Tryd.prog 52 #[.string s] W fun e w' => e = .returned (.tuple #[.agg C.toArray, .int .i64 E]) ∧ Below W.heap.size W w') ∧
    C.length = 4 ∧ (∀ v ∈ C, v.oneCell' = true) ∧ ∀ W, (Op.equalIn 10000 59 (.agg C.toArray) (.agg C.toArray)).run Tryd.prog W = .ok true W := by
  have h1 := fun W => readItem_any s W (by omega)
  have h2 := fun W => rreadItem_any s W hs
  cases hR : It.read s.data.toList with
  | none =>
    rw [hR] at h1 h2
    have hz : It.zero.Fits := ⟨fits0, fits0, fits0, by decide⟩
    exact ⟨It.zero.cells, 6, h1, h2, It.cells_len _, It.cells_one _, fun W => it_same hz W⟩
  | some u =>
    rw [hR] at h1 h2
    have ht := It.text_read hR
    have hk : u.ok = true := by
      unfold It.textE at ht
      split at ht
      · assumption
      · have := congrArg Prod.snd ht; cases this
    exact ⟨u.cells, 0, h1, h2, It.cells_len _, It.cells_one _, fun W => it_same (It.ok_fits hk) W⟩
theorem batch_pair (s : ByteArray) (hs : s.size ≤ 140737488351232) : ∃ (u : Bt) (E : Int),
    (∀ W, Calls Tryd.prog 49 #[.string s] W fun e w' => ∃ A c, e = .returned (.tuple #[.agg (u.cells A c).toArray, .int .i64 E]) ∧ PartsAt w' w'.heap.size A u.parts ∧ Below W.heap.size W w') ∧
    (∀ W, Calls Tryd.prog 50 #[.string s] W fun e w' => ∃ A c, e = .returned (.tuple #[.agg (u.cells A c).toArray, .int .i64 E]) ∧ PartsAt w' w'.heap.size A u.parts ∧ Below W.heap.size W w') ∧
    ∀ W A c A2 c2, PartsAt W W.heap.size A u.parts → PartsAt W W.heap.size A2 u.parts → Calls Tryd.prog 53 #[.agg (u.cells A c).toArray, .agg (u.cells A2 c2).toArray] W fun e w' => e = .returned (.bool true) ∧ Below W.heap.size W w' := by
  have h1 := fun W => readBatch_any s W (by omega)
  have h2 := fun W => rreadBatch_any s W hs
  cases hR : Bt.read s.data.toList with
  | none =>
    rw [hR] at h1 h2
    exact ⟨Bt.zero, 6, fun W => (h1 W).mono fun e w' ⟨he, hb⟩ => ⟨none, 0, he, fun h => absurd rfl h, hb⟩, fun W => (h2 W).mono fun e w' ⟨he, hb⟩ => ⟨none, 0, he, fun h => absurd rfl h, hb⟩,
      fun W A c A2 c2 hA hB => batches5_same Bt.zero (fun p hp => by cases hp) (by decide) A A2 c c2 W hA hB⟩
  | some u =>
    rw [hR] at h1 h2
    have hk := (Bt.ok_iff u).1 (Bt.text_read hR).2
    refine ⟨u, 0, fun W => (h1 W).mono fun e w' ⟨⟨A, c, he, hp, _⟩, hb⟩ => ⟨A, c, he, hp.at, hb⟩, fun W => (h2 W).mono fun e w' ⟨⟨A, c, he, hp, _⟩, hb⟩ => ⟨A, c, he, hp.at, hb⟩,
      fun W A c A2 c2 hA hB => batches5_same u (fun p hp => ?_) hk.2.1 A A2 c c2 W hA hB⟩
    have := List.all_eq_true.1 hk.2.2 p hp
    unfold Pt.ok at this
    simp at this
    omega
set_option maxRecDepth 20000 in
set_option maxHeartbeats 6400000 in
theorem notesReads_any (hRS : RefSum) (s : ByteArray) (hs : s.size ≤ 140737488351232) (w : World) (hT : Tab w) :
    Calls Tryd.prog 11 #[.string s] w fun e w' => e = .returned (.bool true) ∧ Below w.heap.size w w' := by
  obtain ⟨C1, E1, a1, b1, l1, o1, heq1⟩ := bid_pair s hs
  obtain ⟨C2, E2, a2, b2, l2, o2, heq2⟩ := rcpt_pair hRS s hs
  obtain ⟨u, E3, a3, b3, BS0⟩ := batch_pair s hs
  obtain ⟨C4, E4, a4, b4, l4, o4, heq4⟩ := item_pair s hs
  have A1 := Lib.hid a1
  have A2 := Lib.hid a2
  have A3 := Lib.hid a3
  have A4 := Lib.hid a4
  have B1 := Lib.hid b1
  have B2 := Lib.hid b2
  have B3 := Lib.hid b3
  have B4 := Lib.hid b4
  have BS := Lib.hid BS0
  have HL1 := Lib.hid l1
  have HL2 := Lib.hid l2
  have HL3 : Hid (∀ A c, (u.cells A c).length = 4) := fun A c => rfl
  have HL4 := Lib.hid l4
  have HO1 := Lib.hid o1
  have HO2 := Lib.hid o2
  have HO3 : Hid (∀ A c, ∀ v ∈ u.cells A c, v.oneCell' = true) := fun A c => Bt.cells_one u A c
  have HO4 := Lib.hid o4
  have HTab := Lib.hid hT
  have Hp := Lib.hid hT.pos
  have HZ1 := Lib.hid (Bd.cells_len (b := Bd.zero) rfl)
  have HZ2 := Lib.hid (Rp.cells_len (r := Rp.zero) rfl rfl)
  have HZ3 : Hid (Bt.zeroC.length = 4) := (rfl : Bt.zeroC.length = 4)
  have HZ4 := Lib.hid (It.cells_len It.zero)
  have hz41 : ∀ W : World, (zeroValue 41).run Tryd.prog W = .ok (.agg Bd.zero.cells.toArray) W := fun W => by kernel_rfl
  have hz48 : ∀ W : World, (zeroValue 48).run Tryd.prog W = .ok (.agg Rp.zero.cells.toArray) W := fun W => by kernel_rfl
  have hz55 : ∀ W : World, (zeroValue 55).run Tryd.prog W = .ok (.agg Bt.zeroC.toArray) W := fun W => by kernel_rfl
  have hz59 : ∀ W : World, (zeroValue 59).run Tryd.prog W = .ok (.agg It.zero.cells.toArray) W := fun W => by kernel_rfl
  have HB0 : Hid (Blocks w w []) := Lib.hid (Blocks.nil (Below.refl _ _))
  generalize Bd.zero.cells = Z1 at *
  generalize Rp.zero.cells = Z2 at *
  generalize Bt.zeroC = Z3 at *
  generalize It.zero.cells = Z4 at *
  generalize u.parts = P at *
  generalize u.cells = tc at *
  clear a1 a2 a3 a4 b1 b2 b3 b4 BS0 l1 l2 l4 o1 o2 o4 hT hRS
  go_enter Tryd.func11, Tryd.ntmps11
  go_wp2_with fail
  refine (A1.out _).mono ?_
  rintro _ w1 ⟨rfl, hb⟩
  have HA1 := Lib.hid (HB0.out.step hb)
  have Hz := Lib.hid (Row.new w1 41 Z1)
  clear hb
  go_wp2_with (first
    | (with_reducible show wpList _ _ _ (⟨_, .store 41 (.tmp 3) _, _, _, _, _⟩ :: _) _ _
       refine wpList_store_at rfl 41 (.tmp 3) (.tmp 22) rfl w1.heap.size 0 C1 _ _ rfl rfl Hz.out (by have := HZ1.out; have := HL1.out; omega) (by rw [bid_info, HL1.out]) (HO1.out) ?_
       intro wS hrS hgS
       rw [splice_all ((HL1.out).trans HZ1.out.symm)] at hrS
       have HB1 := Lib.hid (((HA1.out.alloc _).put hgS HA1.out.size HA1.out.fresh).cons hrS)
       clear hrS hgS))
  clear Hz
  refine (B1.out _).mono ?_
  rintro _ w2 ⟨rfl, hb⟩
  have HA2 := Lib.hid (HB1.out.step hb)
  have Hz := Lib.hid (Row.new w2 41 Z1)
  clear hb
  go_wp2_with (first
    | (with_reducible show wpList _ _ _ (⟨_, .store 41 (.tmp 5) _, _, _, _, _⟩ :: _) _ _
       refine wpList_store_at rfl 41 (.tmp 5) (.tmp 27) rfl w2.heap.size 0 C1 _ _ rfl rfl Hz.out (by have := HZ1.out; have := HL1.out; omega) (by rw [bid_info, HL1.out]) (HO1.out) ?_
       intro wS hrS hgS
       rw [splice_all ((HL1.out).trans HZ1.out.symm)] at hrS
       have HB2 := Lib.hid (((HA2.out.alloc _).put hgS HA2.out.size HA2.out.fresh).cons hrS)
       clear hrS hgS))
  clear Hz
  refine (A2.out _ (HTab.out.below HB2.out.1 Hp.out)).mono ?_
  rintro _ w3 ⟨rfl, hb⟩
  have HA3 := Lib.hid (HB2.out.step hb)
  have Hz := Lib.hid (Row.new w3 48 Z2)
  clear hb
  go_wp2_with (first
    | (with_reducible show wpList _ _ _ (⟨_, .store 48 (.tmp 7) _, _, _, _, _⟩ :: _) _ _
       refine wpList_store_at rfl 48 (.tmp 7) (.tmp 32) rfl w3.heap.size 0 C2 _ _ rfl rfl Hz.out (by have := HZ2.out; have := HL2.out; omega) (by rw [rp_info, HL2.out]) (HO2.out) ?_
       intro wS hrS hgS
       rw [splice_all ((HL2.out).trans HZ2.out.symm)] at hrS
       have HB3 := Lib.hid (((HA3.out.alloc _).put hgS HA3.out.size HA3.out.fresh).cons hrS)
       clear hrS hgS))
  clear Hz
  refine (B2.out _).mono ?_
  rintro _ w4 ⟨rfl, hb⟩
  have HA4 := Lib.hid (HB3.out.step hb)
  have Hz := Lib.hid (Row.new w4 48 Z2)
  clear hb
  go_wp2_with (first
    | (with_reducible show wpList _ _ _ (⟨_, .store 48 (.tmp 9) _, _, _, _, _⟩ :: _) _ _
       refine wpList_store_at rfl 48 (.tmp 9) (.tmp 37) rfl w4.heap.size 0 C2 _ _ rfl rfl Hz.out (by have := HZ2.out; have := HL2.out; omega) (by rw [rp_info, HL2.out]) (HO2.out) ?_
       intro wS hrS hgS
       rw [splice_all ((HL2.out).trans HZ2.out.symm)] at hrS
       have HB4 := Lib.hid (((HA4.out.alloc _).put hgS HA4.out.size HA4.out.fresh).cons hrS)
       clear hrS hgS))
  clear Hz
  refine (A3.out _).mono ?_
  rintro _ w5 ⟨Aa, ca, rfl, hPa, hb⟩
  have HA5 := Lib.hid (HB4.out.step hb)
  have Pa := Lib.hid hPa
  have Hz := Lib.hid (Row.new w5 55 Z3)
  clear hb hPa
  go_wp2_with (first
    | (with_reducible show wpList _ _ _ (⟨_, .store 55 (.tmp 11) _, _, _, _, _⟩ :: _) _ _
       refine wpList_store_at rfl 55 (.tmp 11) (.tmp 42) rfl w5.heap.size 0 (tc Aa ca) _ _ rfl rfl Hz.out (by have := HZ3.out; have := HL3.out Aa ca; omega) (by rw [batch_info, HL3.out Aa ca]) (HO3.out Aa ca) ?_
       intro wS hrS hgS
       rw [splice_all ((HL3.out Aa ca).trans HZ3.out.symm)] at hrS
       have HB5 := Lib.hid (((HA5.out.alloc _).put hgS HA5.out.size HA5.out.fresh).cons hrS)
       have Pas := Lib.hid (((Pa.out.grown (grownBy_alloc w5 _ none) (fun k hk => by cases hk)).grown hgS (fun k hk => by cases hk; exact Nat.le_refl _)).mono (Nat.le_trans (by simp) hgS.size))
       clear hrS hgS))
  clear Hz
  refine (B3.out _).mono ?_
  rintro _ w6 ⟨Ab, cb, rfl, hPb, hb⟩
  have HA6 := Lib.hid (HB5.out.step hb)
  have Pasa := Lib.hid ((Pas.out.below hb).mono hb.size)
  have Pb := Lib.hid hPb
  have Hz := Lib.hid (Row.new w6 55 Z3)
  clear hb hPb
  go_wp2_with (first
    | (with_reducible show wpList _ _ _ (⟨_, .store 55 (.tmp 13) _, _, _, _, _⟩ :: _) _ _
       refine wpList_store_at rfl 55 (.tmp 13) (.tmp 47) rfl w6.heap.size 0 (tc Ab cb) _ _ rfl rfl Hz.out (by have := HZ3.out; have := HL3.out Ab cb; omega) (by rw [batch_info, HL3.out Ab cb]) (HO3.out Ab cb) ?_
       intro wS hrS hgS
       rw [splice_all ((HL3.out Ab cb).trans HZ3.out.symm)] at hrS
       have HB6 := Lib.hid (((HA6.out.alloc _).put hgS HA6.out.size HA6.out.fresh).cons hrS)
       have Pasas := Lib.hid (((Pasa.out.grown (grownBy_alloc w6 _ none) (fun k hk => by cases hk)).grown hgS (fun k hk => by cases hk; exact Nat.le_refl _)).mono (Nat.le_trans (by simp) hgS.size))
       have Pbs := Lib.hid (((Pb.out.grown (grownBy_alloc w6 _ none) (fun k hk => by cases hk)).grown hgS (fun k hk => by cases hk; exact Nat.le_refl _)).mono (Nat.le_trans (by simp) hgS.size))
       clear hrS hgS))
  clear Hz
  refine (A4.out _).mono ?_
  rintro _ w7 ⟨rfl, hb⟩
  have HA7 := Lib.hid (HB6.out.step hb)
  have Pasasa := Lib.hid ((Pasas.out.below hb).mono hb.size)
  have Pbsa := Lib.hid ((Pbs.out.below hb).mono hb.size)
  have Hz := Lib.hid (Row.new w7 59 Z4)
  clear hb
  go_wp2_with (first
    | (with_reducible show wpList _ _ _ (⟨_, .store 59 (.tmp 15) _, _, _, _, _⟩ :: _) _ _
       refine wpList_store_at rfl 59 (.tmp 15) (.tmp 52) rfl w7.heap.size 0 C4 _ _ rfl rfl Hz.out (by have := HZ4.out; have := HL4.out; omega) (by rw [item_info, HL4.out]) (HO4.out) ?_
       intro wS hrS hgS
       rw [splice_all ((HL4.out).trans HZ4.out.symm)] at hrS
       have HB7 := Lib.hid (((HA7.out.alloc _).put hgS HA7.out.size HA7.out.fresh).cons hrS)
       have Pasasas := Lib.hid (((Pasasa.out.grown (grownBy_alloc w7 _ none) (fun k hk => by cases hk)).grown hgS (fun k hk => by cases hk; exact Nat.le_refl _)).mono (Nat.le_trans (by simp) hgS.size))
       have Pbsas := Lib.hid (((Pbsa.out.grown (grownBy_alloc w7 _ none) (fun k hk => by cases hk)).grown hgS (fun k hk => by cases hk; exact Nat.le_refl _)).mono (Nat.le_trans (by simp) hgS.size))
       clear hrS hgS))
  clear Hz
  refine (B4.out _).mono ?_
  rintro _ w8 ⟨rfl, hb⟩
  have HA8 := Lib.hid (HB7.out.step hb)
  have Pasasasa := Lib.hid ((Pasasas.out.below hb).mono hb.size)
  have Pbsasa := Lib.hid ((Pbsas.out.below hb).mono hb.size)
  have Hz := Lib.hid (Row.new w8 59 Z4)
  clear hb
  go_wp2_with (first
    | (with_reducible show wpList _ _ _ (⟨_, .store 59 (.tmp 17) _, _, _, _, _⟩ :: _) _ _
       refine wpList_store_at rfl 59 (.tmp 17) (.tmp 57) rfl w8.heap.size 0 C4 _ _ rfl rfl Hz.out (by have := HZ4.out; have := HL4.out; omega) (by rw [item_info, HL4.out]) (HO4.out) ?_
       intro wS hrS hgS
       rw [splice_all ((HL4.out).trans HZ4.out.symm)] at hrS
       have HB8 := Lib.hid (((HA8.out.alloc _).put hgS HA8.out.size HA8.out.fresh).cons hrS)
       have Pasasasas := Lib.hid (((Pasasasa.out.grown (grownBy_alloc w8 _ none) (fun k hk => by cases hk)).grown hgS (fun k hk => by cases hk; exact Nat.le_refl _)).mono (Nat.le_trans (by simp) hgS.size))
       have Pbsasas := Lib.hid (((Pbsasa.out.grown (grownBy_alloc w8 _ none) (fun k hk => by cases hk)).grown hgS (fun k hk => by cases hk; exact Nat.le_refl _)).mono (Nat.le_trans (by simp) hgS.size))
       clear hrS hgS))
  clear Hz
  refine (awake5_any _ (HTab.out.below HB8.out.1 Hp.out)).mono ?_
  rintro _ w9 ⟨rfl, hb⟩
  have HB9 := Lib.hid (HB8.out.step hb)
  have Pasasasasa := Lib.hid ((Pasasasas.out.below hb).mono hb.size)
  have Pbsasasa := Lib.hid ((Pbsasas.out.below hb).mono hb.size)
  clear hb
  go_wp2_with (first
    | (with_reducible show wpList _ _ _ (⟨_, .load 41 (.tmp 3), _, _, _, _⟩ :: _) _ _; refine wpList_load_tx rfl 41 (.tmp 3) rfl (w1.heap.size) 0 rfl C1 _ (row_range HB9.out.tl.tl.tl.tl.tl.tl.tl.hd) Tryd.underlying41 rfl (by rw [bid_info, HL1.out]) ?_)
    | (with_reducible show wpList _ _ _ (⟨_, .load 41 (.tmp 5), _, _, _, _⟩ :: _) _ _; refine wpList_load_tx rfl 41 (.tmp 5) rfl (w2.heap.size) 0 rfl C1 _ (row_range HB9.out.tl.tl.tl.tl.tl.tl.hd) Tryd.underlying41 rfl (by rw [bid_info, HL1.out]) ?_)
    | (with_reducible show wpList _ _ _ (⟨_, .load 48 (.tmp 7), _, _, _, _⟩ :: _) _ _; refine wpList_load_tx rfl 48 (.tmp 7) rfl (w3.heap.size) 0 rfl C2 _ (row_range HB9.out.tl.tl.tl.tl.tl.hd) Tryd.underlying48 rfl (by rw [rp_info, HL2.out]) ?_)
    | (with_reducible show wpList _ _ _ (⟨_, .load 48 (.tmp 9), _, _, _, _⟩ :: _) _ _; refine wpList_load_tx rfl 48 (.tmp 9) rfl (w4.heap.size) 0 rfl C2 _ (row_range HB9.out.tl.tl.tl.tl.hd) Tryd.underlying48 rfl (by rw [rp_info, HL2.out]) ?_)
    | (with_reducible show wpList _ _ _ (⟨_, .load 55 (.tmp 11), _, _, _, _⟩ :: _) _ _; refine wpList_load_tx rfl 55 (.tmp 11) rfl (w5.heap.size) 0 rfl (tc Aa ca) _ (row_range HB9.out.tl.tl.tl.hd) Tryd.underlying55 rfl (by rw [batch_info, HL3.out Aa ca]) ?_)
    | (with_reducible show wpList _ _ _ (⟨_, .load 55 (.tmp 13), _, _, _, _⟩ :: _) _ _; refine wpList_load_tx rfl 55 (.tmp 13) rfl (w6.heap.size) 0 rfl (tc Ab cb) _ (row_range HB9.out.tl.tl.hd) Tryd.underlying55 rfl (by rw [batch_info, HL3.out Ab cb]) ?_))
  refine (BS.out _ Aa ca Ab cb Pasasasasa.out Pbsasasa.out).mono ?_
  rintro _ w10 ⟨rfl, hb⟩
  have HB10 := Lib.hid (HB9.out.step hb)
  clear hb
  go_wp2_with (first
    | (with_reducible show wpList _ _ _ (⟨_, .load 59 (.tmp 15), _, _, _, _⟩ :: _) _ _; refine wpList_load_tx rfl 59 (.tmp 15) rfl (w7.heap.size) 0 rfl C4 _ (row_range HB10.out.tl.hd) Tryd.underlying59 rfl (by rw [item_info, HL4.out]) ?_)
    | (with_reducible show wpList _ _ _ (⟨_, .load 59 (.tmp 17), _, _, _, _⟩ :: _) _ _; refine wpList_load_tx rfl 59 (.tmp 17) rfl (w8.heap.size) 0 rfl C4 _ (row_range HB10.out.hd) Tryd.underlying59 rfl (by rw [item_info, HL4.out]) ?_))
  go_ret
  exact ⟨rfl, HB10.out.1⟩
end Go.Proofs.YtdekcicgiflnbaaDoor
