/- The laws of layer 5: what each begins with. -/
import Derived.Test.YtdekcicgiflnbaaDoorNoE
import Derived.Test.YtdekcicgiflnbaaDoorNoB
namespace Go.Proofs.YtdekcicgiflnbaaDoor
open Go.RowKit
set_option linter.unusedVariables false
set_option linter.unusedSimpArgs false

theorem listE_small (l : List (List UInt8)) (hl : l.length ≤ 1024) (ht : Oct.total l ≤ 65536) : ∃ b, Oct.listE l = (b, 0) := by
  unfold Oct.listE
  rw [if_neg (by omega), Oct.listGo_mk 65536 l ht]
  exact ⟨_, rfl⟩
theorem total_cons (a : List UInt8) (l : List (List UInt8)) : Oct.total (a :: l) = a.length + Oct.total l := rfl
theorem Bd.text_ok {b : Bd} (hk : b.ok = true) (ht : b.tag.length = 32) : ∃ s, b.textE = (s, 0) := by
  unfold Bd.textE
  rw [if_pos hk]
  refine listE_small _ (by simp [Bd.fields, Bd.numsL]) ?_
  have h0 := Oct.num_length_le b.round.toNat
  have h1 := Oct.num_length_le b.who.toNat
  have h2 := Oct.num_length_le b.amount.toNat
  have h3 := Oct.num_length_le b.salt.toNat
  simp only [Bd.fields, Bd.numsL, List.map_cons, List.map_nil, List.cons_append, List.nil_append, total_cons]
  have : Oct.total [] = 0 := rfl
  omega
theorem Bd.text_len (b : Bd) : b.textE.1.length ≤ 100000 := by
  unfold Bd.textE
  split
  · exact listE_len _
  · simp
def Bd.one : Bd := ⟨1, 2, 3, 0, Tx.zero⟩
def Rp.one : Rp := ⟨0, 1, 5, ⟨#[97]⟩, Tx.zero, Tx.zero⟩
theorem Bd.one_fits : Bd.one.Fits := ⟨rfl, ⟨by decide, by decide⟩, ⟨by decide, by decide⟩, ⟨by decide, by decide⟩, fits0⟩
theorem one_built : Tryd.prog.built 41 [(0, .int .i64 1), (1, .int .i64 2), (2, .int .i64 3)] = some Bd.one.cells.toArray := by kernel_rfl
theorem one_link : Rp.one.link ≠ Tx.zero := by decide +kernel
theorem Bd.sign_ok (b : Bd) : b.sign.ok = b.ok := rfl
theorem Bd.sign_sign (b : Bd) : b.sign.sign = b.sign := rfl
theorem Bd.signE_ok {b : Bd} (h : b.ok = true) : Bd.pairV b.signE = .tuple #[.agg b.sign.cells.toArray, .int .i64 0] := by unfold Bd.signE; rw [if_pos h]; rfl
theorem Rp.linkE_ok {r : Rp} (h : r.ok = true) : Rp.pairV r.linkE = .tuple #[.agg r.linked.cells.toArray, .int .i64 0] := by unfold Rp.linkE; rw [if_pos h]; rfl
theorem Bd.sign_check {b : Bd} (h : b.ok = true) : b.sign.check = 0 := Bd.check_ok (b := b.sign) h true (by simp; rfl)
theorem one_parts : Bd.one.Fits ∧ Bd.one.sign.Fits ∧ Rp.one.linked.prev.length = 32 ∧ Rp.one.linked.hash.length = 32 := by
  refine ⟨Bd.one_fits, Bd.sign_fits Bd.one_fits, ?_, ?_⟩
  · show Tx.zero.length = 32
    exact List.length_replicate
  · exact Rp.link_len Rp.one
theorem awk_facts : ∃ (o u : Bd) (s : List UInt8) (k : Rp), (o.Fits ∧ u.Fits ∧ k.prev.length = 32 ∧ k.hash.length = 32) ∧ Tryd.prog.built 41 [(0, .int .i64 1), (1, .int .i64 2), (2, .int .i64 3)] = some o.cells.toArray ∧ Bd.pairV o.signE = .tuple #[.agg u.cells.toArray, .int .i64 0] ∧
    u.textE = (s, 0) ∧ Bd.read s = some u ∧ u.check = 0 ∧ Rp.pairV (Rp.linkE ⟨0, 1, 5, ⟨#[97]⟩, Tx.zero, Tx.zero⟩) = .tuple #[.agg k.cells.toArray, .int .i64 0] ∧ k.hash ≠ Tx.zero := by
  have hk : Bd.one.ok = true := by decide +kernel
  have hsk : Bd.one.sign.ok = true := (Bd.sign_ok Bd.one).trans hk
  have hf := Bd.sign_fits Bd.one_fits
  obtain ⟨s, hs⟩ := Bd.text_ok hsk hf.tag
  have hk2 : Rp.one.ok = true := by decide +kernel
  exact ⟨Bd.one, Bd.one.sign, s, Rp.one.linked, one_parts, one_built, Bd.signE_ok hk, hs, Bd.read_text hf.tag hs, Bd.sign_check hk, Rp.linkE_ok hk2, one_link⟩
theorem hash_ne {R : List UInt8} (h : R.length = 32) (hn : R ≠ Tx.zero) (W : World) : (Op.equalIn 10000 23 (.agg (bRow R)) (.agg (bRow Tx.zero))).run Tryd.prog W = .ok false W := (hash_eq W R Tx.zero h rfl).trans (by rw [decide_eq_false hn])
set_option maxRecDepth 20000 in
set_option maxHeartbeats 3200000 in
theorem awake5_any (w : World) (hT : Tab w) :
    Calls Tryd.prog 34 #[] w fun e w' => e = .returned (.bool true) ∧ Below w.heap.size w w' := by
  obtain ⟨o, u, s, k, ⟨fo, fu, kp, kh⟩, hbu, hsg, htx, hrd, hck, hlk, hkz⟩ := awk_facts
  have SG : Hid (∀ W, Tab W → Calls Tryd.prog 32 #[.agg o.cells.toArray] W fun e w' => e = .returned (.tuple #[.agg u.cells.toArray, .int .i64 0]) ∧ Below W.heap.size W w') := fun W hW => by have := signBid_any o fo.tag W hW; rw [hsg] at this; exact this
  have WB : Hid (∀ W, Calls Tryd.prog 30 #[.agg u.cells.toArray] W fun e w' => e = .returned (.tuple #[S s, .int .i64 0]) ∧ Below W.heap.size W w') := fun W => by have := writeBid_any u fu.tag W; rw [htx] at this; exact this
  have hsl : s.length ≤ 100000 := by have := u.text_len; rw [htx] at this; exact this
  have RB : Hid (∀ W, Calls Tryd.prog 45 #[S s] W fun e w' => e = .returned (.tuple #[.agg u.cells.toArray, .int .i64 0]) ∧ Below W.heap.size W w') := fun W => by
    have := readBid_any ⟨s.toArray⟩ W (by show s.length ≤ _; omega)
    rw [show (⟨s.toArray⟩ : ByteArray).data.toList = s from rfl, hrd] at this
    exact this
  have LK : Hid (∀ W, Tab W → Calls Tryd.prog 39 #[.agg (bRow Tx.zero), .int .i64 0, .int .i64 1, .int .i64 5, .string ⟨#[97]⟩] W fun e w' => e = .returned (.tuple #[.agg k.cells.toArray, .int .i64 0]) ∧ Below W.heap.size W w') := fun W hW => by have := link5_any 0 1 5 ⟨#[97]⟩ Tx.zero rfl W hW; rw [hlk] at this; exact this
  have CK : Hid (∀ W, Tab W → Calls Tryd.prog 35 #[.agg u.cells.toArray] W fun e w' => e = .returned (.int .i64 0) ∧ Below W.heap.size W w') := fun W hW => by have := checkBid_any u fu.tag W hW; rw [hck] at this; exact this
  have heq := fun W => bid_eqD W u u fu fu (v := true) (by simp)
  have hne := hash_ne kh hkz
  have HUL := Lib.hid (Bd.cells_len fu.tag)
  have HU1 := Lib.hid (Bd.cells_one fu.tag)
  have HKL := Lib.hid (Rp.cells_len kp kh)
  have HK1 := Lib.hid (Rp.cells_one kp kh)
  have BT : Hid (∀ (W : World) (g : Nat) (T : TypeId), Row W g T k.cells → W.rangeAt g 36 (bRow k.hash).toList) := fun W g T h => rp_hash kp h
  have HB32 := Lib.hid (Tx.bRow_len _ kh)
  have HBZ := Lib.hid (Bd.cells_len (b := Bd.zero) rfl)
  have HRZ := Lib.hid (Rp.cells_len (r := Rp.zero) rfl rfl)
  have hz41 : ∀ W : World, (zeroValue 41).run Tryd.prog W = .ok (.agg Bd.zero.cells.toArray) W := fun W => by kernel_rfl
  have hz48 : ∀ W : World, (zeroValue 48).run Tryd.prog W = .ok (.agg Rp.zero.cells.toArray) W := fun W => by kernel_rfl
  have HTab := Lib.hid hT
  have Hp := Lib.hid hT.pos
  have Hbu := Lib.hid hbu
  generalize u.cells = U at *
  generalize k.cells = KC at *
  generalize k.hash = KH at *
  generalize Bd.zero.cells = BZ at *
  generalize Rp.zero.cells = RZ at *
  generalize o.cells = OC at *
  clear hT hbu hsg htx hrd hck hlk hkz hsl fo fu kp kh
  go_enter Tryd.func34, Tryd.ntmps34
  go_wp2_with ((with_reducible show wpList _ _ _ (⟨_, .build 41 _, _, _, _, _⟩ :: _) _ _); refine wpList_buildL rfl 41 [(0, .const (.int .i64 1)), (1, .const (.int .i64 2)), (2, .const (.int .i64 3))] rfl (some 10) rfl [(0, .int .i64 1), (1, .int .i64 2), (2, .int .i64 3)] rfl OC.toArray Hbu.out ?_)
  refine (SG.out _ HTab.out).mono ?_
  rintro _ w1 ⟨rfl, hb1⟩
  have Hb1 := Lib.hid hb1
  have Hz1 := Lib.hid (Row.new w1 41 BZ)
  clear hb1
  go_wp2_with (first
  | (with_reducible show wpList _ _ _ (⟨_, .store 41 (.tmp 1) _, _, _, _, _⟩ :: _) _ _
     refine wpList_store_at rfl 41 (.tmp 1) (.tmp 12) rfl w1.heap.size 0 U _ _ rfl rfl Hz1.out (by have := HBZ.out; have := HUL.out; omega) (by rw [bid_info, HUL.out]) HU1.out ?_
     intro w2 hrw2 hgw2
     rw [splice_all (HUL.out.trans HBZ.out.symm)] at hrw2
     have Hrw2 := Lib.hid hrw2
     have Hbw2 := Lib.hid (below_own (Hb1.out.alloc Hb1.out.size _) hgw2 (fun k hk => by cases hk; exact Hb1.out.size))
     clear hrw2 hgw2)
  | (with_reducible show wpList _ _ _ (⟨_, .load 41 (.tmp 1), _, _, _, _⟩ :: _) _ _; refine wpList_load_tx rfl 41 (.tmp 1) rfl (w1.heap.size) 0 rfl U _ (row_range Hrw2.out) Tryd.underlying41 rfl (by rw [bid_info, HUL.out]) ?_))
  refine (WB.out _).mono ?_
  rintro _ w3 ⟨rfl, hb3⟩
  have Hr3 := Lib.hid (Hrw2.out.kept (grownBy_of_below hb3 none) (by simp))
  have Hb3 := Lib.hid (two_below' Hbw2.out hb3)
  clear hb3
  go_wp2_with fail
  refine (RB.out _).mono ?_
  rintro _ w4 ⟨rfl, hb4⟩
  have Hr4 := Lib.hid (Hr3.out.kept (grownBy_of_below hb4 none) (by simp))
  have Hb4 := Lib.hid (two_below' Hb3.out hb4)
  have hn4 : w1.heap.size ≠ w4.heap.size := by have := Hr4.out.lt; omega
  have Hn4 := Lib.hid hn4
  have Hz4 := Lib.hid (Row.new w4 41 BZ)
  clear hb4 hn4
  go_wp2_with (first
  | (with_reducible show wpList _ _ _ (⟨_, .store 41 (.tmp 5) _, _, _, _, _⟩ :: _) _ _
     refine wpList_store_at rfl 41 (.tmp 5) (.tmp 22) rfl w4.heap.size 0 U _ _ rfl rfl Hz4.out (by have := HBZ.out; have := HUL.out; omega) (by rw [bid_info, HUL.out]) HU1.out ?_
     intro w5 hrw5 hgw5
     rw [splice_all (HUL.out.trans HBZ.out.symm)] at hrw5
     have Hrw5 := Lib.hid hrw5
     have HrA := Lib.hid ((Hr4.out.kept (grownBy_alloc w4 _ none) (by simp)).kept hgw5 (by simpa using Hn4.out))
     have Hbw5 := Lib.hid (below_own (Hb4.out.alloc Hb4.out.size _) hgw5 (fun k hk => by cases hk; exact Hb4.out.size))
     clear hrw5 hgw5)
  | ((with_reducible show wpList _ _ _ (⟨_, .build 23 _, _, _, _, _⟩ :: _) _ _); refine wpList_buildL rfl 23 [] rfl (some 25) rfl [] rfl (bRow Tx.zero) hash_built ?_))
  refine (LK.out _ (HTab.out.below Hbw5.out Hp.out)).mono ?_
  rintro _ w6 ⟨rfl, hb6⟩
  have hg6 := grownBy_of_below hb6 none
  have Hr6 := Lib.hid (HrA.out.kept hg6 (by simp))
  have Hq6 := Lib.hid (Hrw5.out.kept hg6 (by simp))
  have Hb6 := Lib.hid (two_below' Hbw5.out hb6)
  have hn6 : w1.heap.size ≠ w6.heap.size := by have := Hr6.out.lt; omega
  have hm6 : w4.heap.size ≠ w6.heap.size := by have := Hq6.out.lt; omega
  have Hn6 := Lib.hid hn6
  have Hm6 := Lib.hid hm6
  have Hz6 := Lib.hid (Row.new w6 48 RZ)
  clear hb6 hg6 hn6 hm6
  go_wp2_with (first
  | (with_reducible show wpList _ _ _ (⟨_, .store 48 (.tmp 7) _, _, _, _, _⟩ :: _) _ _
     refine wpList_store_at rfl 48 (.tmp 7) (.tmp 27) rfl w6.heap.size 0 KC _ _ rfl rfl Hz6.out (by have := HRZ.out; have := HKL.out; omega) (by rw [rp_info, HKL.out]) HK1.out ?_
     intro w7 hrw7 hgw7
     rw [splice_all (HKL.out.trans HRZ.out.symm)] at hrw7
     have Hrw7 := Lib.hid hrw7
     have Hr7 := Lib.hid ((Hr6.out.kept (grownBy_alloc w6 _ none) (by simp)).kept hgw7 (by simpa using Hn6.out))
     have Hq7 := Lib.hid ((Hq6.out.kept (grownBy_alloc w6 _ none) (by simp)).kept hgw7 (by simpa using Hm6.out))
     have Hbw7 := Lib.hid (below_own (Hb6.out.alloc Hb6.out.size _) hgw7 (fun k hk => by cases hk; exact Hb6.out.size))
     clear hrw7 hgw7)
  | (with_reducible show wpList _ _ _ (⟨_, .load 41 (.tmp 1), _, _, _, _⟩ :: _) _ _; refine wpList_load_tx rfl 41 (.tmp 1) rfl (w1.heap.size) 0 rfl U _ (row_range Hr7.out) Tryd.underlying41 rfl (by rw [bid_info, HUL.out]) ?_)
  | (with_reducible show wpList _ _ _ (⟨_, .load 41 (.tmp 5), _, _, _, _⟩ :: _) _ _; refine wpList_load_tx rfl 41 (.tmp 5) rfl (w4.heap.size) 0 rfl U _ (row_range Hq7.out) Tryd.underlying41 rfl (by rw [bid_info, HUL.out]) ?_))
  refine (CK.out _ (HTab.out.below Hbw7.out Hp.out)).mono ?_
  rintro _ w8 ⟨rfl, hb8⟩
  have Hk8 := Lib.hid (BT.out _ _ _ (Hrw7.out.kept (grownBy_of_below hb8 none) (by simp)))
  have Hb8 := Lib.hid (two_below' Hbw7.out hb8)
  have hzh := hash_zv
  clear hb8 heq hz41 hz48
  go_wp2_with (first
  | (with_reducible show wpList _ _ _ (⟨_, .load 23 (.tmp 54), _, _, _, _⟩ :: _) _ _; refine wpList_load_tx rfl 23 (.tmp 54) rfl (w6.heap.size) 36 rfl (bRow KH).toList _ Hk8.out Tryd.underlying23 rfl (by rw [hash_info, HB32.out]) ?_))
  go_ret
  exact ⟨rfl, Hb8.out⟩
end Go.Proofs.YtdekcicgiflnbaaDoor
