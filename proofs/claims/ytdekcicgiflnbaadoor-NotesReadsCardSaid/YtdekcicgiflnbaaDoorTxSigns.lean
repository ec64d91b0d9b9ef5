/- tx.Name, Sign, Hand, Signed. -/
/- tx.Sign, Hand. -/
import Derived.Test.YtdekcicgiflnbaaDoorTxRow
namespace Go.Proofs.YtdekcicgiflnbaaDoor
open Go.RowKit
set_option linter.unusedVariables false
set_option linter.unusedSimpArgs false

theorem splice_all {xs l : List Value} (h : l.length = xs.length) : xs.take 0 ++ (l ++ xs.drop (0 + l.length)) = l := by
  rw [List.take_zero, List.nil_append, List.drop_of_length_le (by omega), List.append_nil]
theorem row_two (w : World) (A B : Array Value) (t1 t2 : TypeId) : Row ((w.alloc (.cells A t1)).alloc (.cells B t2)) (w.heap.size + 1) t2 B.toList ∧ Below w.heap.size w ((w.alloc (.cells A t1)).alloc (.cells B t2)) ∧ Row ((w.alloc (.cells A t1)).alloc (.cells B t2)) w.heap.size t1 A.toList := by
  have h := Row.new (w.alloc (.cells A t1)) t2 B.toList
  rw [show ∀ (W : World) (o : Obj), (W.alloc o).heap.size = W.heap.size + 1 from fun W o => by simp] at h
  exact ⟨h, ((Below.refl w.heap.size w).alloc (Nat.le_refl _) _).alloc (by simp) _, (Row.new w t1 A.toList).kept (grownBy_alloc _ _ none) (by simp)⟩
theorem row_own {w w' : World} {g g' : Nat} {T : TypeId} {xs : List Value} (h : Row w g T xs) (hg : w.grownBy w' (some g')) (hne : g ≠ g') : Row w' g T xs := h.kept hg (by simpa using hne)
namespace Tx
def nameE (t : Tx) : List UInt8 × Int := if t.textE.2 = 0 then (Sha.sum t.textE.1, 0) else (zero, t.textE.2)
/-- signed by its author -/
def sign (t : Tx) : Tx := { t with tag := (Seal.tag t.frm 1 t.bodyE.1).1 }
def signE (t : Tx) : Tx × Int := if t.bodyE.2 = 0 then (t.sign, (Seal.tag t.frm 1 t.bodyE.1).2) else (none, t.bodyE.2)
def hand (t : Tx) (who : Int) : Tx := { t with bY := (Seal.tag who 2 t.bodyE.1).1 }
def handE (t : Tx) (who : Int) : Tx × Int :=
  if t.bodyE.2 ≠ 0 then (none, t.bodyE.2) else if acct who = false then (none, 20) else if t.lane = false then (none, 2) else (t.hand who, (Seal.tag who 2 t.bodyE.1).2)
def signedE (t : Tx) : Int := if t.bodyE.2 = 0 then Seal.check2 t.frm 1 t.bodyE.1 t.tag else t.bodyE.2
theorem sign_ok {t : Tx} (h : t.Ok) : t.sign.Ok := ⟨h.bY, Seal.tag_len _ _ _, h.data, h.frm, h.nonce, h.fee, h.to, h.round, h.turn⟩
theorem hand_ok {t : Tx} (h : t.Ok) (who : Int) : (t.hand who).Ok := ⟨Seal.tag_len _ _ _, h.tag, h.data, h.frm, h.nonce, h.fee, h.to, h.round, h.turn⟩
theorem sign_cells {t : Tx} (h : t.Ok) (R : List UInt8) (hR : R.length = 32) : t.cells.take 40 ++ ((bRow R).toList ++ t.cells.drop (40 + (bRow R).toList.length)) = Tx.cells { t with tag := R } := by
  have h1 : (bRow t.bY).toList.length = 32 := bRow_len _ h.bY
  rw [List.drop_of_length_le (by rw [cells_length h, bRow_len R hR]; omega), List.append_nil]
  have e : t.cells.take 40 = t.head ++ (bRow t.bY).toList := by
    unfold cells
    rw [List.take_append, List.take_of_length_le (by simp [head]), show t.head.length = 8 from rfl, List.take_append_of_le_length (by omega), List.take_of_length_le (by omega)]
  rw [e, List.append_assoc]
  rfl
theorem hand_cells {t : Tx} (h : t.Ok) (R : List UInt8) (hR : R.length = 32) : t.cells.take 8 ++ ((bRow R).toList ++ t.cells.drop (8 + (bRow R).toList.length)) = Tx.cells { t with bY := R } := by
  have h1 : (bRow t.bY).toList.length = 32 := bRow_len _ h.bY
  have e1 : t.cells.take 8 = t.head := rfl
  have e2 : t.cells.drop 40 = (bRow t.tag).toList := by
    show (((bRow t.bY).toList ++ (bRow t.tag).toList)).drop 32 = _
    rw [List.drop_left' h1]
  rw [bRow_len R hR, e1, e2]
  rfl
end Tx

set_option maxRecDepth 20000 in
set_option maxHeartbeats 800000 in
theorem name4_any (t : Tx) (ht : t.Ok) (w : World) (hT : Tab w) :
    Calls Tryd.prog 18 #[t.v] w fun e w' => e = .returned (HN t.nameE.1 t.nameE.2) ∧ Below w.heap.size w w' := by
  have hrng := tx_range (Row.new w 25 t.cells)
  have hlen := Tx.cells_length ht
  have TXT : Hid (∀ W, Calls Tryd.prog 16 #[.agg t.cells.toArray] W fun e w' => e = .returned (.tuple #[S t.textE.1, .int .i64 t.textE.2]) ∧ Below W.heap.size W w') := fun W => text4_any t ht W
  have htl := t.text_len
  have SM : Hid (∀ W, Tab W → Calls Tryd.prog 60 #[S t.textE.1] W fun e w' => e = .returned (.agg (bRow (Sha.sum t.textE.1))) ∧ Below W.heap.size W w') := fun W hW => sum_any ⟨t.textE.1.toArray⟩ W hW (by show t.textE.1.length ≤ _; omega)
  have hn1 : t.textE.2 = 0 → t.nameE = (Sha.sum t.textE.1, 0) := fun h => by unfold Tx.nameE; rw [if_pos h]
  have hn2 : t.textE.2 ≠ 0 → t.nameE = (Tx.zero, t.textE.2) := fun h => by unfold Tx.nameE; rw [if_neg h]
  have hsl : (Sha.sum t.textE.1).length = 32 := Sha.sum_len _
  show Calls _ _ #[.agg t.cells.toArray] _ _
  generalize t.cells = C at *
  generalize t.nameE = NE at *
  generalize t.textE = TE at *
  obtain ⟨ts, te⟩ := TE
  simp only at hn1 hn2 TXT SM hsl
  generalize Sha.sum ts = R at *
  have HL := Lib.hid hlen
  have Hrng := Lib.hid hrng
  have Hn1 := Lib.hid hn1
  have Hn2 := Lib.hid hn2
  have Hsl := Lib.hid hsl
  have HB32 := Lib.hid (Tx.bRow_len R hsl)
  have HZ32 := Lib.hid (Tx.bRow_len Tx.zero rfl)
  have hzv := hash_zv
  have HTab := Lib.hid hT
  have Hp := Lib.hid hT.pos
  clear hT
  clear hlen hrng hn1 hn2 hsl htl ht
  have hzl : (bRow Tx.zero).toList.length = (bRow Tx.zero).toList.length := rfl
  by_cases he : te = 0
  · subst he
    go_enter Tryd.func18, Tryd.ntmps18
    go_wp2_with (with_reducible show wpList _ _ _ (⟨_, .load 25 _, _, _, _, _⟩ :: _) _ _; refine wpList_load_tx rfl 25 (.tmp 1) rfl w.heap.size 0 rfl C _ (World.rangeAt_alloc Hrng.out _) Tryd.underlying25 rfl (by rw [tx_info, HL.out]) ?_)
    refine calls_named ?_
    intro w1 hw1
    have hb1 : Below w.heap.size w w1 := by rw [hw1]; exact (row_two w C.toArray (bRow Tx.zero) 25 23).2.1
    have hr1 : Row w1 (w.heap.size + 1) 23 (bRow Tx.zero).toList := by rw [hw1]; exact (row_two w C.toArray (bRow Tx.zero) 25 23).1
    clear hw1
    refine (TXT.out w1).mono ?_
    rintro _ w2 ⟨rfl, hb2⟩
    have hr2 := hr1.kept (grownBy_of_below hb2 none) (by simp)
    have hbt2 := two_below' hb1 hb2
    have Hr2 := Lib.hid hr2
    have Hbt2 := Lib.hid hbt2
    clear hb1 hr1 hb2 hr2 hbt2
    go_wp2_with fail
    refine (SM.out w2 (HTab.out.below Hbt2.out Hp.out)).mono ?_
    rintro _ w3 ⟨rfl, hb3⟩
    have hr3 := Hr2.out.kept (grownBy_of_below hb3 none) (by simp)
    have hbt3 := two_below' Hbt2.out hb3
    have Hr3 := Lib.hid hr3
    have Hbt3 := Lib.hid hbt3
    clear hb3 hr3 hbt3 hzv
    go_wp2_with (with_reducible show wpList _ _ _ (⟨_, .store 23 _ _, _, _, _, _⟩ :: _) _ _
                 refine wpList_store_at rfl 23 (.tmp 2) (.tmp 16) rfl (w.heap.size + 1) 0 (bRow R).toList _ _ rfl rfl Hr3.out (by rw [HB32.out, HZ32.out]; omega) (by rw [hash_info, HB32.out]) (hash_one R Hsl.out) ?_
                 intro w4 hr4 hg4
                 rw [splice_all (HB32.out.trans HZ32.out.symm)] at hr4
                 have Hr4 := Lib.hid hr4
                 have Hb4 := Lib.hid (below_own Hbt3.out hg4 (fun k hk => by cases hk; omega))
                 clear hr4 hg4)
    refine bodyPost_ret (results_rowL rfl _ _ (w.heap.size + 1) 23 _ _ rfl Hr4.out Tryd.underlying23 rfl (by rw [hash_info, List.size_toArray, HB32.out]) _ rfl) rfl ⟨?_, Hb4.out⟩
    have e := Hn1.out (by first | trivial | rfl)
    subst e
    rfl
  · have hne : (te != 0) = true := by simpa using he
    have Hne := Lib.hid he
    clear he
    go_enter Tryd.func18, Tryd.ntmps18
    go_wp2_with (with_reducible show wpList _ _ _ (⟨_, .load 25 _, _, _, _, _⟩ :: _) _ _; refine wpList_load_tx rfl 25 (.tmp 1) rfl w.heap.size 0 rfl C _ (World.rangeAt_alloc Hrng.out _) Tryd.underlying25 rfl (by rw [tx_info, HL.out]) ?_)
    refine calls_named ?_
    intro w1 hw1
    have hb1 : Below w.heap.size w w1 := by rw [hw1]; exact (row_two w C.toArray (bRow Tx.zero) 25 23).2.1
    have hr1 : Row w1 (w.heap.size + 1) 23 (bRow Tx.zero).toList := by rw [hw1]; exact (row_two w C.toArray (bRow Tx.zero) 25 23).1
    clear hw1
    refine (TXT.out w1).mono ?_
    rintro _ w2 ⟨rfl, hb2⟩
    have hr2 := hr1.kept (grownBy_of_below hb2 none) (by simp)
    have hbt2 := two_below' hb1 hb2
    have Hr2 := Lib.hid hr2
    have Hbt2 := Lib.hid hbt2
    clear hb1 hr1 hb2 hr2 hbt2
    go_wp2_with (first
      | (with_reducible show wpList _ _ _ (⟨_, .build 23 _, _, _, _, _⟩ :: _) _ _; refine wpList_buildL rfl 23 [] rfl (some 13) rfl _ rfl _ hash_built ?_)
      | (with_reducible show wpList _ _ _ (⟨_, .store 23 _ _, _, _, _, _⟩ :: _) _ _
         refine wpList_store_at rfl 23 (.tmp 2) (.tmp 13) rfl (w.heap.size + 1) 0 (bRow Tx.zero).toList _ _ rfl rfl Hr2.out (by have := HZ32.out; omega) (by rw [hash_info, HZ32.out]) (hash_one Tx.zero rfl) ?_
         intro w4 hr4 hg4
         rw [splice_all rfl] at hr4
         have Hr4 := Lib.hid hr4
         have Hb4 := Lib.hid (below_own Hbt2.out hg4 (fun k hk => by cases hk; omega))
         clear hr4 hg4))
    refine bodyPost_ret (results_rowL rfl _ _ (w.heap.size + 1) 23 _ _ rfl Hr4.out Tryd.underlying23 rfl (by rw [hash_info, List.size_toArray, HZ32.out]) _ rfl) rfl ⟨?_, Hb4.out⟩
    have e := Hn2.out Hne.out
    subst e
    rfl

set_option maxRecDepth 20000 in
set_option maxHeartbeats 800000 in
theorem signed4_any (t : Tx) (ht : t.Ok) (w : World) (hT : Tab w) :
    Calls Tryd.prog 27 #[t.v] w fun e w' => e = .returned (.int .i64 t.signedE) ∧ Below w.heap.size w w' := by
  have hrow0 := Row.new w 25 t.cells
  have hrng := tx_range hrow0
  have hlen := Tx.cells_length ht
  have BD : Hid (∀ W, Calls Tryd.prog 14 #[.agg t.cells.toArray] W fun e w' => e = .returned (.tuple #[S t.bodyE.1, .int .i64 t.bodyE.2]) ∧ Below W.heap.size W w') := fun W => body_any t ht W
  have hbl := t.body_len
  have CK : Hid (∀ W, Tab W → Calls Tryd.prog 68 #[.int .i64 t.frm, .int .i64 1, S t.bodyE.1, .agg (bRow t.tag)] W fun e w' => e = .returned (.int .i64 (Seal.check2 t.frm 1 t.bodyE.1 t.tag)) ∧ Below W.heap.size W w') := fun W hW => Check_any t.frm 1 ⟨t.bodyE.1.toArray⟩ t.tag W hW ht.tag (by show t.bodyE.1.length ≤ _; omega)
  have BX : Hid (∀ (W : World) (g : Nat) (T : TypeId), Row W g T t.cells → W.cell? ⟨g, 0, none⟩ = some (.int .i64 t.frm) ∧ W.rangeAt g 40 (bRow t.tag).toList) := fun W g T h => ⟨(tx_box ht h).1, (tx_hash_at ht h).2⟩
  have HB32 := Lib.hid (Tx.bRow_len _ ht.tag)
  have hn1 : t.bodyE.2 = 0 → t.signedE = Seal.check2 t.frm 1 t.bodyE.1 t.tag := fun h => by unfold Tx.signedE; rw [if_pos h]
  have hn2 : t.bodyE.2 ≠ 0 → t.signedE = t.bodyE.2 := fun h => by unfold Tx.signedE; rw [if_neg h]
  show Calls _ _ #[.agg t.cells.toArray] _ _
  generalize t.cells = C at *
  generalize t.signedE = NE at *
  generalize t.bodyE = BE at *
  obtain ⟨bs, be⟩ := BE
  simp only at hn1 hn2 BD CK
  generalize Seal.check2 t.frm 1 bs t.tag = R at *
  have HL := Lib.hid hlen
  have Hrng := Lib.hid hrng
  have Hrow0 := Lib.hid hrow0
  have Hn1 := Lib.hid hn1
  have Hn2 := Lib.hid hn2
  have HTab := Lib.hid hT
  have Hp := Lib.hid hT.pos
  clear hT
  clear hlen hrng hn1 hn2 hbl ht hrow0
  by_cases he : be = 0
  · subst he
    go_enter Tryd.func27, Tryd.ntmps27
    go_wp2_with (with_reducible show wpList _ _ _ (⟨_, .load 25 _, _, _, _, _⟩ :: _) _ _; refine wpList_load_tx rfl 25 (.tmp 1) rfl w.heap.size 0 rfl C _ Hrng.out Tryd.underlying25 rfl (by rw [tx_info, HL.out]) ?_)
    refine (BD.out _).mono ?_
    rintro _ w1 ⟨rfl, hb1⟩
    have hg1 := grownBy_of_below hb1 none
    have hr1 := Hrow0.out.kept hg1 (by simp)
    obtain ⟨c0, rt⟩ := BX.out _ _ _ hr1
    have Hrt := Lib.hid rt
    have Hbt1 := Lib.hid (tx_below hg1)
    clear hb1 hg1 hr1 rt
    go_wp2_with (with_reducible show wpList _ _ _ (⟨_, .load 23 _, _, _, _, _⟩ :: _) _ _; refine wpList_load_tx rfl 23 (.tmp 16) rfl w.heap.size 40 rfl (bRow t.tag).toList _ Hrt.out Tryd.underlying23 rfl (by rw [hash_info, HB32.out]) ?_)
    refine (CK.out w1 (HTab.out.below Hbt1.out Hp.out)).mono ?_
    rintro _ w2 ⟨rfl, hb2⟩
    have Hb2 := Lib.hid (two_below' Hbt1.out hb2)
    clear hb2
    go_wp2_with fail
    go_ret
    exact ⟨by have e := Hn1.out (by first | trivial | rfl); subst e; rfl, Hb2.out⟩
  · have hne : (be != 0) = true := by simpa using he
    have Hne := Lib.hid he
    clear he
    go_enter Tryd.func27, Tryd.ntmps27
    go_wp2_with (with_reducible show wpList _ _ _ (⟨_, .load 25 _, _, _, _, _⟩ :: _) _ _; refine wpList_load_tx rfl 25 (.tmp 1) rfl w.heap.size 0 rfl C _ Hrng.out Tryd.underlying25 rfl (by rw [tx_info, HL.out]) ?_)
    refine (BD.out _).mono ?_
    rintro _ w1 ⟨rfl, hb1⟩
    have Hbt1 := Lib.hid (tx_below (grownBy_of_below hb1 none))
    clear hb1
    go_wp2_with fail
    go_ret
    exact ⟨by have e := Hn2.out Hne.out; subst e; rfl, Hbt1.out⟩
end Go.Proofs.YtdekcicgiflnbaaDoor
namespace Go.Proofs.YtdekcicgiflnbaaDoor
open Go.RowKit
set_option linter.unusedVariables false
set_option linter.unusedSimpArgs false

theorem Tx.body_err {t : Tx} (h : t.bodyE.2 = 0) : t.err = 0 := by
  unfold Tx.bodyE at h
  split at h
  · assumption
  · exact h
theorem tag_err0 (who dom : Int) (b : List UInt8) (h0 : 0 ≤ who) (h1 : who ≤ 63) (h2 : 1 ≤ dom) (h3 : dom ≤ 4) : (Seal.tag who dom b).2 = 0 := by
  unfold Seal.tag
  rw [if_neg (by omega), if_neg (by omega)]
theorem sign_err0 {t : Tx} (h : t.bodyE.2 = 0) : (Seal.tag t.frm 1 t.bodyE.1).2 = 0 := by
  have := (Tx.err_ok (Tx.body_err h)).1
  exact tag_err0 _ _ _ this.1 this.2 (by decide) (by decide)
theorem hand_err0 {t : Tx} {who : Int} (h : Tx.acct who = true) : (Seal.tag who 2 t.bodyE.1).2 = 0 := by
  unfold Tx.acct at h
  simp only [Bool.and_eq_true, decide_eq_true_eq] at h
  exact tag_err0 _ _ _ h.1 h.2 (by decide) (by decide)
def Tx.pairV (x : Tx × Int) : Value := .tuple #[x.1.v, .int .i64 x.2]

set_option maxRecDepth 20000 in
set_option maxHeartbeats 1600000 in
theorem sign4_any (t : Tx) (ht : t.Ok) (w : World) (hT : Tab w) :
    Calls Tryd.prog 23 #[t.v] w fun e w' => e = .returned (Tx.pairV (t.signE)) ∧ Below w.heap.size w w' := by
  have hrng := tx_range (Row.new w 25 t.cells)
  have hlen := Tx.cells_length ht
  have BD : Hid (∀ W, Calls Tryd.prog 14 #[.agg t.cells.toArray] W fun e w' => e = .returned (.tuple #[S t.bodyE.1, .int .i64 t.bodyE.2]) ∧ Below W.heap.size W w') := fun W => body_any t ht W
  have hbl := t.body_len
  have TG : Hid (∀ W, Tab W → Calls Tryd.prog 66 #[.int .i64 t.frm, .int .i64 1, S t.bodyE.1] W fun e w' => e = .returned (.tuple #[.agg (bRow (Seal.tag t.frm 1 t.bodyE.1).1), .int .i64 (Seal.tag t.frm 1 t.bodyE.1).2]) ∧ Below W.heap.size W w') := fun W hW => Tag_any t.frm 1 ⟨t.bodyE.1.toArray⟩ W hW (by show t.bodyE.1.length ≤ _; omega)
  have BX : Hid (∀ (W : World) (g : Nat) (T : TypeId), Row W g T t.cells → W.cell? ⟨g, 0, none⟩ = some (.int .i64 t.frm) ∧ W.cell? ⟨g, 5, none⟩ = some (.bool t.lane)) := fun W g T h => ⟨(tx_box ht h).1, (tx_box ht h).2.2.2.2.2.1⟩
  have hn1 : t.bodyE.2 = 0 → Tx.pairV t.signE = .tuple #[.agg t.sign.cells.toArray, .int .i64 (Seal.tag t.frm 1 t.bodyE.1).2] := fun h => by unfold Tx.signE; rw [if_pos h]; rfl
  have hn2 : t.bodyE.2 ≠ 0 → Tx.pairV t.signE = .tuple #[.agg Tx.none.cells.toArray, .int .i64 t.bodyE.2] := fun h => by unfold Tx.signE; rw [if_neg h]; rfl
  have hcl := Tx.sign_cells ht (Seal.tag t.frm 1 t.bodyE.1).1 (Seal.tag_len _ _ _)
  have hD1 : ∀ v ∈ t.sign.cells, v.oneCell' = true := Tx.cells_one (Tx.sign_ok ht)
  have hDl : t.sign.cells.length = 72 := Tx.cells_length (Tx.sign_ok ht)
  have hz0 : t.bodyE.2 = 0 → (Seal.tag t.frm 1 t.bodyE.1).2 = 0 := fun h => sign_err0 h
  have hce : Tx.cells { t with tag := (Seal.tag t.frm 1 t.bodyE.1).1 } = t.sign.cells := rfl
  rw [hce] at hcl
  have htl := Seal.tag_len t.frm 1 t.bodyE.1
  show Calls _ _ #[.agg t.cells.toArray] _ _
  generalize (t.sign).cells = D at *
  generalize t.cells = C at *
  generalize Tx.pairV (t.signE) = NE at *
  generalize (Seal.tag t.frm 1 t.bodyE.1).2 = tn at *
  generalize (Seal.tag t.frm 1 t.bodyE.1).1 = R at *
  generalize t.bodyE = BE at *
  obtain ⟨bs, be⟩ := BE
  simp only at hn1 hn2 BD TG hz0
  have HL := Lib.hid hlen
  have Hrng := Lib.hid hrng
  have Hn1 := Lib.hid hn1
  have Hn2 := Lib.hid hn2
  have Hcl := Lib.hid hcl
  have HD1 := Lib.hid hD1
  have HDl := Lib.hid hDl
  have Hz0 := Lib.hid hz0
  have HR := Lib.hid htl
  have HB32 := Lib.hid (Tx.bRow_len R htl)
  have HZ72 := Lib.hid (Tx.cells_length Tx.none_ok)
  have HZ1 := Lib.hid (Tx.cells_one Tx.none_ok)
  have hzv := tx_zv
  have HTab := Lib.hid hT
  have Hp := Lib.hid hT.pos
  clear hT
  clear hlen hrng hn1 hn2 hbl ht hcl hD1 hDl hz0 hce htl
  by_cases he : be = 0
  · subst he
    go_enter Tryd.func23, Tryd.ntmps23
    go_wp2_with (with_reducible show wpList _ _ _ (⟨_, .load 25 _, _, _, _, _⟩ :: _) _ _; refine wpList_load_tx rfl 25 (.tmp 1) rfl w.heap.size 0 rfl C _ (World.rangeAt_alloc Hrng.out _) Tryd.underlying25 rfl (by rw [tx_info, HL.out]) ?_)
    refine calls_named ?_
    intro w1 hw1
    have hb1 : Below w.heap.size w w1 := by rw [hw1]; exact (row_two w C.toArray Tx.none.arr 25 25).2.1
    have hr1 : Row w1 (w.heap.size + 1) 25 Tx.none.cells := by rw [hw1]; exact (row_two w C.toArray Tx.none.arr 25 25).1
    have hq1 : Row w1 w.heap.size 25 C := by rw [hw1]; exact (row_two w C.toArray Tx.none.arr 25 25).2.2
    clear hw1
    refine (BD.out w1).mono ?_
    rintro _ w2 ⟨rfl, hb2⟩
    have hr2 := hr1.kept (grownBy_of_below hb2 none) (by simp)
    have hq2 := hq1.kept (grownBy_of_below hb2 none) (by simp)
    obtain ⟨c0, c5⟩ := BX.out _ _ _ hq2
    have hbt2 := two_below' hb1 hb2
    have Hr2 := Lib.hid hr2
    have Hq2 := Lib.hid hq2
    have Hbt2 := Lib.hid hbt2
    clear hb1 hr1 hq1 hb2 hr2 hq2 hbt2
    go_wp2_with fail
    refine (TG.out w2 (HTab.out.below Hbt2.out Hp.out)).mono ?_
    rintro _ w3 ⟨rfl, hb3⟩
    have hg3 := grownBy_of_below hb3 none
    have Hr3 := Lib.hid (Hr2.out.kept hg3 (by simp))
    have Hq3 := Lib.hid (Hq2.out.kept hg3 (by simp))
    have Hbt3 := Lib.hid (two_below' Hbt2.out hb3)
    have hlt3 := Hr3.out.lt
    clear hb3 hg3 hzv c0 c5
    go_wp2_with (first
      | (with_reducible show wpList _ _ _ (⟨_, .store 23 _ _, _, _, _, _⟩ :: _) _ _
         refine wpList_store_at rfl 23 (.tmp 22) (.tmp 20) rfl w.heap.size 40 (bRow R).toList _ _ rfl rfl Hq3.out (by rw [HB32.out, HL.out]; decide) (by rw [hash_info, HB32.out]) (hash_one R HR.out) ?_
         intro w5 hr5 hg5
         rw [Hcl.out] at hr5
         have Hq5 := Lib.hid hr5
         have Hr5 := Lib.hid (Hr3.out.kept hg5 (by simp))
         have Hbt5 := Lib.hid (below_own Hbt3.out hg5 (fun k hk => by cases hk; omega))
         clear hr5 hg5)
      | (with_reducible show wpList _ _ _ (⟨_, .load 25 _, _, _, _, _⟩ :: _) _ _; refine wpList_load_tx rfl 25 (.tmp 1) rfl w.heap.size 0 rfl D _ (row_range Hq5.out) Tryd.underlying25 rfl (by rw [tx_info, HDl.out]) ?_)
      | (with_reducible show wpList _ _ _ (⟨_, .store 25 _ _, _, _, _, _⟩ :: _) _ _
         refine wpList_store_at rfl 25 (.tmp 2) (.tmp 23) rfl (w.heap.size + 1) 0 D _ _ rfl rfl Hr5.out (by have := HZ72.out; have := HDl.out; omega) (by rw [tx_info, HDl.out]) HD1.out ?_
         intro w6 hr6 hg6
         rw [splice_all (HDl.out.trans HZ72.out.symm)] at hr6
         have Hr6 := Lib.hid hr6
         have Hb6 := Lib.hid (below_own Hbt5.out hg6 (fun k hk => by cases hk; omega))
         clear hr6 hg6))
    refine bodyPost_ret (results_rowL rfl _ _ (w.heap.size + 1) 25 _ _ rfl Hr6.out Tryd.underlying25 rfl (by rw [tx_info, List.size_toArray, HDl.out]) _ rfl) rfl ⟨?_, Hb6.out⟩
    have e := Hn1.out (by first | trivial | rfl)
    subst e
    rfl
  · have hne : (be != 0) = true := by simpa using he
    have Hne := Lib.hid he
    clear he
    go_enter Tryd.func23, Tryd.ntmps23
    go_wp2_with (with_reducible show wpList _ _ _ (⟨_, .load 25 _, _, _, _, _⟩ :: _) _ _; refine wpList_load_tx rfl 25 (.tmp 1) rfl w.heap.size 0 rfl C _ (World.rangeAt_alloc Hrng.out _) Tryd.underlying25 rfl (by rw [tx_info, HL.out]) ?_)
    refine calls_named ?_
    intro w1 hw1
    have hb1 : Below w.heap.size w w1 := by rw [hw1]; exact (row_two w C.toArray Tx.none.arr 25 25).2.1
    have hr1 : Row w1 (w.heap.size + 1) 25 Tx.none.cells := by rw [hw1]; exact (row_two w C.toArray Tx.none.arr 25 25).1
    have hq1 : Row w1 w.heap.size 25 C := by rw [hw1]; exact (row_two w C.toArray Tx.none.arr 25 25).2.2
    clear hw1
    refine (BD.out w1).mono ?_
    rintro _ w2 ⟨rfl, hb2⟩
    have hr2 := hr1.kept (grownBy_of_below hb2 none) (by simp)
    have hq2 := hq1.kept (grownBy_of_below hb2 none) (by simp)
    obtain ⟨c0, c5⟩ := BX.out _ _ _ hq2
    have hbt2 := two_below' hb1 hb2
    have Hr2 := Lib.hid hr2
    have Hq2 := Lib.hid hq2
    have Hbt2 := Lib.hid hbt2
    clear hb1 hr1 hq1 hb2 hr2 hq2 hbt2
    go_wp2_with (first
      | (with_reducible show wpList _ _ _ (⟨_, .build 25 _, _, _, _, _⟩ :: _) _ _; refine wpList_buildL rfl 25 [] rfl (some 13) rfl _ rfl _ tx_built0 ?_)
      | (with_reducible show wpList _ _ _ (⟨_, .store 25 _ _, _, _, _, _⟩ :: _) _ _
         refine wpList_store_at rfl 25 (.tmp 2) (.tmp 13) rfl (w.heap.size + 1) 0 Tx.none.cells _ _ rfl rfl Hr2.out (by have := HZ72.out; omega) (by rw [tx_info, HZ72.out]) HZ1.out ?_
         intro w4 hr4 hg4
         rw [splice_all rfl] at hr4
         have Hr4 := Lib.hid hr4
         have Hb4 := Lib.hid (below_own Hbt2.out hg4 (fun k hk => by cases hk; omega))
         clear hr4 hg4))
    refine bodyPost_ret (results_rowL rfl _ _ (w.heap.size + 1) 25 _ _ rfl Hr4.out Tryd.underlying25 rfl (by rw [tx_info, List.size_toArray, HZ72.out]) _ rfl) rfl ⟨?_, Hb4.out⟩
    have e := Hn2.out Hne.out
    subst e
    rfl

set_option maxRecDepth 20000 in
set_option maxHeartbeats 1600000 in
theorem hand4_any (t : Tx) (ht : t.Ok) (who : Int) (w : World) (hT : Tab w) :
    Calls Tryd.prog 25 #[t.v, .int .i64 who] w fun e w' => e = .returned (Tx.pairV (t.handE who)) ∧ Below w.heap.size w w' := by
  have hrng := tx_range (Row.new w 25 t.cells)
  have hlen := Tx.cells_length ht
  have BD : Hid (∀ W, Calls Tryd.prog 14 #[.agg t.cells.toArray] W fun e w' => e = .returned (.tuple #[S t.bodyE.1, .int .i64 t.bodyE.2]) ∧ Below W.heap.size W w') := fun W => body_any t ht W
  have hbl := t.body_len
  have TG : Hid (∀ W, Tab W → Calls Tryd.prog 66 #[.int .i64 who, .int .i64 2, S t.bodyE.1] W fun e w' => e = .returned (.tuple #[.agg (bRow (Seal.tag who 2 t.bodyE.1).1), .int .i64 (Seal.tag who 2 t.bodyE.1).2]) ∧ Below W.heap.size W w') := fun W hW => Tag_any who 2 ⟨t.bodyE.1.toArray⟩ W hW (by show t.bodyE.1.length ≤ _; omega)
  have BX : Hid (∀ (W : World) (g : Nat) (T : TypeId), Row W g T t.cells → W.cell? ⟨g, 0, none⟩ = some (.int .i64 t.frm) ∧ W.cell? ⟨g, 5, none⟩ = some (.bool t.lane)) := fun W g T h => ⟨(tx_box ht h).1, (tx_box ht h).2.2.2.2.2.1⟩
  have hn1 : t.bodyE.2 = 0 → Tx.acct who = true → t.lane = true → Tx.pairV (t.handE who) = .tuple #[.agg (t.hand who).cells.toArray, .int .i64 (Seal.tag who 2 t.bodyE.1).2] := fun h h2 h3 => by unfold Tx.handE; rw [if_neg (by simp [h]), if_neg (by rw [h2]; simp), if_neg (by rw [h3]; simp)]; rfl
  have hn2 : t.bodyE.2 ≠ 0 → Tx.pairV (t.handE who) = .tuple #[.agg Tx.none.cells.toArray, .int .i64 t.bodyE.2] := fun h => by unfold Tx.handE; rw [if_pos h]; rfl
  have hn3 : t.bodyE.2 = 0 → Tx.acct who = false → Tx.pairV (t.handE who) = .tuple #[.agg Tx.none.cells.toArray, .int .i64 20] := fun h h2 => by unfold Tx.handE; rw [if_neg (by simp [h]), if_pos h2]; rfl
  have hn4 : t.bodyE.2 = 0 → Tx.acct who = true → t.lane = false → Tx.pairV (t.handE who) = .tuple #[.agg Tx.none.cells.toArray, .int .i64 2] := fun h h2 h3 => by unfold Tx.handE; rw [if_neg (by simp [h]), if_neg (by rw [h2]; simp), if_pos h3]; rfl
  have hcl := Tx.hand_cells ht (Seal.tag who 2 t.bodyE.1).1 (Seal.tag_len _ _ _)
  have hD1 : ∀ v ∈ (t.hand who).cells, v.oneCell' = true := Tx.cells_one (Tx.hand_ok ht who)
  have hDl : (t.hand who).cells.length = 72 := Tx.cells_length (Tx.hand_ok ht who)
  have hz0 : Tx.acct who = true → (Seal.tag who 2 t.bodyE.1).2 = 0 := fun h => hand_err0 h
  have hce : Tx.cells { t with bY := (Seal.tag who 2 t.bodyE.1).1 } = (t.hand who).cells := rfl
  rw [hce] at hcl
  have htl := Seal.tag_len who 2 t.bodyE.1
  show Calls _ _ #[.agg t.cells.toArray, .int .i64 who] _ _
  generalize (t.hand who).cells = D at *
  generalize t.cells = C at *
  generalize Tx.pairV (t.handE who) = NE at *
  generalize (Seal.tag who 2 t.bodyE.1).2 = tn at *
  generalize (Seal.tag who 2 t.bodyE.1).1 = R at *
  generalize t.bodyE = BE at *
  obtain ⟨bs, be⟩ := BE
  simp only at hn1 hn2 hn3 hn4 BD TG hz0
  have HL := Lib.hid hlen
  have Hrng := Lib.hid hrng
  have Hn1 := Lib.hid hn1
  have Hn2 := Lib.hid hn2
  have Hn3 := Lib.hid hn3
  have Hn4 := Lib.hid hn4
  have Hcl := Lib.hid hcl
  have HD1 := Lib.hid hD1
  have HDl := Lib.hid hDl
  have Hz0 := Lib.hid hz0
  have HR := Lib.hid htl
  have HB32 := Lib.hid (Tx.bRow_len R htl)
  have HZ72 := Lib.hid (Tx.cells_length Tx.none_ok)
  have HZ1 := Lib.hid (Tx.cells_one Tx.none_ok)
  have hzv := tx_zv
  have HTab := Lib.hid hT
  have Hp := Lib.hid hT.pos
  clear hT
  clear hlen hrng hn1 hn2 hn3 hn4 hbl ht hcl hD1 hDl hz0 hce htl
  by_cases he : be = 0
  · subst he
    rcases Bool.eq_false_or_eq_true (Tx.acct who) with ha | ha
    · have Hacct := Lib.hid ha
      rcases Bool.eq_false_or_eq_true t.lane with hl | hl
      · have Hlane := Lib.hid hl
        go_enter Tryd.func25, Tryd.ntmps25
        go_wp2_with (with_reducible show wpList _ _ _ (⟨_, .load 25 _, _, _, _, _⟩ :: _) _ _; refine wpList_load_tx rfl 25 (.tmp 2) rfl w.heap.size 0 rfl C _ (World.rangeAt_alloc Hrng.out _) Tryd.underlying25 rfl (by rw [tx_info, HL.out]) ?_)
        refine calls_named ?_
        intro w1 hw1
        have hb1 : Below w.heap.size w w1 := by rw [hw1]; exact (row_two w C.toArray Tx.none.arr 25 25).2.1
        have hr1 : Row w1 (w.heap.size + 1) 25 Tx.none.cells := by rw [hw1]; exact (row_two w C.toArray Tx.none.arr 25 25).1
        have hq1 : Row w1 w.heap.size 25 C := by rw [hw1]; exact (row_two w C.toArray Tx.none.arr 25 25).2.2
        clear hw1
        refine (BD.out w1).mono ?_
        rintro _ w2 ⟨rfl, hb2⟩
        have hr2 := hr1.kept (grownBy_of_below hb2 none) (by simp)
        have hq2 := hq1.kept (grownBy_of_below hb2 none) (by simp)
        obtain ⟨c0, c5⟩ := BX.out _ _ _ hq2
        have hbt2 := two_below' hb1 hb2
        have Hr2 := Lib.hid hr2
        have Hq2 := Lib.hid hq2
        have Hbt2 := Lib.hid hbt2
        clear hb1 hr1 hq1 hb2 hr2 hq2 hbt2
        go_wp2_with (first
          | (go_at_call 62; with_reducible refine (account_any _ _).mono ?_; rintro e w' ⟨rfl, rfl⟩)
          | fail)
        refine (TG.out w2 (HTab.out.below Hbt2.out Hp.out)).mono ?_
        rintro _ w3 ⟨rfl, hb3⟩
        have hg3 := grownBy_of_below hb3 none
        have Hr3 := Lib.hid (Hr2.out.kept hg3 (by simp))
        have Hq3 := Lib.hid (Hq2.out.kept hg3 (by simp))
        have Hbt3 := Lib.hid (two_below' Hbt2.out hb3)
        have hlt3 := Hr3.out.lt
        clear hb3 hg3 hzv c0 c5
        go_wp2_with (first
          | (with_reducible show wpList _ _ _ (⟨_, .store 23 _ _, _, _, _, _⟩ :: _) _ _
             refine wpList_store_at rfl 23 (.tmp 34) (.tmp 32) rfl w.heap.size 8 (bRow R).toList _ _ rfl rfl Hq3.out (by rw [HB32.out, HL.out]; decide) (by rw [hash_info, HB32.out]) (hash_one R HR.out) ?_
             intro w5 hr5 hg5
             rw [Hcl.out] at hr5
             have Hq5 := Lib.hid hr5
             have Hr5 := Lib.hid (Hr3.out.kept hg5 (by simp))
             have Hbt5 := Lib.hid (below_own Hbt3.out hg5 (fun k hk => by cases hk; omega))
             clear hr5 hg5)
          | (with_reducible show wpList _ _ _ (⟨_, .load 25 _, _, _, _, _⟩ :: _) _ _; refine wpList_load_tx rfl 25 (.tmp 2) rfl w.heap.size 0 rfl D _ (row_range Hq5.out) Tryd.underlying25 rfl (by rw [tx_info, HDl.out]) ?_)
          | (with_reducible show wpList _ _ _ (⟨_, .store 25 _ _, _, _, _, _⟩ :: _) _ _
             refine wpList_store_at rfl 25 (.tmp 4) (.tmp 35) rfl (w.heap.size + 1) 0 D _ _ rfl rfl Hr5.out (by have := HZ72.out; have := HDl.out; omega) (by rw [tx_info, HDl.out]) HD1.out ?_
             intro w6 hr6 hg6
             rw [splice_all (HDl.out.trans HZ72.out.symm)] at hr6
             have Hr6 := Lib.hid hr6
             have Hb6 := Lib.hid (below_own Hbt5.out hg6 (fun k hk => by cases hk; omega))
             clear hr6 hg6))
        refine bodyPost_ret (results_rowL rfl _ _ (w.heap.size + 1) 25 _ _ rfl Hr6.out Tryd.underlying25 rfl (by rw [tx_info, List.size_toArray, HDl.out]) _ rfl) rfl ⟨?_, Hb6.out⟩
        have e := Hn1.out (by first | trivial | rfl) Hacct.out Hlane.out
        subst e
        rfl
      · have Hlane := Lib.hid hl
        go_enter Tryd.func25, Tryd.ntmps25
        go_wp2_with (with_reducible show wpList _ _ _ (⟨_, .load 25 _, _, _, _, _⟩ :: _) _ _; refine wpList_load_tx rfl 25 (.tmp 2) rfl w.heap.size 0 rfl C _ (World.rangeAt_alloc Hrng.out _) Tryd.underlying25 rfl (by rw [tx_info, HL.out]) ?_)
        refine calls_named ?_
        intro w1 hw1
        have hb1 : Below w.heap.size w w1 := by rw [hw1]; exact (row_two w C.toArray Tx.none.arr 25 25).2.1
        have hr1 : Row w1 (w.heap.size + 1) 25 Tx.none.cells := by rw [hw1]; exact (row_two w C.toArray Tx.none.arr 25 25).1
        have hq1 : Row w1 w.heap.size 25 C := by rw [hw1]; exact (row_two w C.toArray Tx.none.arr 25 25).2.2
        clear hw1
        refine (BD.out w1).mono ?_
        rintro _ w2 ⟨rfl, hb2⟩
        have hr2 := hr1.kept (grownBy_of_below hb2 none) (by simp)
        have hq2 := hq1.kept (grownBy_of_below hb2 none) (by simp)
        obtain ⟨c0, c5⟩ := BX.out _ _ _ hq2
        have hbt2 := two_below' hb1 hb2
        have Hr2 := Lib.hid hr2
        have Hq2 := Lib.hid hq2
        have Hbt2 := Lib.hid hbt2
        clear hb1 hr1 hq1 hb2 hr2 hq2 hbt2
        go_wp2_with (first
          | (go_at_call 62; with_reducible refine (account_any _ _).mono ?_; rintro e w' ⟨rfl, rfl⟩)
          | (with_reducible show wpList _ _ _ (⟨_, .build 25 _, _, _, _, _⟩ :: _) _ _; refine wpList_buildL rfl 25 [] rfl (some 27) rfl _ rfl _ tx_built0 ?_)
          | (with_reducible show wpList _ _ _ (⟨_, .store 25 _ _, _, _, _, _⟩ :: _) _ _
             refine wpList_store_at rfl 25 (.tmp 4) (.tmp 27) rfl (w.heap.size + 1) 0 Tx.none.cells _ _ rfl rfl Hr2.out (by have := HZ72.out; omega) (by rw [tx_info, HZ72.out]) HZ1.out ?_
             intro w4 hr4 hg4
             rw [splice_all rfl] at hr4
             have Hr4 := Lib.hid hr4
             have Hb4 := Lib.hid (below_own Hbt2.out hg4 (fun k hk => by cases hk; omega))
             clear hr4 hg4))
        refine bodyPost_ret (results_rowL rfl _ _ (w.heap.size + 1) 25 _ _ rfl Hr4.out Tryd.underlying25 rfl (by rw [tx_info, List.size_toArray, HZ72.out]) _ rfl) rfl ⟨?_, Hb4.out⟩
        have e := Hn4.out (by first | trivial | rfl) Hacct.out Hlane.out
        subst e
        rfl
    · have Hacct := Lib.hid ha
      go_enter Tryd.func25, Tryd.ntmps25
      go_wp2_with (with_reducible show wpList _ _ _ (⟨_, .load 25 _, _, _, _, _⟩ :: _) _ _; refine wpList_load_tx rfl 25 (.tmp 2) rfl w.heap.size 0 rfl C _ (World.rangeAt_alloc Hrng.out _) Tryd.underlying25 rfl (by rw [tx_info, HL.out]) ?_)
      refine calls_named ?_
      intro w1 hw1
      have hb1 : Below w.heap.size w w1 := by rw [hw1]; exact (row_two w C.toArray Tx.none.arr 25 25).2.1
      have hr1 : Row w1 (w.heap.size + 1) 25 Tx.none.cells := by rw [hw1]; exact (row_two w C.toArray Tx.none.arr 25 25).1
      have hq1 : Row w1 w.heap.size 25 C := by rw [hw1]; exact (row_two w C.toArray Tx.none.arr 25 25).2.2
      clear hw1
      refine (BD.out w1).mono ?_
      rintro _ w2 ⟨rfl, hb2⟩
      have hr2 := hr1.kept (grownBy_of_below hb2 none) (by simp)
      have hq2 := hq1.kept (grownBy_of_below hb2 none) (by simp)
      obtain ⟨c0, c5⟩ := BX.out _ _ _ hq2
      have hbt2 := two_below' hb1 hb2
      have Hr2 := Lib.hid hr2
      have Hq2 := Lib.hid hq2
      have Hbt2 := Lib.hid hbt2
      clear hb1 hr1 hq1 hb2 hr2 hq2 hbt2
      go_wp2_with (first
        | (go_at_call 62; with_reducible refine (account_any _ _).mono ?_; rintro e w' ⟨rfl, rfl⟩)
        | (with_reducible show wpList _ _ _ (⟨_, .build 25 _, _, _, _, _⟩ :: _) _ _; refine wpList_buildL rfl 25 [] rfl (some 22) rfl _ rfl _ tx_built0 ?_)
        | (with_reducible show wpList _ _ _ (⟨_, .store 25 _ _, _, _, _, _⟩ :: _) _ _
           refine wpList_store_at rfl 25 (.tmp 4) (.tmp 22) rfl (w.heap.size + 1) 0 Tx.none.cells _ _ rfl rfl Hr2.out (by have := HZ72.out; omega) (by rw [tx_info, HZ72.out]) HZ1.out ?_
           intro w4 hr4 hg4
           rw [splice_all rfl] at hr4
           have Hr4 := Lib.hid hr4
           have Hb4 := Lib.hid (below_own Hbt2.out hg4 (fun k hk => by cases hk; omega))
           clear hr4 hg4))
      refine bodyPost_ret (results_rowL rfl _ _ (w.heap.size + 1) 25 _ _ rfl Hr4.out Tryd.underlying25 rfl (by rw [tx_info, List.size_toArray, HZ72.out]) _ rfl) rfl ⟨?_, Hb4.out⟩
      have e := Hn3.out (by first | trivial | rfl) Hacct.out
      subst e
      rfl
  · have hne : (be != 0) = true := by simpa using he
    have Hne := Lib.hid he
    clear he
    go_enter Tryd.func25, Tryd.ntmps25
    go_wp2_with (with_reducible show wpList _ _ _ (⟨_, .load 25 _, _, _, _, _⟩ :: _) _ _; refine wpList_load_tx rfl 25 (.tmp 2) rfl w.heap.size 0 rfl C _ (World.rangeAt_alloc Hrng.out _) Tryd.underlying25 rfl (by rw [tx_info, HL.out]) ?_)
    refine calls_named ?_
    intro w1 hw1
    have hb1 : Below w.heap.size w w1 := by rw [hw1]; exact (row_two w C.toArray Tx.none.arr 25 25).2.1
    have hr1 : Row w1 (w.heap.size + 1) 25 Tx.none.cells := by rw [hw1]; exact (row_two w C.toArray Tx.none.arr 25 25).1
    have hq1 : Row w1 w.heap.size 25 C := by rw [hw1]; exact (row_two w C.toArray Tx.none.arr 25 25).2.2
    clear hw1
    refine (BD.out w1).mono ?_
    rintro _ w2 ⟨rfl, hb2⟩
    have hr2 := hr1.kept (grownBy_of_below hb2 none) (by simp)
    have hq2 := hq1.kept (grownBy_of_below hb2 none) (by simp)
    obtain ⟨c0, c5⟩ := BX.out _ _ _ hq2
    have hbt2 := two_below' hb1 hb2
    have Hr2 := Lib.hid hr2
    have Hq2 := Lib.hid hq2
    have Hbt2 := Lib.hid hbt2
    clear hb1 hr1 hq1 hb2 hr2 hq2 hbt2
    go_wp2_with (first
      | (go_at_call 62; with_reducible refine (account_any _ _).mono ?_; rintro e w' ⟨rfl, rfl⟩)
      | (with_reducible show wpList _ _ _ (⟨_, .build 25 _, _, _, _, _⟩ :: _) _ _; refine wpList_buildL rfl 25 [] rfl (some 16) rfl _ rfl _ tx_built0 ?_)
      | (with_reducible show wpList _ _ _ (⟨_, .store 25 _ _, _, _, _, _⟩ :: _) _ _
         refine wpList_store_at rfl 25 (.tmp 4) (.tmp 16) rfl (w.heap.size + 1) 0 Tx.none.cells _ _ rfl rfl Hr2.out (by have := HZ72.out; omega) (by rw [tx_info, HZ72.out]) HZ1.out ?_
         intro w4 hr4 hg4
         rw [splice_all rfl] at hr4
         have Hr4 := Lib.hid hr4
         have Hb4 := Lib.hid (below_own Hbt2.out hg4 (fun k hk => by cases hk; omega))
         clear hr4 hg4))
    refine bodyPost_ret (results_rowL rfl _ _ (w.heap.size + 1) 25 _ _ rfl Hr4.out Tryd.underlying25 rfl (by rw [tx_info, List.size_toArray, HZ72.out]) _ rfl) rfl ⟨?_, Hb4.out⟩
    have e := Hn2.out Hne.out
    subst e
    rfl
end Go.Proofs.YtdekcicgiflnbaaDoor
