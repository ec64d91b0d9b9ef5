/- Posts of batches, as plain data. -/
/- box.Write, the reference's Write and Seal. -/
/- box.Read: what it returns. -/
/- The reference's Read. -/
/- Blocks and their items in memory; a []Block that came in. -/
import Derived.Test.YtinciddchpccnaaDoorBxA
import Derived.Test.YtinciddchpccnaaDoorBxE
import Derived.Test.YtinciddchpccnaaDoorBxC
import Derived.Test.YtinciddchpccnaaDoorCrOpen
import Derived.Test.YtinciddchpccnaaDoorCrRop
import Derived.Test.YtinciddchpccnaaDoorCrRB
import Derived.Test.YtinciddchpccnaaDoorCrPack
import Derived.Test.YtinciddchpccnaaDoorCrSH
import Derived.Test.YtinciddchpccnaaDoorBxD
import Derived.WalkMore
import Derived.Laws.OwnMore
namespace Go.Proofs.YtinciddchpccnaaDoor
open Go.RowKit
set_option linter.unusedVariables false
set_option linter.unusedSimpArgs false

namespace Po
abbrev T8 := List UInt8
/-- the tag of a crate -/
def tag (c : T8) : T8 := (Seal.tag 64 4 c).1
theorem tag_len (c : T8) : (tag c).length = 32 := Seal.tag_len _ _ _
/-- a crate's post -/
def sealE (c : T8) : T8 × Int := Oct.listE [c, tag c]
/-- a batch's post -/
def writeE (b : Bt) : T8 × Int := if b.textE.2 = 0 then sealE (Cr.pack b.textE.1) else ([], b.textE.2)
/-- the crate and the tag that a post has -/
def look (s : T8) : Option (T8 × T8) :=
  match Tx.listAll s with
  | some [c, t] => if t.length = 32 then some (c, t) else none
  | _ => none
/-- what a post is read as -/
def read (s : T8) : Int × Option Bt :=
  match look s with
  | none => (6, none)
  | some (c, t) =>
    if Seal.check2 64 4 c t = 0 then
      (if (Cr.opened c 32768).2 = 0 then
        (match Bt.read (Cr.opened c 32768).1 with
        | some b => (0, some b)
        | none => (6, none))
      else (7, none))
    else (21, none)
theorem look_some {s c t : T8} (h : look s = some (c, t)) : Tx.listAll s = some [c, t] ∧ t.length = 32 := by
  unfold look at h
  split at h
  · next a b he =>
    split at h
    · next hl =>
      simp only [Option.some.injEq, Prod.mk.injEq] at h
      obtain ⟨rfl, rfl⟩ := h
      exact ⟨he, hl⟩
    · cases h
  · cases h
theorem look_yes {s c t : T8} (h : Tx.listAll s = some [c, t]) (hl : t.length = 32) : look s = some (c, t) := by
  unfold look
  rw [h]
  simp [hl]
theorem look_none {s : T8} (h : look s = none) : ∀ L, Tx.listAll s = some L → L.length ≠ 2 ∨ ∃ c t, L = [c, t] ∧ t.length ≠ 32 := fun L hL => by
  unfold look at h
  rw [hL] at h
  match L, h with
  | [], _ => left; simp
  | [_], _ => left; simp
  | [c, t], h =>
    right
    refine ⟨c, t, rfl, fun e => ?_⟩
    simp [e] at h
  | _ :: _ :: _ :: _, _ => left; simp
theorem opened_len (l : T8) (m : Int) : (Cr.opened l m).1.length ≤ 32768 := by
  rcases Cr.opened_err l m with h | h
  · obtain ⟨c, n, p, held, _, hn, _, _, _, hl, e⟩ := Cr.opened_ok h
    rw [e, hl]; exact hn
  · rw [h]; simp
end Po
end Go.Proofs.YtinciddchpccnaaDoor
namespace Go.Proofs.YtinciddchpccnaaDoor
open Go.RowKit
set_option linter.unusedVariables false
set_option linter.unusedSimpArgs false

theorem pack_S (l : List UInt8) (hl : l.length ≤ 32768) (w : World) : Calls Tryd.prog 28 #[S l] w fun e w' => e = .returned (.tuple #[S (Cr.pack l), .int .i64 0]) ∧ Below w.heap.size w w' := by
  have := crPack_any ⟨l.toArray⟩ w (by show l.toArray.size ≤ _; simpa using hl)
  simpa only [List.toList_toArray] using this
theorem rpack_S (l : List UInt8) (hl : l.length ≤ 32768) (w : World) : Calls Tryd.prog 31 #[S l] w fun e w' => e = .returned (.tuple #[S (Cr.pack l), .int .i64 0]) ∧ Below w.heap.size w w' := by
  have := crRefPack_any ⟨l.toArray⟩ w (by show l.toArray.size ≤ _; simpa using hl)
  simpa only [List.toList_toArray] using this
theorem tag_S (c : List UInt8) (hc : c.length ≤ 140737488354900) (w : World) (hT : Tab w) : Calls Tryd.prog 29 #[.int .i64 64, .int .i64 4, S c] w fun e w' => e = .returned (HN (Po.tag c) (Seal.tag 64 4 c).2) ∧ Below w.heap.size w w' := by
  have := Tag_any 64 4 ⟨c.toArray⟩ w hT (by show c.toArray.size ≤ _; simp; omega)
  simp only [List.toList_toArray] at this
  exact this
theorem rtag_S (hRS : RefSum) (c : List UInt8) (hc : c.length ≤ 140737488354900) (w : World) : Calls Tryd.prog 25 #[.int .i64 64, .int .i64 4, S c] w fun e w' => e = .returned (HN (Po.tag c) (Seal.tag 64 4 c).2) ∧ Below w.heap.size w w' := by
  have := refTag_any hRS 64 4 ⟨c.toArray⟩ w (by show c.toArray.size ≤ _; simpa using hc)
  simp only [List.toList_toArray] at this
  exact this
theorem bt_size : (Tryd.prog.info? 24).map (·.size) = some 4 := by kernel_rfl
set_option maxRecDepth 20000 in
set_option maxHeartbeats 3200000 in
theorem boxWrite_any (b : Bt) (A : Option Addr) (cap : Nat) (w : World) (hP : PartsAt w w.heap.size A b.parts) (hl : b.textE.2 = 0 → b.textE.1.length ≤ 32768) (hp : b.textE.2 = 0 → (Cr.pack b.textE.1).length ≤ 140737488354900) (hT : Tab w) :
    Calls Tryd.prog 11 #[.agg (b.cells A cap).toArray] w fun e w' => e = .returned (two (Po.writeE b).1 (Po.writeE b).2) ∧ Below w.heap.size w w' := by
  have hzh := hash_zv
  have HZ32 := Lib.hid (Tx.bRow_len Tx.zero rfl)
  have hb0 := (Below.refl w.heap.size w).alloc (Nat.le_refl _) (.cells (b.cells A cap).toArray 24)
  have HR0 := Lib.hid (Row.new w 24 (b.cells A cap))
  have HB0 := Lib.hid hb0
  have HW := Lib.hid (writeBatch_any b A cap _ ((hP.below hb0).mono hb0.size))
  have HT := Lib.hid hT
  have HCL : Hid ((b.cells A cap).length = 4) := Lib.hid rfl
  unfold Po.writeE
  unfold two at HW ⊢
  obtain ⟨te, hte⟩ : ∃ te, te = b.textE := ⟨_, rfl⟩
  rw [← hte] at HW hl hp ⊢
  obtain ⟨t, c0⟩ := te
  simp only at HW hl hp ⊢
  generalize b.cells A cap = C at *
  clear hte hb0 hP hT
  by_cases hc : c0 = 0
  · have dq : (c0 != 0) = false := by simp [hc]
    rw [if_pos hc]
    have HPk := Lib.hid (fun W => pack_S t (hl hc) W)
    have HTg := Lib.hid (fun W hW => tag_S (Cr.pack t) (hp hc) W hW)
    unfold Po.sealE
    have HtL : Hid ((Po.tag (Cr.pack t)).length = 32) := Lib.hid (Po.tag_len _)
    generalize Po.tag (Cr.pack t) = tg at *
    generalize Cr.pack t = c at *
    generalize (Seal.tag 64 4 c).2 = tc at *
    have HT32 := Lib.hid (Tx.bRow_len _ HtL.out)
    have HT1 := Lib.hid (hash_one _ HtL.out)
    clear hl hp hc
    go_enter Tryd.func11, Tryd.ntmps11
    go_wp2_with ((with_reducible show wpList _ _ _ (⟨_, .load 24 _, _, _, _, _⟩ :: _) _ _); refine wpList_load_tx rfl 24 (.tmp 1) rfl w.heap.size 0 rfl C _ (row_range HR0.out) Tryd.underlying24 rfl (by rw [bt_size, HCL.out]) ?_)
    refine HW.out.mono ?_
    rintro _ w1 ⟨rfl, hb1⟩
    have HB1 := Lib.hid (two_below' HB0.out hb1)
    clear hb1
    go_wp2_with fail
    refine (HPk.out _).mono ?_
    rintro _ w2 ⟨rfl, hb2⟩
    have HB2 := Lib.hid (two_below' HB1.out hb2)
    clear hb2
    go_wp2_with fail
    refine (HTg.out _ (HT.out.below HB2.out HT.out.pos)).mono ?_
    rintro _ w3 ⟨rfl, hb3⟩
    have HB3 := Lib.hid (two_below' HB2.out hb3)
    have HN3 := Lib.hid (Row.new w3 51 (bRow Tx.zero).toList)
    rw [Array.toArray_toList] at HN3
    clear hb3
    go_wp2_with (with_reducible show wpList _ _ _ (⟨_, .store 51 _ _, _, _, _, _⟩ :: _) _ _
                 refine wpList_store_at rfl 51 (.tmp 7) (.tmp 28) rfl w3.heap.size 0 (bRow tg).toList (bRow Tx.zero).toList _ rfl rfl HN3.out (by have := HZ32.out; have := HT32.out; omega) (by rw [hash_info, HT32.out]) HT1.out ?_
                 intro w4 hr4 hg4
                 rw [splice_all (HT32.out.trans HZ32.out.symm)] at hr4
                 have HR4 := Lib.hid hr4
                 have HB4 := Lib.hid (two_below' HB3.out (below_own ((Below.refl w3.heap.size w3).alloc (Nat.le_refl _) _) hg4 (fun k hk => by cases hk; exact Nat.le_refl _)))
                 have hcv := hash_text w4 w3.heap.size tg HtL.out ⟨_, by have := hr4; unfold Row at this; rw [Array.toArray_toList] at this; exact this⟩
                 clear hr4 hg4)
    refine (list_2 c tg w4).mono ?_
    rintro _ w5 ⟨rfl, hb5⟩
    have hb5a := (HB4.out.alloc HB4.out.size (.cells #[S c, S tg] 9))
    have HB5 := Lib.hid (two_below' hb5a hb5)
    clear hb5 hb5a hcv
    go_wp2_with fail
    go_ret2
    exact ⟨rfl, HB5.out⟩
  · have dq : (c0 != 0) = true := by simpa using hc
    rw [if_neg hc]
    clear hl hp hc
    go_enter Tryd.func11, Tryd.ntmps11
    go_wp2_with ((with_reducible show wpList _ _ _ (⟨_, .load 24 _, _, _, _, _⟩ :: _) _ _); refine wpList_load_tx rfl 24 (.tmp 1) rfl w.heap.size 0 rfl C _ (row_range HR0.out) Tryd.underlying24 rfl (by rw [bt_size, HCL.out]) ?_)
    refine HW.out.mono ?_
    rintro _ w1 ⟨rfl, hb1⟩
    have HB1 := Lib.hid (two_below' HB0.out hb1)
    clear hb1
    go_wp2_with fail
    go_ret2
    exact ⟨rfl, HB1.out⟩
set_option maxRecDepth 20000 in
set_option maxHeartbeats 1600000 in
theorem rseal_any (hRS : RefSum) (c : List UInt8) (hc : c.length ≤ 140737488354900) (w : World) :
    Calls Tryd.prog 20 #[S c] w fun e w' => e = .returned (two (Po.sealE c).1 (Po.sealE c).2) ∧ Below w.heap.size w w' := by
  have hzh := hash_zv
  have HZ32 := Lib.hid (Tx.bRow_len Tx.zero rfl)
  have HTg := Lib.hid (rtag_S hRS c hc w)
  have HtL := Lib.hid (Po.tag_len c)
  unfold Po.sealE
  unfold two
  generalize Po.tag c = tg at *
  generalize (Seal.tag 64 4 c).2 = tc at *
  have HT32 := Lib.hid (Tx.bRow_len _ HtL.out)
  have HT1 := Lib.hid (hash_one _ HtL.out)
  have HBy := Lib.hid (fun W => bytes_any tg W HtL.out)
  clear hc
  go_enter Tryd.func20, Tryd.ntmps20
  go_wp2_with fail
  refine HTg.out.mono ?_
  rintro _ w3 ⟨rfl, hb3⟩
  have HB3 := Lib.hid hb3
  have HN3 := Lib.hid (Row.new w3 51 (bRow Tx.zero).toList)
  rw [Array.toArray_toList] at HN3
  clear hb3
  go_wp2_with (first
  | (with_reducible show wpList _ _ _ (⟨_, .store 51 _ _, _, _, _, _⟩ :: _) _ _
     refine wpList_store_at rfl 51 (.tmp 4) (.tmp 9) rfl w3.heap.size 0 (bRow tg).toList (bRow Tx.zero).toList _ rfl rfl HN3.out (by have := HZ32.out; have := HT32.out; omega) (by rw [hash_info, HT32.out]) HT1.out ?_
     intro w4 hr4 hg4
     rw [splice_all (HT32.out.trans HZ32.out.symm)] at hr4
     have HR4 := Lib.hid hr4
     have HB4 := Lib.hid (two_below' HB3.out (below_own ((Below.refl w3.heap.size w3).alloc (Nat.le_refl _) _) hg4 (fun k hk => by cases hk; exact Nat.le_refl _)))
     clear hr4 hg4)
  | ((with_reducible show wpList _ _ _ (⟨_, .load 51 _, _, _, _, _⟩ :: _) _ _); refine wpList_load_tx rfl 51 (.tmp 4) rfl w3.heap.size 0 rfl (bRow tg).toList _ (row_range HR4.out) Tryd.underlying51 rfl (by rw [hash_info, HT32.out]) ?_))
  refine (HBy.out _).mono ?_
  rintro _ w5 ⟨rfl, hb5⟩
  have HB5 := Lib.hid (two_below' HB4.out hb5)
  clear hb5
  go_wp2_with fail
  refine (rlist_2 c tg w5).mono ?_
  rintro _ w6 ⟨rfl, hb6⟩
  have hb6a := (HB5.out.alloc HB5.out.size (.cells #[S c, S tg] 9))
  have HB6 := Lib.hid (two_below' hb6a hb6)
  clear hb6 hb6a
  go_wp2_with fail
  go_ret2
  exact ⟨rfl, HB6.out⟩
set_option maxRecDepth 20000 in
set_option maxHeartbeats 1600000 in
theorem rboxWrite_any (hRS : RefSum) (b : Bt) (A : Option Addr) (cap : Nat) (hf : b.Fits) (w : World) (hP : PartsAt w w.heap.size A b.parts) (hl : b.textE.2 = 0 → b.textE.1.length ≤ 32768) (hp : b.textE.2 = 0 → (Cr.pack b.textE.1).length ≤ 140737488354900) :
    Calls Tryd.prog 12 #[.agg (b.cells A cap).toArray] w fun e w' => e = .returned (two (Po.writeE b).1 (Po.writeE b).2) ∧ Below w.heap.size w w' := by
  have hb0 := (Below.refl w.heap.size w).alloc (Nat.le_refl _) (.cells (b.cells A cap).toArray 24)
  have HR0 := Lib.hid (Row.new w 24 (b.cells A cap))
  have HB0 := Lib.hid hb0
  have HW := Lib.hid (rwriteBatch_any b A cap hf _ ((hP.below hb0).mono hb0.size))
  have HCL : Hid ((b.cells A cap).length = 4) := Lib.hid rfl
  have HSl : Hid (b.textE.2 = 0 → ∀ W, Calls Tryd.prog 20 #[S (Cr.pack b.textE.1)] W fun e w' => e = .returned (two (Po.sealE (Cr.pack b.textE.1)).1 (Po.sealE (Cr.pack b.textE.1)).2) ∧ Below W.heap.size W w') := Lib.hid (fun hc W => rseal_any hRS _ (hp hc) W)
  unfold Po.writeE
  unfold two at HW HSl ⊢
  obtain ⟨te, hte⟩ : ∃ te, te = b.textE := ⟨_, rfl⟩
  rw [← hte] at HW hl HSl ⊢
  obtain ⟨t, c0⟩ := te
  simp only at HW hl HSl ⊢
  generalize b.cells A cap = C at *
  clear hte hb0 hP hp
  by_cases hc : c0 = 0
  · have dq : (c0 != 0) = false := by simp [hc]
    rw [if_pos hc]
    have HPk := Lib.hid (fun W => rpack_S t (hl hc) W)
    have HSc := Lib.hid (HSl.out hc)
    generalize Po.sealE (Cr.pack t) = sl at *
    obtain ⟨s1, s2⟩ := sl
    generalize Cr.pack t = c at *
    simp only at HSc ⊢
    clear hl hc HSl
    go_enter Tryd.func12, Tryd.ntmps12
    go_wp2_with ((with_reducible show wpList _ _ _ (⟨_, .load 24 _, _, _, _, _⟩ :: _) _ _); refine wpList_load_tx rfl 24 (.tmp 1) rfl w.heap.size 0 rfl C _ (row_range HR0.out) Tryd.underlying24 rfl (by rw [bt_size, HCL.out]) ?_)
    refine HW.out.mono ?_
    rintro _ w1 ⟨rfl, hb1⟩
    have HB1 := Lib.hid (two_below' HB0.out hb1)
    clear hb1
    go_wp2_with fail
    refine (HPk.out _).mono ?_
    rintro _ w2 ⟨rfl, hb2⟩
    have HB2 := Lib.hid (two_below' HB1.out hb2)
    clear hb2
    go_wp2_with fail
    refine (HSc.out _).mono ?_
    rintro _ w3 ⟨rfl, hb3⟩
    have HB3 := Lib.hid (two_below' HB2.out hb3)
    clear hb3
    go_wp2_with fail
    go_ret2
    exact ⟨rfl, HB3.out⟩
  · have dq : (c0 != 0) = true := by simpa using hc
    rw [if_neg hc]
    clear hl hc HSl
    go_enter Tryd.func12, Tryd.ntmps12
    go_wp2_with ((with_reducible show wpList _ _ _ (⟨_, .load 24 _, _, _, _, _⟩ :: _) _ _); refine wpList_load_tx rfl 24 (.tmp 1) rfl w.heap.size 0 rfl C _ (row_range HR0.out) Tryd.underlying24 rfl (by rw [bt_size, HCL.out]) ?_)
    refine HW.out.mono ?_
    rintro _ w1 ⟨rfl, hb1⟩
    have HB1 := Lib.hid (two_below' HB0.out hb1)
    clear hb1
    go_wp2_with fail
    go_ret2
    exact ⟨rfl, HB1.out⟩
end Go.Proofs.YtinciddchpccnaaDoor
namespace Go.Proofs.YtinciddchpccnaaDoor
open Go.RowKit
set_option linter.unusedVariables false
set_option linter.unusedSimpArgs false

/-- what a reader returns -/
def RdEnds (p : Int × Option Bt) (lo : Nat) (e : Ending) (w' : World) : Prop :=
  match p.2 with
  | some u => ∃ A c, e = .returned (.tuple #[.agg (u.cells A c).toArray, .int .i64 p.1]) ∧ PartsFrom w' lo A u.parts ∧ u.parts.length ≤ c
  | none => e = .returned (.tuple #[.agg Bt.zeroC.toArray, .int .i64 p.1])
theorem bt_zv (w : World) : (zeroValue 24).run Tryd.prog w = .ok (.agg Bt.zeroC.toArray) w := by kernel_rfl
theorem bt_built0 : Tryd.prog.built 24 [] = some Bt.zeroC.toArray := by kernel_rfl
theorem open_S (c : List UInt8) (m : Int) (hc : c.length ≤ 140737488351232) (w : World) : Calls Tryd.prog 34 #[S c, .int .i64 m] w fun e w' => e = .returned (pairV (Cr.opened c m)) ∧ Below w.heap.size w w' := by
  have := crOpen_any ⟨c.toArray⟩ m w (by show c.toArray.size ≤ _; simpa using hc)
  simpa only [List.toList_toArray] using this
theorem readB_S (c : List UInt8) (hc : c.length ≤ 140737488351232) (w : World) : Calls Tryd.prog 35 #[S c] w fun e w' => BtEnds (Bt.read c) w.heap.size e w' ∧ Below w.heap.size w w' := by
  have := readBatch_any ⟨c.toArray⟩ w (by show c.toArray.size ≤ _; simp; omega)
  simpa only [List.toList_toArray] using this
theorem hash_at13 (W : World) (a : Option Addr) (cp : Nat) : (Instr.arrayAt 51 (.slice a 32 cp)).run Tryd.prog W = .ok (.pointer a) W := by
  simp [Instr.arrayAt, run_underlying Tryd.underlying51]
theorem sealedBy_any (c : List UInt8) (w : World) :
    Calls Tryd.prog 33 #[S c] w fun e w' => e = .returned (.func (.func 67) #[] #[.pointer (some ⟨w.heap.size, 0, none⟩)]) ∧ w' = w.alloc (.cells #[S c] 9) := by
  go_enter Tryd.func33, Tryd.ntmps33
  go_wp2_with fail
  go_ret
  exact ⟨rfl, rfl⟩
set_option maxRecDepth 20000 in
theorem sealedBy1_any (c t : List UInt8) (hc : c.length ≤ 140737488351232) (ht : t.length = 32) (g : Nat) (w : World) (hg : w.cell? ⟨g, 0, none⟩ = some (S c)) (hT : Tab w) :
    Calls Tryd.prog 67 #[.int .i64 64, .agg (bRow t), .pointer (some ⟨g, 0, none⟩)] w fun e w' => e = .returned (.bool (Seal.check2 64 4 c t == 0)) ∧ Below w.heap.size w w' := by
  have hlt := block_lt_of_cell hg
  have hb0 := (Below.refl w.heap.size w).alloc (Nat.le_refl _) (.cells (bRow t) 51)
  have HR0 := Lib.hid (Row.new w 51 (bRow t).toList)
  rw [Array.toArray_toList] at HR0
  have hg0 : (w.alloc (.cells (bRow t) 51)).cell? ⟨g, 0, none⟩ = some (S c) := (hb0.cell (p := ⟨g, 0, none⟩) hlt).trans hg
  have HT32 := Lib.hid (Tx.bRow_len _ ht)
  have HB0 := Lib.hid hb0
  have HCk : Hid (Calls Tryd.prog 68 #[.int .i64 64, .int .i64 4, S c, .agg (bRow t)] (w.alloc (.cells (bRow t) 51)) fun e w' => e = .returned (.int .i64 (Seal.check2 64 4 c t)) ∧ Below (w.alloc (.cells (bRow t) 51)).heap.size (w.alloc (.cells (bRow t) 51)) w') := Lib.hid (by
    have := Check_any 64 4 ⟨c.toArray⟩ t _ (hT.below hb0 hT.pos) ht (by show c.toArray.size ≤ _; simp; omega)
    simpa only [List.toList_toArray] using this)
  generalize Seal.check2 64 4 c t = k at *
  clear hb0 hg hlt hT hc ht
  go_enter Tryd.func67, Tryd.ntmps67
  go_wp2_with ((with_reducible show wpList _ _ _ (⟨_, .load 51 _, _, _, _, _⟩ :: _) _ _); refine wpList_load_tx rfl 51 (.tmp 4) rfl w.heap.size 0 rfl (bRow t).toList _ (row_range HR0.out) Tryd.underlying51 rfl (by rw [hash_info, HT32.out]) ?_)
  refine HCk.out.mono ?_
  rintro _ w1 ⟨rfl, hb1⟩
  go_wp2_with fail
  go_ret
  exact ⟨rfl, two_below' HB0.out hb1⟩
set_option maxRecDepth 20000 in
set_option maxHeartbeats 6400000 in
theorem boxRead_any (s : ByteArray) (w : World) (hs : s.size ≤ 140737488351232) (hT : Tab w) :
    Calls Tryd.prog 13 #[.string s] w fun e w' => RdEnds (Po.read s.data.toList) w.heap.size e w' ∧ Below w.heap.size w w' := by
  have hzb := bt_zv
  have hb0 := (Below.refl w.heap.size w).alloc (Nat.le_refl _) (.cells Bt.zeroC.toArray 24)
  have HR0 := Lib.hid (Row.new w 24 Bt.zeroC)
  have HB0 := Lib.hid hb0
  have HRd := Lib.hid (ReadList_any s 0 (w.alloc (.cells Bt.zeroC.toArray 24)) (by omega))
  have HT := Lib.hid hT
  have hsz : s.data.toList.length = s.size := by rw [Array.length_toList]; rfl
  have HBL : Hid (Bt.zeroC.length = 4) := Lib.hid rfl
  have HB1 : Hid (∀ v ∈ Bt.zeroC, v.oneCell' = true) := Lib.hid (by intro v hv; simp [Bt.zeroC, Bt.cells, Bt.zero] at hv; rcases hv with rfl | rfl | rfl | rfl <;> rfl)
  unfold ListEnds at HRd
  have hla : Tx.listAll s.data.toList = if (Oct.rdList s.data.toList 0).2.2 = 0 ∧ (Oct.rdList s.data.toList 0).2.1 = s.data.toList.length then some (Oct.rdList s.data.toList 0).1 else none := rfl
  have HTx : Hid (∀ L, Tx.listAll s.data.toList = some L → ∀ x ∈ L, x.length ≤ 65536) := Lib.hid (fun L h => Tx.listAll_text h)
  rw [hsz] at hla
  generalize Oct.rdList s.data.toList 0 = rd at *
  obtain ⟨L, at_, er⟩ := rd
  simp only at HRd hla
  have hbz := bt_built0
  have hZ : Bt.zeroC = Bt.zeroC := rfl
  obtain ⟨ZC, hZC⟩ : ∃ ZC, ZC = Bt.zeroC := ⟨_, rfl⟩
  simp only [← hZC] at hzb HR0 HB0 HRd HBL HB1 hbz
  have HZ := Lib.hid hZC.symm
  clear hb0 hT hZC hZ hsz hs
  by_cases h1 : er = 0
  rotate_left
  · have dq : (er != 0) = true := by simpa using h1
    have hn : Po.read s.data.toList = (6, none) := by unfold Po.read Po.look; rw [hla, if_neg (fun h => h1 h.1)]
    clear hla h1
    go_enter Tryd.func13, Tryd.ntmps13
    go_wp2_with fail
    refine HRd.out.mono ?_
    rintro _ w1 ⟨v, rfl, ⟨A, c, rfl, _⟩, hb1⟩
    have HR1 := Lib.hid (HR0.out.below hb1)
    have Hb1 := Lib.hid (two_below' HB0.out hb1)
    have HNo := Lib.hid hn
    clear hb1 hn
    go_wp2_with (first
    | ((with_reducible show wpList _ _ _ (⟨_, .build 24 _, _, _, _, _⟩ :: _) _ _); refine wpList_buildL rfl 24 [] rfl (some 35) rfl [] rfl ZC.toArray hbz ?_)
    | (with_reducible show wpList _ _ _ (⟨_, .store 24 _ _, _, _, _, _⟩ :: _) _ _
       refine wpList_store_at rfl 24 (.tmp 2) (.tmp 35) rfl w.heap.size 0 ZC _ _ rfl rfl HR1.out (by rw [HBL.out]; decide) (by rw [bt_size, HBL.out]) HB1.out ?_
       intro w9 hr9 hg9
       rw [splice_all rfl] at hr9
       have HR9 := Lib.hid hr9
       have HB9 := Lib.hid (below_own Hb1.out hg9 (fun k hk => by cases hk; exact Nat.le_refl _))
       clear hr9 hg9))
    exact bodyPost_ret (results_rowL rfl _ _ w.heap.size 24 _ _ rfl HR9.out Tryd.underlying24 rfl (by rw [bt_size, List.size_toArray, HBL.out]) _ rfl) rfl ⟨by unfold RdEnds; rw [HNo.out]; simp only [HZ.out]; rfl, HB9.out⟩
  have dq : (er != 0) = false := by simp [h1]
  by_cases h2 : at_ = (s.size : Int)
  rotate_left
  · have dq2 : (at_ != (s.size : Int)) = true := by simpa using h2
    have hn : Po.read s.data.toList = (6, none) := by unfold Po.read Po.look; rw [hla, if_neg (fun h => h2 h.2)]
    clear hla h1 h2
    go_enter Tryd.func13, Tryd.ntmps13
    go_wp2_with fail
    refine HRd.out.mono ?_
    rintro _ w1 ⟨v, rfl, ⟨A, c, rfl, _⟩, hb1⟩
    have HR1 := Lib.hid (HR0.out.below hb1)
    have Hb1 := Lib.hid (two_below' HB0.out hb1)
    have HNo := Lib.hid hn
    clear hb1 hn
    go_wp2_with (first
    | ((with_reducible show wpList _ _ _ (⟨_, .build 24 _, _, _, _, _⟩ :: _) _ _); refine wpList_buildL rfl 24 [] rfl (some 35) rfl [] rfl ZC.toArray hbz ?_)
    | (with_reducible show wpList _ _ _ (⟨_, .store 24 _ _, _, _, _, _⟩ :: _) _ _
       refine wpList_store_at rfl 24 (.tmp 2) (.tmp 35) rfl w.heap.size 0 ZC _ _ rfl rfl HR1.out (by rw [HBL.out]; decide) (by rw [bt_size, HBL.out]) HB1.out ?_
       intro w9 hr9 hg9
       rw [splice_all rfl] at hr9
       have HR9 := Lib.hid hr9
       have HB9 := Lib.hid (below_own Hb1.out hg9 (fun k hk => by cases hk; exact Nat.le_refl _))
       clear hr9 hg9))
    exact bodyPost_ret (results_rowL rfl _ _ w.heap.size 24 _ _ rfl HR9.out Tryd.underlying24 rfl (by rw [bt_size, List.size_toArray, HBL.out]) _ rfl) rfl ⟨by unfold RdEnds; rw [HNo.out]; simp only [HZ.out]; rfl, HB9.out⟩
  have dq2 : (at_ != (s.size : Int)) = false := by simpa using h2
  rw [if_pos ⟨h1, h2⟩] at hla
  clear h1 h2
  by_cases h3 : L.length = 2
  rotate_left
  · have dq3 : ((L.length : Int) != 2) = true := by simp; omega
    have hn : Po.read s.data.toList = (6, none) := by
      unfold Po.read
      have : Po.look s.data.toList = none := by
        unfold Po.look
        rw [hla]
        match L, h3 with
        | [], _ => rfl
        | [_], _ => rfl
        | [_, _], h => exact absurd rfl h
        | _ :: _ :: _ :: _, _ => rfl
      rw [this]
    clear hla h3
    go_enter Tryd.func13, Tryd.ntmps13
    go_wp2_with fail
    refine HRd.out.mono ?_
    rintro _ w1 ⟨v, rfl, ⟨A, c, rfl, _⟩, hb1⟩
    have HR1 := Lib.hid (HR0.out.below hb1)
    have Hb1 := Lib.hid (two_below' HB0.out hb1)
    have HNo := Lib.hid hn
    clear hb1 hn
    go_wp2_with (first
    | ((with_reducible show wpList _ _ _ (⟨_, .build 24 _, _, _, _, _⟩ :: _) _ _); refine wpList_buildL rfl 24 [] rfl (some 35) rfl [] rfl ZC.toArray hbz ?_)
    | (with_reducible show wpList _ _ _ (⟨_, .store 24 _ _, _, _, _, _⟩ :: _) _ _
       refine wpList_store_at rfl 24 (.tmp 2) (.tmp 35) rfl w.heap.size 0 ZC _ _ rfl rfl HR1.out (by rw [HBL.out]; decide) (by rw [bt_size, HBL.out]) HB1.out ?_
       intro w9 hr9 hg9
       rw [splice_all rfl] at hr9
       have HR9 := Lib.hid hr9
       have HB9 := Lib.hid (below_own Hb1.out hg9 (fun k hk => by cases hk; exact Nat.le_refl _))
       clear hr9 hg9))
    exact bodyPost_ret (results_rowL rfl _ _ w.heap.size 24 _ _ rfl HR9.out Tryd.underlying24 rfl (by rw [bt_size, List.size_toArray, HBL.out]) _ rfl) rfl ⟨by unfold RdEnds; rw [HNo.out]; simp only [HZ.out]; rfl, HB9.out⟩
  match L, h3, hla, HRd with
  | [c, t], _, hla, HRd =>
  have hlc : c.length ≤ 65536 := HTx.out _ hla c (by simp)
  by_cases h4 : t.length = 32
  rotate_left
  · have dq4 : ((t.length : Int) != 32) = true := by simp; omega
    have hn : Po.read s.data.toList = (6, none) := by
      unfold Po.read
      have : Po.look s.data.toList = none := by unfold Po.look; rw [hla]; simp [h4]
      rw [this]
    clear hla h4 hlc
    go_enter Tryd.func13, Tryd.ntmps13
    go_wp2_with fail
    refine HRd.out.mono ?_
    rintro _ w1 ⟨v, rfl, ⟨A, cp, rfl, ht⟩, hb1⟩
    obtain ⟨g, o, rfl, hg, hc⟩ := ht (by simp)
    have c1 := hc 1 (by simp)
    simp only [List.getElem_cons_succ, List.getElem_cons_zero] at c1
    have HR1 := Lib.hid (HR0.out.below hb1)
    have Hb1 := Lib.hid (two_below' HB0.out hb1)
    have HNo := Lib.hid hn
    clear hb1 hn hc
    simp only [List.length_cons, List.length_nil, Nat.zero_add, Nat.reduceAdd]
    go_wp2_with (first
    | ((with_reducible show wpList _ _ _ (⟨_, .build 24 _, _, _, _, _⟩ :: _) _ _); refine wpList_buildL rfl 24 [] rfl (some 35) rfl [] rfl ZC.toArray hbz ?_)
    | (with_reducible show wpList _ _ _ (⟨_, .store 24 _ _, _, _, _, _⟩ :: _) _ _
       refine wpList_store_at rfl 24 (.tmp 2) (.tmp 35) rfl w.heap.size 0 ZC _ _ rfl rfl HR1.out (by rw [HBL.out]; decide) (by rw [bt_size, HBL.out]) HB1.out ?_
       intro w9 hr9 hg9
       rw [splice_all rfl] at hr9
       have HR9 := Lib.hid hr9
       have HB9 := Lib.hid (below_own Hb1.out hg9 (fun k hk => by cases hk; exact Nat.le_refl _))
       clear hr9 hg9))
    exact bodyPost_ret (results_rowL rfl _ _ w.heap.size 24 _ _ rfl HR9.out Tryd.underlying24 rfl (by rw [bt_size, List.size_toArray, HBL.out]) _ rfl) rfl ⟨by unfold RdEnds; rw [HNo.out]; simp only [HZ.out]; rfl, HB9.out⟩
  have dq4 : ((t.length : Int) != 32) = false := by simp [h4]
  have hlook := Po.look_yes hla h4
  have HT4 := Lib.hid h4
  have HS1 := Lib.hid (fun W => sealedBy_any c W)
  have HS2 : Hid (∀ g W, W.cell? ⟨g, 0, none⟩ = some (S c) → Tab W → Calls Tryd.prog 67 #[.int .i64 64, .agg (bRow t), .pointer (some ⟨g, 0, none⟩)] W fun e w' => e = .returned (.bool (Seal.check2 64 4 c t == 0)) ∧ Below W.heap.size W w') := Lib.hid (fun g W h1 h2 => sealedBy1_any c t (by omega) h4 g W h1 h2)
  have HOp := Lib.hid (fun W => open_S c 32768 (by omega) W)
  have HT32 := Lib.hid (Tx.bRow_len _ h4)
  have HRe : Hid (Po.read s.data.toList = if Seal.check2 64 4 c t = 0 then (if (Cr.opened c 32768).2 = 0 then (match Bt.read (Cr.opened c 32768).1 with | some b => ((0 : Int), some b) | none => ((6 : Int), (none : Option Bt))) else ((7 : Int), (none : Option Bt))) else ((21 : Int), (none : Option Bt))) := Lib.hid (by unfold Po.read; rw [hlook]; try rfl)
  have hol : (Cr.opened c 32768).1.length ≤ 140737488351232 := by
    have := Po.opened_len c 32768
    omega
  have HRb := Lib.hid (fun W => readB_S (Cr.opened c 32768).1 hol W)
  unfold pairV at HOp
  generalize Seal.check2 64 4 c t = ck at *
  generalize Cr.opened c 32768 = op at *
  obtain ⟨held, oc⟩ := op
  simp only at HOp HRe HRb
  clear hla h4 hlook hlc hol
  go_enter Tryd.func13, Tryd.ntmps13
  go_wp2_with fail
  refine HRd.out.mono ?_
  rintro _ w1 ⟨v, rfl, ⟨A, cp, rfl, ht⟩, hb1⟩
  obtain ⟨g, o, rfl, hg, hc⟩ := ht (by simp)
  have c0 := hc 0 (by simp)
  have c1 := hc 1 (by simp)
  simp only [List.getElem_cons_succ, List.getElem_cons_zero, Nat.add_zero] at c0 c1
  have HR1 := Lib.hid (HR0.out.below hb1)
  have Hb1 := Lib.hid (two_below' HB0.out hb1)
  clear hb1 hc
  simp only [List.length_cons, List.length_nil, Nat.zero_add, Nat.reduceAdd]
  go_wp2_with fail
  refine (HS1.out _).mono ?_
  rintro _ w2 ⟨rfl, rfl⟩
  have hal := (Below.refl w1.heap.size w1).alloc (Nat.le_refl _) (.cells #[S c] 9)
  have c0b : (w1.alloc (.cells #[S c] 9)).cell? ⟨g, o, none⟩ = some (S c) := (hal.cell (p := ⟨g, o, none⟩) hg).trans c0
  have c1b : (w1.alloc (.cells #[S c] 9)).cell? ⟨g, o + 1, none⟩ = some (S t) := (hal.cell (p := ⟨g, o + 1, none⟩) hg).trans c1
  have cB : (w1.alloc (.cells #[S c] 9)).cell? ⟨w1.heap.size, 0, none⟩ = some (S c) := (Row.new w1 9 [S c]).cell 0 (by simp)
  have hlt1 : w1.heap.size < (w1.alloc (.cells #[S c] 9)).heap.size := by simp
  have hlg : g < (w1.alloc (.cells #[S c] 9)).heap.size := by simp; omega
  have HR2 := Lib.hid (HR1.out.below hal)
  have Hb2 := Lib.hid (two_below' Hb1.out hal)
  clear hal c0 c1
  generalize hgc : w1.heap.size = gc at *
  generalize w1.alloc (.cells #[S c] 9) = w2 at *
  clear hgc
  obtain ⟨cq, Wc, hcv, hgrc, hrc⟩ := conv32 w2 t HT4.out
  have hat := fun W => hash_at13 W (some ⟨w2.heap.size, 0, none⟩) cq
  have Hrc := Lib.hid hrc
  have Hb3 := Lib.hid (below_own Hb2.out hgrc (fun k hk => by cases hk))
  have HR3 := Lib.hid (HR2.out.kept hgrc (by simp))
  have cB3 := hgrc.cell cB (by simp)
  have c03 := hgrc.cell c0b (by simp)
  have HcB3 := Lib.hid cB3
  have Hc03 := Lib.hid c03
  have Hlg : Hid (g < Wc.heap.size) := Lib.hid (Nat.lt_of_lt_of_le hlg hgrc.size)
  clear hrc hgrc cB c0b cB3 c03 hlt1 hlg
  go_wp2_with ((with_reducible show wpList _ _ _ (⟨_, .load 51 _, _, _, _, _⟩ :: _) _ _); refine wpList_load_tx rfl 51 (.tmp 45) rfl w2.heap.size 0 rfl (bRow t).toList _ Hrc.out Tryd.underlying51 rfl (by rw [hash_info, HT32.out]) ?_)
  refine (HS2.out gc Wc HcB3.out (HT.out.below Hb3.out HT.out.pos)).mono ?_
  rintro _ w4 ⟨rfl, hb4⟩
  have HR4 := Lib.hid (HR3.out.below hb4)
  have Hb4 := Lib.hid (two_below' Hb3.out hb4)
  have c04 : w4.cell? ⟨g, o, none⟩ = some (S c) := (hb4.cell (p := ⟨g, o, none⟩) Hlg.out).trans Hc03.out
  clear hb4 hcv hat c1b
  by_cases h5 : ck = 0
  rotate_left
  · have dq5 : (ck == 0) = false := by simpa using h5
    have hn := HRe.out
    rw [if_neg h5] at hn
    have HNo := Lib.hid hn
    clear h5 hn c04
    go_wp2_with (first
    | ((with_reducible show wpList _ _ _ (⟨_, .build 24 _, _, _, _, _⟩ :: _) _ _); refine wpList_buildL rfl 24 [] rfl (some 49) rfl [] rfl ZC.toArray hbz ?_)
    | (with_reducible show wpList _ _ _ (⟨_, .store 24 _ _, _, _, _, _⟩ :: _) _ _
       refine wpList_store_at rfl 24 (.tmp 2) (.tmp 49) rfl w.heap.size 0 ZC _ _ rfl rfl HR4.out (by rw [HBL.out]; decide) (by rw [bt_size, HBL.out]) HB1.out ?_
       intro w9 hr9 hg9
       rw [splice_all rfl] at hr9
       have HR9 := Lib.hid hr9
       have HB9 := Lib.hid (below_own Hb4.out hg9 (fun k hk => by cases hk; exact Nat.le_refl _))
       clear hr9 hg9))
    exact bodyPost_ret (results_rowL rfl _ _ w.heap.size 24 _ _ rfl HR9.out Tryd.underlying24 rfl (by rw [bt_size, List.size_toArray, HBL.out]) _ rfl) rfl ⟨by unfold RdEnds; rw [HNo.out]; simp only [HZ.out]; rfl, HB9.out⟩
  have dq5 : (ck == 0) = true := by simpa using h5
  have hre := HRe.out
  rw [if_pos h5] at hre
  clear h5
  go_wp2_with fail
  refine (HOp.out _).mono ?_
  rintro _ w5 ⟨rfl, hb5⟩
  have HR5 := Lib.hid (HR4.out.below hb5)
  have Hb5 := Lib.hid (two_below' Hb4.out hb5)
  clear hb5 c04
  by_cases h6 : oc = 0
  rotate_left
  · have dq6 : (oc != 0) = true := by simpa using h6
    rw [if_neg h6] at hre
    have HNo := Lib.hid hre
    clear h6 hre
    go_wp2_with (first
    | ((with_reducible show wpList _ _ _ (⟨_, .build 24 _, _, _, _, _⟩ :: _) _ _); refine wpList_buildL rfl 24 [] rfl (some 59) rfl [] rfl ZC.toArray hbz ?_)
    | (with_reducible show wpList _ _ _ (⟨_, .store 24 _ _, _, _, _, _⟩ :: _) _ _
       refine wpList_store_at rfl 24 (.tmp 2) (.tmp 59) rfl w.heap.size 0 ZC _ _ rfl rfl HR5.out (by rw [HBL.out]; decide) (by rw [bt_size, HBL.out]) HB1.out ?_
       intro w9 hr9 hg9
       rw [splice_all rfl] at hr9
       have HR9 := Lib.hid hr9
       have HB9 := Lib.hid (below_own Hb5.out hg9 (fun k hk => by cases hk; exact Nat.le_refl _))
       clear hr9 hg9))
    exact bodyPost_ret (results_rowL rfl _ _ w.heap.size 24 _ _ rfl HR9.out Tryd.underlying24 rfl (by rw [bt_size, List.size_toArray, HBL.out]) _ rfl) rfl ⟨by unfold RdEnds; rw [HNo.out]; simp only [HZ.out]; rfl, HB9.out⟩
  have dq6 : (oc != 0) = false := by simp [h6]
  rw [if_pos h6] at hre
  have HRe2 := Lib.hid hre
  clear h6 hre
  go_wp2_with fail
  refine (HRb.out _).mono ?_
  rintro e w6 ⟨hbt, hb6⟩
  have HR6 := Lib.hid (HR5.out.below hb6)
  have Hb6 := Lib.hid (two_below' Hb5.out hb6)
  clear hb6
  unfold BtEnds at hbt
  generalize Bt.read held = R at *
  match R, hbt, HRe2 with
  | none, hbt, HRe2 =>
    subst hbt
    have HNo := HRe2
    rw [HZ.out]
    go_wp2_with (first
    | (with_reducible show wpList _ _ _ (⟨_, .store 24 _ _, _, _, _, _⟩ :: _) _ _
       refine wpList_store_at rfl 24 (.tmp 2) (.tmp 62) rfl w.heap.size 0 ZC _ _ rfl rfl HR6.out (by rw [HBL.out]; decide) (by rw [bt_size, HBL.out]) HB1.out ?_
       intro w9 hr9 hg9
       rw [splice_all rfl] at hr9
       have HR9 := Lib.hid hr9
       have HB9 := Lib.hid (below_own Hb6.out hg9 (fun k hk => by cases hk; exact Nat.le_refl _))
       clear hr9 hg9))
    exact bodyPost_ret (results_rowL rfl _ _ w.heap.size 24 _ _ rfl HR9.out Tryd.underlying24 rfl (by rw [bt_size, List.size_toArray, HBL.out]) _ rfl) rfl ⟨by unfold RdEnds; rw [HNo.out]; simp only [HZ.out]; rfl, HB9.out⟩
  | some u, ⟨A6, c6, he, hpf, hcp⟩, HRe2 =>
    subst he
    have HPf := Lib.hid hpf
    have HUL : Hid ((u.cells A6 c6).length = 4) := Lib.hid rfl
    have HU1 : Hid (∀ v ∈ u.cells A6 c6, v.oneCell' = true) := Lib.hid (by intro v hv; simp [Bt.cells] at hv; rcases hv with rfl | rfl | rfl | rfl <;> rfl)
    have Hlo : Hid (w.heap.size ≤ w5.heap.size) := Lib.hid Hb5.out.size
    have HUc : Hid (u.cells A6 c6 = u.cells A6 c6) := Lib.hid rfl
    obtain ⟨C6, hC6⟩ : ∃ C6, C6 = u.cells A6 c6 := ⟨_, rfl⟩
    rw [← hC6] at HUL HU1 ⊢
    have HC6 := Lib.hid hC6
    clear hC6 hpf
    go_wp2_with (with_reducible show wpList _ _ _ (⟨_, .store 24 _ _, _, _, _, _⟩ :: _) _ _
                 refine wpList_store_at rfl 24 (.tmp 2) (.tmp 62) rfl w.heap.size 0 C6 _ _ rfl rfl HR6.out (by rw [HBL.out, HUL.out]; decide) (by rw [bt_size, HUL.out]) HU1.out ?_
                 intro w9 hr9 hg9
                 rw [splice_all (HUL.out.trans HBL.out.symm)] at hr9
                 have HR9 := Lib.hid hr9
                 have HG9 := Lib.hid hg9
                 have HB9 := Lib.hid (below_own Hb6.out hg9 (fun k hk => by cases hk; exact Nat.le_refl _))
                 clear hr9 hg9)
    refine bodyPost_ret (results_rowL rfl _ _ w.heap.size 24 _ _ rfl HR9.out Tryd.underlying24 rfl (by rw [bt_size, List.size_toArray, HUL.out]) _ rfl) rfl ⟨?_, HB9.out⟩
    unfold RdEnds
    rw [HRe2.out]
    refine ⟨A6, c6, by rw [HC6.out]; rfl, fun hne => ?_, hcp⟩
    have hlt := HR0.out.lt
    have hw5 := Hb5.out.size
    have hR5 := HR5.out.lt
    obtain ⟨b, off, e1, e2, e3, e4⟩ := (HPf.out.grown HG9.out (fun k hk => by cases hk; exact hR5)) hne
    exact ⟨b, off, e1, by omega, e3, e4⟩
end Go.Proofs.YtinciddchpccnaaDoor
namespace Go.Proofs.YtinciddchpccnaaDoor
open Go.RowKit
set_option linter.unusedVariables false
set_option linter.unusedSimpArgs false

theorem ropen_S (c : List UInt8) (m : Int) (hc : c.length ≤ 140737488351232) (w : World) : Calls Tryd.prog 39 #[S c, .int .i64 m] w fun e w' => e = .returned (pairV (Cr.opened c m)) ∧ Below w.heap.size w w' := by
  have := crRopen_any ⟨c.toArray⟩ m w (by show c.toArray.size ≤ _; simpa using hc)
  simpa only [List.toList_toArray] using this
theorem rreadB_S (c : List UInt8) (hc : c.length ≤ 140737488351232) (w : World) : Calls Tryd.prog 40 #[S c] w fun e w' => BtEnds (Bt.read c) w.heap.size e w' ∧ Below w.heap.size w w' := by
  have := rreadBatch_any ⟨c.toArray⟩ w (by show c.toArray.size ≤ _; simpa using hc)
  simpa only [List.toList_toArray] using this
theorem hash4_S (t : List UInt8) (ht : t.length = 32) (w : World) : Calls Tryd.prog 38 #[S t] w fun e w' => e = .returned (.agg (bRow t)) ∧ Below w.heap.size w w' := by
  have := hash4_any ⟨t.toArray⟩ w (by show t.toArray.size = _; simpa using ht)
  simpa only [List.toList_toArray] using this
theorem rcheck_S (hRS : RefSum) (c t : List UInt8) (hc : c.length ≤ 140737488354900) (ht : t.length = 32) (w : World) : Calls Tryd.prog 37 #[.int .i64 64, .int .i64 4, S c, .agg (bRow t)] w fun e w' => e = .returned (.int .i64 (Seal.check2 64 4 c t)) ∧ Below w.heap.size w w' := by
  have := refCheck_any hRS 64 4 ⟨c.toArray⟩ t w ht (by show c.toArray.size ≤ _; simpa using hc)
  simpa only [List.toList_toArray] using this
set_option maxRecDepth 20000 in
set_option maxHeartbeats 6400000 in
theorem rboxRead_any (hRS : RefSum) (s : ByteArray) (w : World) (hs : s.size ≤ 140737488351232) :
    Calls Tryd.prog 14 #[.string s] w fun e w' => RdEnds (Po.read s.data.toList) w.heap.size e w' ∧ Below w.heap.size w w' := by
  have hzb := bt_zv
  have hb0 := (Below.refl w.heap.size w).alloc (Nat.le_refl _) (.cells Bt.zeroC.toArray 24)
  have HR0 := Lib.hid (Row.new w 24 Bt.zeroC)
  have HB0 := Lib.hid hb0
  have HRd := Lib.hid (rlist4_any s (w.alloc (.cells Bt.zeroC.toArray 24)) hs)
  have HBL : Hid (Bt.zeroC.length = 4) := Lib.hid rfl
  have HB1 : Hid (∀ v ∈ Bt.zeroC, v.oneCell' = true) := Lib.hid (by intro v hv; simp [Bt.zeroC, Bt.cells, Bt.zero] at hv; rcases hv with rfl | rfl | rfl | rfl <;> rfl)
  have HTx : Hid (∀ L, Tx.listAll s.data.toList = some L → ∀ x ∈ L, x.length ≤ 65536) := Lib.hid (fun L h => Tx.listAll_text h)
  have hbz := bt_built0
  obtain ⟨ZC, hZC⟩ : ∃ ZC, ZC = Bt.zeroC := ⟨_, rfl⟩
  simp only [← hZC] at hzb HR0 HB0 HRd HBL HB1 hbz
  have HZ := Lib.hid hZC.symm
  clear hb0 hZC hs
  go_enter Tryd.func14, Tryd.ntmps14
  go_wp2_with fail
  refine HRd.out.mono ?_
  rintro _ w1 ⟨L, v, n, rfl, ⟨A, cp, rfl, ht⟩, hli, hb1⟩
  have HR1 := Lib.hid (HR0.out.below hb1)
  have Hb1 := Lib.hid (two_below' HB0.out hb1)
  clear hb1
  rcases hli with ⟨hn0, hla⟩ | ⟨dq, hla, rfl⟩
  rotate_left
  · have hn : Po.read s.data.toList = (6, none) := by unfold Po.read Po.look; rw [hla]
    have HNo := Lib.hid hn
    clear hn hla ht
    go_wp2_with (first
    | ((with_reducible show wpList _ _ _ (⟨_, .build 24 _, _, _, _, _⟩ :: _) _ _); refine wpList_buildL rfl 24 [] rfl (some 27) rfl [] rfl ZC.toArray hbz ?_)
    | (with_reducible show wpList _ _ _ (⟨_, .store 24 _ _, _, _, _, _⟩ :: _) _ _
       refine wpList_store_at rfl 24 (.tmp 2) (.tmp 27) rfl w.heap.size 0 ZC _ _ rfl rfl HR1.out (by rw [HBL.out]; decide) (by rw [bt_size, HBL.out]) HB1.out ?_
       intro w9 hr9 hg9
       rw [splice_all rfl] at hr9
       have HR9 := Lib.hid hr9
       have HB9 := Lib.hid (below_own Hb1.out hg9 (fun k hk => by cases hk; exact Nat.le_refl _))
       clear hr9 hg9))
    exact bodyPost_ret (results_rowL rfl _ _ w.heap.size 24 _ _ rfl HR9.out Tryd.underlying24 rfl (by rw [bt_size, List.size_toArray, HBL.out]) _ rfl) rfl ⟨by unfold RdEnds; rw [HNo.out]; simp only [HZ.out]; rfl, HB9.out⟩
  have dq : (n != 0) = false := by simp [hn0]
  clear hn0
  by_cases h3 : L.length = 2
  rotate_left
  · have dq3 : ((L.length : Int) != 2) = true := by simp; omega
    have hn : Po.read s.data.toList = (6, none) := by
      unfold Po.read
      have : Po.look s.data.toList = none := by
        unfold Po.look
        rw [hla]
        match L, h3 with
        | [], _ => rfl
        | [_], _ => rfl
        | [_, _], h => exact absurd rfl h
        | _ :: _ :: _ :: _, _ => rfl
      rw [this]
    have HNo := Lib.hid hn
    clear hn hla ht h3
    go_wp2_with (first
    | ((with_reducible show wpList _ _ _ (⟨_, .build 24 _, _, _, _, _⟩ :: _) _ _); refine wpList_buildL rfl 24 [] rfl (some 27) rfl [] rfl ZC.toArray hbz ?_)
    | (with_reducible show wpList _ _ _ (⟨_, .store 24 _ _, _, _, _, _⟩ :: _) _ _
       refine wpList_store_at rfl 24 (.tmp 2) (.tmp 27) rfl w.heap.size 0 ZC _ _ rfl rfl HR1.out (by rw [HBL.out]; decide) (by rw [bt_size, HBL.out]) HB1.out ?_
       intro w9 hr9 hg9
       rw [splice_all rfl] at hr9
       have HR9 := Lib.hid hr9
       have HB9 := Lib.hid (below_own Hb1.out hg9 (fun k hk => by cases hk; exact Nat.le_refl _))
       clear hr9 hg9))
    exact bodyPost_ret (results_rowL rfl _ _ w.heap.size 24 _ _ rfl HR9.out Tryd.underlying24 rfl (by rw [bt_size, List.size_toArray, HBL.out]) _ rfl) rfl ⟨by unfold RdEnds; rw [HNo.out]; simp only [HZ.out]; rfl, HB9.out⟩
  match L, h3, hla, ht with
  | [c, t], _, hla, ht =>
  have hlc : c.length ≤ 65536 := HTx.out _ hla c (by simp)
  obtain ⟨g, o, rfl, hg, hc⟩ := ht (by simp)
  have c0 := hc 0 (by simp)
  have c1 := hc 1 (by simp)
  simp only [List.getElem_cons_succ, List.getElem_cons_zero, Nat.add_zero] at c0 c1
  simp only [List.length_cons, List.length_nil, Nat.zero_add, Nat.reduceAdd]
  clear hc
  by_cases h4 : t.length = 32
  rotate_left
  · have dq4 : ((t.length : Int) != 32) = true := by simp; omega
    have hn : Po.read s.data.toList = (6, none) := by
      unfold Po.read
      have : Po.look s.data.toList = none := by unfold Po.look; rw [hla]; simp [h4]
      rw [this]
    have HNo := Lib.hid hn
    clear hla h4 hlc hn
    go_wp2_with (first
    | ((with_reducible show wpList _ _ _ (⟨_, .build 24 _, _, _, _, _⟩ :: _) _ _); refine wpList_buildL rfl 24 [] rfl (some 27) rfl [] rfl ZC.toArray hbz ?_)
    | (with_reducible show wpList _ _ _ (⟨_, .store 24 _ _, _, _, _, _⟩ :: _) _ _
       refine wpList_store_at rfl 24 (.tmp 2) (.tmp 27) rfl w.heap.size 0 ZC _ _ rfl rfl HR1.out (by rw [HBL.out]; decide) (by rw [bt_size, HBL.out]) HB1.out ?_
       intro w9 hr9 hg9
       rw [splice_all rfl] at hr9
       have HR9 := Lib.hid hr9
       have HB9 := Lib.hid (below_own Hb1.out hg9 (fun k hk => by cases hk; exact Nat.le_refl _))
       clear hr9 hg9))
    exact bodyPost_ret (results_rowL rfl _ _ w.heap.size 24 _ _ rfl HR9.out Tryd.underlying24 rfl (by rw [bt_size, List.size_toArray, HBL.out]) _ rfl) rfl ⟨by unfold RdEnds; rw [HNo.out]; simp only [HZ.out]; rfl, HB9.out⟩
  have dq4 : ((t.length : Int) != 32) = false := by simp [h4]
  have hlook := Po.look_yes hla h4
  have HC0 : Hid (∀ W, Below w1.heap.size w1 W → W.cell? ⟨g, o, none⟩ = some (S c)) := Lib.hid (fun W hW => (hW.cell (p := ⟨g, o, none⟩) hg).trans c0)
  have HC1 : Hid (∀ W, Below w1.heap.size w1 W → W.cell? ⟨g, o + 1, none⟩ = some (S t)) := Lib.hid (fun W hW => (hW.cell (p := ⟨g, o + 1, none⟩) hg).trans c1)
  have HH4 := Lib.hid (fun W => hash4_S t h4 W)
  have HCk := Lib.hid (fun W => rcheck_S hRS c t (by omega) h4 W)
  have HOp := Lib.hid (fun W => ropen_S c 32768 (by omega) W)
  have HRe : Hid (Po.read s.data.toList = if Seal.check2 64 4 c t = 0 then (if (Cr.opened c 32768).2 = 0 then (match Bt.read (Cr.opened c 32768).1 with | some b => ((0 : Int), some b) | none => ((6 : Int), (none : Option Bt))) else ((7 : Int), (none : Option Bt))) else ((21 : Int), (none : Option Bt))) := Lib.hid (by unfold Po.read; rw [hlook]; try rfl)
  have hol : (Cr.opened c 32768).1.length ≤ 140737488351232 := by
    have := Po.opened_len c 32768
    omega
  have HRb := Lib.hid (fun W => rreadB_S (Cr.opened c 32768).1 hol W)
  unfold pairV at HOp
  generalize Seal.check2 64 4 c t = ck at *
  generalize Cr.opened c 32768 = op at *
  obtain ⟨held, oc⟩ := op
  simp only at HOp HRe HRb
  clear hla h4 hlook hlc hol
  go_wp2_with fail
  clear c0 c1 dq dq4
  refine wp_region_held_drew (S := fun w' => Below w1.heap.size w1 w') (by kernel_rfl) ((Below.refl _ _).drew) (fun hHeld => ?_)
  generalize w1.drew = wq at *
  refine wpAnyH_take (i := 0) (v := .slice (some ⟨g, o, none⟩) 2 cp) rfl (by kernel_rfl) (by kernel_rfl) (by kernel_rfl) (fun _ _ _ h => h) (Or.inl ⟨by rfl, fun w' hSw => by go_simp⟩) hHeld ?_
  try simp only [Act.put, List.getElem_toArray, List.getElem_cons_succ, List.getElem_cons_zero, List.setIfInBounds_toArray, List.set_cons_zero, List.set_cons_succ]
  refine wpAnyH_take (i := 1) (v := .pointer (some ⟨g, o, none⟩)) rfl (by kernel_rfl) (by kernel_rfl) (by kernel_rfl) (fun _ _ _ h => h) (Or.inl ⟨by rfl, fun w' hSw => by go_simp⟩) hHeld ?_
  try simp only [Act.put, List.getElem_toArray, List.getElem_cons_succ, List.getElem_cons_zero, List.setIfInBounds_toArray, List.set_cons_zero, List.set_cons_succ]
  refine wpAnyH_take (i := 2) (v := S c) rfl (by kernel_rfl) (by kernel_rfl) (by kernel_rfl) (fun _ _ _ h => h) (Or.inl ⟨by rfl, fun w' hSw => by have hq := hSw; have hd := HC0.out _ hq; go_simp⟩) hHeld ?_
  try simp only [Act.put, List.getElem_toArray, List.getElem_cons_succ, List.getElem_cons_zero, List.setIfInBounds_toArray, List.set_cons_zero, List.set_cons_succ]
  refine wpAnyH_take (i := 3) (v := .slice (some ⟨g, o, none⟩) 2 cp) rfl (by kernel_rfl) (by kernel_rfl) (by kernel_rfl) (fun _ _ _ h => h) (Or.inl ⟨by rfl, fun w' hSw => by go_simp⟩) hHeld ?_
  try simp only [Act.put, List.getElem_toArray, List.getElem_cons_succ, List.getElem_cons_zero, List.setIfInBounds_toArray, List.set_cons_zero, List.set_cons_succ]
  refine wpAnyH_take (i := 4) (v := .pointer (some ⟨g, (o + 1), none⟩)) rfl (by kernel_rfl) (by kernel_rfl) (by kernel_rfl) (fun _ _ _ h => h) (Or.inl ⟨by rfl, fun w' hSw => by go_simp⟩) hHeld ?_
  try simp only [Act.put, List.getElem_toArray, List.getElem_cons_succ, List.getElem_cons_zero, List.setIfInBounds_toArray, List.set_cons_zero, List.set_cons_succ]
  refine wpAnyH_take (i := 5) (v := S t) rfl (by kernel_rfl) (by kernel_rfl) (by kernel_rfl) (fun _ _ _ h => h) (Or.inl ⟨by rfl, fun w' hSw => by have hq := hSw; have hd := HC1.out _ hq; go_simp⟩) hHeld ?_
  try simp only [Act.put, List.getElem_toArray, List.getElem_cons_succ, List.getElem_cons_zero, List.setIfInBounds_toArray, List.set_cons_zero, List.set_cons_succ]
  refine wpAnyH_ready (rs := [6]) (by kernel_rfl) (by simp) (AllReadyH.cons rfl (fun K1 hK1 => ?_) AllReadyH.nil)
  try simp only [Act.put, List.getElem_toArray, List.getElem_cons_succ, List.getElem_cons_zero, List.setIfInBounds_toArray, List.set_cons_zero, List.set_cons_succ]
  go_simp
  refine Calls.mono (HH4.out _) ?_
  rintro e w2 ⟨rfl, hb2⟩
  have HB2 := Lib.hid (two_below' hHeld hb2)
  refine hK1.out _ _ ((two_below' hHeld hb2)) (fun hHeld => ?_)
  clear hK1 K1
  try simp only [Act.put, List.getElem_toArray, List.getElem_cons_succ, List.getElem_cons_zero, List.setIfInBounds_toArray, List.set_cons_zero, List.set_cons_succ]
  clear hb2
  refine wpAnyH_ready (rs := [7]) (by kernel_rfl) (by simp) (AllReadyH.cons rfl (fun K1 hK1 => ?_) AllReadyH.nil)
  try simp only [Act.put, List.getElem_toArray, List.getElem_cons_succ, List.getElem_cons_zero, List.setIfInBounds_toArray, List.set_cons_zero, List.set_cons_succ]
  go_simp
  refine Calls.mono (HCk.out _) ?_
  rintro e w3 ⟨rfl, hb3⟩
  refine hK1.out _ _ ((two_below' hHeld hb3)) (fun hHeld => ?_)
  clear hK1 K1
  try simp only [Act.put, List.getElem_toArray, List.getElem_cons_succ, List.getElem_cons_zero, List.setIfInBounds_toArray, List.set_cons_zero, List.set_cons_succ]
  clear hb3
  refine wpAnyH_take (i := 8) (v := .bool (ck != 0)) rfl (by kernel_rfl) (by kernel_rfl) (by kernel_rfl) (fun _ _ _ h => h) (Or.inl ⟨by rfl, fun w' hSw => by go_simp⟩) hHeld ?_
  try simp only [Act.put, List.getElem_toArray, List.getElem_cons_succ, List.getElem_cons_zero, List.setIfInBounds_toArray, List.set_cons_zero, List.set_cons_succ]
  refine wpAnyH_done (by kernel_rfl) ?_ _
  have HB4 := Lib.hid hHeld
  have HR4 := Lib.hid (HR1.out.below hHeld)
  have Hb4 := Lib.hid (two_below' Hb1.out hHeld)
  have c04 := HC0.out _ hHeld
  clear hHeld
  by_cases h5 : ck = 0
  rotate_left
  · have dq5 : (ck != 0) = true := by simpa using h5
    have hn := HRe.out
    rw [if_neg h5] at hn
    have HNo := Lib.hid hn
    clear h5 hn c04
    go_wp2_with (first
    | ((with_reducible show wpList _ _ _ (⟨_, .build 24 _, _, _, _, _⟩ :: _) _ _); refine wpList_buildL rfl 24 [] rfl (some 37) rfl [] rfl ZC.toArray hbz ?_)
    | (with_reducible show wpList _ _ _ (⟨_, .store 24 _ _, _, _, _, _⟩ :: _) _ _
       refine wpList_store_at rfl 24 (.tmp 2) (.tmp 37) rfl w.heap.size 0 ZC _ _ rfl rfl HR4.out (by rw [HBL.out]; decide) (by rw [bt_size, HBL.out]) HB1.out ?_
       intro w9 hr9 hg9
       rw [splice_all rfl] at hr9
       have HR9 := Lib.hid hr9
       have HB9 := Lib.hid (below_own Hb4.out hg9 (fun k hk => by cases hk; exact Nat.le_refl _))
       clear hr9 hg9))
    exact bodyPost_ret (results_rowL rfl _ _ w.heap.size 24 _ _ rfl HR9.out Tryd.underlying24 rfl (by rw [bt_size, List.size_toArray, HBL.out]) _ rfl) rfl ⟨by unfold RdEnds; rw [HNo.out]; simp only [HZ.out]; rfl, HB9.out⟩
  have dq5 : (ck != 0) = false := by simp [h5]
  have hre := HRe.out
  rw [if_pos h5] at hre
  clear h5
  go_wp2_with fail
  refine (HOp.out _).mono ?_
  rintro _ w5 ⟨rfl, hb5⟩
  have HR5 := Lib.hid (HR4.out.below hb5)
  have Hb5 := Lib.hid (two_below' Hb4.out hb5)
  clear hb5 c04
  by_cases h6 : oc = 0
  rotate_left
  · have dq6 : (oc != 0) = true := by simpa using h6
    rw [if_neg h6] at hre
    have HNo := Lib.hid hre
    clear h6 hre
    go_wp2_with (first
    | ((with_reducible show wpList _ _ _ (⟨_, .build 24 _, _, _, _, _⟩ :: _) _ _); refine wpList_buildL rfl 24 [] rfl (some 47) rfl [] rfl ZC.toArray hbz ?_)
    | (with_reducible show wpList _ _ _ (⟨_, .store 24 _ _, _, _, _, _⟩ :: _) _ _
       refine wpList_store_at rfl 24 (.tmp 2) (.tmp 47) rfl w.heap.size 0 ZC _ _ rfl rfl HR5.out (by rw [HBL.out]; decide) (by rw [bt_size, HBL.out]) HB1.out ?_
       intro w9 hr9 hg9
       rw [splice_all rfl] at hr9
       have HR9 := Lib.hid hr9
       have HB9 := Lib.hid (below_own Hb5.out hg9 (fun k hk => by cases hk; exact Nat.le_refl _))
       clear hr9 hg9))
    exact bodyPost_ret (results_rowL rfl _ _ w.heap.size 24 _ _ rfl HR9.out Tryd.underlying24 rfl (by rw [bt_size, List.size_toArray, HBL.out]) _ rfl) rfl ⟨by unfold RdEnds; rw [HNo.out]; simp only [HZ.out]; rfl, HB9.out⟩
  have dq6 : (oc != 0) = false := by simp [h6]
  rw [if_pos h6] at hre
  have HRe2 := Lib.hid hre
  clear h6 hre
  go_wp2_with fail
  refine (HRb.out _).mono ?_
  rintro e w6 ⟨hbt, hb6⟩
  have HR6 := Lib.hid (HR5.out.below hb6)
  have Hb6 := Lib.hid (two_below' Hb5.out hb6)
  clear hb6
  unfold BtEnds at hbt
  generalize Bt.read held = R at *
  match R, hbt, HRe2 with
  | none, hbt, HRe2 =>
    subst hbt
    have HNo := HRe2
    rw [HZ.out]
    go_wp2_with (first
    | (with_reducible show wpList _ _ _ (⟨_, .store 24 _ _, _, _, _, _⟩ :: _) _ _
       refine wpList_store_at rfl 24 (.tmp 2) (.tmp 50) rfl w.heap.size 0 ZC _ _ rfl rfl HR6.out (by rw [HBL.out]; decide) (by rw [bt_size, HBL.out]) HB1.out ?_
       intro w9 hr9 hg9
       rw [splice_all rfl] at hr9
       have HR9 := Lib.hid hr9
       have HB9 := Lib.hid (below_own Hb6.out hg9 (fun k hk => by cases hk; exact Nat.le_refl _))
       clear hr9 hg9))
    exact bodyPost_ret (results_rowL rfl _ _ w.heap.size 24 _ _ rfl HR9.out Tryd.underlying24 rfl (by rw [bt_size, List.size_toArray, HBL.out]) _ rfl) rfl ⟨by unfold RdEnds; rw [HNo.out]; simp only [HZ.out]; rfl, HB9.out⟩
  | some u, ⟨A6, c6, he, hpf, hcp⟩, HRe2 =>
    subst he
    have HPf := Lib.hid hpf
    have HUL : Hid ((u.cells A6 c6).length = 4) := Lib.hid rfl
    have HU1 : Hid (∀ v ∈ u.cells A6 c6, v.oneCell' = true) := Lib.hid (by intro v hv; simp [Bt.cells] at hv; rcases hv with rfl | rfl | rfl | rfl <;> rfl)
    obtain ⟨C6, hC6⟩ : ∃ C6, C6 = u.cells A6 c6 := ⟨_, rfl⟩
    rw [← hC6] at HUL HU1 ⊢
    have HC6 := Lib.hid hC6
    clear hC6 hpf
    go_wp2_with (with_reducible show wpList _ _ _ (⟨_, .store 24 _ _, _, _, _, _⟩ :: _) _ _
                 refine wpList_store_at rfl 24 (.tmp 2) (.tmp 50) rfl w.heap.size 0 C6 _ _ rfl rfl HR6.out (by rw [HBL.out, HUL.out]; decide) (by rw [bt_size, HUL.out]) HU1.out ?_
                 intro w9 hr9 hg9
                 rw [splice_all (HUL.out.trans HBL.out.symm)] at hr9
                 have HR9 := Lib.hid hr9
                 have HG9 := Lib.hid hg9
                 have HB9 := Lib.hid (below_own Hb6.out hg9 (fun k hk => by cases hk; exact Nat.le_refl _))
                 clear hr9 hg9)
    refine bodyPost_ret (results_rowL rfl _ _ w.heap.size 24 _ _ rfl HR9.out Tryd.underlying24 rfl (by rw [bt_size, List.size_toArray, HUL.out]) _ rfl) rfl ⟨?_, HB9.out⟩
    unfold RdEnds
    rw [HRe2.out]
    refine ⟨A6, c6, by rw [HC6.out]; rfl, fun hne => ?_, hcp⟩
    have hw5 := Hb5.out.size
    have hR5 := HR5.out.lt
    obtain ⟨b, off, e1, e2, e3, e4⟩ := (HPf.out.grown HG9.out (fun k hk => by cases hk; exact hR5)) hne
    exact ⟨b, off, e1, by omega, e3, e4⟩
end Go.Proofs.YtinciddchpccnaaDoor
/- ---- InbMath ---- -/
/- The inbox, as plain data: blocks, messages, what a call reaches. -/
namespace Go.Proofs.YtinciddchpccnaaDoor
open Go.RowKit
set_option linter.unusedVariables false
set_option linter.unusedSimpArgs false

/-- a block of the first chain -/
structure Bk where
  number : Int
  salt : Int
  parent : List UInt8
  items : List It
end Go.Proofs.YtinciddchpccnaaDoor

/- ---- InbMem ---- -/
/- Items, blocks and entries in memory. -/
namespace Go.Proofs.YtinciddchpccnaaDoor
open Go.RowKit
set_option linter.unusedVariables false
set_option linter.unusedSimpArgs false

theorem range_below {w w' : World} {B b o : Nat} {cs : List Value} (h : w.rangeAt b o cs) (hb : Below B w w') (hlt : b < B) : w'.rangeAt b o cs :=
  fun j v hv => (hb.cell (p := ⟨b, o + j, none⟩) hlt).trans (h j v hv)
theorem range_grown {w w' : World} {b o : Nat} {cs : List Value} {r : Option Nat} (h : w.rangeAt b o cs) (hg : w.grownBy w' r) (hne : some b ≠ r) : w'.rangeAt b o cs :=
  fun j v hv => hg.cell (h j v hv) hne
theorem range_cell {w : World} {b o : Nat} {cs : List Value} (h : w.rangeAt b o cs) (j : Nat) (v : Value) (hv : cs[j]? = some v) : w.cell? ⟨b, o + j, none⟩ = some v := h j v hv
/-- things of one size one behind the other -/
def ListAt {α : Type} (sz : Nat) (R : World → Nat → Nat → α → Prop) (w : World) (B : Nat) (A : Option Addr) (l : List α) : Prop :=
  l ≠ [] → ∃ b off, A = some ⟨b, off, none⟩ ∧ b < B ∧ ∀ i (h : i < l.length), R w b (off + i * sz) l[i]
theorem ListAt.map {α : Type} {sz : Nat} {R R' : World → Nat → Nat → α → Prop} {w w' : World} {B B' : Nat} {A : Option Addr} {l : List α} (h : ListAt sz R w B A l) (hB : B ≤ B') (hR : ∀ b o x, b < B → R w b o x → R' w' b o x) : ListAt sz R' w' B' A l := fun hne => by
  obtain ⟨b, off, h1, h2, h3⟩ := h hne
  exact ⟨b, off, h1, by omega, fun i hi => hR _ _ _ h2 (h3 i hi)⟩
theorem ListAt.take {α : Type} {sz : Nat} {R : World → Nat → Nat → α → Prop} {w : World} {B : Nat} {A : Option Addr} {l : List α} (h : ListAt sz R w B A l) (k : Nat) : ListAt sz R w B A (l.take k) := fun hne => by
  have hl : l ≠ [] := fun e => hne (by rw [e, List.take_nil])
  obtain ⟨b, off, h1, h2, h3⟩ := h hl
  exact ⟨b, off, h1, h2, fun i hi => by
    rw [List.getElem_take]
    exact h3 i (by rw [List.length_take] at hi; omega)⟩
def ItR (w : World) (b o : Nat) (i : It) : Prop := w.rangeAt b o i.cells
/-- a block's cells -/
def Bk.cells (b : Bk) (A : Option Addr) (cap : Nat) : List Value := [.int .i64 b.number, .int .i64 b.salt] ++ ((bRow b.parent).toList ++ [.slice A b.items.length cap])
theorem Bk.cells_len {b : Bk} {A : Option Addr} {cap : Nat} (h : b.parent.length = 32) : (b.cells A cap).length = 35 := by
  unfold Bk.cells
  simp only [List.length_append, Tx.bRow_len _ h, List.length_cons, List.length_nil]
theorem Bk.cells_one {b : Bk} {A : Option Addr} {cap : Nat} (h : b.parent.length = 32) : ∀ v ∈ b.cells A cap, v.oneCell' = true := by
  intro v hv
  unfold Bk.cells at hv
  rcases List.mem_append.1 hv with hv | hv
  · simp at hv
    rcases hv with rfl | rfl <;> rfl
  · rcases List.mem_append.1 hv with hv | hv
    · exact hash_one _ h v hv
    · simp at hv; subst hv; rfl
theorem Bk.cell0 (b : Bk) (A : Option Addr) (cap : Nat) : (b.cells A cap)[0]? = some (.int .i64 b.number) := rfl
theorem Bk.cell34 {b : Bk} {A : Option Addr} {cap : Nat} (h : b.parent.length = 32) : (b.cells A cap)[34]? = some (.slice A b.items.length cap) := by
  have e : b.cells A cap = ([Value.int .i64 b.number, Value.int .i64 b.salt] ++ (bRow b.parent).toList) ++ [.slice A b.items.length cap] := by unfold Bk.cells; rw [List.append_assoc]
  have hl : ([Value.int .i64 b.number, Value.int .i64 b.salt] ++ (bRow b.parent).toList).length = 34 := by rw [List.length_append, Tx.bRow_len _ h]; rfl
  rw [e, List.getElem?_append_right (by omega), hl]
  rfl
def BkItems (w : World) (B : Nat) (A : Option Addr) (l : List It) : Prop := ListAt 4 ItR w B A l ∧ l.length ≤ 9223372036854775807
def BkR (B : Nat) (w : World) (b o : Nat) (x : Bk) : Prop := ∃ A cap, w.rangeAt b o (x.cells A cap) ∧ BkItems w B A x.items ∧ x.items.length ≤ cap ∧ x.parent.length = 32
abbrev ItemsAt := ListAt 4 ItR
def BksAt (w : World) (B : Nat) (A : Option Addr) (l : List Bk) : Prop := ListAt 35 (BkR B) w B A l
theorem ItemsAt.below {w w' : World} {B : Nat} {A : Option Addr} {l : List It} (h : ListAt 4 ItR w B A l) (hb : Below B w w') : ListAt 4 ItR w' B A l :=
  h.map (Nat.le_refl _) fun b o x hlt hx => range_below hx hb hlt
theorem BkItems.below {w w' : World} {B : Nat} {A : Option Addr} {l : List It} (h : BkItems w B A l) (hb : Below B w w') : BkItems w' B A l := ⟨ItemsAt.below h.1 hb, h.2⟩
theorem BkItems.mono {w : World} {B B' : Nat} {A : Option Addr} {l : List It} (h : BkItems w B A l) (hB : B ≤ B') : BkItems w B' A l := ⟨h.1.map hB fun b o x _ hx => hx, h.2⟩
theorem BksAt.below {w w' : World} {B : Nat} {A : Option Addr} {l : List Bk} (h : BksAt w B A l) (hb : Below B w w') : BksAt w' B A l :=
  ListAt.map h (Nat.le_refl _) fun b o x hlt ⟨A', c, h1, h2, h3, h4⟩ => ⟨A', c, range_below h1 hb hlt, h2.below hb, h3, h4⟩
theorem BksAt.mono {w : World} {B B' : Nat} {A : Option Addr} {l : List Bk} (h : BksAt w B A l) (hB : B ≤ B') : BksAt w B' A l :=
  ListAt.map h hB fun b o x hlt ⟨A', c, h1, h2, h3, h4⟩ => ⟨A', c, h1, h2.mono hB, h3, h4⟩
theorem item_size : (Tryd.prog.info? 59).map (·.size) = some 4 := by kernel_rfl
theorem block_size : (Tryd.prog.info? 62).map (·.size) = some 35 := by kernel_rfl
end Go.Proofs.YtinciddchpccnaaDoor

/- ---- InbMsg ---- -/
/- inbox.Messages: what it returns. -/
namespace Go.Proofs.YtinciddchpccnaaDoor
open Go.RowKit
set_option linter.unusedVariables false
set_option linter.unusedSimpArgs false

def Bk.zero : Bk := ⟨0, 0, Tx.zero, []⟩
def Bk.zeroC : List Value := Bk.zero.cells none 0
theorem Bk.zeroC_len : Bk.zeroC.length = 35 := Bk.cells_len rfl
theorem block_zv (W : World) : (zeroValue 62).run Tryd.prog W = .ok (.agg Bk.zeroC.toArray) W := by kernel_rfl
theorem item_zv (W : World) : (zeroValue 59).run Tryd.prog W = .ok (.agg It.zero.cells.toArray) W := by kernel_rfl
end Go.Proofs.YtinciddchpccnaaDoor

/- ---- InbBv ---- -/
/- Blocks with where their items lie; append of blocks. -/
namespace Go.Proofs.YtinciddchpccnaaDoor
open Go.RowKit
set_option linter.unusedVariables false
set_option linter.unusedSimpArgs false

def Bk.Num (b : Bk) : Prop := -9223372036854775808 ≤ b.number ∧ b.number ≤ 9223372036854775807
structure Bv where
  b : Bk
  A : Option Addr
  cap : Nat
namespace Bv
def cells (x : Bv) : List Value := x.b.cells x.A x.cap
def Fits (x : Bv) : Prop := x.b.parent.length = 32 ∧ x.b.Num
end Bv
def BvR (B : Nat) (w : World) (g o : Nat) (x : Bv) : Prop := w.rangeAt g o x.cells ∧ BkItems w B x.A x.b.items ∧ x.b.items.length ≤ x.cap
def BvsAt (w : World) (B : Nat) (A : Option Addr) (l : List Bv) : Prop := ListAt 35 (BvR B) w B A l
def bks (l : List Bv) : List Bk := l.map Bv.b
theorem BvsAt.bks {w : World} {B : Nat} {A : Option Addr} {l : List Bv} (h : BvsAt w B A l) (hf : ∀ x ∈ l, x.Fits) : BksAt w B A (bks l) := fun hne => by
  obtain ⟨g, off, h1, h2, h3⟩ := h (by intro e; rw [e] at hne; exact hne rfl)
  refine ⟨g, off, h1, h2, fun i hi => ?_⟩
  have hi' : i < l.length := by simpa [Go.Proofs.YtinciddchpccnaaDoor.bks] using hi
  obtain ⟨q1, q2, q3⟩ := h3 i hi'
  have e : (Go.Proofs.YtinciddchpccnaaDoor.bks l)[i] = l[i].b := by simp [Go.Proofs.YtinciddchpccnaaDoor.bks]
  rw [e]
  exact ⟨l[i].A, l[i].cap, q1, q2, q3, (hf l[i] (List.getElem_mem _)).1⟩
/-- a slice of blocks that came in -/
def BvIn (w : World) (B : Nat) (A : Option Addr) (c : Nat) (l : List Bv) : Prop := BvsAt w B A l ∧ (A = none → l = [] ∧ c = 0) ∧ l.length ≤ c
theorem BvIn.take {w : World} {B : Nat} {A : Option Addr} {c : Nat} {l : List Bv} (h : BvIn w B A c l) (f : ∀ x ∈ l, x.Fits) (k : Nat) : BvIn w B A c (l.take k) :=
  ⟨ListAt.take h.1 k, fun e => by obtain ⟨h1, h2⟩ := h.2.1 e; exact ⟨by rw [h1, List.take_nil], h2⟩, by have := h.2.2; rw [List.length_take]; omega⟩
end Go.Proofs.YtinciddchpccnaaDoor
