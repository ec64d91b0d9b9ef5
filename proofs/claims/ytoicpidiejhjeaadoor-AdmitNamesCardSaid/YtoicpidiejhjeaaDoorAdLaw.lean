/- The law AdmitNames. -/
import Derived.Test.YtoicpidiejhjeaaDoorAdDo
import Derived.Test.YtoicpidiejhjeaaDoorAdAwk
namespace Go.Proofs.YtoicpidiejhjeaaDoor
open Go.RowKit Go.Maps
set_option linter.unusedVariables false
set_option linter.unusedSimpArgs false
set_option maxRecDepth 100000

theorem Ad.askE_cases (g : Ad.G) (s : List UInt8) : Ad.askE g s = 0 ∨ Ad.askE g s = 6 ∨ Ad.askE g s = 21 ∨ Ad.askE g s = 24 ∨ Ad.askE g s = 22 ∨ Ad.askE g s = 23 := by
  unfold Ad.askE
  cases Tx.read s with
  | none => simp
  | some t =>
    simp only
    by_cases h1 : t.signedE ≠ 0
    · rw [if_pos h1]; exact .inr (.inr (.inl rfl))
    rw [if_neg h1]
    by_cases h2 : t.fee < g.fl
    · rw [if_pos h2]; exact .inr (.inr (.inr (.inl rfl)))
    rw [if_neg h2]
    by_cases h3 : t.nonce < Ad.nxt g t.frm
    · rw [if_pos h3]; exact .inr (.inr (.inr (.inr (.inl rfl))))
    rw [if_neg h3]
    by_cases h4 : t.nameE.1 ∈ g.nm
    · rw [if_pos h4]; exact .inr (.inr (.inr (.inr (.inr rfl))))
    · rw [if_neg h4]; exact .inl rfl
theorem Ad.askT_none {g : Ad.G} {s : List UInt8} (h : Ad.askE g s ≠ 0) : Ad.askT g s = Tx.none := by
  unfold Ad.askT
  cases Tx.read s with
  | none => rfl
  | some t => simp only; rw [if_neg h]
theorem Ad.enter_none {g : Ad.G} {s : List UInt8} (h : Ad.askE g s ≠ 0) : Ad.enter g s = g := by unfold Ad.enter; rw [if_neg h]
theorem Ad.enter_again {g : Ad.G} {s : List UInt8} (h : Ad.askE g s = 0) : Ad.askE (Ad.enter g s) s = 23 ∧ Ad.askT (Ad.enter g s) s = Tx.none ∧ Ad.enter (Ad.enter g s) s = Ad.enter g s ∧ (Ad.enter g s).nm.length = g.nm.length + 1 := by
  have he : Ad.enter g s = { g with nm := g.nm ++ [Ad.askN g s] } := by unfold Ad.enter; rw [if_pos h]
  have h23 : Ad.askE (Ad.enter g s) s = 23 := by
    rw [he]
    have hn : ∀ t, Tx.read s = some t → Ad.askN g s = t.nameE.1 := fun t ht => by unfold Ad.askN; rw [ht]; simp only; rw [if_pos h]
    unfold Ad.askE at h ⊢
    cases hr : Tx.read s with
    | none => rw [hr] at h; cases h
    | some t =>
      rw [hr] at h
      have hn := hn t hr
      simp only at h ⊢
      by_cases h1 : t.signedE ≠ 0
      · rw [if_pos h1] at h; cases h
      rw [if_neg h1] at h ⊢
      by_cases h2 : t.fee < g.fl
      · rw [if_pos h2] at h; cases h
      rw [if_neg h2] at h ⊢
      have e : Ad.nxt { g with nm := g.nm ++ [Ad.askN g s] } t.frm = Ad.nxt g t.frm := rfl
      rw [e]
      by_cases h3 : t.nonce < Ad.nxt g t.frm
      · rw [if_pos h3] at h; cases h
      rw [if_neg h3, if_pos (by rw [hn]; simp)]
  refine ⟨h23, Ad.askT_none (by rw [h23]; decide), Ad.enter_none (by rw [h23]; decide), ?_⟩
  rw [he]; simp
theorem GateAt.nm_le {w : World} {B M n : Nat} {g : Ad.G} (h : GateAt w B M g n) : g.nm.length ≤ n := by
  obtain ⟨D, N, hN, hD, hR⟩ := h.map
  rw [← hR.size]
  exact Nat.le_trans hD.size_le hN
theorem RGAt.baseTo {w : World} {base base' B K n : Nat} {v : Value} {fl : Int} {N : List Int} {L : List Tx} (h : RGAt w base B K v fl N L n) (hb : base' ≤ base) : RGAt w base' B K v fl N L n :=
  ⟨h.row, h.nx, h.own.mono hb, h.len, h.txs, by have := h.lo; omega⟩
set_option maxHeartbeats 8000000 in
theorem admitNames_any (hRS : RefSum) (l : List Act17) (A : Option Addr) (c : Nat) (s : ByteArray) (hs : s.size ≤ 140737488351232) (w : World) (hin : Act17sAt w w.heap.size A l) (hT : Tab w) :
    Calls Tryd.prog 3 #[.slice A l.length c, .string s] w fun e w' => e = .returned (.bool true) ∧ Below w.heap.size w w' := by
  have AW := Lib.hid (fun W (hW : Below w.heap.size w W) => awake17_any hRS W (hT.below hW hT.pos))
  have N1 := Lib.hid (gateNew_ok 2 w (by decide) (by decide))
  have N2 := Lib.hid (fun W => rgNew_ok 2 W (by decide) (by decide))
  have HIn0 := Lib.hid hin
  have HTab := Lib.hid hT
  have HS : Hid (s.size ≤ 9223372036854775807) := Lib.hid (by omega)
  have hzv : ∀ W : World, (zeroValue 35).run Tryd.prog W = .ok (.agg Tx.none.cells.toArray) W := tx_zv
  have HBt : Hid (Tryd.prog.built 35 [] = some Tx.none.cells.toArray) := Lib.hid tx_built0
  have HZ72 := Lib.hid (Tx.cells_length Tx.none_ok)
  have HZ1 := Lib.hid (Tx.cells_one Tx.none_ok)
  obtain ⟨ZT, hZT⟩ : ∃ ZT, Tx.none.cells = ZT := ⟨_, rfl⟩
  rw [hZT] at HBt HZ72 HZ1 hzv
  have HZT := Lib.hid hZT
  obtain ⟨n, hn⟩ : ∃ n, n = l.length := ⟨_, rfl⟩
  rw [← hn]
  have HN := Lib.hid hn
  have hn1 : n ≤ 9223372036854775807 := by rw [hn]; exact hin.2.2.2
  clear hin hT hn hs hZT
  go_enter Tryd.func3, Tryd.ntmps3
  go_wp2_with fail
  refine N1.out.mono ?_
  rintro _ w1 ⟨rfl, hg1⟩
  have HG1 := Lib.hid hg1
  clear hg1 N1
  go_wp2_with fail
  refine (N2.out _).mono ?_
  rintro _ w2 ⟨rfl, hr2, hb2⟩
  have h2 : AllE w w2 (w.heap.size + 1) w.heap.size (w1.heap.size + 1) w1.heap.size 2 0 0 := ⟨_, _, _, _, HG1.out.below hb2, hr2.baseTo HG1.out.low.size⟩
  have HT2 := Lib.hid h2
  clear hr2 hb2 h2 N2 HG1
  obtain ⟨B, hB⟩ : ∃ B, w.heap.size + 1 = B := ⟨_, rfl⟩
  obtain ⟨M, hM⟩ : ∃ M, M = w.heap.size := ⟨_, rfl⟩
  have HT2' : Hid (AllE w w2 B M (w1.heap.size + 1) w1.heap.size 2 0 0) := by rw [hM, ← hB]; exact HT2
  rw [hB]
  clear HT2 hM hB
  generalize w1.heap.size + 1 = X at *
  generalize w1.heap.size = K at *
  have HL2 : Hid (Below w.heap.size w w2) := by
    obtain ⟨g, v, N, L, h⟩ := HT2'.out
    exact Lib.hid h.own.low
  go_wp2_with fail
  refine (AW.out _ HL2.out).mono ?_
  rintro _ w3 ⟨rfl, hb3⟩
  have HT3 := Lib.hid (HT2'.out.below hb3)
  clear hb3 HT2' AW HL2
  go_wp2_with fail
  go_loopw [9] (fun i wr => ∃ (k : Nat), k ≤ n ∧ k ≤ 60 ∧ i = .int .i64 k ∧ AllE w wr B M X K 2 (2 * k) k) (fun i _ => n - (intOf i).toNat)
  case atStart => exact ⟨0, Nat.zero_le _, by decide, rfl, HT3.out⟩
  case round =>
    obtain ⟨k, hk, hk60, rfl, g, v, N, L, ht⟩ := hrel
    have HK2 := Lib.hid ht
    have HL2 := Lib.hid ht.own.low
    clear ht HT3
    by_cases hkn : k < n ∧ k < 60
    · have hki : (k : Int) < (n : Int) := by omega
      have hk5 : (k : Int) < 60 := by omega
      have hka : k < l.length := by rw [← HN.out]; exact hkn.1
      obtain ⟨ga, off, rfl, hga, hcl⟩ := HIn0.out.1 (by intro e; rw [e] at hka; simp at hka)
      have hxr := hcl k hka
      have hxi := HIn0.out.2.2.1 _ (List.getElem_mem hka)
      generalize l[k] = x at hxr hxi
      have HXr : Hid (wr.rangeAt ga (off + k * 74) x.cells) := Lib.hid (fun j v hv => (HL2.out.cell (p := ⟨ga, off + k * 74 + j, none⟩) hga).trans (hxr j v hv))
      have hk890 : k ≤ 890 := by omega
      have HDo := Lib.hid (do17_any hRS x hxi HK2.out HTab.out (by omega) hk890)
      have HA74 := Lib.hid (Act17.cells_len hxi)
      generalize x.cells = C at *
      clear hcl hga hxr hxi hka hk890 hzv
      go_wp2_with ((with_reducible show wpList _ _ _ (⟨_, .load 37 (.tmp 57), _, _, _, _⟩ :: _) _ _); refine wpList_load_tx rfl 37 (.tmp 57) rfl ga (off + k * 74) rfl C _ HXr.out Tryd.underlying37 rfl (by rw [act17_info, HA74.out]) ?_)
      clear hk5
      refine HDo.out.mono ?_
      rintro _ w3 ⟨⟨bb, rfl⟩, ht3⟩
      have HT3 := Lib.hid ht3
      clear ht3
      go_wp2_with fail
      exact ⟨⟨k + 1, by omega, by omega, by go_num, HT3.out.mono (by omega) (Nat.le_refl _)⟩, by simp [intOf]; omega⟩
    · obtain ⟨nn, hnn⟩ : ∃ nn, 2 * k = nn := ⟨_, rfl⟩
      rw [hnn] at HK2
      have hnn9 : nn ≤ 900 := by omega
      have HIn : Hid (∀ W, AllG w W B M X K 2 g nn v N L k → Calls Tryd.prog 10 #[.pointer (some ⟨B, 0, none⟩)] W fun e w' => e = .returned (.int .i64 g.nm.length) ∧ W = w') := Lib.hid (fun W hW => in_any hW.own.own)
      have HIn1 : Hid (∀ W, AllG w W B M X K 2 g (nn + 1) v N L k → Calls Tryd.prog 10 #[.pointer (some ⟨B, 0, none⟩)] W fun e w' => e = .returned (.int .i64 g.nm.length) ∧ W = w') := Lib.hid (fun W hW => in_any hW.own.own)
      have HEn : Hid (∀ W, AllG w W B M X K 2 g nn v N L k → Calls Tryd.prog 12 #[.pointer (some ⟨B, 0, none⟩), .string s] W fun e w' => e = .returned (.tuple #[.agg (Ad.askT g s.data.toList).cells.toArray, .int .i64 (Ad.askE g s.data.toList)]) ∧ AllG w w' B M X K 2 (Ad.enter g s.data.toList) (nn + 1) v N L k ∧ KeepsG W w') := Lib.hid (fun W hW => hW.enterS HTab.out s HS.out (by omega))
      have HAs : Hid (∀ W, AllG w W B M X K 2 g nn v N L k → Calls Tryd.prog 11 #[.pointer (some ⟨B, 0, none⟩), .string s] W fun e w' => e = .returned (.tuple #[.agg (Ad.askT g s.data.toList).cells.toArray, .int .i64 (Ad.askE g s.data.toList)]) ∧ AllG w w' B M X K 2 g nn v N L k ∧ Below W.heap.size W w') := Lib.hid (fun W hW => hW.askS HTab.out s HS.out)
      have hEc := Ad.askE_cases g s.data.toList
      have hA0 := @Ad.enter_again g s.data.toList
      have hAN : Ad.askE g s.data.toList ≠ 0 → Ad.askT g s.data.toList = Tx.none ∧ Ad.enter g s.data.toList = g := fun h => ⟨Ad.askT_none h, Ad.enter_none h⟩
      have hTk := Ad.askT_ok g s.data.toList
      generalize Ad.enter g s.data.toList = G at *
      obtain ⟨E, hEe⟩ : ∃ E, Ad.askE g s.data.toList = E := ⟨_, rfl⟩
      rw [hEe] at HEn HAs hEc hA0 hAN
      obtain ⟨T, hTe⟩ : ∃ T, Ad.askT g s.data.toList = T := ⟨_, rfl⟩
      rw [hTe] at HEn HAs hAN hTk
      have HT72 := Lib.hid (Tx.cells_length hTk)
      have HT1 := Lib.hid (Tx.cells_one hTk)
      have heq : ∀ W : World, (Op.equalIn 10000 35 (.agg T.cells.toArray) (.agg T.cells.toArray)).run Tryd.prog W = .ok true W := fun W => tx_same W hTk
      have hAN : E ≠ 0 → T.cells = ZT ∧ G = g := fun h => ⟨by rw [(hAN h).1]; exact HZT.out, (hAN h).2⟩
      clear hEe hTe hTk hnn
      generalize T.cells = CT at *
      obtain ⟨gl, hgl⟩ : ∃ gl, g.nm.length = gl := ⟨_, rfl⟩
      rw [hgl] at HIn HIn1 hA0
      have hgl1 : gl ≤ 900 := by rw [← hgl]; have := HK2.out.own.own.nm_le; omega
      clear hgl
      have key : ∀ (Q : Prop), ((¬ k < n → Q) ∧ (k < n → ¬ k < 60 → Q)) → Q := fun Q h => by
        by_cases q : k < n
        · exact h.2 q (fun q2 => hkn ⟨q, q2⟩)
        · exact h.1 q
      clear hkn
      refine key _ ⟨fun q => ?_, fun q q2 => ?_⟩
      · have hki : (n : Int) ≤ (k : Int) := by omega
        clear q key
        go_wp2_with fail
        refine (HIn.out _ HK2.out).mono ?_
        rintro _ wx ⟨rfl, rfl⟩
        go_wp2_with fail
        refine (HAs.out _ HK2.out).mono ?_
        rintro _ w3 ⟨rfl, hT3, hb3⟩
        have HK3 := Lib.hid hT3
        clear hT3 hb3
        go_wp2_with (
           with_reducible show wpList _ _ _ (⟨_, .store 35 (.tmp 11) _, _, _, _, _⟩ :: _) _ _
           refine wpList_store_at rfl 35 (.tmp 11) (.tmp 66) rfl w3.heap.size 0 CT ZT _ rfl rfl (Row.new w3 35 ZT) (by have := HZ72.out; have := HT72.out; omega) (by rw [tx_info, HT72.out]) HT1.out ?_
           intro w4 hr hg
           rw [splice_all (HT72.out.trans HZ72.out.symm)] at hr
           have hbx := below_own ((Below.refl w3.heap.size w3).alloc (Nat.le_refl _) (.cells ZT.toArray 35)) hg (fun k hk => by cases hk; exact Nat.le_refl _)
           have HK4 := Lib.hid (HK3.out.below hbx)
           have HQ4 := Lib.hid hr
           clear hbx
           clear hr hg)
        refine (HAs.out _ HK4.out).mono ?_
        rintro _ w5 ⟨rfl, hT5, hb5⟩
        have HK5 := Lib.hid hT5
        have HQ5 := Lib.hid (HQ4.out.below hb5)
        clear hT5 hb5
        go_wp2_with (first
          | (
             with_reducible show wpList _ _ _ (⟨_, .store 35 (.tmp 13) _, _, _, _, _⟩ :: _) _ _
             refine wpList_store_at rfl 35 (.tmp 13) (.tmp 72) rfl w5.heap.size 0 CT ZT _ rfl rfl (Row.new w5 35 ZT) (by have := HZ72.out; have := HT72.out; omega) (by rw [tx_info, HT72.out]) HT1.out ?_
             intro w6 hr hg
             rw [splice_all (HT72.out.trans HZ72.out.symm)] at hr
             have hbx := below_own ((Below.refl w5.heap.size w5).alloc (Nat.le_refl _) (.cells ZT.toArray 35)) hg (fun k hk => by cases hk; exact Nat.le_refl _)
             have HK6 := Lib.hid (HK5.out.below hbx)
             have HQ6 := Lib.hid (HQ5.out.below hbx)
             have HP6 := Lib.hid hr
             clear hbx
             clear hr hg)
          | ((with_reducible show wpList _ _ _ (⟨_, .load 35 (.tmp 11), _, _, _, _⟩ :: _) _ _); refine wpList_load_tx rfl 35 (.tmp 11) rfl w3.heap.size 0 rfl CT _ (row_range (HQ6.out)) Tryd.underlying35 rfl (by rw [tx_info, HT72.out]) ?_)
          | ((with_reducible show wpList _ _ _ (⟨_, .load 35 (.tmp 13), _, _, _, _⟩ :: _) _ _); refine wpList_load_tx rfl 35 (.tmp 13) rfl w5.heap.size 0 rfl CT _ (row_range (HP6.out)) Tryd.underlying35 rfl (by rw [tx_info, HT72.out]) ?_))
        refine (HIn.out _ HK6.out).mono ?_
        rintro _ wx ⟨rfl, rfl⟩
        clear HAs HQ5 HP6
        rcases hEc with hE | hE | hE | hE | hE | hE
        · subst hE
          obtain ⟨e1, e2, e3, e4⟩ := hA0 rfl
          have HEn2 : Hid (∀ W, AllG w W B M X K 2 G (nn + 1) v N L k → Calls Tryd.prog 12 #[.pointer (some ⟨B, 0, none⟩), .string s] W fun e w' => e = .returned (.tuple #[.agg ZT.toArray, .int .i64 23]) ∧ AllG w w' B M X K 2 G (nn + 1 + 1) v N L k ∧ KeepsG W w') := by rw [← e1, ← HZT.out, ← e2]; exact Lib.hid (fun W hW => by have := hW.enterS HTab.out s HS.out (by omega); rw [e3] at this; exact this)
          have HIn2 : Hid (∀ W, AllG w W B M X K 2 G (nn + 1 + 1) v N L k → Calls Tryd.prog 10 #[.pointer (some ⟨B, 0, none⟩)] W fun e w' => e = .returned (.int .i64 ((gl : Nat) + 1)) ∧ W = w') := Lib.hid (fun W hW => by have := in_any hW.own.own; rw [e4] at this; exact this)
          clear e1 e2 e3 e4 hA0 hAN
          go_wp2_with fail
          refine (HEn.out _ HK6.out).mono ?_
          rintro _ w7 ⟨rfl, hT7, hk7⟩
          have HK7 := Lib.hid hT7
          clear hT7 hk7
          go_wp2_with (first
            | (
               with_reducible show wpList _ _ _ (⟨_, .store 35 (.tmp 15) _, _, _, _, _⟩ :: _) _ _
               refine wpList_store_at rfl 35 (.tmp 15) (.tmp 95) rfl w7.heap.size 0 CT ZT _ rfl rfl (Row.new w7 35 ZT) (by have := HZ72.out; have := HT72.out; omega) (by rw [tx_info, HT72.out]) HT1.out ?_
               intro w8 hr hg
               rw [splice_all (HT72.out.trans HZ72.out.symm)] at hr
               have hbx := below_own ((Below.refl w7.heap.size w7).alloc (Nat.le_refl _) (.cells ZT.toArray 35)) hg (fun k hk => by cases hk; exact Nat.le_refl _)
               have HK8 := Lib.hid (HK7.out.below hbx)
               clear hbx
               clear hr hg))
          refine (HEn2.out _ HK8.out).mono ?_
          rintro _ w9 ⟨rfl, hT9, hk9⟩
          have HK9 := Lib.hid hT9
          clear hT9 hk9
          go_wp2_with (first
            | (
               with_reducible show wpList _ _ _ (⟨_, .store 35 (.tmp 17) _, _, _, _, _⟩ :: _) _ _
               refine wpList_store_at rfl 35 (.tmp 17) (.tmp 101) rfl w9.heap.size 0 ZT ZT _ rfl rfl (Row.new w9 35 ZT) (by have := HZ72.out; have := HZ72.out; omega) (by rw [tx_info, HZ72.out]) HZ1.out ?_
               intro w10 hr hg
               rw [splice_all (HZ72.out.trans HZ72.out.symm)] at hr
               have hbx := below_own ((Below.refl w9.heap.size w9).alloc (Nat.le_refl _) (.cells ZT.toArray 35)) hg (fun k hk => by cases hk; exact Nat.le_refl _)
               have HK10 := Lib.hid (HK9.out.below hbx)
               clear hbx
               clear hr hg))
          refine (HIn2.out _ HK10.out).mono ?_
          rintro _ wx ⟨rfl, rfl⟩
          go_wp2_with fail
          go_ret
          exact ⟨by simp, HK10.out.own.low⟩
        · obtain ⟨e1, e2⟩ := hAN (by rw [hE]; decide)
          subst hE
          subst e1
          subst e2
          clear hA0 hAN
          go_wp2_with fail
          refine (HEn.out _ HK6.out).mono ?_
          rintro _ w7 ⟨rfl, hT7, hk7⟩
          have HK7 := Lib.hid hT7
          have HQ7 := Lib.hid (hk7 _ _ _ (by decide) HQ6.out)
          clear hT7 hk7
          go_wp2_with (first
            | (
               with_reducible show wpList _ _ _ (⟨_, .store 35 (.tmp 19) _, _, _, _, _⟩ :: _) _ _
               refine wpList_store_at rfl 35 (.tmp 19) (.tmp 126) rfl w7.heap.size 0 CT CT _ rfl rfl (Row.new w7 35 CT) (by have := HZ72.out; have := HT72.out; omega) (by rw [tx_info, HT72.out]) HT1.out ?_
               intro w8 hr hg
               rw [splice_all (HT72.out.trans HZ72.out.symm)] at hr
               have hbx := below_own ((Below.refl w7.heap.size w7).alloc (Nat.le_refl _) (.cells CT.toArray 35)) hg (fun k hk => by cases hk; exact Nat.le_refl _)
               have HK8 := Lib.hid (HK7.out.below hbx)
               have HQ8 := Lib.hid (HQ7.out.below hbx)
               clear hbx
               clear hr hg))
          refine (HIn1.out _ HK8.out).mono ?_
          rintro _ wx ⟨rfl, rfl⟩
          go_wp2_with (first
            | ((with_reducible show wpList _ _ _ (⟨_, .load 35 (.tmp 11), _, _, _, _⟩ :: _) _ _); refine wpList_load_tx rfl 35 (.tmp 11) rfl w3.heap.size 0 rfl CT _ (row_range (HQ8.out)) Tryd.underlying35 rfl (by rw [tx_info, HT72.out]) ?_)
            | ((with_reducible show wpList _ _ _ (⟨_, .build 35 _, _, _, _, _⟩ :: _) _ _); refine wpList_buildL rfl 35 [] rfl (some 139) rfl _ rfl _ HBt.out ?_))
          go_ret
          exact ⟨rfl, HK8.out.own.low⟩
        · obtain ⟨e1, e2⟩ := hAN (by rw [hE]; decide)
          subst hE
          subst e1
          subst e2
          clear hA0 hAN
          go_wp2_with fail
          refine (HEn.out _ HK6.out).mono ?_
          rintro _ w7 ⟨rfl, hT7, hk7⟩
          have HK7 := Lib.hid hT7
          have HQ7 := Lib.hid (hk7 _ _ _ (by decide) HQ6.out)
          clear hT7 hk7
          go_wp2_with (first
            | (
               with_reducible show wpList _ _ _ (⟨_, .store 35 (.tmp 19) _, _, _, _, _⟩ :: _) _ _
               refine wpList_store_at rfl 35 (.tmp 19) (.tmp 126) rfl w7.heap.size 0 CT CT _ rfl rfl (Row.new w7 35 CT) (by have := HZ72.out; have := HT72.out; omega) (by rw [tx_info, HT72.out]) HT1.out ?_
               intro w8 hr hg
               rw [splice_all (HT72.out.trans HZ72.out.symm)] at hr
               have hbx := below_own ((Below.refl w7.heap.size w7).alloc (Nat.le_refl _) (.cells CT.toArray 35)) hg (fun k hk => by cases hk; exact Nat.le_refl _)
               have HK8 := Lib.hid (HK7.out.below hbx)
               have HQ8 := Lib.hid (HQ7.out.below hbx)
               clear hbx
               clear hr hg))
          refine (HIn1.out _ HK8.out).mono ?_
          rintro _ wx ⟨rfl, rfl⟩
          go_wp2_with (first
            | ((with_reducible show wpList _ _ _ (⟨_, .load 35 (.tmp 11), _, _, _, _⟩ :: _) _ _); refine wpList_load_tx rfl 35 (.tmp 11) rfl w3.heap.size 0 rfl CT _ (row_range (HQ8.out)) Tryd.underlying35 rfl (by rw [tx_info, HT72.out]) ?_)
            | ((with_reducible show wpList _ _ _ (⟨_, .build 35 _, _, _, _, _⟩ :: _) _ _); refine wpList_buildL rfl 35 [] rfl (some 139) rfl _ rfl _ HBt.out ?_))
          go_ret
          exact ⟨rfl, HK8.out.own.low⟩
        · obtain ⟨e1, e2⟩ := hAN (by rw [hE]; decide)
          subst hE
          subst e1
          subst e2
          clear hA0 hAN
          go_wp2_with fail
          refine (HEn.out _ HK6.out).mono ?_
          rintro _ w7 ⟨rfl, hT7, hk7⟩
          have HK7 := Lib.hid hT7
          have HQ7 := Lib.hid (hk7 _ _ _ (by decide) HQ6.out)
          clear hT7 hk7
          go_wp2_with (first
            | (
               with_reducible show wpList _ _ _ (⟨_, .store 35 (.tmp 19) _, _, _, _, _⟩ :: _) _ _
               refine wpList_store_at rfl 35 (.tmp 19) (.tmp 126) rfl w7.heap.size 0 CT CT _ rfl rfl (Row.new w7 35 CT) (by have := HZ72.out; have := HT72.out; omega) (by rw [tx_info, HT72.out]) HT1.out ?_
               intro w8 hr hg
               rw [splice_all (HT72.out.trans HZ72.out.symm)] at hr
               have hbx := below_own ((Below.refl w7.heap.size w7).alloc (Nat.le_refl _) (.cells CT.toArray 35)) hg (fun k hk => by cases hk; exact Nat.le_refl _)
               have HK8 := Lib.hid (HK7.out.below hbx)
               have HQ8 := Lib.hid (HQ7.out.below hbx)
               clear hbx
               clear hr hg))
          refine (HIn1.out _ HK8.out).mono ?_
          rintro _ wx ⟨rfl, rfl⟩
          go_wp2_with (first
            | ((with_reducible show wpList _ _ _ (⟨_, .load 35 (.tmp 11), _, _, _, _⟩ :: _) _ _); refine wpList_load_tx rfl 35 (.tmp 11) rfl w3.heap.size 0 rfl CT _ (row_range (HQ8.out)) Tryd.underlying35 rfl (by rw [tx_info, HT72.out]) ?_)
            | ((with_reducible show wpList _ _ _ (⟨_, .build 35 _, _, _, _, _⟩ :: _) _ _); refine wpList_buildL rfl 35 [] rfl (some 139) rfl _ rfl _ HBt.out ?_))
          go_ret
          exact ⟨rfl, HK8.out.own.low⟩
        · obtain ⟨e1, e2⟩ := hAN (by rw [hE]; decide)
          subst hE
          subst e1
          subst e2
          clear hA0 hAN
          go_wp2_with fail
          refine (HEn.out _ HK6.out).mono ?_
          rintro _ w7 ⟨rfl, hT7, hk7⟩
          have HK7 := Lib.hid hT7
          have HQ7 := Lib.hid (hk7 _ _ _ (by decide) HQ6.out)
          clear hT7 hk7
          go_wp2_with (first
            | (
               with_reducible show wpList _ _ _ (⟨_, .store 35 (.tmp 19) _, _, _, _, _⟩ :: _) _ _
               refine wpList_store_at rfl 35 (.tmp 19) (.tmp 126) rfl w7.heap.size 0 CT CT _ rfl rfl (Row.new w7 35 CT) (by have := HZ72.out; have := HT72.out; omega) (by rw [tx_info, HT72.out]) HT1.out ?_
               intro w8 hr hg
               rw [splice_all (HT72.out.trans HZ72.out.symm)] at hr
               have hbx := below_own ((Below.refl w7.heap.size w7).alloc (Nat.le_refl _) (.cells CT.toArray 35)) hg (fun k hk => by cases hk; exact Nat.le_refl _)
               have HK8 := Lib.hid (HK7.out.below hbx)
               have HQ8 := Lib.hid (HQ7.out.below hbx)
               clear hbx
               clear hr hg))
          refine (HIn1.out _ HK8.out).mono ?_
          rintro _ wx ⟨rfl, rfl⟩
          go_wp2_with (first
            | ((with_reducible show wpList _ _ _ (⟨_, .load 35 (.tmp 11), _, _, _, _⟩ :: _) _ _); refine wpList_load_tx rfl 35 (.tmp 11) rfl w3.heap.size 0 rfl CT _ (row_range (HQ8.out)) Tryd.underlying35 rfl (by rw [tx_info, HT72.out]) ?_)
            | ((with_reducible show wpList _ _ _ (⟨_, .build 35 _, _, _, _, _⟩ :: _) _ _); refine wpList_buildL rfl 35 [] rfl (some 139) rfl _ rfl _ HBt.out ?_))
          go_ret
          exact ⟨rfl, HK8.out.own.low⟩
        · obtain ⟨e1, e2⟩ := hAN (by rw [hE]; decide)
          subst hE
          subst e1
          subst e2
          clear hA0 hAN
          go_wp2_with fail
          refine (HEn.out _ HK6.out).mono ?_
          rintro _ w7 ⟨rfl, hT7, hk7⟩
          have HK7 := Lib.hid hT7
          have HQ7 := Lib.hid (hk7 _ _ _ (by decide) HQ6.out)
          clear hT7 hk7
          go_wp2_with (first
            | (
               with_reducible show wpList _ _ _ (⟨_, .store 35 (.tmp 19) _, _, _, _, _⟩ :: _) _ _
               refine wpList_store_at rfl 35 (.tmp 19) (.tmp 126) rfl w7.heap.size 0 CT CT _ rfl rfl (Row.new w7 35 CT) (by have := HZ72.out; have := HT72.out; omega) (by rw [tx_info, HT72.out]) HT1.out ?_
               intro w8 hr hg
               rw [splice_all (HT72.out.trans HZ72.out.symm)] at hr
               have hbx := below_own ((Below.refl w7.heap.size w7).alloc (Nat.le_refl _) (.cells CT.toArray 35)) hg (fun k hk => by cases hk; exact Nat.le_refl _)
               have HK8 := Lib.hid (HK7.out.below hbx)
               have HQ8 := Lib.hid (HQ7.out.below hbx)
               clear hbx
               clear hr hg))
          refine (HIn1.out _ HK8.out).mono ?_
          rintro _ wx ⟨rfl, rfl⟩
          go_wp2_with (first
            | ((with_reducible show wpList _ _ _ (⟨_, .load 35 (.tmp 11), _, _, _, _⟩ :: _) _ _); refine wpList_load_tx rfl 35 (.tmp 11) rfl w3.heap.size 0 rfl CT _ (row_range (HQ8.out)) Tryd.underlying35 rfl (by rw [tx_info, HT72.out]) ?_)
            | ((with_reducible show wpList _ _ _ (⟨_, .build 35 _, _, _, _, _⟩ :: _) _ _); refine wpList_buildL rfl 35 [] rfl (some 139) rfl _ rfl _ HBt.out ?_))
          go_ret
          exact ⟨rfl, HK8.out.own.low⟩
      · have hki : (k : Int) < (n : Int) := by omega
        have hk5 : (60 : Int) ≤ (k : Int) := by omega
        clear q q2 key
        go_wp2_with fail
        refine (HIn.out _ HK2.out).mono ?_
        rintro _ wx ⟨rfl, rfl⟩
        go_wp2_with fail
        refine (HAs.out _ HK2.out).mono ?_
        rintro _ w3 ⟨rfl, hT3, hb3⟩
        have HK3 := Lib.hid hT3
        clear hT3 hb3
        go_wp2_with (
           with_reducible show wpList _ _ _ (⟨_, .store 35 (.tmp 11) _, _, _, _, _⟩ :: _) _ _
           refine wpList_store_at rfl 35 (.tmp 11) (.tmp 66) rfl w3.heap.size 0 CT ZT _ rfl rfl (Row.new w3 35 ZT) (by have := HZ72.out; have := HT72.out; omega) (by rw [tx_info, HT72.out]) HT1.out ?_
           intro w4 hr hg
           rw [splice_all (HT72.out.trans HZ72.out.symm)] at hr
           have hbx := below_own ((Below.refl w3.heap.size w3).alloc (Nat.le_refl _) (.cells ZT.toArray 35)) hg (fun k hk => by cases hk; exact Nat.le_refl _)
           have HK4 := Lib.hid (HK3.out.below hbx)
           have HQ4 := Lib.hid hr
           clear hbx
           clear hr hg)
        refine (HAs.out _ HK4.out).mono ?_
        rintro _ w5 ⟨rfl, hT5, hb5⟩
        have HK5 := Lib.hid hT5
        have HQ5 := Lib.hid (HQ4.out.below hb5)
        clear hT5 hb5
        go_wp2_with (first
          | (
             with_reducible show wpList _ _ _ (⟨_, .store 35 (.tmp 13) _, _, _, _, _⟩ :: _) _ _
             refine wpList_store_at rfl 35 (.tmp 13) (.tmp 72) rfl w5.heap.size 0 CT ZT _ rfl rfl (Row.new w5 35 ZT) (by have := HZ72.out; have := HT72.out; omega) (by rw [tx_info, HT72.out]) HT1.out ?_
             intro w6 hr hg
             rw [splice_all (HT72.out.trans HZ72.out.symm)] at hr
             have hbx := below_own ((Below.refl w5.heap.size w5).alloc (Nat.le_refl _) (.cells ZT.toArray 35)) hg (fun k hk => by cases hk; exact Nat.le_refl _)
             have HK6 := Lib.hid (HK5.out.below hbx)
             have HQ6 := Lib.hid (HQ5.out.below hbx)
             have HP6 := Lib.hid hr
             clear hbx
             clear hr hg)
          | ((with_reducible show wpList _ _ _ (⟨_, .load 35 (.tmp 11), _, _, _, _⟩ :: _) _ _); refine wpList_load_tx rfl 35 (.tmp 11) rfl w3.heap.size 0 rfl CT _ (row_range (HQ6.out)) Tryd.underlying35 rfl (by rw [tx_info, HT72.out]) ?_)
          | ((with_reducible show wpList _ _ _ (⟨_, .load 35 (.tmp 13), _, _, _, _⟩ :: _) _ _); refine wpList_load_tx rfl 35 (.tmp 13) rfl w5.heap.size 0 rfl CT _ (row_range (HP6.out)) Tryd.underlying35 rfl (by rw [tx_info, HT72.out]) ?_))
        refine (HIn.out _ HK6.out).mono ?_
        rintro _ wx ⟨rfl, rfl⟩
        clear HAs HQ5 HP6
        rcases hEc with hE | hE | hE | hE | hE | hE
        · subst hE
          obtain ⟨e1, e2, e3, e4⟩ := hA0 rfl
          have HEn2 : Hid (∀ W, AllG w W B M X K 2 G (nn + 1) v N L k → Calls Tryd.prog 12 #[.pointer (some ⟨B, 0, none⟩), .string s] W fun e w' => e = .returned (.tuple #[.agg ZT.toArray, .int .i64 23]) ∧ AllG w w' B M X K 2 G (nn + 1 + 1) v N L k ∧ KeepsG W w') := by rw [← e1, ← HZT.out, ← e2]; exact Lib.hid (fun W hW => by have := hW.enterS HTab.out s HS.out (by omega); rw [e3] at this; exact this)
          have HIn2 : Hid (∀ W, AllG w W B M X K 2 G (nn + 1 + 1) v N L k → Calls Tryd.prog 10 #[.pointer (some ⟨B, 0, none⟩)] W fun e w' => e = .returned (.int .i64 ((gl : Nat) + 1)) ∧ W = w') := Lib.hid (fun W hW => by have := in_any hW.own.own; rw [e4] at this; exact this)
          clear e1 e2 e3 e4 hA0 hAN
          go_wp2_with fail
          refine (HEn.out _ HK6.out).mono ?_
          rintro _ w7 ⟨rfl, hT7, hk7⟩
          have HK7 := Lib.hid hT7
          clear hT7 hk7
          go_wp2_with (first
            | (
               with_reducible show wpList _ _ _ (⟨_, .store 35 (.tmp 15) _, _, _, _, _⟩ :: _) _ _
               refine wpList_store_at rfl 35 (.tmp 15) (.tmp 95) rfl w7.heap.size 0 CT ZT _ rfl rfl (Row.new w7 35 ZT) (by have := HZ72.out; have := HT72.out; omega) (by rw [tx_info, HT72.out]) HT1.out ?_
               intro w8 hr hg
               rw [splice_all (HT72.out.trans HZ72.out.symm)] at hr
               have hbx := below_own ((Below.refl w7.heap.size w7).alloc (Nat.le_refl _) (.cells ZT.toArray 35)) hg (fun k hk => by cases hk; exact Nat.le_refl _)
               have HK8 := Lib.hid (HK7.out.below hbx)
               clear hbx
               clear hr hg))
          refine (HEn2.out _ HK8.out).mono ?_
          rintro _ w9 ⟨rfl, hT9, hk9⟩
          have HK9 := Lib.hid hT9
          clear hT9 hk9
          go_wp2_with (first
            | (
               with_reducible show wpList _ _ _ (⟨_, .store 35 (.tmp 17) _, _, _, _, _⟩ :: _) _ _
               refine wpList_store_at rfl 35 (.tmp 17) (.tmp 101) rfl w9.heap.size 0 ZT ZT _ rfl rfl (Row.new w9 35 ZT) (by have := HZ72.out; have := HZ72.out; omega) (by rw [tx_info, HZ72.out]) HZ1.out ?_
               intro w10 hr hg
               rw [splice_all (HZ72.out.trans HZ72.out.symm)] at hr
               have hbx := below_own ((Below.refl w9.heap.size w9).alloc (Nat.le_refl _) (.cells ZT.toArray 35)) hg (fun k hk => by cases hk; exact Nat.le_refl _)
               have HK10 := Lib.hid (HK9.out.below hbx)
               clear hbx
               clear hr hg))
          refine (HIn2.out _ HK10.out).mono ?_
          rintro _ wx ⟨rfl, rfl⟩
          go_wp2_with fail
          go_ret
          exact ⟨by simp, HK10.out.own.low⟩
        · obtain ⟨e1, e2⟩ := hAN (by rw [hE]; decide)
          subst hE
          subst e1
          subst e2
          clear hA0 hAN
          go_wp2_with fail
          refine (HEn.out _ HK6.out).mono ?_
          rintro _ w7 ⟨rfl, hT7, hk7⟩
          have HK7 := Lib.hid hT7
          have HQ7 := Lib.hid (hk7 _ _ _ (by decide) HQ6.out)
          clear hT7 hk7
          go_wp2_with (first
            | (
               with_reducible show wpList _ _ _ (⟨_, .store 35 (.tmp 19) _, _, _, _, _⟩ :: _) _ _
               refine wpList_store_at rfl 35 (.tmp 19) (.tmp 126) rfl w7.heap.size 0 CT CT _ rfl rfl (Row.new w7 35 CT) (by have := HZ72.out; have := HT72.out; omega) (by rw [tx_info, HT72.out]) HT1.out ?_
               intro w8 hr hg
               rw [splice_all (HT72.out.trans HZ72.out.symm)] at hr
               have hbx := below_own ((Below.refl w7.heap.size w7).alloc (Nat.le_refl _) (.cells CT.toArray 35)) hg (fun k hk => by cases hk; exact Nat.le_refl _)
               have HK8 := Lib.hid (HK7.out.below hbx)
               have HQ8 := Lib.hid (HQ7.out.below hbx)
               clear hbx
               clear hr hg))
          refine (HIn1.out _ HK8.out).mono ?_
          rintro _ wx ⟨rfl, rfl⟩
          go_wp2_with (first
            | ((with_reducible show wpList _ _ _ (⟨_, .load 35 (.tmp 11), _, _, _, _⟩ :: _) _ _); refine wpList_load_tx rfl 35 (.tmp 11) rfl w3.heap.size 0 rfl CT _ (row_range (HQ8.out)) Tryd.underlying35 rfl (by rw [tx_info, HT72.out]) ?_)
            | ((with_reducible show wpList _ _ _ (⟨_, .build 35 _, _, _, _, _⟩ :: _) _ _); refine wpList_buildL rfl 35 [] rfl (some 139) rfl _ rfl _ HBt.out ?_))
          go_ret
          exact ⟨rfl, HK8.out.own.low⟩
        · obtain ⟨e1, e2⟩ := hAN (by rw [hE]; decide)
          subst hE
          subst e1
          subst e2
          clear hA0 hAN
          go_wp2_with fail
          refine (HEn.out _ HK6.out).mono ?_
          rintro _ w7 ⟨rfl, hT7, hk7⟩
          have HK7 := Lib.hid hT7
          have HQ7 := Lib.hid (hk7 _ _ _ (by decide) HQ6.out)
          clear hT7 hk7
          go_wp2_with (first
            | (
               with_reducible show wpList _ _ _ (⟨_, .store 35 (.tmp 19) _, _, _, _, _⟩ :: _) _ _
               refine wpList_store_at rfl 35 (.tmp 19) (.tmp 126) rfl w7.heap.size 0 CT CT _ rfl rfl (Row.new w7 35 CT) (by have := HZ72.out; have := HT72.out; omega) (by rw [tx_info, HT72.out]) HT1.out ?_
               intro w8 hr hg
               rw [splice_all (HT72.out.trans HZ72.out.symm)] at hr
               have hbx := below_own ((Below.refl w7.heap.size w7).alloc (Nat.le_refl _) (.cells CT.toArray 35)) hg (fun k hk => by cases hk; exact Nat.le_refl _)
               have HK8 := Lib.hid (HK7.out.below hbx)
               have HQ8 := Lib.hid (HQ7.out.below hbx)
               clear hbx
               clear hr hg))
          refine (HIn1.out _ HK8.out).mono ?_
          rintro _ wx ⟨rfl, rfl⟩
          go_wp2_with (first
            | ((with_reducible show wpList _ _ _ (⟨_, .load 35 (.tmp 11), _, _, _, _⟩ :: _) _ _); refine wpList_load_tx rfl 35 (.tmp 11) rfl w3.heap.size 0 rfl CT _ (row_range (HQ8.out)) Tryd.underlying35 rfl (by rw [tx_info, HT72.out]) ?_)
            | ((with_reducible show wpList _ _ _ (⟨_, .build 35 _, _, _, _, _⟩ :: _) _ _); refine wpList_buildL rfl 35 [] rfl (some 139) rfl _ rfl _ HBt.out ?_))
          go_ret
          exact ⟨rfl, HK8.out.own.low⟩
        · obtain ⟨e1, e2⟩ := hAN (by rw [hE]; decide)
          subst hE
          subst e1
          subst e2
          clear hA0 hAN
          go_wp2_with fail
          refine (HEn.out _ HK6.out).mono ?_
          rintro _ w7 ⟨rfl, hT7, hk7⟩
          have HK7 := Lib.hid hT7
          have HQ7 := Lib.hid (hk7 _ _ _ (by decide) HQ6.out)
          clear hT7 hk7
          go_wp2_with (first
            | (
               with_reducible show wpList _ _ _ (⟨_, .store 35 (.tmp 19) _, _, _, _, _⟩ :: _) _ _
               refine wpList_store_at rfl 35 (.tmp 19) (.tmp 126) rfl w7.heap.size 0 CT CT _ rfl rfl (Row.new w7 35 CT) (by have := HZ72.out; have := HT72.out; omega) (by rw [tx_info, HT72.out]) HT1.out ?_
               intro w8 hr hg
               rw [splice_all (HT72.out.trans HZ72.out.symm)] at hr
               have hbx := below_own ((Below.refl w7.heap.size w7).alloc (Nat.le_refl _) (.cells CT.toArray 35)) hg (fun k hk => by cases hk; exact Nat.le_refl _)
               have HK8 := Lib.hid (HK7.out.below hbx)
               have HQ8 := Lib.hid (HQ7.out.below hbx)
               clear hbx
               clear hr hg))
          refine (HIn1.out _ HK8.out).mono ?_
          rintro _ wx ⟨rfl, rfl⟩
          go_wp2_with (first
            | ((with_reducible show wpList _ _ _ (⟨_, .load 35 (.tmp 11), _, _, _, _⟩ :: _) _ _); refine wpList_load_tx rfl 35 (.tmp 11) rfl w3.heap.size 0 rfl CT _ (row_range (HQ8.out)) Tryd.underlying35 rfl (by rw [tx_info, HT72.out]) ?_)
            | ((with_reducible show wpList _ _ _ (⟨_, .build 35 _, _, _, _, _⟩ :: _) _ _); refine wpList_buildL rfl 35 [] rfl (some 139) rfl _ rfl _ HBt.out ?_))
          go_ret
          exact ⟨rfl, HK8.out.own.low⟩
        · obtain ⟨e1, e2⟩ := hAN (by rw [hE]; decide)
          subst hE
          subst e1
          subst e2
          clear hA0 hAN
          go_wp2_with fail
          refine (HEn.out _ HK6.out).mono ?_
          rintro _ w7 ⟨rfl, hT7, hk7⟩
          have HK7 := Lib.hid hT7
          have HQ7 := Lib.hid (hk7 _ _ _ (by decide) HQ6.out)
          clear hT7 hk7
          go_wp2_with (first
            | (
               with_reducible show wpList _ _ _ (⟨_, .store 35 (.tmp 19) _, _, _, _, _⟩ :: _) _ _
               refine wpList_store_at rfl 35 (.tmp 19) (.tmp 126) rfl w7.heap.size 0 CT CT _ rfl rfl (Row.new w7 35 CT) (by have := HZ72.out; have := HT72.out; omega) (by rw [tx_info, HT72.out]) HT1.out ?_
               intro w8 hr hg
               rw [splice_all (HT72.out.trans HZ72.out.symm)] at hr
               have hbx := below_own ((Below.refl w7.heap.size w7).alloc (Nat.le_refl _) (.cells CT.toArray 35)) hg (fun k hk => by cases hk; exact Nat.le_refl _)
               have HK8 := Lib.hid (HK7.out.below hbx)
               have HQ8 := Lib.hid (HQ7.out.below hbx)
               clear hbx
               clear hr hg))
          refine (HIn1.out _ HK8.out).mono ?_
          rintro _ wx ⟨rfl, rfl⟩
          go_wp2_with (first
            | ((with_reducible show wpList _ _ _ (⟨_, .load 35 (.tmp 11), _, _, _, _⟩ :: _) _ _); refine wpList_load_tx rfl 35 (.tmp 11) rfl w3.heap.size 0 rfl CT _ (row_range (HQ8.out)) Tryd.underlying35 rfl (by rw [tx_info, HT72.out]) ?_)
            | ((with_reducible show wpList _ _ _ (⟨_, .build 35 _, _, _, _, _⟩ :: _) _ _); refine wpList_buildL rfl 35 [] rfl (some 139) rfl _ rfl _ HBt.out ?_))
          go_ret
          exact ⟨rfl, HK8.out.own.low⟩
        · obtain ⟨e1, e2⟩ := hAN (by rw [hE]; decide)
          subst hE
          subst e1
          subst e2
          clear hA0 hAN
          go_wp2_with fail
          refine (HEn.out _ HK6.out).mono ?_
          rintro _ w7 ⟨rfl, hT7, hk7⟩
          have HK7 := Lib.hid hT7
          have HQ7 := Lib.hid (hk7 _ _ _ (by decide) HQ6.out)
          clear hT7 hk7
          go_wp2_with (first
            | (
               with_reducible show wpList _ _ _ (⟨_, .store 35 (.tmp 19) _, _, _, _, _⟩ :: _) _ _
               refine wpList_store_at rfl 35 (.tmp 19) (.tmp 126) rfl w7.heap.size 0 CT CT _ rfl rfl (Row.new w7 35 CT) (by have := HZ72.out; have := HT72.out; omega) (by rw [tx_info, HT72.out]) HT1.out ?_
               intro w8 hr hg
               rw [splice_all (HT72.out.trans HZ72.out.symm)] at hr
               have hbx := below_own ((Below.refl w7.heap.size w7).alloc (Nat.le_refl _) (.cells CT.toArray 35)) hg (fun k hk => by cases hk; exact Nat.le_refl _)
               have HK8 := Lib.hid (HK7.out.below hbx)
               have HQ8 := Lib.hid (HQ7.out.below hbx)
               clear hbx
               clear hr hg))
          refine (HIn1.out _ HK8.out).mono ?_
          rintro _ wx ⟨rfl, rfl⟩
          go_wp2_with (first
            | ((with_reducible show wpList _ _ _ (⟨_, .load 35 (.tmp 11), _, _, _, _⟩ :: _) _ _); refine wpList_load_tx rfl 35 (.tmp 11) rfl w3.heap.size 0 rfl CT _ (row_range (HQ8.out)) Tryd.underlying35 rfl (by rw [tx_info, HT72.out]) ?_)
            | ((with_reducible show wpList _ _ _ (⟨_, .build 35 _, _, _, _, _⟩ :: _) _ _); refine wpList_buildL rfl 35 [] rfl (some 139) rfl _ rfl _ HBt.out ?_))
          go_ret
          exact ⟨rfl, HK8.out.own.low⟩
end Go.Proofs.YtoicpidiejhjeaaDoor
