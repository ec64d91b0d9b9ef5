/- The reference's lane: Check, Take. -/
import Derived.Test.YtlapmdgkcidhnaaDoorLnRact
namespace Go.Proofs.YtlapmdgkcidhnaaDoor
open Go.RowKit Go.Maps
set_option linter.unusedVariables false
set_option linter.unusedSimpArgs false
set_option maxRecDepth 100000

theorem round_below {w : World} {base B n : Nat} {v : Value} {len : Int} {L : List Ln.H} (h : RLaneAt w base B v len L n) (now : Int) (hn : now ≤ 9223372036854775807) (W : World) (hW : Below w.heap.size w W) (k : Nat) :
    Calls Tryd.prog 37 #[.pointer (some ⟨B, 0, none⟩), .int .i64 now] (W.drewN k) fun e w' => e = .returned (.int .i64 (Ln.rnd len now)) ∧ ∃ m, w' = W.drewN m :=
  (rround_any now (h.below (below_drewN' hW k)) hn).mono fun e w' ⟨h1, m, h2⟩ => ⟨h1, k + m, h2.trans (World.drewN_drewN _ _ _)⟩
set_option maxHeartbeats 3200000 in
theorem rchk16_any (hRS : RefSum) {w : World} {base B n : Nat} {v : Value} {len : Int} {L : List Ln.H} (t : Tx) (ht : t.Ok) (now : Int) (hn : now ≤ 9223372036854775807) (h : RLaneAt w base B v len L n) (hn9 : n ≤ 900) :
    Calls Tryd.prog 65 #[.pointer (some ⟨B, 0, none⟩), t.v, .int .i64 now] w fun e w' => e = .returned (.int .i64 (Ln.checkE len L t now)) ∧ Below w.heap.size w w' := by
  have hb : Below w.heap.size w (w.alloc (.cells t.cells.toArray 74)) := (Below.refl _ _).alloc (Nat.le_refl _) _
  have h0 := h.below hb
  have BD : Hid (∀ W, Calls Tryd.prog 85 #[.agg t.cells.toArray] W fun e w' => e = .returned (.tuple #[S t.bodyE.1, .int .i64 t.err]) ∧ Below W.heap.size W w') := Lib.hid (fun W => by have := rbody_any t ht W; rw [Tx.body_two ht] at this; exact this)
  have HR0 := Lib.hid (Row.new w 74 t.cells)
  have HLn := Lib.hid (Tx.cells_length ht)
  have HB0 := Lib.hid hb
  have BX : Hid (∀ (W : World) (g : Nat) (T : TypeId), Row W g T t.cells → W.cell? ⟨g, 5, none⟩ = some (.bool t.lane) ∧ W.cell? ⟨g, 6, none⟩ = some (.int .i64 t.round) ∧ W.cell? ⟨g, 7, none⟩ = some (.int .i64 t.turn)) := Lib.hid (fun W g T h => ⟨(tx_box ht h).2.2.2.2.2.1, (tx_box ht h).2.2.2.2.2.2.1, (tx_box ht h).2.2.2.2.2.2.2⟩)
  have HBy : Hid (∀ W, Row W w.heap.size 74 t.cells → W.rangeAt w.heap.size 8 (bRow t.bY).toList) := Lib.hid (fun W hW => (tx_hash_at ht hW).1)
  have HBy32 := Lib.hid (Tx.bRow_len _ ht.bY)
  have HZ32 := Lib.hid (Tx.bRow_len Tx.zero rfl)
  have hzh := hash_zv
  have HRd : Hid (∀ W, Below (w.alloc (.cells t.cells.toArray 74)).heap.size (w.alloc (.cells t.cells.toArray 74)) W → ∀ k, Calls Tryd.prog 37 #[.pointer (some ⟨B, 0, none⟩), .int .i64 now] (W.drewN k) fun e w' => e = .returned (.int .i64 (Ln.rnd len now)) ∧ ∃ m, w' = W.drewN m) := Lib.hid (fun W hW k => round_below h0 now hn W hW k)
  have hA : Hid (∀ W, Below (w.alloc (.cells t.cells.toArray 74)).heap.size (w.alloc (.cells t.cells.toArray 74)) W → Calls Tryd.prog 39 #[.pointer (some ⟨B, 0, none⟩), .int .i64 t.round] W fun e w' => e = .returned (.int .i64 (Ln.atI L t.round)) ∧ W = w') := Lib.hid (fun W hW => rat_any t.round (h0.below hW) (by omega))
  have hbl := t.body_len
  have hbyl := ht.bY
  have HH0 := Lib.hid h0
  obtain ⟨R, hR⟩ : ∃ R, Ln.checkE len L t now = R := ⟨_, rfl⟩
  rw [hR]
  unfold Ln.checkE at hR
  show Calls _ _ #[_, .agg t.cells.toArray, _] _ _
  obtain ⟨q, hq⟩ : ∃ q, Ln.rnd len now = q := ⟨_, rfl⟩
  rw [hq] at hR HRd
  obtain ⟨bs, hbs⟩ : ∃ bs, t.bodyE.1 = bs := ⟨_, rfl⟩
  rw [hbs] at hR BD hbl
  obtain ⟨er, her⟩ : ∃ er, t.err = er := ⟨_, rfl⟩
  rw [her] at hR BD
  obtain ⟨by_, hby⟩ : ∃ by_, t.bY = by_ := ⟨_, rfl⟩
  rw [hby] at hR HBy HBy32 hbyl
  generalize t.cells = C at *
  generalize t.lane = la at *
  generalize t.round = r at *
  generalize t.turn = tu at *
  have HR := Lib.hid hR
  clear hb h h0 hq hbs her hby hR
  by_cases he : er = 0
  rotate_left
  · have heb : (er != 0) = true := by simpa using he
    have hR2 : R = er := by have := HR.out; rw [if_pos he] at this; exact this.symm
    subst hR2
    clear he HR
    go_enter Tryd.func65, Tryd.ntmps65
    go_wp2_with ((with_reducible show wpList _ _ _ (⟨_, .load 74 _, _, _, _, _⟩ :: _) _ _); refine wpList_load_tx rfl 74 (.tmp 4) rfl w.heap.size 0 rfl C _ (row_range HR0.out) Tryd.underlying74 rfl (by rw [tx_info, HLn.out]) ?_)
    refine (BD.out _).mono ?_
    rintro _ w1 ⟨rfl, hb1⟩
    have HB1 := Lib.hid hb1
    have h5 := (BX.out _ _ _ (HR0.out.below hb1)).1
    have h6 := (BX.out _ _ _ (HR0.out.below hb1)).2.1
    clear hb1
    go_wp2_with fail
    go_ret
    exact ⟨rfl, two_below' HB0.out HB1.out⟩
  subst he
  have HR1 : Hid ((if la = false then 2 else if r ≠ q then 29 else match Ln.look L r with | none => 34 | some h => if (Seal.tag h.who 2 bs).1 ≠ by_ then 21 else if tu ≠ h.turn then 30 else 0) = R) := Lib.hid (by have := HR.out; rw [if_neg (by simp)] at this; exact this)
  clear HR
  cases la
  · have hR2 : R = 2 := by have := HR1.out; rw [if_pos rfl] at this; exact this.symm
    subst hR2
    clear HR1
    go_enter Tryd.func65, Tryd.ntmps65
    go_wp2_with ((with_reducible show wpList _ _ _ (⟨_, .load 74 _, _, _, _, _⟩ :: _) _ _); refine wpList_load_tx rfl 74 (.tmp 4) rfl w.heap.size 0 rfl C _ (row_range HR0.out) Tryd.underlying74 rfl (by rw [tx_info, HLn.out]) ?_)
    refine (BD.out _).mono ?_
    rintro _ w1 ⟨rfl, hb1⟩
    have HB1 := Lib.hid hb1
    have h5 := (BX.out _ _ _ (HR0.out.below hb1)).1
    have h6 := (BX.out _ _ _ (HR0.out.below hb1)).2.1
    clear hb1
    go_wp2_with fail
    go_ret
    exact ⟨rfl, two_below' HB0.out HB1.out⟩
  have HR2 : Hid ((if r ≠ q then 29 else match Ln.look L r with | none => 34 | some h => if (Seal.tag h.who 2 bs).1 ≠ by_ then 21 else if tu ≠ h.turn then 30 else 0) = R) := Lib.hid (by have := HR1.out; rw [if_neg (by simp)] at this; exact this)
  clear HR1
  by_cases hrq : r = q
  rotate_left
  · have hrb : (r != q) = true := by simpa using hrq
    have hR2 : R = 29 := by have := HR2.out; rw [if_pos hrq] at this; exact this.symm
    subst hR2
    clear HR2 hrq
    go_enter Tryd.func65, Tryd.ntmps65
    go_wp2_with ((with_reducible show wpList _ _ _ (⟨_, .load 74 _, _, _, _, _⟩ :: _) _ _); refine wpList_load_tx rfl 74 (.tmp 4) rfl w.heap.size 0 rfl C _ (row_range HR0.out) Tryd.underlying74 rfl (by rw [tx_info, HLn.out]) ?_)
    refine (BD.out _).mono ?_
    rintro _ w1 ⟨rfl, hb1⟩
    have HB1 := Lib.hid hb1
    have h5 := (BX.out _ _ _ (HR0.out.below hb1)).1
    have h6 := (BX.out _ _ _ (HR0.out.below hb1)).2.1
    clear hb1
    have HRdq : Hid (∀ k, Calls Tryd.prog 37 #[.pointer (some ⟨B, 0, none⟩), .int .i64 now] (w1.drewN k) fun e w' => e = .returned (.int .i64 q) ∧ ∃ m, w' = w1.drewN m) := Lib.hid (fun k => HRd.out _ HB1.out k)
    go_wp2_with fail
    go_quiet ((with_reducible exact HRdq.out _))
    go_wp2_with fail
    go_ret
    exact ⟨rfl, two_below' HB0.out (below_drewN' HB1.out _)⟩
  subst hrq
  have HR3 : Hid ((match Ln.look L r with | none => 34 | some h => if (Seal.tag h.who 2 bs).1 ≠ by_ then 21 else if tu ≠ h.turn then 30 else 0) = R) := Lib.hid (by have := HR2.out; rw [if_neg (by simp)] at this; exact this)
  clear HR2
  rcases hk : Ln.look L r with _ | x
  · have hR2 : R = 34 := by have := HR3.out; rw [hk] at this; exact this.symm
    subst hR2
    rw [Ln.atI_neg hk] at hA
    clear HR3 hk
    go_enter Tryd.func65, Tryd.ntmps65
    go_wp2_with ((with_reducible show wpList _ _ _ (⟨_, .load 74 _, _, _, _, _⟩ :: _) _ _); refine wpList_load_tx rfl 74 (.tmp 4) rfl w.heap.size 0 rfl C _ (row_range HR0.out) Tryd.underlying74 rfl (by rw [tx_info, HLn.out]) ?_)
    refine (BD.out _).mono ?_
    rintro _ w1 ⟨rfl, hb1⟩
    have HB1 := Lib.hid hb1
    have h5 := (BX.out _ _ _ (HR0.out.below hb1)).1
    have h6 := (BX.out _ _ _ (HR0.out.below hb1)).2.1
    clear hb1
    have HRdq : Hid (∀ k, Calls Tryd.prog 37 #[.pointer (some ⟨B, 0, none⟩), .int .i64 now] (w1.drewN k) fun e w' => e = .returned (.int .i64 r) ∧ ∃ m, w' = w1.drewN m) := Lib.hid (fun k => HRd.out _ HB1.out k)
    go_wp2_with fail
    go_quiet ((with_reducible exact HRdq.out _))
    go_wp2_with fail
    refine (hA.out _ (below_drewN' HB1.out _)).mono ?_
    rintro _ w2 ⟨rfl, hw2⟩
    have hb2 : Below (w.alloc (.cells C.toArray 74)).heap.size (w.alloc (.cells C.toArray 74)) w2 := by rw [← hw2]; exact below_drewN' HB1.out _
    have HB2 := Lib.hid hb2
    have h6 := (BX.out _ _ _ (HR0.out.below hb2)).2.1
    clear hb2 hw2
    go_wp2_with fail
    go_ret
    exact ⟨rfl, two_below' HB0.out HB2.out⟩
  obtain ⟨k, hk1, _, hkl, hkx⟩ := Ln.atI_pos hk
  have hxo := HH0.out.ok.2 x (Ln.look_mem hk)
  rw [hk1] at hA
  obtain ⟨g, c, rfl, _, hgl⟩ := HH0.out.own.ne (by intro e; rw [e] at hkl; simp at hkl)
  have c1' := HH0.out.c1
  have e0 := HH0.out.own.cell (Ln.hc_len L) k hkl 1 (.int .i64 x.who) (by rw [hkx]; rfl)
  have e2' := HH0.out.own.cell (Ln.hc_len L) k hkl 2 (.int .i64 x.turn) (by rw [hkx]; rfl)
  obtain ⟨m, hm⟩ : ∃ m, m = L.length := ⟨_, rfl⟩
  have hki : (k : Int) < (m : Int) := by omega
  have hk0 : ¬ (k : Int) < 0 := by omega
  have dk0 : decide ((k : Int) < 0) = false := decide_eq_false hk0
  rw [← hm] at c1'
  have hBl := HH0.out.row.lt
  have HEl : Hid (∀ W, Below (w.alloc (.cells C.toArray 74)).heap.size (w.alloc (.cells C.toArray 74)) W → W.cell? ⟨B, 1, none⟩ = some (.slice (some ⟨g, 0, none⟩) m c) ∧ W.cell? ⟨g, k * 3 + 1, none⟩ = some (.int .i64 x.who) ∧ W.cell? ⟨g, k * 3 + 2, none⟩ = some (.int .i64 x.turn)) := Lib.hid (fun W hW => ⟨(hW.cell (p := ⟨B, 1, none⟩) hBl).trans c1', (hW.cell (p := ⟨g, k * 3 + 1, none⟩) hgl).trans e0, (hW.cell (p := ⟨g, k * 3 + 2, none⟩) hgl).trans e2'⟩)
  have HR4 : Hid ((if (Seal.tag x.who 2 bs).1 ≠ by_ then 21 else if tu ≠ x.turn then 30 else 0) = R) := Lib.hid (by have := HR3.out; rw [hk] at this; exact this)
  have HTg : Hid (∀ W, Calls Tryd.prog 78 #[.int .i64 x.who, .int .i64 2, S bs] W fun e w' => e = .returned (.tuple #[.agg (bRow (Seal.tag x.who 2 bs).1), .int .i64 (Seal.tag x.who 2 bs).2]) ∧ Below W.heap.size W w') := Lib.hid (fun W => refTag_any hRS x.who 2 ⟨bs.toArray⟩ W (by show bs.toArray.size ≤ _; simp; omega))
  have htl := Seal.tag_len x.who 2 bs
  have HG32 := Lib.hid (Tx.bRow_len _ htl)
  have HG1 := Lib.hid (hash_one _ htl)
  have heq := fun W => hash_eq W (Seal.tag x.who 2 bs).1 by_ htl hbyl
  generalize (Seal.tag x.who 2 bs).1 = tg at *
  generalize (Seal.tag x.who 2 bs).2 = tc at *
  generalize x.who = wh at *
  generalize x.turn = tn at *
  have HEq := Lib.hid heq
  clear HR3 hk hk1 hkx hkl hxo c1' e0 e2' hm hgl hBl heq
  by_cases htg : tg = by_
  rotate_left
  · have hR2 : R = 21 := by have := HR4.out; rw [if_pos htg] at this; exact this.symm
    subst hR2
    have heqs : ∀ W : World, (Op.equalIn 10000 28 (.agg (bRow tg)) (.agg (bRow by_))).run Tryd.prog W = .ok false W := fun W => (HEq.out W).trans (by rw [decide_eq_false htg])
    clear HR4 htg
    go_enter Tryd.func65, Tryd.ntmps65
    go_wp2_with ((with_reducible show wpList _ _ _ (⟨_, .load 74 _, _, _, _, _⟩ :: _) _ _); refine wpList_load_tx rfl 74 (.tmp 4) rfl w.heap.size 0 rfl C _ (row_range HR0.out) Tryd.underlying74 rfl (by rw [tx_info, HLn.out]) ?_)
    refine (BD.out _).mono ?_
    rintro _ w1 ⟨rfl, hb1⟩
    have HB1 := Lib.hid hb1
    have h5 := (BX.out _ _ _ (HR0.out.below hb1)).1
    have h6 := (BX.out _ _ _ (HR0.out.below hb1)).2.1
    clear hb1
    have HRdq : Hid (∀ k, Calls Tryd.prog 37 #[.pointer (some ⟨B, 0, none⟩), .int .i64 now] (w1.drewN k) fun e w' => e = .returned (.int .i64 r) ∧ ∃ m, w' = w1.drewN m) := Lib.hid (fun k => HRd.out _ HB1.out k)
    go_wp2_with fail
    go_quiet ((with_reducible exact HRdq.out _))
    go_wp2_with fail
    refine (hA.out _ (below_drewN' HB1.out _)).mono ?_
    rintro _ w2 ⟨rfl, hw2⟩
    have hb2 : Below (w.alloc (.cells C.toArray 74)).heap.size (w.alloc (.cells C.toArray 74)) w2 := by rw [← hw2]; exact below_drewN' HB1.out _
    have HB2 := Lib.hid hb2
    have h6 := (BX.out _ _ _ (HR0.out.below hb2)).2.1
    have c1 := (HEl.out _ hb2).1
    have e1 := (HEl.out _ hb2).2.1
    clear hb2 hw2
    go_wp2_with fail
    refine (HTg.out _).mono ?_
    rintro _ w3 ⟨rfl, hb3⟩
    have HB3 := Lib.hid (two_below' HB2.out hb3)
    have HN3 := Lib.hid (Row.new w3 28 (bRow Tx.zero).toList)
    rw [Array.toArray_toList] at HN3
    clear hb3 c1 e1 h6
    go_wp2_with (first
    | (with_reducible show wpList _ _ _ (⟨_, .store 28 _ _, _, _, _, _⟩ :: _) _ _
       refine wpList_store_at rfl 28 (.tmp 10) (.tmp 46) rfl w3.heap.size 0 (bRow tg).toList (bRow Tx.zero).toList _ rfl rfl HN3.out (by have := HZ32.out; have := HG32.out; omega) (by rw [hash_info, HG32.out]) HG1.out ?_
       intro w4 hr4 hg4
       rw [splice_all (HG32.out.trans HZ32.out.symm)] at hr4
       have HR4 := Lib.hid hr4
       have hb4 := two_below' HB3.out (below_own ((Below.refl w3.heap.size w3).alloc (Nat.le_refl _) _) hg4 (fun k hk => by cases hk; exact Nat.le_refl _))
       have HB4 := Lib.hid hb4
       have HBy4 := Lib.hid (HBy.out _ (HR0.out.below hb4))
       have h7 := (BX.out _ _ _ (HR0.out.below hb4)).2.2
       have c1 := (HEl.out _ hb4).1
       have e2 := (HEl.out _ hb4).2.2
       clear hr4 hg4 hb4)
    | ((with_reducible show wpList _ _ _ (⟨_, .load 28 (.tmp 10), _, _, _, _⟩ :: _) _ _); refine wpList_load_tx rfl 28 (.tmp 10) rfl w3.heap.size 0 rfl (bRow tg).toList _ (row_range HR4.out) Tryd.underlying28 rfl (by rw [hash_info, HG32.out]) ?_)
    | ((with_reducible show wpList _ _ _ (⟨_, .load 28 (.tmp 49), _, _, _, _⟩ :: _) _ _); refine wpList_load_tx rfl 28 (.tmp 49) rfl w.heap.size 8 rfl (bRow by_).toList _ HBy4.out Tryd.underlying28 rfl (by rw [hash_info, HBy32.out]) ?_))
    go_ret
    exact ⟨rfl, two_below' HB0.out HB4.out⟩
  have heqs : ∀ W : World, (Op.equalIn 10000 28 (.agg (bRow tg)) (.agg (bRow by_))).run Tryd.prog W = .ok true W := fun W => (HEq.out W).trans (by rw [decide_eq_true htg])
  have HR5 : Hid ((if tu ≠ tn then 30 else 0) = R) := Lib.hid (by have := HR4.out; rw [if_neg (by simpa using htg)] at this; exact this)
  clear HR4 htg
  by_cases htt : tu = tn
  · subst htt
    have hR2 : R = 0 := by have := HR5.out; rw [if_neg (by simp)] at this; exact this.symm
    subst hR2
    clear HR5
    go_enter Tryd.func65, Tryd.ntmps65
    go_wp2_with ((with_reducible show wpList _ _ _ (⟨_, .load 74 _, _, _, _, _⟩ :: _) _ _); refine wpList_load_tx rfl 74 (.tmp 4) rfl w.heap.size 0 rfl C _ (row_range HR0.out) Tryd.underlying74 rfl (by rw [tx_info, HLn.out]) ?_)
    refine (BD.out _).mono ?_
    rintro _ w1 ⟨rfl, hb1⟩
    have HB1 := Lib.hid hb1
    have h5 := (BX.out _ _ _ (HR0.out.below hb1)).1
    have h6 := (BX.out _ _ _ (HR0.out.below hb1)).2.1
    clear hb1
    have HRdq : Hid (∀ k, Calls Tryd.prog 37 #[.pointer (some ⟨B, 0, none⟩), .int .i64 now] (w1.drewN k) fun e w' => e = .returned (.int .i64 r) ∧ ∃ m, w' = w1.drewN m) := Lib.hid (fun k => HRd.out _ HB1.out k)
    go_wp2_with fail
    go_quiet ((with_reducible exact HRdq.out _))
    go_wp2_with fail
    refine (hA.out _ (below_drewN' HB1.out _)).mono ?_
    rintro _ w2 ⟨rfl, hw2⟩
    have hb2 : Below (w.alloc (.cells C.toArray 74)).heap.size (w.alloc (.cells C.toArray 74)) w2 := by rw [← hw2]; exact below_drewN' HB1.out _
    have HB2 := Lib.hid hb2
    have h6 := (BX.out _ _ _ (HR0.out.below hb2)).2.1
    have c1 := (HEl.out _ hb2).1
    have e1 := (HEl.out _ hb2).2.1
    clear hb2 hw2
    go_wp2_with fail
    refine (HTg.out _).mono ?_
    rintro _ w3 ⟨rfl, hb3⟩
    have HB3 := Lib.hid (two_below' HB2.out hb3)
    have HN3 := Lib.hid (Row.new w3 28 (bRow Tx.zero).toList)
    rw [Array.toArray_toList] at HN3
    clear hb3 c1 e1 h6
    go_wp2_with (first
    | (with_reducible show wpList _ _ _ (⟨_, .store 28 _ _, _, _, _, _⟩ :: _) _ _
       refine wpList_store_at rfl 28 (.tmp 10) (.tmp 46) rfl w3.heap.size 0 (bRow tg).toList (bRow Tx.zero).toList _ rfl rfl HN3.out (by have := HZ32.out; have := HG32.out; omega) (by rw [hash_info, HG32.out]) HG1.out ?_
       intro w4 hr4 hg4
       rw [splice_all (HG32.out.trans HZ32.out.symm)] at hr4
       have HR4 := Lib.hid hr4
       have hb4 := two_below' HB3.out (below_own ((Below.refl w3.heap.size w3).alloc (Nat.le_refl _) _) hg4 (fun k hk => by cases hk; exact Nat.le_refl _))
       have HB4 := Lib.hid hb4
       have HBy4 := Lib.hid (HBy.out _ (HR0.out.below hb4))
       have h7 := (BX.out _ _ _ (HR0.out.below hb4)).2.2
       have c1 := (HEl.out _ hb4).1
       have e2 := (HEl.out _ hb4).2.2
       clear hr4 hg4 hb4)
    | ((with_reducible show wpList _ _ _ (⟨_, .load 28 (.tmp 10), _, _, _, _⟩ :: _) _ _); refine wpList_load_tx rfl 28 (.tmp 10) rfl w3.heap.size 0 rfl (bRow tg).toList _ (row_range HR4.out) Tryd.underlying28 rfl (by rw [hash_info, HG32.out]) ?_)
    | ((with_reducible show wpList _ _ _ (⟨_, .load 28 (.tmp 49), _, _, _, _⟩ :: _) _ _); refine wpList_load_tx rfl 28 (.tmp 49) rfl w.heap.size 8 rfl (bRow by_).toList _ HBy4.out Tryd.underlying28 rfl (by rw [hash_info, HBy32.out]) ?_))
    go_quiet (fail)
    go_wp2_with fail
    go_ret
    exact ⟨rfl, two_below' HB0.out (below_drewN' HB4.out _)⟩
  · have htb : (tu != tn) = true := by simpa using htt
    have hR2 : R = 30 := by have := HR5.out; rw [if_pos htt] at this; exact this.symm
    subst hR2
    clear HR5 htt
    go_enter Tryd.func65, Tryd.ntmps65
    go_wp2_with ((with_reducible show wpList _ _ _ (⟨_, .load 74 _, _, _, _, _⟩ :: _) _ _); refine wpList_load_tx rfl 74 (.tmp 4) rfl w.heap.size 0 rfl C _ (row_range HR0.out) Tryd.underlying74 rfl (by rw [tx_info, HLn.out]) ?_)
    refine (BD.out _).mono ?_
    rintro _ w1 ⟨rfl, hb1⟩
    have HB1 := Lib.hid hb1
    have h5 := (BX.out _ _ _ (HR0.out.below hb1)).1
    have h6 := (BX.out _ _ _ (HR0.out.below hb1)).2.1
    clear hb1
    have HRdq : Hid (∀ k, Calls Tryd.prog 37 #[.pointer (some ⟨B, 0, none⟩), .int .i64 now] (w1.drewN k) fun e w' => e = .returned (.int .i64 r) ∧ ∃ m, w' = w1.drewN m) := Lib.hid (fun k => HRd.out _ HB1.out k)
    go_wp2_with fail
    go_quiet ((with_reducible exact HRdq.out _))
    go_wp2_with fail
    refine (hA.out _ (below_drewN' HB1.out _)).mono ?_
    rintro _ w2 ⟨rfl, hw2⟩
    have hb2 : Below (w.alloc (.cells C.toArray 74)).heap.size (w.alloc (.cells C.toArray 74)) w2 := by rw [← hw2]; exact below_drewN' HB1.out _
    have HB2 := Lib.hid hb2
    have h6 := (BX.out _ _ _ (HR0.out.below hb2)).2.1
    have c1 := (HEl.out _ hb2).1
    have e1 := (HEl.out _ hb2).2.1
    clear hb2 hw2
    go_wp2_with fail
    refine (HTg.out _).mono ?_
    rintro _ w3 ⟨rfl, hb3⟩
    have HB3 := Lib.hid (two_below' HB2.out hb3)
    have HN3 := Lib.hid (Row.new w3 28 (bRow Tx.zero).toList)
    rw [Array.toArray_toList] at HN3
    clear hb3 c1 e1 h6
    go_wp2_with (first
    | (with_reducible show wpList _ _ _ (⟨_, .store 28 _ _, _, _, _, _⟩ :: _) _ _
       refine wpList_store_at rfl 28 (.tmp 10) (.tmp 46) rfl w3.heap.size 0 (bRow tg).toList (bRow Tx.zero).toList _ rfl rfl HN3.out (by have := HZ32.out; have := HG32.out; omega) (by rw [hash_info, HG32.out]) HG1.out ?_
       intro w4 hr4 hg4
       rw [splice_all (HG32.out.trans HZ32.out.symm)] at hr4
       have HR4 := Lib.hid hr4
       have hb4 := two_below' HB3.out (below_own ((Below.refl w3.heap.size w3).alloc (Nat.le_refl _) _) hg4 (fun k hk => by cases hk; exact Nat.le_refl _))
       have HB4 := Lib.hid hb4
       have HBy4 := Lib.hid (HBy.out _ (HR0.out.below hb4))
       have h7 := (BX.out _ _ _ (HR0.out.below hb4)).2.2
       have c1 := (HEl.out _ hb4).1
       have e2 := (HEl.out _ hb4).2.2
       clear hr4 hg4 hb4)
    | ((with_reducible show wpList _ _ _ (⟨_, .load 28 (.tmp 10), _, _, _, _⟩ :: _) _ _); refine wpList_load_tx rfl 28 (.tmp 10) rfl w3.heap.size 0 rfl (bRow tg).toList _ (row_range HR4.out) Tryd.underlying28 rfl (by rw [hash_info, HG32.out]) ?_)
    | ((with_reducible show wpList _ _ _ (⟨_, .load 28 (.tmp 49), _, _, _, _⟩ :: _) _ _); refine wpList_load_tx rfl 28 (.tmp 49) rfl w.heap.size 8 rfl (bRow by_).toList _ HBy4.out Tryd.underlying28 rfl (by rw [hash_info, HBy32.out]) ?_))
    go_quiet (fail)
    go_wp2_with fail
    go_ret
    exact ⟨rfl, two_below' HB0.out (below_drewN' HB4.out _)⟩
end Go.Proofs.YtlapmdgkcidhnaaDoor
