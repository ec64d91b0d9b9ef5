/- lane: steps, Check. -/
import Derived.Test.YtlapmdgkcidhnaaDoorLnSteps
import Derived.Laws.EntriesVeiled
namespace Go.Proofs.YtlapmdgkcidhnaaDoor
open Go.RowKit Go.Maps
set_option linter.unusedVariables false
set_option linter.unusedSimpArgs false

theorem Tx.body_zero {t : Tx} (h : t.err = 0) (ht : t.Ok) : t.bodyE.2 = 0 := by
  unfold Tx.bodyE
  rw [if_pos h]
  have hd : t.data.size ≤ 256 := by
    unfold Tx.err at h
    split at h
    · cases h
    · split at h
      · cases h
      · split at h
        · cases h
        · split at h
          · cases h
          · omega
  have h1 := Oct.num_length_le t.frm.toNat
  have h2 := Oct.num_length_le t.nonce.toNat
  have h3 := Oct.num_length_le t.fee.toNat
  have h4 := Oct.num_length_le t.to.toNat
  have h5 : t.data.data.toList.length ≤ 256 := hd
  have h6 := Oct.num_length_le t.round.toNat
  have h7 := Oct.num_length_le t.turn.toNat
  unfold Tx.fields Tx.lays
  cases t.lane
  · simp only [Bool.false_eq_true, ↓reduceIte, List.append_nil, List.cons_append, List.nil_append]
    unfold Oct.listE Oct.listGo Oct.listGo Oct.listGo Oct.listGo Oct.listGo Oct.listGo
    rw [if_neg (by simp), if_neg (by omega), if_neg (by omega), if_neg (by omega), if_neg (by omega), if_neg (by omega)]
    rfl
  · simp only [↓reduceIte, List.cons_append, List.nil_append]
    unfold Oct.listE Oct.listGo Oct.listGo Oct.listGo Oct.listGo Oct.listGo Oct.listGo Oct.listGo Oct.listGo
    rw [if_neg (by simp), if_neg (by omega), if_neg (by omega), if_neg (by omega), if_neg (by omega), if_neg (by omega), if_neg (by omega), if_neg (by omega)]
    rfl
theorem Tx.body_two {t : Tx} (ht : t.Ok) : t.bodyE.2 = t.err := by
  by_cases h : t.err = 0
  · rw [h, Tx.body_zero h ht]
  · unfold Tx.bodyE; rw [if_neg h]
namespace Ln
/-- what is wrong with a transaction -/
def checkE (len : Int) (L : List H) (t : Tx) (now : Int) : Int :=
  if t.err ≠ 0 then t.err else if t.lane = false then 2 else if t.round ≠ rnd len now then 29 else match look L t.round with
  | none => 34
  | some h => if (Seal.tag h.who 2 t.bodyE.1).1 ≠ t.bY then 21 else if t.turn ≠ h.turn then 30 else 0
def take (len : Int) (L : List H) (t : Tx) (now : Int) : List H :=
  if checkE len L t now = 0 then upd L t.round (whoOf L t.round) (turnOf L t.round + 1) else L
/-- what is asked, one by one -/
def asks (len : Int) (L : List H) (t : Tx) (now : Int) : List Int :=
  [t.err, if t.lane = true then 0 else 2, if t.round = rnd len now then 0 else 29, if (look L t.round).isSome = true then 0 else 34, Seal.check2 (whoOf L t.round) 2 t.bodyE.1 t.bY, if t.turn = turnOf L t.round then 0 else 30]
def firstE : List Int → Int
  | [] => 0
  | e :: r => if e ≠ 0 then e else firstE r
theorem firstE_cons0 {e : Int} {r : List Int} (h : e = 0) : firstE (e :: r) = firstE r := by unfold firstE; rw [if_neg (by simpa using h)]; cases r <;> rfl
theorem firstE_cons {e : Int} {r : List Int} (h : e ≠ 0) : firstE (e :: r) = e := by unfold firstE; rw [if_pos h]
theorem check_asks {n : Nat} {len : Int} {L : List H} (hL : Ok n L) (t : Tx) (now : Int) : checkE len L t now = firstE (asks len L t now) := by
  unfold checkE asks
  by_cases h0 : t.err = 0
  · rw [if_neg (by simpa using h0), firstE_cons0 h0]
    cases hl : t.lane
    · rw [if_pos rfl, firstE_cons (by simp)]; simp
    · rw [if_neg (by simp), firstE_cons0 (by simp)]
      by_cases hr : t.round = rnd len now
      · rw [if_neg (by simpa using hr), if_pos hr, firstE_cons0 rfl]
        rcases hk : look L t.round with _ | x
        · rw [firstE_cons (by simp)]; simp
        · rw [firstE_cons0 (by simp)]
          have hx := hL.2 x (look_mem hk)
          have hz : (Seal.tag x.who 2 t.bodyE.1).2 = 0 := tag_err0 _ _ _ (by omega) (by omega) (by decide) (by decide)
          have hw : whoOf L t.round = x.who := by unfold whoOf; rw [hk]
          have hu : turnOf L t.round = x.turn := by unfold turnOf; rw [hk]
          rw [hw, hu]
          simp only
          by_cases ht : (Seal.tag x.who 2 t.bodyE.1).1 = t.bY
          · rw [if_neg (by simpa using ht), firstE_cons0 (by unfold Seal.check2; rw [if_neg (by simpa using hz), if_neg (by simpa using ht)])]
            by_cases hu2 : t.turn = x.turn
            · rw [if_neg (by simpa using hu2), if_pos hu2, firstE_cons0 rfl]; rfl
            · rw [if_pos hu2, if_neg hu2, firstE_cons (by decide)]
          · have e : Seal.check2 x.who 2 t.bodyE.1 t.bY = 21 := by unfold Seal.check2; rw [if_neg (by simpa using hz), if_pos ht]
            rw [if_pos ht, e, firstE_cons (by decide)]
      · rw [if_pos hr, if_neg hr, firstE_cons (by decide)]
  · rw [if_pos h0, firstE_cons h0]
end Ln
/-- what steps makes: the functions, and what they hold -/
structure StepsAt (w : World) (lo : Nat) (B : Nat) (t : Tx) (now : Int) (wh tn : Int) (hd : Bool) (gs g3 g4 g5 g7 g8 g9 : Nat) : Prop where
  p : w.cell? ⟨g3, 0, none⟩ = some (.pointer (some ⟨B, 0, none⟩))
  tx : Row w g4 74 t.cells
  now : w.cell? ⟨g5, 0, none⟩ = some (.int .i64 now)
  un : w.cell? ⟨g7, 0, none⟩ = some unlessV
  seat : Row w g8 119 [.int .i64 wh, .int .i64 tn]
  held : w.cell? ⟨g9, 0, none⟩ = some (.bool hd)
  fns : Row w gs 124 [.func (.func 89) #[] #[.pointer (some ⟨g4, 0, none⟩)],
    .func (.func 91) #[] #[.pointer (some ⟨g7, 0, none⟩), .pointer (some ⟨g4, 0, none⟩)],
    .func (.func 92) #[] #[.pointer (some ⟨g7, 0, none⟩), .pointer (some ⟨g4, 0, none⟩), .pointer (some ⟨g3, 0, none⟩), .pointer (some ⟨g5, 0, none⟩)],
    .func (.func 93) #[] #[.pointer (some ⟨g7, 0, none⟩), .pointer (some ⟨g9, 0, none⟩)],
    .func (.func 94) #[] #[.pointer (some ⟨g4, 0, none⟩), .pointer (some ⟨g8, 0, none⟩)],
    .func (.func 96) #[] #[.pointer (some ⟨g7, 0, none⟩), .pointer (some ⟨g4, 0, none⟩), .pointer (some ⟨g8, 0, none⟩)]]
  l3 : g3 < w.heap.size
  l5 : g5 < w.heap.size
  l7 : g7 < w.heap.size
  l9 : g9 < w.heap.size
theorem StepsAt.below {w w' : World} {lo B : Nat} {t : Tx} {now wh tn : Int} {hd : Bool} {gs g3 g4 g5 g7 g8 g9 : Nat} (h : StepsAt w lo B t now wh tn hd gs g3 g4 g5 g7 g8 g9) (hb : Below w.heap.size w w') : StepsAt w' lo B t now wh tn hd gs g3 g4 g5 g7 g8 g9 :=
  ⟨(hb.cell (p := ⟨g3, 0, none⟩) h.l3).trans h.p, h.tx.below hb, (hb.cell (p := ⟨g5, 0, none⟩) h.l5).trans h.now, (hb.cell (p := ⟨g7, 0, none⟩) h.l7).trans h.un, h.seat.below hb, (hb.cell (p := ⟨g9, 0, none⟩) h.l9).trans h.held, h.fns.below hb, Nat.lt_of_lt_of_le h.l3 hb.size, Nat.lt_of_lt_of_le h.l5 hb.size, Nat.lt_of_lt_of_le h.l7 hb.size, Nat.lt_of_lt_of_le h.l9 hb.size⟩
set_option maxRecDepth 20000 in
set_option maxHeartbeats 1600000 in
theorem steps16_any {w : World} {B M n : Nat} {len : Int} {L : List Ln.H} (t : Tx) (ht : t.Ok) (now : Int) (h : LaneAt w B M len L n) :
    Calls Tryd.prog 68 #[.pointer (some ⟨B, 0, none⟩), t.v, .int .i64 now] w fun e w' => (∃ gs g3 g4 g5 g7 g8 g9, e = .returned (.slice (some ⟨gs, 0, none⟩) 6 6) ∧ StepsAt w' w.heap.size B t now (Ln.whoOf L t.round) (Ln.turnOf L t.round) (Ln.look L t.round).isSome gs g3 g4 g5 g7 g8 g9) ∧ Below w.heap.size w w' := by
  have hb1 : Below w.heap.size w (w.alloc (.cells #[.pointer (some ⟨B, 0, none⟩)] 67)) := (Below.refl _ _).alloc (Nat.le_refl _) _
  have hb2 : Below w.heap.size w ((w.alloc (.cells #[.pointer (some ⟨B, 0, none⟩)] 67)).alloc (.cells t.cells.toArray 74)) := hb1.alloc hb1.size _
  have hb3 : Below w.heap.size w (((w.alloc (.cells #[.pointer (some ⟨B, 0, none⟩)] 67)).alloc (.cells t.cells.toArray 74)).alloc (.cells #[.int .i64 now] 3)) := hb2.alloc hb2.size _
  have hb4 : Below w.heap.size w ((((w.alloc (.cells #[.pointer (some ⟨B, 0, none⟩)] 67)).alloc (.cells t.cells.toArray 74)).alloc (.cells #[.int .i64 now] 3)).alloc (.cells #[unlessV] 141)) := hb3.alloc hb3.size _
  have HS : Hid (∀ W, Below w.heap.size w W → Calls Tryd.prog 67 #[.pointer (some ⟨B, 0, none⟩), .int .i64 t.round] W fun e w' => e = .returned (.tuple #[seatV (Ln.whoOf L t.round) (Ln.turnOf L t.round), .bool (Ln.look L t.round).isSome]) ∧ Below W.heap.size W w') := Lib.hid (fun W hW => seat_any t.round (h.below hW) ht.round)
  have BX : Hid (∀ (W : World) (g : Nat) (T : TypeId), Row W g T t.cells → W.cell? ⟨g, 6, none⟩ = some (.int .i64 t.round)) := Lib.hid (fun W g T h => (tx_box ht h).2.2.2.2.2.2.1)
  have HL := Lib.hid (Tx.cells_length ht)
  obtain ⟨wh, ew⟩ : ∃ wh, Ln.whoOf L t.round = wh := ⟨_, rfl⟩
  obtain ⟨tn, et⟩ : ∃ tn, Ln.turnOf L t.round = tn := ⟨_, rfl⟩
  obtain ⟨bb, eb⟩ : ∃ bb, (Ln.look L t.round).isSome = bb := ⟨_, rfl⟩
  rw [ew, et, eb] at HS
  rw [ew, et, eb]
  have e1 : (w.alloc (.cells #[.pointer (some ⟨B, 0, none⟩)] 67)).heap.size = w.heap.size + 1 := by simp
  have e2 : ((w.alloc (.cells #[.pointer (some ⟨B, 0, none⟩)] 67)).alloc (.cells t.cells.toArray 74)).heap.size = w.heap.size + 1 + 1 := by simp
  have e3 : (((w.alloc (.cells #[.pointer (some ⟨B, 0, none⟩)] 67)).alloc (.cells t.cells.toArray 74)).alloc (.cells #[.int .i64 now] 3)).heap.size = w.heap.size + 1 + 1 + 1 := by simp
  have k1 := (Below.refl (w.alloc (.cells #[.pointer (some ⟨B, 0, none⟩)] 67)).heap.size _).alloc (Nat.le_refl _) (.cells t.cells.toArray 74)
  have k2 := (Below.refl ((w.alloc (.cells #[.pointer (some ⟨B, 0, none⟩)] 67)).alloc (.cells t.cells.toArray 74)).heap.size _).alloc (Nat.le_refl _) (.cells #[.int .i64 now] 3)
  have k3 := (Below.refl (((w.alloc (.cells #[.pointer (some ⟨B, 0, none⟩)] 67)).alloc (.cells t.cells.toArray 74)).alloc (.cells #[.int .i64 now] 3)).heap.size _).alloc (Nat.le_refl _) (.cells #[unlessV] 141)
  have r1 := (((Row.new w 67 [.pointer (some ⟨B, 0, none⟩)]).below k1).below k2).below k3
  have r2 := ((Row.new (w.alloc (.cells #[.pointer (some ⟨B, 0, none⟩)] 67)) 74 t.cells).below k2).below k3
  have r3 := (Row.new ((w.alloc (.cells #[.pointer (some ⟨B, 0, none⟩)] 67)).alloc (.cells t.cells.toArray 74)) 3 [.int .i64 now]).below k3
  have r4 := Row.new (((w.alloc (.cells #[.pointer (some ⟨B, 0, none⟩)] 67)).alloc (.cells t.cells.toArray 74)).alloc (.cells #[.int .i64 now] 3)) 141 [unlessV]
  rw [e1] at r2
  rw [e2] at r3
  rw [e3] at r4
  have h6 := BX.out _ _ _ r2
  have HR1 := Lib.hid r1
  have HR2 := Lib.hid r2
  have HR3 := Lib.hid r3
  have HR4 := Lib.hid r4
  show Calls _ _ #[_, .agg t.cells.toArray, _] _ _
  obtain ⟨C, hC⟩ : ∃ C, t.cells = C := ⟨_, rfl⟩
  rw [hC] at HR1 HR2 HR3 HR4 HL BX h6 hb4 ⊢
  have HC := Lib.hid hC
  have HB4 := Lib.hid hb4
  clear hb1 hb2 hb3 hb4 ew et eb e1 e2 e3 h k1 k2 k3 r1 r2 r3 r4 hC
  go_enter Tryd.func68, Tryd.ntmps68
  go_wp2_with fail
  refine (HS.out _ HB4.out).mono ?_
  rintro _ w5 ⟨rfl, hb5⟩
  generalize (((w.alloc (.cells #[.pointer (some ⟨B, 0, none⟩)] 67)).alloc (.cells C.toArray 74)).alloc (.cells #[.int .i64 now] 3)).alloc (.cells #[unlessV] 141) = w4 at *
  have q1 := HR1.out.below hb5
  have q2 := HR2.out.below hb5
  have q3 := HR3.out.below hb5
  have q4 := HR4.out.below hb5
  have Q1 := Lib.hid q1
  have Q2 := Lib.hid q2
  have Q3 := Lib.hid q3
  have Q4 := Lib.hid q4
  have HB5 := Lib.hid (two_below' HB4.out hb5)
  clear q1 q2 q3 q4 hb5 h6
  go_wp2_with fail
  go_ret
  have b5 := HB5.out
  have k1 := (Below.refl w5.heap.size w5).alloc (Nat.le_refl _) (.cells #[.int .i64 wh, .int .i64 tn] 119)
  have k2 := (Below.refl (w5.alloc (.cells #[.int .i64 wh, .int .i64 tn] 119)).heap.size _).alloc (Nat.le_refl _) (.cells #[.bool bb] 4)
  have e1 : (w5.alloc (.cells #[.int .i64 wh, .int .i64 tn] 119)).heap.size = w5.heap.size + 1 := by simp
  have e2 : ((w5.alloc (.cells #[.int .i64 wh, .int .i64 tn] 119)).alloc (.cells #[.bool bb] 4)).heap.size = w5.heap.size + 1 + 1 := by simp
  have r8 := (Row.new w5 119 [.int .i64 wh, .int .i64 tn]).below k2
  have r9 := Row.new (w5.alloc (.cells #[.int .i64 wh, .int .i64 tn] 119)) 4 [.bool bb]
  rw [e1] at r9
  have k12 := two_below' k1 k2
  generalize hw6 : (w5.alloc (.cells #[.int .i64 wh, .int .i64 tn] 119)).alloc (.cells #[.bool bb] 4) = w6 at *
  have k3 := fun ob => (Below.refl w6.heap.size w6).alloc (Nat.le_refl _) ob
  have k13 := fun ob => two_below' k12 (k3 ob)
  refine ⟨⟨_, _, _, _, _, _, _, rfl, ⟨(Q1.out.below (k13 _)).cell 0 (by simp), by rw [HC.out]; exact Q2.out.below (k13 _), (Q3.out.below (k13 _)).cell 0 (by simp), (Q4.out.below (k13 _)).cell 0 (by simp), r8.below (k3 _), (r9.below (k3 _)).cell 0 (by simp), ?_, (Q1.out.below (k13 _)).lt, (Q3.out.below (k13 _)).lt, (Q4.out.below (k13 _)).lt, (r9.below (k3 _)).lt⟩⟩, two_below' b5 (k13 _)⟩
  have := Row.new w6 124 [.func (.func 89) #[] #[.pointer (some ⟨w.heap.size + 1, 0, none⟩)],
    .func (.func 91) #[] #[.pointer (some ⟨w.heap.size + 1 + 1 + 1, 0, none⟩), .pointer (some ⟨w.heap.size + 1, 0, none⟩)],
    .func (.func 92) #[] #[.pointer (some ⟨w.heap.size + 1 + 1 + 1, 0, none⟩), .pointer (some ⟨w.heap.size + 1, 0, none⟩), .pointer (some ⟨w.heap.size, 0, none⟩), .pointer (some ⟨w.heap.size + 1 + 1, 0, none⟩)],
    .func (.func 93) #[] #[.pointer (some ⟨w.heap.size + 1 + 1 + 1, 0, none⟩), .pointer (some ⟨w5.heap.size + 1, 0, none⟩)],
    .func (.func 94) #[] #[.pointer (some ⟨w.heap.size + 1, 0, none⟩), .pointer (some ⟨w5.heap.size, 0, none⟩)],
    .func (.func 96) #[] #[.pointer (some ⟨w.heap.size + 1 + 1 + 1, 0, none⟩), .pointer (some ⟨w.heap.size + 1, 0, none⟩), .pointer (some ⟨w5.heap.size, 0, none⟩)]]
  rw [e2] at this
  exact this
end Go.Proofs.YtlapmdgkcidhnaaDoor
