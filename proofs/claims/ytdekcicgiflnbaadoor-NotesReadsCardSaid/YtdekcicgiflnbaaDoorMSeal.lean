/- Contracts of package seal and of the reference of layer 3. -/
import Derived.Test.YtdekcicgiflnbaaDoorMShaB
import Derived.Test.YtdekcicgiflnbaaDoorMShaC
import Derived.Laws.CopyRow
import Derived.StillTailTactics
import Derived.Deep.RegionHeld3
/- ---- SealKey ---- -/
namespace Go.Proofs.YtdekcicgiflnbaaDoor
open Go.RowKit
set_option linter.unusedVariables false
set_option linter.unusedSimpArgs false

set_option maxRecDepth 20000 in
theorem i24_any (R : List UInt8) (h : R.length ≤ 32) : (Tryd.prog.info? 23).map (·.size) = some (bRow R).size := by
  have i24 : (Tryd.prog.info? 23).map (·.size) = some 32 := by kernel_rfl
  rw [i24, bRow_size R h]
theorem bRow_same (R Q : List UInt8) (h : R.length ≤ 32) (hq : Q.length ≤ 32) : (bRow R).size = (bRow Q).size := by rw [bRow_size R h, bRow_size Q hq]
/-- what a hash and a number are told as -/
abbrev HN (R : List UInt8) (e : Int) : Value := .tuple #[.agg (bRow R), .int .i64 e]

set_option maxHeartbeats 1000000 in
set_option maxRecDepth 100000 in
theorem key_no (who : Int) (w : World) (h : who < 0 ∨ 64 < who) :
    Calls Tryd.prog 106 #[.int .i64 who] w fun e w' => e = .returned (HN Seal.hz 20) ∧ Below w.heap.size w w' := by
  rw [show HN Seal.hz 20 = HN [] 20 by unfold HN; rw [bRow_hz]]
  have I24 := Lib.hid (i24_any [] (by simp))
  rcases h with h | h
  all_goals
    go_enter Tryd.func106, Tryd.ntmps106
    go_wp2_with (refine wpList_store_named rfl 23 (.tmp 2) (.tmp 12) rfl w.heap.size (bRow []) rfl rfl (bRow []) (Holds.new2 rfl rfl) I24.out rfl (bRow_one _) ?_; intro w5 hw5; have Hw5 := Lib.hid hw5; clear hw5)
    have hR : Holds w5 w.heap.size (bRow []) := by rw [Hw5.out]; exact (Holds.new _ _ _).row _
    exact bodyPost_ret (results_row_tmp rfl _ _ w.heap.size (bRow []) _ rfl hR Tryd.underlying23 rfl I24.out _ rfl) rfl ⟨rfl, by rw [Hw5.out]; exact below_setRow ((Below.refl _ _).alloc (Nat.le_refl _) _) (Nat.le_refl _) _⟩

set_option maxHeartbeats 1000000 in
set_option maxRecDepth 100000 in
theorem key_yes (who : Int) (w : World) (hT : Tab w) (h0 : 0 ≤ who) (h1 : who ≤ 64) :
    Calls Tryd.prog 106 #[.int .i64 who] w fun e w' => e = .returned (HN (Seal.keyL who.toNat) 0) ∧ Below w.heap.size w w' := by
  have HT := Lib.hid hT
  have hpos := hT.pos
  obtain ⟨R, hR⟩ : ∃ R, R = Seal.keyL who.toNat := ⟨_, rfl⟩
  have hR32 : R.length ≤ 32 := by rw [hR, Seal.keyL_len]; omega
  have I24 := Lib.hid (i24_any R hR32)
  have Hold := Lib.hid (bRow_same [] R (by simp) hR32)
  have hnl : (Oct.num who.toNat).length ≤ 9 := Oct.num_length_le who.toNat
  rw [← hR]
  have HR := Lib.hid hR
  clear hT hR hR32
  go_enter Tryd.func106, Tryd.ntmps106
  go_wp2_with fail
  refine calls_named ?_
  intro w1 hw1
  have hH : Holds w1 w.heap.size (bRow []) := by rw [hw1]; exact Holds.new _ _ _
  have hb1 : Below w.heap.size w w1 := by rw [hw1]; exact (Below.refl _ _).alloc (Nat.le_refl _) _
  clear hw1
  refine (Number_pos _ _ h0 (by omega)).mono ?_
  rintro e w2 ⟨rfl, hb2⟩
  have hH2 := hH.below hb2 hH.lt
  have hb2 := hb1.trans (hb2.mono hb1.size)
  have HH2 := Lib.hid hH2
  clear hH hH2
  have hbig : ¬ (9223372036854775807 < 3 + (Oct.num who.toNat).length) := by omega
  go_wp2_with fail
  have hsz : ((⟨#[107, 101, 121]⟩ : ByteArray) ++ (⟨(Oct.num who.toNat).toArray⟩ : ByteArray)).size = 3 + (Oct.num who.toNat).length := by
    rw [ByteArray.size_append]; rfl
  have hdl : ((⟨#[107, 101, 121]⟩ : ByteArray) ++ (⟨(Oct.num who.toNat).toArray⟩ : ByteArray)).data.toList = [107, 101, 121] ++ Oct.num who.toNat := by rw [ByteArray.data_append]; simp
  refine (sum_any _ w2 (HT.out.below hb2 hpos) (by rw [hsz]; omega)).mono ?_
  rw [hdl, show Sha.sum ([107, 101, 121] ++ Oct.num who.toNat) = R from HR.out.symm]
  rintro e w3 ⟨rfl, hb3⟩
  have HH3 := Lib.hid (HH2.out.below hb3 HH2.out.lt)
  have hb3 := hb2.trans (hb3.mono hb2.size)
  clear hsz hdl
  go_wp2_with (refine wpList_store_named rfl 23 (.tmp 2) (.tmp 20) rfl w.heap.size (bRow R) rfl rfl _ HH3.out I24.out Hold.out (bRow_one _) ?_; intro w5 hw5; have Hw5 := Lib.hid hw5; clear hw5)
  have hR5 : Holds w5 w.heap.size (bRow R) := by rw [Hw5.out]; exact HH3.out.row _
  exact bodyPost_ret (results_row_tmp rfl _ _ w.heap.size (bRow R) _ rfl hR5 Tryd.underlying23 rfl I24.out _ rfl) rfl ⟨rfl, by rw [Hw5.out]; exact below_setRow hb3 (Nat.le_refl _) _⟩

set_option maxRecDepth 20000 in
theorem key_any (who : Int) (w : World) (hT : Tab w) :
    Calls Tryd.prog 106 #[.int .i64 who] w fun e w' => e = .returned (HN (Seal.key who).1 (Seal.key who).2) ∧ Below w.heap.size w w' := by
  unfold Seal.key
  by_cases h : who < 0 ∨ 64 < who
  · rw [if_pos h]; exact key_no who w h
  · rw [if_neg h]; exact key_yes who w hT (by omega) (by omega)

set_option maxHeartbeats 1000000 in
set_option maxRecDepth 100000 in
theorem refKey_no (who : Int) (w : World) (h : who < 0 ∨ 64 < who) :
    Calls Tryd.prog 108 #[.int .i64 who] w fun e w' => e = .returned (HN Seal.hz 20) ∧ Below w.heap.size w w' := by
  rw [show HN Seal.hz 20 = HN [] 20 by unfold HN; rw [bRow_hz]]
  have I24 := Lib.hid (i24_any [] (by simp))
  rcases h with h | h
  all_goals
    go_enter Tryd.func108, Tryd.ntmps108
    go_wp2_with (refine wpList_store_named rfl 23 (.tmp 2) (.tmp 10) rfl w.heap.size (bRow []) rfl rfl (bRow []) (Holds.new2 rfl rfl) I24.out rfl (bRow_one _) ?_; intro w5 hw5; have Hw5 := Lib.hid hw5; clear hw5)
    have hR : Holds w5 w.heap.size (bRow []) := by rw [Hw5.out]; exact (Holds.new _ _ _).row _
    exact bodyPost_ret (results_row_tmp rfl _ _ w.heap.size (bRow []) _ rfl hR Tryd.underlying23 rfl I24.out _ rfl) rfl ⟨rfl, by rw [Hw5.out]; exact below_setRow ((Below.refl _ _).alloc (Nat.le_refl _) _) (Nat.le_refl _) _⟩

set_option maxHeartbeats 1000000 in
set_option maxRecDepth 100000 in
theorem refKey_zero (hRS : RefSum) (w : World) :
    Calls Tryd.prog 108 #[.int .i64 0] w fun e w' => e = .returned (HN (Seal.keyL 0) 0) ∧ Below w.heap.size w w' := by
  obtain ⟨R, hR⟩ : ∃ R, R = Seal.keyL 0 := ⟨_, rfl⟩
  have hR32 : R.length ≤ 32 := by rw [hR, Seal.keyL_len]; omega
  have I24 := Lib.hid (i24_any R hR32)
  have Hold := Lib.hid (bRow_same [] R (by simp) hR32)
  rw [← hR]
  rw [Seal.keyL_zero] at hR
  have HR := Lib.hid hR
  have HRS := Lib.hid hRS
  clear hR hR32 hRS
  go_enter Tryd.func108, Tryd.ntmps108
  go_wp2_with fail
  refine calls_named ?_
  intro w1 hw1
  have hH : Holds w1 w.heap.size (bRow []) := by rw [hw1]; exact Holds.new _ _ _
  have hb1 : Below w.heap.size w w1 := by rw [hw1]; exact (Below.refl _ _).alloc (Nat.le_refl _) _
  clear hw1
  have hc := HRS.out ⟨#[107, 101, 121, 0]⟩ w1 (by decide)
  change Calls _ _ _ _ (fun e w' => e = .returned (.agg (bRow (Sha.sum [107, 101, 121, 0]))) ∧ _) at hc
  rw [← HR.out] at hc
  refine hc.mono ?_
  rintro e w3 ⟨rfl, hb3⟩
  have HH3 := Lib.hid (hH.below hb3 hH.lt)
  have hb3 := hb1.trans (hb3.mono hb1.size)
  clear hc hH
  go_wp2_with (refine wpList_store_named rfl 23 (.tmp 2) (.tmp 13) rfl w.heap.size (bRow R) rfl rfl _ HH3.out I24.out Hold.out (bRow_one _) ?_; intro w5 hw5; have Hw5 := Lib.hid hw5; clear hw5)
  have hR5 : Holds w5 w.heap.size (bRow R) := by rw [Hw5.out]; exact HH3.out.row _
  exact bodyPost_ret (results_row_tmp rfl _ _ w.heap.size (bRow R) _ rfl hR5 Tryd.underlying23 rfl I24.out _ rfl) rfl ⟨rfl, by rw [Hw5.out]; exact below_setRow hb3 (Nat.le_refl _) _⟩

set_option maxRecDepth 20000 in
theorem one_byte_ (T : TypeId) (W : World) (x : Int) : (convert 81 9 (.slice (some ⟨W.heap.size, 0, none⟩) 1 1)).run Tryd.prog (W.alloc (.cells #[.int .u8 x] T)) = .ok (S [UInt8.ofNat x.toNat]) (W.alloc (.cells #[.int .u8 x] T)) := by
  have := run_convert_bytes_arg (P := Tryd.prog) (W.alloc (.cells #[.int .u8 x] T)) 81 5 Tryd.underlying81 Tryd.underlying5 W.heap.size 0 1 1 [x] rfl (fun i hi => by
    obtain rfl : i = 0 := by omega
    simp [go_sem]) 9 Tryd.underlying9
  exact this
set_option maxHeartbeats 1000000 in
set_option maxRecDepth 100000 in
theorem refKey_pos (hRS : RefSum) (who : Int) (w : World) (h0 : 0 < who) (h1 : who ≤ 64) :
    Calls Tryd.prog 108 #[.int .i64 who] w fun e w' => e = .returned (HN (Seal.keyL who.toNat) 0) ∧ Below w.heap.size w w' := by
  obtain ⟨R, hR⟩ : ∃ R, R = Seal.keyL who.toNat := ⟨_, rfl⟩
  have hR32 : R.length ≤ 32 := by rw [hR, Seal.keyL_len]; omega
  have I24 := Lib.hid (i24_any R hR32)
  have Hold := Lib.hid (bRow_same [] R (by simp) hR32)
  rw [← hR]
  rw [Seal.keyL_pos who.toNat (by omega) (by omega)] at hR
  have HR := Lib.hid hR
  have HRS := Lib.hid hRS
  have hne : (who == 0) = false := by simp only [beq_eq_false_iff_ne]; omega
  clear hR hR32 hRS
  go_enter Tryd.func108, Tryd.ntmps108
  have hcv : ∀ (X : Obj) (T : TypeId), (convert 81 9 (.slice (some ⟨w.heap.size + 1, 0, none⟩) 1 1)).run Tryd.prog ((w.alloc X).alloc (.cells #[.int .u8 who] T)) = .ok (S [UInt8.ofNat who.toNat]) ((w.alloc X).alloc (.cells #[.int .u8 who] T)) := by
    intro X T
    have := one_byte_ T (w.alloc X) who
    rwa [show (w.alloc X).heap.size = w.heap.size + 1 from by simp] at this
  go_wp2_with fail
  clear hcv
  refine calls_named ?_
  intro w1 hw1
  have hH : Holds w1 w.heap.size (bRow []) := by rw [hw1]; exact (Holds.new2 rfl rfl).alloc _
  have hb1 : Below w.heap.size w w1 := by rw [hw1]; exact ((Below.refl _ _).alloc (Nat.le_refl _) _).alloc (by simp) _
  clear hw1
  have hc := HRS.out ⟨#[107, 101, 121, 1, UInt8.ofNat who.toNat]⟩ w1 (by show 5 ≤ _; decide)
  change Calls _ _ _ _ (fun e w' => e = .returned (.agg (bRow (Sha.sum [107, 101, 121, 1, UInt8.ofNat who.toNat]))) ∧ _) at hc
  rw [← HR.out] at hc
  refine hc.mono ?_
  rintro e w3 ⟨rfl, hb3⟩
  have HH3 := Lib.hid (hH.below hb3 hH.lt)
  have hb3 := hb1.trans (hb3.mono hb1.size)
  clear hc hH
  go_wp2_with (refine wpList_store_named rfl 23 (.tmp 2) (.tmp 19) rfl w.heap.size (bRow R) rfl rfl _ HH3.out I24.out Hold.out (bRow_one _) ?_; intro w5 hw5; have Hw5 := Lib.hid hw5; clear hw5)
  have hR5 : Holds w5 w.heap.size (bRow R) := by rw [Hw5.out]; exact HH3.out.row _
  exact bodyPost_ret (results_row_tmp rfl _ _ w.heap.size (bRow R) _ rfl hR5 Tryd.underlying23 rfl I24.out _ rfl) rfl ⟨rfl, by rw [Hw5.out]; exact below_setRow hb3 (Nat.le_refl _) _⟩

set_option maxRecDepth 20000 in
theorem refKey_any (hRS : RefSum) (who : Int) (w : World) :
    Calls Tryd.prog 108 #[.int .i64 who] w fun e w' => e = .returned (HN (Seal.key who).1 (Seal.key who).2) ∧ Below w.heap.size w w' := by
  unfold Seal.key
  by_cases h : who < 0 ∨ 64 < who
  · rw [if_pos h]; exact refKey_no who w h
  · rw [if_neg h]
    by_cases h0 : who = 0
    · subst h0; rw [show (0 : Int).toNat = 0 from rfl]; exact refKey_zero hRS w
    · exact refKey_pos hRS who w (by omega) (by omega)
end Go.Proofs.YtdekcicgiflnbaaDoor

/- ---- SealTag ---- -/
namespace Go.Proofs.YtdekcicgiflnbaaDoor
open Go.RowKit
set_option linter.unusedVariables false
set_option linter.unusedSimpArgs false

/-- one row copied onto another one's head; the world behind it by a name -/
theorem wpList_copy_rows {P : Program} {w : World} {ops : Array Oper} {rest : List Oper} {o : Oper} {a : Act} {Q : Exit → Act → World → Prop} (hgd : o.guard = none) (d s : Operand) (dT sT elem : TypeId)
    (ho : o.op = .call { callee := .builtin .copy, args := #[d, s], argTypes := #[dT, sT] }) (hu : P.underlying dT = some (.slice elem)) (hz : (P.info? elem).map (·.size) = some 1)
    (g gs dLen dCap sLen sCap : Nat) (cur : Array Value) (cs : List Value) (hd : a.eval d = .slice (some ⟨g, 0, none⟩) dLen dCap) (hs : a.eval s = .slice (some ⟨gs, 0, none⟩) sLen sCap)
    (hg : Holds w g cur) (hgs : Holds w gs cs.toArray) (hn : cs.length = Nat.min sLen dLen) (hfit : cs.length ≤ cur.size) (h1 : ∀ v ∈ cs, v.oneCell' = true)
    (h : ∀ w', w' = w.setRow g (cs ++ cur.toList.drop cs.length).toArray → wpList P ops Q rest (a.put o.dst (goInt cs.length)) w') : wpList P ops Q (o :: rest) a w := by
  obtain ⟨T, hT⟩ := hg
  have hr := run_copy_row (P := P) w dT sT o.type elem g 0 dLen dCap ⟨gs, 0, none⟩ sLen sCap cur T cs hu hz hT hn (fun j v hj => by
    have e : (⟨gs, 0, none⟩ : Addr).add j = ⟨gs, j, none⟩ := by unfold Addr.add; split <;> simp_all
    rw [e, hgs.cell j]; simpa using hj) (by simpa using hfit) h1
  refine wpList_plain hgd fun K hK => ?_
  unfold Oper.wp execOp
  simp only [ho, resolve, invoke, builtin, Sem.run_bind, Sem.run_pure, Result.andThen_ok, List.map_toArray, List.map_cons, List.map_nil, hd, hs, hr]
  refine hK _ _ (h _ ?_)
  simp
set_option maxRecDepth 20000 in
/-- bytes of a row as a text -/
theorem row_text (W : World) (g n : Nat) (h : List UInt8) (hh : h.length = n) (hg : Holds W g (yRow h)) :
    (Go.convert 81 9 (.slice (some ⟨g, 0, none⟩) n n)).run Tryd.prog W = .ok (S h) W := by
  have := run_convert_bytes_arg (P := Tryd.prog) W 81 5 Tryd.underlying81 Tryd.underlying5 g 0 n n (h.map fun b => (b.toNat : Int)) (by rw [List.length_map, hh]) (fun i hi => by
    rw [Nat.zero_add, hg.cell i]
    exact yRow_at h i (by omega)) 9 Tryd.underlying9
  rw [bytes_of_] at this
  exact this
theorem yRow_one (l : List UInt8) : ∀ v ∈ (yRow l).toList, v.oneCell' = true := by unfold yRow; simp [Value.oneCell']
theorem yRow_toList (l : List UInt8) : (yRow l).toList.toArray = yRow l := by simp
set_option maxHeartbeats 1000000 in
set_option maxRecDepth 100000 in
theorem tag_any (k : List UInt8) (dom : Int) (body : ByteArray) (w : World) (hT : Tab w) (hk : k.length = 32) (h0 : 0 ≤ dom) (h1 : dom ≤ 255) (hs : body.size ≤ 1152921504606846900) :
    Calls Tryd.prog 107 #[.agg (bRow k), .int .u8 dom, .string body] w fun e w' => e = .returned (.agg (bRow (Seal.tagL k dom.toNat body.data.toList))) ∧ Below w.heap.size w w' := by
  have HT := Lib.hid hT
  have hpos := hT.pos
  obtain ⟨R, hR⟩ : ∃ R, R = Seal.tagL k dom.toNat body.data.toList := ⟨_, rfl⟩
  have hR32 : R.length ≤ 32 := by rw [hR, Seal.tagL_len]; omega
  have I24 := Lib.hid (i24_any R hR32)
  have Hold := Lib.hid (bRow_same [] R (by simp) hR32)
  have I5 : Hid ((Tryd.prog.info? 5).map (·.size) = some 1) := (by kernel_rfl : (Tryd.prog.info? 5).map (·.size) = some 1)
  rw [← hR]
  have HR := Lib.hid hR
  have HK := Lib.hid hk
  obtain ⟨hd, hhd⟩ : ∃ hd, hd = k ++ [UInt8.ofNat dom.toNat] := ⟨_, rfl⟩
  have hhl : hd.length = 33 := by rw [hhd]; simp [hk]
  have HD := Lib.hid hhd
  have HL := Lib.hid hhl
  clear hT hR hR32 hk hhd
  go_enter Tryd.func107, Tryd.ntmps107
  go_wp2_with fail
  refine region_tail 2 (by kernel_rfl) (by kernel_rfl) ?_
  intro wd hwd
  have k0 : Holds wd w.heap.size (yRow k) := by rw [hwd, ← bRow_yRow k HK.out]; exact ((Holds.new2 rfl rfl).alloc _).alloc _
  have k1 : Holds wd (w.heap.size + 1) (bRow []) := by rw [hwd]; exact (Holds.new2 (by simp) rfl).alloc _
  have k2 : Holds wd (w.heap.size + 1 + 1) (yRow (List.replicate 33 0)) := by rw [hwd]; exact Holds.new2 (by simp) rfl
  have kb : Below w.heap.size w wd := by rw [hwd]; exact ((((Below.refl _ _).alloc (Nat.le_refl _) _).alloc (by simp) _).alloc (by simp; omega) _).drew
  clear hwd
  simp only [List.take_succ_cons, List.take_zero, List.drop_succ_cons, List.drop_zero]
  repeat still_step
  refine wpStill_nil ?_
  have hkl := HK.out
  refine wpList_copy_rows rfl (.tmp 8) (.tmp 9) _ _ 5 rfl Tryd.underlying81 I5.out (w.heap.size + 1 + 1) w.heap.size 33 33 32 32 (yRow (List.replicate 33 0)) (yRow k).toList rfl rfl k2 (by rw [yRow_toList]; exact k0)
    (by rw [Array.length_toList, yRow_size, hkl]; rfl) (by rw [Array.length_toList, yRow_size, yRow_size, hkl, List.length_replicate]; omega) (yRow_one k) ?_
  intro w4 hw4
  have c2 : Holds w4 (w.heap.size + 1 + 1) (yRow (k ++ [0])) := by
    rw [hw4]
    have := k2.row ((yRow k).toList ++ (yRow (List.replicate 33 0)).toList.drop (yRow k).toList.length).toArray
    have e : ((yRow k).toList ++ (yRow (List.replicate 33 0)).toList.drop (yRow k).toList.length).toArray = yRow (k ++ [0]) := by
      rw [Array.length_toList, yRow_size, hkl]
      unfold yRow
      simp
    rw [e] at this ⊢
    exact this
  have c1 : Holds w4 (w.heap.size + 1) (bRow []) := by rw [hw4]; exact k1.rowFar (by omega) _
  have cb : Below w.heap.size w w4 := by rw [hw4]; exact below_setRow kb (by omega) _
  have q := c2.cell 32
  have qf := c2.free 32
  have hd0 : (yRow (k ++ [0]))[32]? = some (.int .u8 0) := by
    rw [yRow_at _ 32 (by simp [hkl])]
    simp [List.getD, hkl]
  rw [hd0] at q
  have c3 := c2.set_ 32 (.int .u8 dom)
  have hset : (yRow (k ++ [0])).setIfInBounds 32 (.int .u8 dom) = yRow hd := by
    have := yRow_set k [] 0 (UInt8.ofNat dom.toNat) dom (by rw [UInt8.toNat_ofNat']; omega)
    rw [hkl] at this
    rw [this, HD.out]
  rw [hset] at c3
  have c1s := Lib.hid (c1.far (p := ⟨w.heap.size + 1 + 1, 32, none⟩) (show w.heap.size + 1 ≠ w.heap.size + 1 + 1 by omega) (Value.int .u8 dom))
  have cbs := cb.setCell (p := ⟨w.heap.size + 1 + 1, 32, none⟩) (show w.heap.size ≤ w.heap.size + 1 + 1 by omega) (Value.int .u8 dom)
  have C3 := Lib.hid c3
  clear hw4 k0 k1 k2 kb c2 c1 cb hd0 hset c3 hkl
  go_wp2_with fail
  rw [row_text _ _ 33 hd HL.out C3.out]
  have hlen := HL.out
  have hbig : ¬ (9223372036854775807 < hd.length + body.size) := by omega
  clear hlen
  go_wp2_with fail
  have hsz : ((⟨hd.toArray⟩ : ByteArray) ++ body).size = 33 + body.size := by rw [ByteArray.size_append, ← HL.out]; rfl
  have hdl : ((⟨hd.toArray⟩ : ByteArray) ++ body).data.toList = hd ++ body.data.toList := by rw [ByteArray.data_append]; simp
  refine calls_named ?_
  intro w5 hw5
  have c1s := (show Holds w5 (w.heap.size + 1) (bRow []) by rw [hw5]; exact c1s.out)
  have cbs := (show Below w.heap.size w w5 by rw [hw5]; exact cbs)
  clear hw5
  refine (sum_any _ w5 (HT.out.below cbs hpos) (by rw [hsz]; omega)).mono ?_
  rw [hdl, show Sha.sum (hd ++ body.data.toList) = R by rw [HR.out, HD.out]; unfold Seal.tagL; rw [List.append_assoc]; rfl]
  rintro e w6 ⟨rfl, hb6⟩
  have HH6 := Lib.hid (c1s.below hb6 c1s.lt)
  have hb6 := cbs.trans (hb6.mono cbs.size)
  clear hsz hdl c1s cbs
  go_wp2_with (refine wpList_store_named rfl 23 (.tmp 6) (.tmp 17) rfl (w.heap.size + 1) (bRow R) rfl rfl _ HH6.out I24.out Hold.out (bRow_one _) ?_; intro w7 hw7; have Hw7 := Lib.hid hw7; clear hw7)
  obtain ⟨T5, hT5⟩ := (show Holds w7 (w.heap.size + 1) (bRow R) from by rw [Hw7.out]; exact HH6.out.row _)
  exact bodyPost_ret (results_cell_row rfl _ _ (w.heap.size + 1) T5 _ (0, 0) _ rfl hT5 Tryd.underlying23 rfl I24.out) rfl ⟨rfl, by rw [Hw7.out]; exact below_setRow hb6 (by omega) _⟩
end Go.Proofs.YtdekcicgiflnbaaDoor

/- ---- SealTag2 ---- -/
namespace Go.Proofs.YtdekcicgiflnbaaDoor
open Go.RowKit
set_option linter.unusedVariables false
set_option linter.unusedSimpArgs false

theorem HN_hz (e : Int) : HN Seal.hz e = HN [] e := by unfold HN; rw [bRow_hz]

set_option maxHeartbeats 1000000 in
set_option maxRecDepth 100000 in
theorem Tag_who (who dom : Int) (body : ByteArray) (w : World) (h : who < 0 ∨ 64 < who) :
    Calls Tryd.prog 66 #[.int .i64 who, .int .i64 dom, .string body] w fun e w' => e = .returned (HN Seal.hz 20) ∧ Below w.heap.size w w' := by
  have I24 := Lib.hid (i24_any [] (by simp))
  rw [HN_hz]
  go_enter Tryd.func66, Tryd.ntmps66
  go_wp2_with fail
  refine calls_named ?_
  intro w1 hw1
  have hH : Holds w1 w.heap.size (bRow []) := by rw [hw1]; exact Holds.new _ _ _
  have hb1 : Below w.heap.size w w1 := by rw [hw1]; exact (Below.refl _ _).alloc (Nat.le_refl _) _
  clear hw1
  have hk := key_no who w1 h
  rw [HN_hz] at hk
  refine hk.mono ?_
  rintro e w2 ⟨rfl, hb2⟩
  have HH2 := Lib.hid (hH.below hb2 hH.lt)
  have hb2 := hb1.trans (hb2.mono hb1.size)
  clear hk hH
  go_wp2_with (first
    | (refine wpList_store_named rfl 23 (.tmp 8) (.tmp 13) rfl w2.heap.size (bRow []) rfl rfl (bRow []) (Holds.new2 rfl rfl) I24.out rfl (bRow_one _) ?_; intro w5 hw5
       have H5 := Lib.hid (show Holds w5 w.heap.size (bRow []) by rw [hw5]; exact (HH2.out.alloc _).rowFar (by have := HH2.out.lt; omega) _)
       have hb5 := (show Below w.heap.size w w5 by rw [hw5]; exact below_setRow (hb2.alloc hb2.size _) hb2.size _)
       clear hw5)
    | (refine wpList_store_named rfl 23 (.tmp 6) (.tmp 17) rfl w.heap.size (bRow []) rfl rfl (bRow []) H5.out I24.out rfl (bRow_one _) ?_; intro w7 hw7; have Hw7 := Lib.hid hw7; clear hw7))
  have hR7 : Holds w7 w.heap.size (bRow []) := by rw [Hw7.out]; exact H5.out.row _
  exact bodyPost_ret (results_row_tmp rfl _ _ w.heap.size (bRow []) _ rfl hR7 Tryd.underlying23 rfl I24.out _ rfl) rfl ⟨rfl, by rw [Hw7.out]; exact below_setRow hb5 (Nat.le_refl _) _⟩

set_option maxHeartbeats 1000000 in
set_option maxRecDepth 100000 in
theorem Tag_dom (who dom : Int) (body : ByteArray) (w : World) (h0 : 0 ≤ who) (h1 : who ≤ 64) (hT : Tab w) (h : dom < 1 ∨ 4 < dom) :
    Calls Tryd.prog 66 #[.int .i64 who, .int .i64 dom, .string body] w fun e w' => e = .returned (HN Seal.hz 2) ∧ Below w.heap.size w w' := by
  obtain ⟨K, hK⟩ : ∃ K, K = Seal.keyL who.toNat := ⟨_, rfl⟩
  have hK32 : K.length ≤ 32 := by rw [hK, Seal.keyL_len]; omega
  have I24 := Lib.hid (i24_any [] (by simp))
  have I24k := Lib.hid (i24_any K hK32)
  have Hold := Lib.hid (bRow_same [] K (by simp) hK32)
  have key := fun (w1 : World) (hb1 : Below w.heap.size w w1) => key_yes who w1 (hT.below hb1 hT.pos) h0 h1
  rw [← hK] at key
  have KEY := Lib.hid key
  rw [HN_hz]
  clear hK hK32 key hT
  rcases h with h | h
  all_goals
    go_enter Tryd.func66, Tryd.ntmps66
    go_wp2_with fail
    refine calls_named ?_
    intro w1 hw1
    have hH : Holds w1 w.heap.size (bRow []) := by rw [hw1]; exact Holds.new _ _ _
    have hb1 : Below w.heap.size w w1 := by rw [hw1]; exact (Below.refl _ _).alloc (Nat.le_refl _) _
    clear hw1
    refine (KEY.out w1 hb1).mono ?_
    rintro e w2 ⟨rfl, hb2⟩
    have HH2 := Lib.hid (hH.below hb2 hH.lt)
    have hb2 := hb1.trans (hb2.mono hb1.size)
    clear hH
    go_wp2_with (first
      | (refine wpList_store_named rfl 23 (.tmp 8) (.tmp 13) rfl w2.heap.size (bRow K) rfl rfl (bRow []) (Holds.new2 rfl rfl) I24k.out Hold.out (bRow_one _) ?_; intro w5 hw5
         have H5 := Lib.hid (show Holds w5 w.heap.size (bRow []) by rw [hw5]; exact (HH2.out.alloc _).rowFar (by have := HH2.out.lt; omega) _)
         have hb5 := (show Below w.heap.size w w5 by rw [hw5]; exact below_setRow (hb2.alloc hb2.size _) hb2.size _)
         clear hw5)
      | (refine wpList_store_named rfl 23 (.tmp 6) (.tmp 25) rfl w.heap.size (bRow []) rfl rfl (bRow []) H5.out I24.out rfl (bRow_one _) ?_; intro w7 hw7; have Hw7 := Lib.hid hw7; clear hw7))
    have hR7 : Holds w7 w.heap.size (bRow []) := by rw [Hw7.out]; exact H5.out.row _
    exact bodyPost_ret (results_row_tmp rfl _ _ w.heap.size (bRow []) _ rfl hR7 Tryd.underlying23 rfl I24.out _ rfl) rfl ⟨rfl, by rw [Hw7.out]; exact below_setRow hb5 (Nat.le_refl _) _⟩

set_option maxHeartbeats 1000000 in
set_option maxRecDepth 100000 in
theorem Tag_yes (who dom : Int) (body : ByteArray) (w : World) (hT : Tab w) (h0 : 0 ≤ who) (h1 : who ≤ 64) (h2 : 1 ≤ dom) (h3 : dom ≤ 4) (hs : body.size ≤ 1152921504606846900) :
    Calls Tryd.prog 66 #[.int .i64 who, .int .i64 dom, .string body] w fun e w' => e = .returned (HN (Seal.tagL (Seal.keyL who.toNat) dom.toNat body.data.toList) 0) ∧ Below w.heap.size w w' := by
  have HT := Lib.hid hT
  have hpos := hT.pos
  obtain ⟨K, hK⟩ : ∃ K, K = Seal.keyL who.toNat := ⟨_, rfl⟩
  have hK32 : K.length ≤ 32 := by rw [hK, Seal.keyL_len]; omega
  have hKl : K.length = 32 := by rw [hK, Seal.keyL_len]
  have I24k := Lib.hid (i24_any K hK32)
  have Hold := Lib.hid (bRow_same [] K (by simp) hK32)
  have key := fun (w1 : World) (hb1 : Below w.heap.size w w1) => key_yes who w1 (hT.below hb1 hT.pos) h0 h1
  rw [← hK] at key
  have KEY := Lib.hid key
  have HKl := Lib.hid hKl
  rw [← hK]
  clear hK hK32 key hT hKl
  obtain ⟨R, hR⟩ : ∃ R, R = Seal.tagL K dom.toNat body.data.toList := ⟨_, rfl⟩
  have hR32 : R.length ≤ 32 := by rw [hR, Seal.tagL_len]; omega
  have I24 := Lib.hid (i24_any R hR32)
  have HoldR := Lib.hid (bRow_same [] R (by simp) hR32)
  have hut : IntKind.u8.wrap dom = dom := by rw [IntKind.wrap_u8]; omega
  rw [← hR]
  have HR := Lib.hid hR
  clear hR hR32
  go_enter Tryd.func66, Tryd.ntmps66
  go_wp2_with fail
  refine calls_named ?_
  intro w1 hw1
  have hH : Holds w1 w.heap.size (bRow []) := by rw [hw1]; exact Holds.new _ _ _
  have hb1 : Below w.heap.size w w1 := by rw [hw1]; exact (Below.refl _ _).alloc (Nat.le_refl _) _
  clear hw1
  refine (KEY.out w1 hb1).mono ?_
  rintro e w2 ⟨rfl, hb2⟩
  have HH2 := Lib.hid (hH.below hb2 hH.lt)
  have hb2 := hb1.trans (hb2.mono hb1.size)
  clear hH
  go_wp2_with (first
    | (refine wpList_store_named rfl 23 (.tmp 8) (.tmp 13) rfl w2.heap.size (bRow K) rfl rfl (bRow []) (Holds.new2 rfl rfl) I24k.out Hold.out (bRow_one _) ?_; intro w5 hw5
       have H5 := Lib.hid (show Holds w5 w.heap.size (bRow []) by rw [hw5]; exact (HH2.out.alloc _).rowFar (by have := HH2.out.lt; omega) _)
       have hb5 := (show Below w.heap.size w w5 by rw [hw5]; exact below_setRow (hb2.alloc hb2.size _) hb2.size _)
       obtain ⟨T5, hT5⟩ := (show Holds w5 w2.heap.size (bRow K) by rw [hw5]; exact (Holds.new2 rfl rfl).row _)
       have G5 := Lib.hid hT5
       clear hw5 hT5)
    | (refine wpList_load_row rfl 23 (.tmp 8) rfl w2.heap.size rfl T5 _ (0, 0) _ G5.out Tryd.underlying23 rfl I24k.out ?_))
  refine (tag_any K dom body w5 (HT.out.below hb5 hpos) HKl.out (by omega) (by omega) hs).mono ?_
  rw [← HR.out]
  rintro e w6 ⟨rfl, hb6⟩
  have H6 := Lib.hid (H5.out.below hb6 H5.out.lt)
  have hb6 := hb5.trans (hb6.mono hb5.size)
  go_wp2_with (refine wpList_store_named rfl 23 (.tmp 6) (.tmp 30) rfl w.heap.size (bRow R) rfl rfl (bRow []) H6.out I24.out HoldR.out (bRow_one _) ?_; intro w7 hw7; have Hw7 := Lib.hid hw7; clear hw7)
  have hR7 : Holds w7 w.heap.size (bRow R) := by rw [Hw7.out]; exact H6.out.row _
  exact bodyPost_ret (results_row_tmp rfl _ _ w.heap.size (bRow R) _ rfl hR7 Tryd.underlying23 rfl I24.out _ rfl) rfl ⟨rfl, by rw [Hw7.out]; exact below_setRow hb6 (Nat.le_refl _) _⟩
set_option maxRecDepth 20000 in
theorem Tag_any (who dom : Int) (body : ByteArray) (w : World) (hT : Tab w) (hs : body.size ≤ 1152921504606846900) :
    Calls Tryd.prog 66 #[.int .i64 who, .int .i64 dom, .string body] w fun e w' => e = .returned (HN (Seal.tag who dom body.data.toList).1 (Seal.tag who dom body.data.toList).2) ∧ Below w.heap.size w w' := by
  unfold Seal.tag
  by_cases h : who < 0 ∨ 64 < who
  · rw [if_pos h]; exact Tag_who who dom body w h
  · rw [if_neg h]
    by_cases h2 : dom < 1 ∨ 4 < dom
    · rw [if_pos h2]; exact Tag_dom who dom body w (by omega) (by omega) hT h2
    · rw [if_neg h2]; exact Tag_yes who dom body w hT (by omega) (by omega) (by omega) (by omega) hs
end Go.Proofs.YtdekcicgiflnbaaDoor

/- ---- SealTag3 ---- -/
namespace Go.Proofs.YtdekcicgiflnbaaDoor
open Go.RowKit
set_option linter.unusedVariables false
set_option linter.unusedSimpArgs false

set_option maxHeartbeats 1000000 in
set_option maxRecDepth 100000 in
theorem refTag_who (who dom : Int) (body : ByteArray) (w : World) (h : who < 0 ∨ 64 < who) :
    Calls Tryd.prog 67 #[.int .i64 who, .int .i64 dom, .string body] w fun e w' => e = .returned (HN Seal.hz 20) ∧ Below w.heap.size w w' := by
  have I24 := Lib.hid (i24_any [] (by simp))
  rw [HN_hz]
  go_enter Tryd.func67, Tryd.ntmps67
  go_wp2_with fail
  refine calls_named ?_
  intro w1 hw1
  have hH : Holds w1 w.heap.size (bRow []) := by rw [hw1]; exact Holds.new _ _ _
  have hb1 : Below w.heap.size w w1 := by rw [hw1]; exact (Below.refl _ _).alloc (Nat.le_refl _) _
  clear hw1
  have hk := refKey_no who w1 h
  rw [HN_hz] at hk
  refine hk.mono ?_
  rintro e w2 ⟨rfl, hb2⟩
  have HH2 := Lib.hid (hH.below hb2 hH.lt)
  have hb2 := hb1.trans (hb2.mono hb1.size)
  clear hk hH
  go_wp2_with (first
    | (refine wpList_store_named rfl 23 (.tmp 8) (.tmp 13) rfl w2.heap.size (bRow []) rfl rfl (bRow []) (Holds.new2 rfl rfl) I24.out rfl (bRow_one _) ?_; intro w5 hw5
       have H5 := Lib.hid (show Holds w5 w.heap.size (bRow []) by rw [hw5]; exact (HH2.out.alloc _).rowFar (by have := HH2.out.lt; omega) _)
       have hb5 := (show Below w.heap.size w w5 by rw [hw5]; exact below_setRow (hb2.alloc hb2.size _) hb2.size _)
       clear hw5)
    | (refine wpList_store_named rfl 23 (.tmp 6) (.tmp 17) rfl w.heap.size (bRow []) rfl rfl (bRow []) H5.out I24.out rfl (bRow_one _) ?_; intro w7 hw7; have Hw7 := Lib.hid hw7; clear hw7))
  have hR7 : Holds w7 w.heap.size (bRow []) := by rw [Hw7.out]; exact H5.out.row _
  exact bodyPost_ret (results_row_tmp rfl _ _ w.heap.size (bRow []) _ rfl hR7 Tryd.underlying23 rfl I24.out _ rfl) rfl ⟨rfl, by rw [Hw7.out]; exact below_setRow hb5 (Nat.le_refl _) _⟩

set_option maxRecDepth 20000 in
theorem refKey_any_ (hRS : RefSum) (who : Int) (w : World) (h0 : 0 ≤ who) (h1 : who ≤ 64) :
    Calls Tryd.prog 108 #[.int .i64 who] w fun e w' => e = .returned (HN (Seal.keyL who.toNat) 0) ∧ Below w.heap.size w w' := by
  have h := refKey_any hRS who w
  unfold Seal.key at h
  rw [if_neg (by omega)] at h
  exact h
set_option maxHeartbeats 1000000 in
set_option maxRecDepth 100000 in
theorem refTag_dom (hRS : RefSum) (who dom : Int) (body : ByteArray) (w : World) (h0 : 0 ≤ who) (h1 : who ≤ 64) (h : dom < 1 ∨ 4 < dom) :
    Calls Tryd.prog 67 #[.int .i64 who, .int .i64 dom, .string body] w fun e w' => e = .returned (HN Seal.hz 2) ∧ Below w.heap.size w w' := by
  obtain ⟨K, hK⟩ : ∃ K, K = Seal.keyL who.toNat := ⟨_, rfl⟩
  have hK32 : K.length ≤ 32 := by rw [hK, Seal.keyL_len]; omega
  have I24 := Lib.hid (i24_any [] (by simp))
  have I24k := Lib.hid (i24_any K hK32)
  have Hold := Lib.hid (bRow_same [] K (by simp) hK32)
  have key := fun (w1 : World) (hb1 : Below w.heap.size w w1) => refKey_any_ hRS who w1 h0 h1
  rw [← hK] at key
  have KEY := Lib.hid key
  rw [HN_hz]
  clear hK hK32 key hRS
  rcases h with h | h
  all_goals
    go_enter Tryd.func67, Tryd.ntmps67
    go_wp2_with fail
    refine calls_named ?_
    intro w1 hw1
    have hH : Holds w1 w.heap.size (bRow []) := by rw [hw1]; exact Holds.new _ _ _
    have hb1 : Below w.heap.size w w1 := by rw [hw1]; exact (Below.refl _ _).alloc (Nat.le_refl _) _
    clear hw1
    refine (KEY.out w1 hb1).mono ?_
    rintro e w2 ⟨rfl, hb2⟩
    have HH2 := Lib.hid (hH.below hb2 hH.lt)
    have hb2 := hb1.trans (hb2.mono hb1.size)
    clear hH
    go_wp2_with (first
      | (refine wpList_store_named rfl 23 (.tmp 8) (.tmp 13) rfl w2.heap.size (bRow K) rfl rfl (bRow []) (Holds.new2 rfl rfl) I24k.out Hold.out (bRow_one _) ?_; intro w5 hw5
         have H5 := Lib.hid (show Holds w5 w.heap.size (bRow []) by rw [hw5]; exact (HH2.out.alloc _).rowFar (by have := HH2.out.lt; omega) _)
         have hb5 := (show Below w.heap.size w w5 by rw [hw5]; exact below_setRow (hb2.alloc hb2.size _) hb2.size _)
         clear hw5)
      | (refine wpList_store_named rfl 23 (.tmp 6) (.tmp 25) rfl w.heap.size (bRow []) rfl rfl (bRow []) H5.out I24.out rfl (bRow_one _) ?_; intro w7 hw7; have Hw7 := Lib.hid hw7; clear hw7))
    have hR7 : Holds w7 w.heap.size (bRow []) := by rw [Hw7.out]; exact H5.out.row _
    exact bodyPost_ret (results_row_tmp rfl _ _ w.heap.size (bRow []) _ rfl hR7 Tryd.underlying23 rfl I24.out _ rfl) rfl ⟨rfl, by rw [Hw7.out]; exact below_setRow hb5 (Nat.le_refl _) _⟩

set_option maxRecDepth 20000 in
theorem one_byte_run (W : World) (g : Nat) (x : Int) (h : W.cell? ⟨g, 0, none⟩ = some (.int .u8 x)) : (convert 81 9 (.slice (some ⟨g, 0, none⟩) 1 1)).run Tryd.prog W = .ok (S [UInt8.ofNat x.toNat]) W := by
  have := run_convert_bytes_arg (P := Tryd.prog) W 81 5 Tryd.underlying81 Tryd.underlying5 g 0 1 1 [x] rfl (fun i hi => by
    obtain rfl : i = 0 := by omega
    simpa using h) 9 Tryd.underlying9
  exact this
set_option maxHeartbeats 2000000 in
set_option maxRecDepth 100000 in
theorem refTag_yes (hRS : RefSum) (who dom : Int) (body : ByteArray) (w : World) (h0 : 0 ≤ who) (h1 : who ≤ 64) (h2 : 1 ≤ dom) (h3 : dom ≤ 4) (hs : body.size ≤ 140737488354900) :
    Calls Tryd.prog 67 #[.int .i64 who, .int .i64 dom, .string body] w fun e w' => e = .returned (HN (Seal.tagL (Seal.keyL who.toNat) dom.toNat body.data.toList) 0) ∧ Below w.heap.size w w' := by
  obtain ⟨K, hK⟩ : ∃ K, K = Seal.keyL who.toNat := ⟨_, rfl⟩
  have hK32 : K.length ≤ 32 := by rw [hK, Seal.keyL_len]; omega
  have hKl : K.length = 32 := by rw [hK, Seal.keyL_len]
  have I24k := Lib.hid (i24_any K hK32)
  have Hold := Lib.hid (bRow_same [] K (by simp) hK32)
  have key := fun (w1 : World) (hb1 : Below w.heap.size w w1) => refKey_any_ hRS who w1 h0 h1
  rw [← hK] at key
  have KEY := Lib.hid key
  have HRS := Lib.hid hRS
  have HKl := Lib.hid hKl
  rw [← hK]
  clear hK hK32 key hKl hRS
  obtain ⟨R, hR⟩ : ∃ R, R = Seal.tagL K dom.toNat body.data.toList := ⟨_, rfl⟩
  have hR32 : R.length ≤ 32 := by rw [hR, Seal.tagL_len]; omega
  have hRl : R.length = 32 := by rw [hR, Seal.tagL_len]
  have I24 := Lib.hid (i24_any R hR32)
  have HoldR := Lib.hid (bRow_same [] R (by simp) hR32)
  have hut : IntKind.u8.wrap dom = dom := by rw [IntKind.wrap_u8]; omega
  rw [← hR]
  have HR := Lib.hid hR
  have HRl := Lib.hid hRl
  clear hR hR32 hRl
  go_enter Tryd.func67, Tryd.ntmps67
  go_wp2_with fail
  refine calls_named ?_
  intro w1 hw1
  have hH : Holds w1 w.heap.size (bRow []) := by rw [hw1]; exact Holds.new _ _ _
  have hb1 : Below w.heap.size w w1 := by rw [hw1]; exact (Below.refl _ _).alloc (Nat.le_refl _) _
  clear hw1
  refine (KEY.out w1 hb1).mono ?_
  rintro e w2 ⟨rfl, hb2⟩
  have HH2 := Lib.hid (hH.below hb2 hH.lt)
  have hb2 := hb1.trans (hb2.mono hb1.size)
  have hlt2 := HH2.out.lt
  clear hH
  go_wp2_with (refine wpList_store_named rfl 23 (.tmp 8) (.tmp 13) rfl w2.heap.size (bRow K) rfl rfl (bRow []) (Holds.new2 rfl rfl) I24k.out Hold.out (bRow_one _) ?_; intro w5 hw5
               have H5 := Lib.hid (show KeptR w w.heap.size [(w2.heap.size, bRow K)] w5 by
                 rw [hw5]
                 exact ⟨below_setRow (hb2.alloc hb2.size _) hb2.size _, ⟨bRow [], bRow_size [] (by simp), (HH2.out.alloc _).rowFar (by omega) _⟩, fun p hp => by
                   obtain rfl : p = (w2.heap.size, bRow K) := by simpa using hp
                   exact (Holds.new2 rfl rfl).row _⟩)
               clear hw5)
  obtain ⟨V, hV⟩ : ∃ V, V = bRow R := ⟨_, rfl⟩
  obtain ⟨U, hU⟩ : ∃ U, U = bRow K := ⟨_, rfl⟩
  have hVs : V.size = 32 := by rw [hV, bRow_size R (by rw [HRl.out]; omega)]
  have hUs : U.size = 32 := by rw [hU, bRow_size K (by rw [HKl.out]; omega)]
  have hVl : V.toList.length = 32 := by simp [hVs]
  have hUl : U.toList.length = 32 := by simp [hUs]
  have hV1 : ∀ v ∈ V.toList, v.oneCell' = true := by
    have := bRow_one R
    rw [← hV] at this
    intro v hv
    rw [Array.all_eq_true_iff_forall_mem] at this
    exact this v (Array.mem_toList_iff.1 hv)
  have i24 : (Tryd.prog.info? 23).map (·.size) = some 32 := by kernel_rfl
  have hVi : (Tryd.prog.info? 23).map (·.size) = some V.toList.length := i24.trans (congrArg some hVl.symm)
  have hUi : (Tryd.prog.info? 23).map (·.size) = some U.toList.length := i24.trans (congrArg some hUl.symm)
  have hu := Tryd.underlying23
  rw [← hU] at H5
  have hkeep0 : KeptR w w.heap.size [(w2.heap.size, U)] w5.drew := H5.out.drew
  have HV := Lib.hid hV
  have HU := Lib.hid hU
  have HVs := Lib.hid hVs
  have b1 : ∀ w' : World, Calls Tryd.prog 59 #[.agg U] w' fun e w'' => e = .returned (S K) ∧ Below w'.heap.size w' w'' := fun w' => by rw [HU.out]; exact bytes_any K w' HKl.out
  have hdl : ((⟨K.toArray⟩ : ByteArray) ++ (⟨[UInt8.ofNat dom.toNat].toArray⟩ : ByteArray) ++ body).data.toList = K ++ UInt8.ofNat dom.toNat :: body.data.toList := by rw [ByteArray.data_append, ByteArray.data_append]; simp
  have hsz : ((⟨K.toArray⟩ : ByteArray) ++ (⟨[UInt8.ofNat dom.toNat].toArray⟩ : ByteArray) ++ body).size = 33 + body.size := by
    rw [ByteArray.size_append, ByteArray.size_append]
    show K.length + 1 + body.size = _
    rw [HKl.out]
  have c1 : ∀ w' : World, Calls Tryd.prog 61 #[.string ((⟨K.toArray⟩ : ByteArray) ++ (⟨[UInt8.ofNat dom.toNat].toArray⟩ : ByteArray) ++ body)] w' fun e w'' => e = .returned (.agg V) ∧ Below w'.heap.size w' w'' := fun w' => by
    have := HRS.out ((⟨K.toArray⟩ : ByteArray) ++ (⟨[UInt8.ofNat dom.toNat].toArray⟩ : ByteArray) ++ body) w' (by rw [hsz]; omega)
    rw [hdl] at this
    rw [HV.out, HR.out]
    exact this
  have hg1 : ¬ (9223372036854775807 < K.length + 1) := by rw [HKl.out]; omega
  have hg2 : ¬ (9223372036854775807 < K.length + 1 + body.size) := by rw [HKl.out]; omega
  have B1 := Lib.hid b1
  have C1 := Lib.hid c1
  have hsum0 : ∀ W, KeptR w w.heap.size [(w2.heap.size, U)] W → KeptR w w.heap.size [(w2.heap.size, U)] W := fun _ h => h
  clear hV hU hVs hUs i24 b1 c1 hdl hsz hsum0
  have HFar : Hid (∀ p ∈ [(w2.heap.size, U)], p.1 ≠ w.heap.size) := fun p hp => by
    obtain rfl : p = (w2.heap.size, U) := by simpa using hp
    show w2.heap.size ≠ w.heap.size
    omega
  refine wp_region_noPanic ?_
  refine wp_region_held_drew (S := fun w' => KeptR w w.heap.size [(w2.heap.size, U)] w') (by kernel_rfl) hkeep0 (fun hHeld => ?_)
  generalize w5.drew = w6 at *
  refine' wpAnyH_take (i := 0) (v := _) rfl (by kernel_rfl) (by kernel_rfl) (by kernel_rfl) (fun _ _ _ h => h) (yieldsIf_load_mid (by rfl) _ _ rfl w2.heap.size 0 rfl U.toList _ (fun w' hS => KeptR.range hS (by simp)) hu rfl hUi) hHeld ?_
  try simp only [Act.put, List.getElem_toArray, List.getElem_cons_succ, List.getElem_cons_zero, List.setIfInBounds_toArray, List.set_cons_zero, List.set_cons_succ]
  refine wpAnyH_take (i := 2) (v := .int .i64 dom) rfl (by kernel_rfl) (by kernel_rfl) (by kernel_rfl) (fun _ _ _ h => h) (Or.inl ⟨by rfl, fun w' hSw => by go_simp⟩) hHeld ?_
  try simp only [Act.put, List.getElem_toArray, List.getElem_cons_succ, List.getElem_cons_zero, List.setIfInBounds_toArray, List.set_cons_zero, List.set_cons_succ]
  refine wpAnyH_take (i := 3) (v := .int .u8 dom) rfl (by kernel_rfl) (by kernel_rfl) (by kernel_rfl) (fun _ _ _ h => h) (Or.inl ⟨by rfl, fun w' hSw => by go_simp⟩) hHeld ?_
  try simp only [Act.put, List.getElem_toArray, List.getElem_cons_succ, List.getElem_cons_zero, List.setIfInBounds_toArray, List.set_cons_zero, List.set_cons_succ]
  refine wpAnyH_take (i := 7) (v := .string body) rfl (by kernel_rfl) (by kernel_rfl) (by kernel_rfl) (fun _ _ _ h => h) (Or.inl ⟨by rfl, fun w' hSw => by go_simp⟩) hHeld ?_
  try simp only [Act.put, List.getElem_toArray, List.getElem_cons_succ, List.getElem_cons_zero, List.setIfInBounds_toArray, List.set_cons_zero, List.set_cons_succ]
  refine wpAnyH_ready (rs := [1, 4]) (by kernel_rfl) (by simp) (AllReadyH.cons rfl (fun K1 hK1 => ?_) (AllReadyH.cons rfl (fun K1 hK1 => ?_) AllReadyH.nil))
  · try simp only [Act.put, List.getElem_toArray, List.getElem_cons_succ, List.getElem_cons_zero, List.setIfInBounds_toArray, List.set_cons_zero, List.set_cons_succ]
    go_simp
    refine Calls.mono (B1.out _) ?_
    rintro e wb ⟨rfl, hbb⟩
    refine hK1.out _ _ (hHeld.step hbb) (fun hHeld => ?_)
    clear hK1 K1
    try simp only [Act.put, List.getElem_toArray, List.getElem_cons_succ, List.getElem_cons_zero, List.setIfInBounds_toArray, List.set_cons_zero, List.set_cons_succ]
    refine wpAnyH_ready (rs := [4]) (by kernel_rfl) (by simp) (AllReadyH.cons rfl (fun K1 hK1 => ?_) AllReadyH.nil)
    try simp only [Act.put, List.getElem_toArray, List.getElem_cons_succ, List.getElem_cons_zero, List.setIfInBounds_toArray, List.set_cons_zero, List.set_cons_succ]
    go_simp
    obtain ⟨wa, hwa⟩ : ∃ wa, wa = wb.alloc (.cells #[.int .u8 dom] 5) := ⟨_, rfl⟩
    rw [← hwa]
    have hca : wa.cell? ⟨wb.heap.size, 0, none⟩ = some (.int .u8 dom) := by rw [hwa]; simp [go_sem]
    have hla : wb.heap.size < wa.heap.size := by rw [hwa]; simp
    refine hK1.out _ _ ((by rw [hwa]; exact hHeld.alloc _)) (fun hHeld => ?_)
    clear hK1 K1 hwa
    try simp only [Act.put, List.getElem_toArray, List.getElem_cons_succ, List.getElem_cons_zero, List.setIfInBounds_toArray, List.set_cons_zero, List.set_cons_succ]
    refine wpAnyH_ready (rs := [5]) (by kernel_rfl) (by simp) (AllReadyH.cons rfl (fun K1 hK1 => ?_) AllReadyH.nil)
    try simp only [Act.put, List.getElem_toArray, List.getElem_cons_succ, List.getElem_cons_zero, List.setIfInBounds_toArray, List.set_cons_zero, List.set_cons_succ]
    have hcv := one_byte_run wa wb.heap.size dom hca
    go_simp
    clear hcv
    refine hK1.out _ _ (hHeld) (fun hHeld => ?_)
    clear hK1 K1
    try simp only [Act.put, List.getElem_toArray, List.getElem_cons_succ, List.getElem_cons_zero, List.setIfInBounds_toArray, List.set_cons_zero, List.set_cons_succ]
    refine wpAnyH_take (i := 6) (v := .string ((⟨K.toArray⟩ : ByteArray) ++ (⟨[UInt8.ofNat dom.toNat].toArray⟩ : ByteArray))) rfl (by kernel_rfl) (by kernel_rfl) (by kernel_rfl) (fun _ _ _ h => h) (Or.inl ⟨by rfl, fun w' hSw => by go_simp⟩) hHeld ?_
    try simp only [Act.put, List.getElem_toArray, List.getElem_cons_succ, List.getElem_cons_zero, List.setIfInBounds_toArray, List.set_cons_zero, List.set_cons_succ]
    refine wpAnyH_take (i := 8) (v := .string ((⟨K.toArray⟩ : ByteArray) ++ (⟨[UInt8.ofNat dom.toNat].toArray⟩ : ByteArray) ++ body)) rfl (by kernel_rfl) (by kernel_rfl) (by kernel_rfl) (fun _ _ _ h => h) (Or.inl ⟨by rfl, fun w' hSw => by go_simp⟩) hHeld ?_
    try simp only [Act.put, List.getElem_toArray, List.getElem_cons_succ, List.getElem_cons_zero, List.setIfInBounds_toArray, List.set_cons_zero, List.set_cons_succ]
    refine wpAnyH_ready (rs := [9]) (by kernel_rfl) (by simp) (AllReadyH.cons rfl (fun K1 hK1 => ?_) AllReadyH.nil)
    try simp only [Act.put, List.getElem_toArray, List.getElem_cons_succ, List.getElem_cons_zero, List.setIfInBounds_toArray, List.set_cons_zero, List.set_cons_succ]
    go_simp
    refine Calls.mono (C1.out _) ?_
    rintro e wb2 ⟨rfl, hbb2⟩
    refine hK1.out _ _ (hHeld.step hbb2) (fun hHeld => ?_)
    clear hK1 K1
    try simp only [Act.put, List.getElem_toArray, List.getElem_cons_succ, List.getElem_cons_zero, List.setIfInBounds_toArray, List.set_cons_zero, List.set_cons_succ]
    refine wpAnyH_ready (rs := [10]) (by kernel_rfl) (by simp) (AllReadyH.cons rfl (fun K1 hK1 => ?_) AllReadyH.nil)
    try simp only [Act.put, List.getElem_toArray, List.getElem_cons_succ, List.getElem_cons_zero, List.setIfInBounds_toArray, List.set_cons_zero, List.set_cons_succ]
    rw [if_pos (by rfl)]
    refine wp_store_mid _ _ _ rfl w.heap.size 0 V rfl rfl (hHeld.there HVs.out) (by rw [← Array.length_toList]; exact hVi) (by rw [HV.out]; exact bRow_one _) ?_
    have hset := hHeld.set HVs.out (Nat.le_refl _) HFar.out
    generalize wb2.setCells w.heap.size 0 V.toList = w9 at *
    have H9 := Lib.hid hset.2
    have hset1 := hset.1
    clear hset
    refine hK1.out _ _ (hset1) (fun hHeld => ?_)
    clear hK1 K1
    try simp only [Act.put, List.getElem_toArray, List.getElem_cons_succ, List.getElem_cons_zero, List.setIfInBounds_toArray, List.set_cons_zero, List.set_cons_succ]
    refine wpAnyH_ready (rs := [11]) (by kernel_rfl) (by simp) (AllReadyH.cons rfl (fun K1 hK1 => ?_) AllReadyH.nil)
    try simp only [Act.put, List.getElem_toArray, List.getElem_cons_succ, List.getElem_cons_zero, List.setIfInBounds_toArray, List.set_cons_zero, List.set_cons_succ]
    try go_simp
    refine hK1.out _ _ (hset1) (fun hHeld => ?_)
    clear hK1 K1
    try simp only [Act.put, List.getElem_toArray, List.getElem_cons_succ, List.getElem_cons_zero, List.setIfInBounds_toArray, List.set_cons_zero, List.set_cons_succ]
    refine wpAnyH_done (by kernel_rfl) ?_ _
    refine NoPanic.normal ?_
    have hbe := hset1.1
    clear hset1 hHeld
    go_wp2_with fail
    rw [HV.out] at H9
    exact bodyPost_ret (results_row_tmp rfl _ _ w.heap.size (bRow R) _ rfl H9.out Tryd.underlying23 rfl I24.out _ rfl) rfl ⟨rfl, hbe⟩
  · try simp only [Act.put, List.getElem_toArray, List.getElem_cons_succ, List.getElem_cons_zero, List.setIfInBounds_toArray, List.set_cons_zero, List.set_cons_succ]
    go_simp
    obtain ⟨wa, hwa⟩ : ∃ wa, wa = w6.alloc (.cells #[.int .u8 dom] 5) := ⟨_, rfl⟩
    rw [← hwa]
    have hca : wa.cell? ⟨w6.heap.size, 0, none⟩ = some (.int .u8 dom) := by rw [hwa]; simp [go_sem]
    have hla : w6.heap.size < wa.heap.size := by rw [hwa]; simp
    refine hK1.out _ _ ((by rw [hwa]; exact hHeld.alloc _)) (fun hHeld => ?_)
    clear hK1 K1 hwa
    try simp only [Act.put, List.getElem_toArray, List.getElem_cons_succ, List.getElem_cons_zero, List.setIfInBounds_toArray, List.set_cons_zero, List.set_cons_succ]
    refine wpAnyH_ready (rs := [1, 5]) (by kernel_rfl) (by simp) (AllReadyH.cons rfl (fun K1 hK1 => ?_) (AllReadyH.cons rfl (fun K1 hK1 => ?_) AllReadyH.nil))
    · try simp only [Act.put, List.getElem_toArray, List.getElem_cons_succ, List.getElem_cons_zero, List.setIfInBounds_toArray, List.set_cons_zero, List.set_cons_succ]
      go_simp
      refine Calls.mono (B1.out _) ?_
      rintro e wb ⟨rfl, hbb⟩
      refine hK1.out _ _ (hHeld.step hbb) (fun hHeld => ?_)
      clear hK1 K1
      try simp only [Act.put, List.getElem_toArray, List.getElem_cons_succ, List.getElem_cons_zero, List.setIfInBounds_toArray, List.set_cons_zero, List.set_cons_succ]
      have hca := (hbb.cell (p := ⟨w6.heap.size, 0, none⟩) hla).trans hca
      refine wpAnyH_ready (rs := [5]) (by kernel_rfl) (by simp) (AllReadyH.cons rfl (fun K1 hK1 => ?_) AllReadyH.nil)
      try simp only [Act.put, List.getElem_toArray, List.getElem_cons_succ, List.getElem_cons_zero, List.setIfInBounds_toArray, List.set_cons_zero, List.set_cons_succ]
      have hcv := one_byte_run wb w6.heap.size dom hca
      go_simp
      clear hcv
      refine hK1.out _ _ (hHeld) (fun hHeld => ?_)
      clear hK1 K1
      try simp only [Act.put, List.getElem_toArray, List.getElem_cons_succ, List.getElem_cons_zero, List.setIfInBounds_toArray, List.set_cons_zero, List.set_cons_succ]
      refine wpAnyH_take (i := 6) (v := .string ((⟨K.toArray⟩ : ByteArray) ++ (⟨[UInt8.ofNat dom.toNat].toArray⟩ : ByteArray))) rfl (by kernel_rfl) (by kernel_rfl) (by kernel_rfl) (fun _ _ _ h => h) (Or.inl ⟨by rfl, fun w' hSw => by go_simp⟩) hHeld ?_
      try simp only [Act.put, List.getElem_toArray, List.getElem_cons_succ, List.getElem_cons_zero, List.setIfInBounds_toArray, List.set_cons_zero, List.set_cons_succ]
      refine wpAnyH_take (i := 8) (v := .string ((⟨K.toArray⟩ : ByteArray) ++ (⟨[UInt8.ofNat dom.toNat].toArray⟩ : ByteArray) ++ body)) rfl (by kernel_rfl) (by kernel_rfl) (by kernel_rfl) (fun _ _ _ h => h) (Or.inl ⟨by rfl, fun w' hSw => by go_simp⟩) hHeld ?_
      try simp only [Act.put, List.getElem_toArray, List.getElem_cons_succ, List.getElem_cons_zero, List.setIfInBounds_toArray, List.set_cons_zero, List.set_cons_succ]
      refine wpAnyH_ready (rs := [9]) (by kernel_rfl) (by simp) (AllReadyH.cons rfl (fun K1 hK1 => ?_) AllReadyH.nil)
      try simp only [Act.put, List.getElem_toArray, List.getElem_cons_succ, List.getElem_cons_zero, List.setIfInBounds_toArray, List.set_cons_zero, List.set_cons_succ]
      go_simp
      refine Calls.mono (C1.out _) ?_
      rintro e wb2 ⟨rfl, hbb2⟩
      refine hK1.out _ _ (hHeld.step hbb2) (fun hHeld => ?_)
      clear hK1 K1
      try simp only [Act.put, List.getElem_toArray, List.getElem_cons_succ, List.getElem_cons_zero, List.setIfInBounds_toArray, List.set_cons_zero, List.set_cons_succ]
      refine wpAnyH_ready (rs := [10]) (by kernel_rfl) (by simp) (AllReadyH.cons rfl (fun K1 hK1 => ?_) AllReadyH.nil)
      try simp only [Act.put, List.getElem_toArray, List.getElem_cons_succ, List.getElem_cons_zero, List.setIfInBounds_toArray, List.set_cons_zero, List.set_cons_succ]
      rw [if_pos (by rfl)]
      refine wp_store_mid _ _ _ rfl w.heap.size 0 V rfl rfl (hHeld.there HVs.out) (by rw [← Array.length_toList]; exact hVi) (by rw [HV.out]; exact bRow_one _) ?_
      have hset := hHeld.set HVs.out (Nat.le_refl _) HFar.out
      generalize wb2.setCells w.heap.size 0 V.toList = w9 at *
      have H9 := Lib.hid hset.2
      have hset1 := hset.1
      clear hset
      refine hK1.out _ _ (hset1) (fun hHeld => ?_)
      clear hK1 K1
      try simp only [Act.put, List.getElem_toArray, List.getElem_cons_succ, List.getElem_cons_zero, List.setIfInBounds_toArray, List.set_cons_zero, List.set_cons_succ]
      refine wpAnyH_ready (rs := [11]) (by kernel_rfl) (by simp) (AllReadyH.cons rfl (fun K1 hK1 => ?_) AllReadyH.nil)
      try simp only [Act.put, List.getElem_toArray, List.getElem_cons_succ, List.getElem_cons_zero, List.setIfInBounds_toArray, List.set_cons_zero, List.set_cons_succ]
      try go_simp
      refine hK1.out _ _ (hset1) (fun hHeld => ?_)
      clear hK1 K1
      try simp only [Act.put, List.getElem_toArray, List.getElem_cons_succ, List.getElem_cons_zero, List.setIfInBounds_toArray, List.set_cons_zero, List.set_cons_succ]
      refine wpAnyH_done (by kernel_rfl) ?_ _
      refine NoPanic.normal ?_
      have hbe := hset1.1
      clear hset1 hHeld
      go_wp2_with fail
      rw [HV.out] at H9
      exact bodyPost_ret (results_row_tmp rfl _ _ w.heap.size (bRow R) _ rfl H9.out Tryd.underlying23 rfl I24.out _ rfl) rfl ⟨rfl, hbe⟩
    · try simp only [Act.put, List.getElem_toArray, List.getElem_cons_succ, List.getElem_cons_zero, List.setIfInBounds_toArray, List.set_cons_zero, List.set_cons_succ]
      have hcv := one_byte_run wa w6.heap.size dom hca
      go_simp
      clear hcv
      refine hK1.out _ _ (hHeld) (fun hHeld => ?_)
      clear hK1 K1
      try simp only [Act.put, List.getElem_toArray, List.getElem_cons_succ, List.getElem_cons_zero, List.setIfInBounds_toArray, List.set_cons_zero, List.set_cons_succ]
      refine wpAnyH_ready (rs := [1]) (by kernel_rfl) (by simp) (AllReadyH.cons rfl (fun K1 hK1 => ?_) AllReadyH.nil)
      try simp only [Act.put, List.getElem_toArray, List.getElem_cons_succ, List.getElem_cons_zero, List.setIfInBounds_toArray, List.set_cons_zero, List.set_cons_succ]
      go_simp
      refine Calls.mono (B1.out _) ?_
      rintro e wb ⟨rfl, hbb⟩
      refine hK1.out _ _ (hHeld.step hbb) (fun hHeld => ?_)
      clear hK1 K1
      try simp only [Act.put, List.getElem_toArray, List.getElem_cons_succ, List.getElem_cons_zero, List.setIfInBounds_toArray, List.set_cons_zero, List.set_cons_succ]
      refine wpAnyH_take (i := 6) (v := .string ((⟨K.toArray⟩ : ByteArray) ++ (⟨[UInt8.ofNat dom.toNat].toArray⟩ : ByteArray))) rfl (by kernel_rfl) (by kernel_rfl) (by kernel_rfl) (fun _ _ _ h => h) (Or.inl ⟨by rfl, fun w' hSw => by go_simp⟩) hHeld ?_
      try simp only [Act.put, List.getElem_toArray, List.getElem_cons_succ, List.getElem_cons_zero, List.setIfInBounds_toArray, List.set_cons_zero, List.set_cons_succ]
      refine wpAnyH_take (i := 8) (v := .string ((⟨K.toArray⟩ : ByteArray) ++ (⟨[UInt8.ofNat dom.toNat].toArray⟩ : ByteArray) ++ body)) rfl (by kernel_rfl) (by kernel_rfl) (by kernel_rfl) (fun _ _ _ h => h) (Or.inl ⟨by rfl, fun w' hSw => by go_simp⟩) hHeld ?_
      try simp only [Act.put, List.getElem_toArray, List.getElem_cons_succ, List.getElem_cons_zero, List.setIfInBounds_toArray, List.set_cons_zero, List.set_cons_succ]
      refine wpAnyH_ready (rs := [9]) (by kernel_rfl) (by simp) (AllReadyH.cons rfl (fun K1 hK1 => ?_) AllReadyH.nil)
      try simp only [Act.put, List.getElem_toArray, List.getElem_cons_succ, List.getElem_cons_zero, List.setIfInBounds_toArray, List.set_cons_zero, List.set_cons_succ]
      go_simp
      refine Calls.mono (C1.out _) ?_
      rintro e wb2 ⟨rfl, hbb2⟩
      refine hK1.out _ _ (hHeld.step hbb2) (fun hHeld => ?_)
      clear hK1 K1
      try simp only [Act.put, List.getElem_toArray, List.getElem_cons_succ, List.getElem_cons_zero, List.setIfInBounds_toArray, List.set_cons_zero, List.set_cons_succ]
      refine wpAnyH_ready (rs := [10]) (by kernel_rfl) (by simp) (AllReadyH.cons rfl (fun K1 hK1 => ?_) AllReadyH.nil)
      try simp only [Act.put, List.getElem_toArray, List.getElem_cons_succ, List.getElem_cons_zero, List.setIfInBounds_toArray, List.set_cons_zero, List.set_cons_succ]
      rw [if_pos (by rfl)]
      refine wp_store_mid _ _ _ rfl w.heap.size 0 V rfl rfl (hHeld.there HVs.out) (by rw [← Array.length_toList]; exact hVi) (by rw [HV.out]; exact bRow_one _) ?_
      have hset := hHeld.set HVs.out (Nat.le_refl _) HFar.out
      generalize wb2.setCells w.heap.size 0 V.toList = w9 at *
      have H9 := Lib.hid hset.2
      have hset1 := hset.1
      clear hset
      refine hK1.out _ _ (hset1) (fun hHeld => ?_)
      clear hK1 K1
      try simp only [Act.put, List.getElem_toArray, List.getElem_cons_succ, List.getElem_cons_zero, List.setIfInBounds_toArray, List.set_cons_zero, List.set_cons_succ]
      refine wpAnyH_ready (rs := [11]) (by kernel_rfl) (by simp) (AllReadyH.cons rfl (fun K1 hK1 => ?_) AllReadyH.nil)
      try simp only [Act.put, List.getElem_toArray, List.getElem_cons_succ, List.getElem_cons_zero, List.setIfInBounds_toArray, List.set_cons_zero, List.set_cons_succ]
      try go_simp
      refine hK1.out _ _ (hset1) (fun hHeld => ?_)
      clear hK1 K1
      try simp only [Act.put, List.getElem_toArray, List.getElem_cons_succ, List.getElem_cons_zero, List.setIfInBounds_toArray, List.set_cons_zero, List.set_cons_succ]
      refine wpAnyH_done (by kernel_rfl) ?_ _
      refine NoPanic.normal ?_
      have hbe := hset1.1
      clear hset1 hHeld
      go_wp2_with fail
      rw [HV.out] at H9
      exact bodyPost_ret (results_row_tmp rfl _ _ w.heap.size (bRow R) _ rfl H9.out Tryd.underlying23 rfl I24.out _ rfl) rfl ⟨rfl, hbe⟩
set_option maxRecDepth 20000 in
theorem refTag_any (hRS : RefSum) (who dom : Int) (body : ByteArray) (w : World) (hs : body.size ≤ 140737488354900) :
    Calls Tryd.prog 67 #[.int .i64 who, .int .i64 dom, .string body] w fun e w' => e = .returned (HN (Seal.tag who dom body.data.toList).1 (Seal.tag who dom body.data.toList).2) ∧ Below w.heap.size w w' := by
  unfold Seal.tag
  by_cases h : who < 0 ∨ 64 < who
  · rw [if_pos h]; exact refTag_who who dom body w h
  · rw [if_neg h]
    by_cases h2 : dom < 1 ∨ 4 < dom
    · rw [if_pos h2]; exact refTag_dom hRS who dom body w (by omega) (by omega) h2
    · rw [if_neg h2]; exact refTag_yes hRS who dom body w (by omega) (by omega) (by omega) (by omega) hs
end Go.Proofs.YtdekcicgiflnbaaDoor

/- ---- SealCheck ---- -/
namespace Go.Proofs.YtdekcicgiflnbaaDoor
open Go.RowKit
set_option linter.unusedVariables false
set_option linter.unusedSimpArgs false

namespace Seal
def check2 (who dom : Int) (body t : List UInt8) : Int := if (tag who dom body).2 ≠ 0 then (tag who dom body).2 else if (tag who dom body).1 ≠ t then 21 else 0
end Seal

set_option maxHeartbeats 1000000 in
set_option maxRecDepth 100000 in
theorem Check_any (who dom : Int) (body : ByteArray) (t : List UInt8) (w : World) (hT : Tab w) (ht : t.length = 32) (hs : body.size ≤ 140737488354900) :
    Calls Tryd.prog 68 #[.int .i64 who, .int .i64 dom, .string body, .agg (bRow t)] w fun e w' => e = .returned (.int .i64 (Seal.check2 who dom body.data.toList t)) ∧ Below w.heap.size w w' := by
  have hlen := Seal.tag_len who dom body.data.toList
  have tagc := fun (w1 : World) (hb : Below w.heap.size w w1) => Tag_any who dom body w1 (hT.below hb hT.pos) (by omega)
  unfold Seal.check2
  generalize (Seal.tag who dom body.data.toList).1 = R at *
  generalize (Seal.tag who dom body.data.toList).2 = e0 at *
  have heqs : ∀ W, (Op.equalIn 10000 23 (.agg (bRow R)) (.agg (bRow t))).run Tryd.prog W = .ok (decide (R = t)) W := fun W => hash_eq W R t hlen ht
  have I24 := Lib.hid (i24_any R (by omega))
  have I24t := Lib.hid (i24_any t (by omega))
  have Hold := Lib.hid (bRow_same [] R (by simp) (by omega))
  have TAG := Lib.hid tagc
  clear tagc hlen ht hT
  by_cases he : e0 = 0
  · have hb : (e0 != 0) = false := by simp [he]
    by_cases hR : R = t
    · have hd : decide (R = t) = true := by simp [hR]
      rw [if_neg (by simpa using he), if_neg (by simpa using hR)]
      have HE := Lib.hid he
      have HR := Lib.hid hR
      clear he hR
      go_enter Tryd.func68, Tryd.ntmps68
      go_wp2_with fail
      refine calls_named ?_
      intro w1 hw1
      have hH : Holds w1 w.heap.size (bRow t) := by rw [hw1]; exact Holds.new _ _ _
      have hb1 : Below w.heap.size w w1 := by rw [hw1]; exact (Below.refl _ _).alloc (Nat.le_refl _) _
      clear hw1
      refine (TAG.out w1 hb1).mono ?_
      rintro e w2 ⟨rfl, hb2⟩
      have hH2 := hH.below hb2 hH.lt
      have HH2 := Lib.hid hH2
      have hb2 := hb1.trans (hb2.mono hb1.size)
      have hlt := hH2.lt
      clear hH hH2
      go_wp2_with (first
        | (refine wpList_store_named rfl 23 (.tmp 9) (.tmp 16) rfl w2.heap.size (bRow R) rfl rfl (bRow []) (Holds.new2 rfl rfl) I24.out Hold.out (bRow_one _) ?_; intro w5 hw5
           obtain ⟨T5, hT5⟩ := (show Holds w5 w2.heap.size (bRow R) by rw [hw5]; exact (Holds.new2 rfl rfl).row _)
           obtain ⟨T6, hT6⟩ := (show Holds w5 w.heap.size (bRow t) by rw [hw5]; exact (HH2.out.alloc _).rowFar (by omega) _)
           have G5 := Lib.hid hT5
           have G6 := Lib.hid hT6
           have hb5 := (show Below w.heap.size w w5 by rw [hw5]; exact below_setRow (hb2.alloc hb2.size _) hb2.size _)
           clear hw5 hT5 hT6)
        | (refine wpList_load_row rfl 23 (.tmp 9) rfl w2.heap.size rfl T5 _ (0, 0) _ G5.out Tryd.underlying23 rfl I24.out ?_)
        | (refine wpList_load_row rfl 23 (.tmp 7) rfl w.heap.size rfl T6 _ (0, 0) _ G6.out Tryd.underlying23 rfl I24t.out ?_))
      go_ret
      exact ⟨rfl, hb5⟩
    · have hd : decide (R = t) = false := by simp [hR]
      rw [if_neg (by simpa using he), if_pos hR]
      have HE := Lib.hid he
      have HR := Lib.hid hR
      clear he hR
      go_enter Tryd.func68, Tryd.ntmps68
      go_wp2_with fail
      refine calls_named ?_
      intro w1 hw1
      have hH : Holds w1 w.heap.size (bRow t) := by rw [hw1]; exact Holds.new _ _ _
      have hb1 : Below w.heap.size w w1 := by rw [hw1]; exact (Below.refl _ _).alloc (Nat.le_refl _) _
      clear hw1
      refine (TAG.out w1 hb1).mono ?_
      rintro e w2 ⟨rfl, hb2⟩
      have hH2 := hH.below hb2 hH.lt
      have HH2 := Lib.hid hH2
      have hb2 := hb1.trans (hb2.mono hb1.size)
      have hlt := hH2.lt
      clear hH hH2
      go_wp2_with (first
        | (refine wpList_store_named rfl 23 (.tmp 9) (.tmp 16) rfl w2.heap.size (bRow R) rfl rfl (bRow []) (Holds.new2 rfl rfl) I24.out Hold.out (bRow_one _) ?_; intro w5 hw5
           obtain ⟨T5, hT5⟩ := (show Holds w5 w2.heap.size (bRow R) by rw [hw5]; exact (Holds.new2 rfl rfl).row _)
           obtain ⟨T6, hT6⟩ := (show Holds w5 w.heap.size (bRow t) by rw [hw5]; exact (HH2.out.alloc _).rowFar (by omega) _)
           have G5 := Lib.hid hT5
           have G6 := Lib.hid hT6
           have hb5 := (show Below w.heap.size w w5 by rw [hw5]; exact below_setRow (hb2.alloc hb2.size _) hb2.size _)
           clear hw5 hT5 hT6)
        | (refine wpList_load_row rfl 23 (.tmp 9) rfl w2.heap.size rfl T5 _ (0, 0) _ G5.out Tryd.underlying23 rfl I24.out ?_)
        | (refine wpList_load_row rfl 23 (.tmp 7) rfl w.heap.size rfl T6 _ (0, 0) _ G6.out Tryd.underlying23 rfl I24t.out ?_))
      go_ret
      exact ⟨rfl, hb5⟩
  · have hb : (e0 != 0) = true := by simpa using he
    rw [if_pos he]
    have HE := Lib.hid he
    clear he
    go_enter Tryd.func68, Tryd.ntmps68
    go_wp2_with fail
    refine calls_named ?_
    intro w1 hw1
    have hH : Holds w1 w.heap.size (bRow t) := by rw [hw1]; exact Holds.new _ _ _
    have hb1 : Below w.heap.size w w1 := by rw [hw1]; exact (Below.refl _ _).alloc (Nat.le_refl _) _
    clear hw1
    refine (TAG.out w1 hb1).mono ?_
    rintro e w2 ⟨rfl, hb2⟩
    have hH2 := hH.below hb2 hH.lt
    have HH2 := Lib.hid hH2
    have hb2 := hb1.trans (hb2.mono hb1.size)
    have hlt := hH2.lt
    clear hH hH2
    go_wp2_with (first
      | (refine wpList_store_named rfl 23 (.tmp 9) (.tmp 16) rfl w2.heap.size (bRow R) rfl rfl (bRow []) (Holds.new2 rfl rfl) I24.out Hold.out (bRow_one _) ?_; intro w5 hw5
         obtain ⟨T5, hT5⟩ := (show Holds w5 w2.heap.size (bRow R) by rw [hw5]; exact (Holds.new2 rfl rfl).row _)
         obtain ⟨T6, hT6⟩ := (show Holds w5 w.heap.size (bRow t) by rw [hw5]; exact (HH2.out.alloc _).rowFar (by omega) _)
         have G5 := Lib.hid hT5
         have G6 := Lib.hid hT6
         have hb5 := (show Below w.heap.size w w5 by rw [hw5]; exact below_setRow (hb2.alloc hb2.size _) hb2.size _)
         clear hw5 hT5 hT6)
      | (refine wpList_load_row rfl 23 (.tmp 9) rfl w2.heap.size rfl T5 _ (0, 0) _ G5.out Tryd.underlying23 rfl I24.out ?_)
      | (refine wpList_load_row rfl 23 (.tmp 7) rfl w.heap.size rfl T6 _ (0, 0) _ G6.out Tryd.underlying23 rfl I24t.out ?_))
    go_ret
    exact ⟨rfl, hb5⟩

set_option maxHeartbeats 1000000 in
set_option maxRecDepth 100000 in
theorem refCheck_any (hRS : RefSum) (who dom : Int) (body : ByteArray) (t : List UInt8) (w : World) (ht : t.length = 32) (hs : body.size ≤ 140737488354900) :
    Calls Tryd.prog 69 #[.int .i64 who, .int .i64 dom, .string body, .agg (bRow t)] w fun e w' => e = .returned (.int .i64 (Seal.check2 who dom body.data.toList t)) ∧ Below w.heap.size w w' := by
  have hlen := Seal.tag_len who dom body.data.toList
  have tagc := fun (w1 : World) (hb : Below w.heap.size w w1) => refTag_any hRS who dom body w1 hs
  unfold Seal.check2
  generalize (Seal.tag who dom body.data.toList).1 = R at *
  generalize (Seal.tag who dom body.data.toList).2 = e0 at *
  have heqs : ∀ W, (Op.equalIn 10000 23 (.agg (bRow R)) (.agg (bRow t))).run Tryd.prog W = .ok (decide (R = t)) W := fun W => hash_eq W R t hlen ht
  have I24 := Lib.hid (i24_any R (by omega))
  have I24t := Lib.hid (i24_any t (by omega))
  have Hold := Lib.hid (bRow_same [] R (by simp) (by omega))
  have TAG := Lib.hid tagc
  clear tagc hlen ht hRS
  by_cases he : e0 = 0
  · have hb : (e0 != 0) = false := by simp [he]
    by_cases hR : R = t
    · have hd : decide (R = t) = true := by simp [hR]
      rw [if_neg (by simpa using he), if_neg (by simpa using hR)]
      have HE := Lib.hid he
      have HR := Lib.hid hR
      clear he hR
      go_enter Tryd.func69, Tryd.ntmps69
      go_wp2_with fail
      refine calls_named ?_
      intro w1 hw1
      have hH : Holds w1 w.heap.size (bRow t) := by rw [hw1]; exact Holds.new _ _ _
      have hb1 : Below w.heap.size w w1 := by rw [hw1]; exact (Below.refl _ _).alloc (Nat.le_refl _) _
      clear hw1
      refine (TAG.out w1 hb1).mono ?_
      rintro e w2 ⟨rfl, hb2⟩
      have hH2 := hH.below hb2 hH.lt
      have HH2 := Lib.hid hH2
      have hb2 := hb1.trans (hb2.mono hb1.size)
      have hlt := hH2.lt
      clear hH hH2
      go_wp2_with (first
        | (refine wpList_store_named rfl 23 (.tmp 9) (.tmp 16) rfl w2.heap.size (bRow R) rfl rfl (bRow []) (Holds.new2 rfl rfl) I24.out Hold.out (bRow_one _) ?_; intro w5 hw5
           obtain ⟨T5, hT5⟩ := (show Holds w5 w2.heap.size (bRow R) by rw [hw5]; exact (Holds.new2 rfl rfl).row _)
           obtain ⟨T6, hT6⟩ := (show Holds w5 w.heap.size (bRow t) by rw [hw5]; exact (HH2.out.alloc _).rowFar (by omega) _)
           have G5 := Lib.hid hT5
           have G6 := Lib.hid hT6
           have hb5 := (show Below w.heap.size w w5 by rw [hw5]; exact below_setRow (hb2.alloc hb2.size _) hb2.size _)
           clear hw5 hT5 hT6)
        | (refine wpList_load_row rfl 23 (.tmp 9) rfl w2.heap.size rfl T5 _ (0, 0) _ G5.out Tryd.underlying23 rfl I24.out ?_)
        | (refine wpList_load_row rfl 23 (.tmp 7) rfl w.heap.size rfl T6 _ (0, 0) _ G6.out Tryd.underlying23 rfl I24t.out ?_))
      go_ret
      exact ⟨rfl, hb5⟩
    · have hd : decide (R = t) = false := by simp [hR]
      rw [if_neg (by simpa using he), if_pos hR]
      have HE := Lib.hid he
      have HR := Lib.hid hR
      clear he hR
      go_enter Tryd.func69, Tryd.ntmps69
      go_wp2_with fail
      refine calls_named ?_
      intro w1 hw1
      have hH : Holds w1 w.heap.size (bRow t) := by rw [hw1]; exact Holds.new _ _ _
      have hb1 : Below w.heap.size w w1 := by rw [hw1]; exact (Below.refl _ _).alloc (Nat.le_refl _) _
      clear hw1
      refine (TAG.out w1 hb1).mono ?_
      rintro e w2 ⟨rfl, hb2⟩
      have hH2 := hH.below hb2 hH.lt
      have HH2 := Lib.hid hH2
      have hb2 := hb1.trans (hb2.mono hb1.size)
      have hlt := hH2.lt
      clear hH hH2
      go_wp2_with (first
        | (refine wpList_store_named rfl 23 (.tmp 9) (.tmp 16) rfl w2.heap.size (bRow R) rfl rfl (bRow []) (Holds.new2 rfl rfl) I24.out Hold.out (bRow_one _) ?_; intro w5 hw5
           obtain ⟨T5, hT5⟩ := (show Holds w5 w2.heap.size (bRow R) by rw [hw5]; exact (Holds.new2 rfl rfl).row _)
           obtain ⟨T6, hT6⟩ := (show Holds w5 w.heap.size (bRow t) by rw [hw5]; exact (HH2.out.alloc _).rowFar (by omega) _)
           have G5 := Lib.hid hT5
           have G6 := Lib.hid hT6
           have hb5 := (show Below w.heap.size w w5 by rw [hw5]; exact below_setRow (hb2.alloc hb2.size _) hb2.size _)
           clear hw5 hT5 hT6)
        | (refine wpList_load_row rfl 23 (.tmp 9) rfl w2.heap.size rfl T5 _ (0, 0) _ G5.out Tryd.underlying23 rfl I24.out ?_)
        | (refine wpList_load_row rfl 23 (.tmp 7) rfl w.heap.size rfl T6 _ (0, 0) _ G6.out Tryd.underlying23 rfl I24t.out ?_))
      go_ret
      exact ⟨rfl, hb5⟩
  · have hb : (e0 != 0) = true := by simpa using he
    rw [if_pos he]
    have HE := Lib.hid he
    clear he
    go_enter Tryd.func69, Tryd.ntmps69
    go_wp2_with fail
    refine calls_named ?_
    intro w1 hw1
    have hH : Holds w1 w.heap.size (bRow t) := by rw [hw1]; exact Holds.new _ _ _
    have hb1 : Below w.heap.size w w1 := by rw [hw1]; exact (Below.refl _ _).alloc (Nat.le_refl _) _
    clear hw1
    refine (TAG.out w1 hb1).mono ?_
    rintro e w2 ⟨rfl, hb2⟩
    have hH2 := hH.below hb2 hH.lt
    have HH2 := Lib.hid hH2
    have hb2 := hb1.trans (hb2.mono hb1.size)
    have hlt := hH2.lt
    clear hH hH2
    go_wp2_with (first
      | (refine wpList_store_named rfl 23 (.tmp 9) (.tmp 16) rfl w2.heap.size (bRow R) rfl rfl (bRow []) (Holds.new2 rfl rfl) I24.out Hold.out (bRow_one _) ?_; intro w5 hw5
         obtain ⟨T5, hT5⟩ := (show Holds w5 w2.heap.size (bRow R) by rw [hw5]; exact (Holds.new2 rfl rfl).row _)
         obtain ⟨T6, hT6⟩ := (show Holds w5 w.heap.size (bRow t) by rw [hw5]; exact (HH2.out.alloc _).rowFar (by omega) _)
         have G5 := Lib.hid hT5
         have G6 := Lib.hid hT6
         have hb5 := (show Below w.heap.size w w5 by rw [hw5]; exact below_setRow (hb2.alloc hb2.size _) hb2.size _)
         clear hw5 hT5 hT6)
      | (refine wpList_load_row rfl 23 (.tmp 9) rfl w2.heap.size rfl T5 _ (0, 0) _ G5.out Tryd.underlying23 rfl I24.out ?_)
      | (refine wpList_load_row rfl 23 (.tmp 7) rfl w.heap.size rfl T6 _ (0, 0) _ G6.out Tryd.underlying23 rfl I24t.out ?_))
    go_ret
    exact ⟨rfl, hb5⟩
end Go.Proofs.YtdekcicgiflnbaaDoor
