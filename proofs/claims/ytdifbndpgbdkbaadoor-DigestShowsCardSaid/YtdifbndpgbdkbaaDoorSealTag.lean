/- seal.tag: what it returns. -/
import Derived.Test.YtdifbndpgbdkbaaDoorSealKey
import Derived.Laws.CopyRow
import Derived.StillTailTactics
namespace Go.Proofs.YtdifbndpgbdkbaaDoor
open Go.RowKit
set_option linter.unusedVariables false
set_option linter.unusedSimpArgs false

/-- one row copied onto another one's head; the world behind it by a name -/
theorem wpList_copy_rows {P : Program} {w : World} {ops : Array Oper} {rest : List Oper} {o : Oper} {a : Act} {Q : Exit → Act → World → Prop} (hgd : o.guard = none) (d s : Operand) (dT sT elem : TypeId)
    (ho : o.op = .call { callee := .builtin .copy, args := #[d, s], argTypes := #[dT, sT] }) (hu : P.underlying dT = some (.slice elem)) (hz : (P.info? elem).map (·.size) = some 1)
    (g gs dLen dCap sLen sCap : Nat) (cur : Array Value) (cs : List Value) (hd : a.eval d = .slice (some ⟨g, 0, none⟩) dLen dCap) (hs : a.eval s = .slice (some ⟨gs, 0, none⟩) sLen sCap)
    (hg : Holds w g cur) (hgs : Holds w gs cs.toArray) (hn : cs.length = Nat.min sLen dLen) (hfit : cs.length ≤ cur.size) (h1 : ∀ v ∈ cs, v.oneCell' = true)
    (h : ∀ w', w' = w.setRow g (cs ++ cur.toList.drop cs.length).toArray → wpList P ops Q rest (a.put o.dst (goInt cs.length)) w') : wpList P ops Q (o :: rest) a w := by
  obtain ⟨T, hT⟩ := hg
  have hr := run_copy_row (P := P) w dT sT o.type elem g 0 dLen dCap ⟨gs, 0, none⟩ sLen sCap cur T cs hu hz hT hn (fun j v hj => by
    have e : (⟨gs, 0, none⟩ : Addr).add j = ⟨gs, j, none⟩ := by unfold Addr.add; split <;> simp_all
    rw [e, hgs.cell j]; simpa using hj) (by simpa using hfit) h1
  refine wpList_plain hgd fun K hK => ?_
  unfold Oper.wp execOp
  simp only [ho, resolve, invoke, builtin, Sem.run_bind, Sem.run_pure, Result.andThen_ok, List.map_toArray, List.map_cons, List.map_nil, hd, hs, hr]
  refine hK _ _ (h _ ?_)
  simp
/-- bytes of a row as a text -/
theorem row_text (W : World) (g n : Nat) (h : List UInt8) (hh : h.length = n) (hg : Holds W g (yRow h)) :
    (Go.convert 28 9 (.slice (some ⟨g, 0, none⟩) n n)).run Tryd.prog W = .ok (S h) W := by
  have := run_convert_bytes_arg (P := Tryd.prog) W 28 5 Tryd.underlying28 Tryd.underlying5 g 0 n n (h.map fun b => (b.toNat : Int)) (by rw [List.length_map, hh]) (fun i hi => by
    rw [Nat.zero_add, hg.cell i]
    exact yRow_at h i (by omega)) 9 Tryd.underlying9
  rw [bytes_of_] at this
  exact this
theorem yRow_one (l : List UInt8) : ∀ v ∈ (yRow l).toList, v.oneCell' = true := by unfold yRow; simp [Value.oneCell']
theorem yRow_toList (l : List UInt8) : (yRow l).toList.toArray = yRow l := by simp
set_option maxHeartbeats 1000000 in
set_option maxRecDepth 100000 in
theorem tag_any (k : List UInt8) (dom : Int) (body : ByteArray) (w : World) (hT : Tab w) (hk : k.length = 32) (h0 : 0 ≤ dom) (h1 : dom ≤ 255) (hs : body.size ≤ 1152921504606846900) :
    Calls Tryd.prog 49 #[.agg (bRow k), .int .u8 dom, .string body] w fun e w' => e = .returned (.agg (bRow (Seal.tagL k dom.toNat body.data.toList))) ∧ Below w.heap.size w w' := by
  have HT := Lib.hid hT
  have hpos := hT.pos
  obtain ⟨R, hR⟩ : ∃ R, R = Seal.tagL k dom.toNat body.data.toList := ⟨_, rfl⟩
  have hR32 : R.length ≤ 32 := by rw [hR, Seal.tagL_len]; omega
  have I24 := Lib.hid (i24_any R hR32)
  have Hold := Lib.hid (bRow_same [] R (by simp) hR32)
  have I5 : Hid ((Tryd.prog.info? 5).map (·.size) = some 1) := (by kernel_rfl : (Tryd.prog.info? 5).map (·.size) = some 1)
  rw [← hR]
  have HR := Lib.hid hR
  have HK := Lib.hid hk
  obtain ⟨hd, hhd⟩ : ∃ hd, hd = k ++ [UInt8.ofNat dom.toNat] := ⟨_, rfl⟩
  have hhl : hd.length = 33 := by rw [hhd]; simp [hk]
  have HD := Lib.hid hhd
  have HL := Lib.hid hhl
  clear hT hR hR32 hk hhd
  go_enter Tryd.func49, Tryd.ntmps49
  go_wp2_with fail
  refine region_tail 2 (by kernel_rfl) (by kernel_rfl) ?_
  intro wd hwd
  have k0 : Holds wd w.heap.size (yRow k) := by rw [hwd, ← bRow_yRow k HK.out]; exact ((Holds.new2 rfl rfl).alloc _).alloc _
  have k1 : Holds wd (w.heap.size + 1) (bRow []) := by rw [hwd]; exact (Holds.new2 (by simp) rfl).alloc _
  have k2 : Holds wd (w.heap.size + 1 + 1) (yRow (List.replicate 33 0)) := by rw [hwd]; exact Holds.new2 (by simp) rfl
  have kb : Below w.heap.size w wd := by rw [hwd]; exact ((((Below.refl _ _).alloc (Nat.le_refl _) _).alloc (by simp) _).alloc (by simp; omega) _).drew
  clear hwd
  simp only [List.take_succ_cons, List.take_zero, List.drop_succ_cons, List.drop_zero]
  repeat still_step
  refine wpStill_nil ?_
  have hkl := HK.out
  refine wpList_copy_rows rfl (.tmp 8) (.tmp 9) _ _ 5 rfl Tryd.underlying28 I5.out (w.heap.size + 1 + 1) w.heap.size 33 33 32 32 (yRow (List.replicate 33 0)) (yRow k).toList rfl rfl k2 (by rw [yRow_toList]; exact k0)
    (by rw [Array.length_toList, yRow_size, hkl]; rfl) (by rw [Array.length_toList, yRow_size, yRow_size, hkl, List.length_replicate]; omega) (yRow_one k) ?_
  intro w4 hw4
  have c2 : Holds w4 (w.heap.size + 1 + 1) (yRow (k ++ [0])) := by
    rw [hw4]
    have := k2.row ((yRow k).toList ++ (yRow (List.replicate 33 0)).toList.drop (yRow k).toList.length).toArray
    have e : ((yRow k).toList ++ (yRow (List.replicate 33 0)).toList.drop (yRow k).toList.length).toArray = yRow (k ++ [0]) := by
      rw [Array.length_toList, yRow_size, hkl]
      unfold yRow
      simp
    rw [e] at this ⊢
    exact this
  have c1 : Holds w4 (w.heap.size + 1) (bRow []) := by rw [hw4]; exact k1.rowFar (by omega) _
  have cb : Below w.heap.size w w4 := by rw [hw4]; exact below_setRow kb (by omega) _
  have q := c2.cell 32
  have qf := c2.free 32
  have hd0 : (yRow (k ++ [0]))[32]? = some (.int .u8 0) := by
    rw [yRow_at _ 32 (by simp [hkl])]
    simp [List.getD, hkl]
  rw [hd0] at q
  have c3 := c2.set_ 32 (.int .u8 dom)
  have hset : (yRow (k ++ [0])).setIfInBounds 32 (.int .u8 dom) = yRow hd := by
    have := yRow_set k [] 0 (UInt8.ofNat dom.toNat) dom (by rw [UInt8.toNat_ofNat']; omega)
    rw [hkl] at this
    rw [this, HD.out]
  rw [hset] at c3
  have c1s := Lib.hid (c1.far (p := ⟨w.heap.size + 1 + 1, 32, none⟩) (show w.heap.size + 1 ≠ w.heap.size + 1 + 1 by omega) (Value.int .u8 dom))
  have cbs := cb.setCell (p := ⟨w.heap.size + 1 + 1, 32, none⟩) (show w.heap.size ≤ w.heap.size + 1 + 1 by omega) (Value.int .u8 dom)
  have C3 := Lib.hid c3
  clear hw4 k0 k1 k2 kb c2 c1 cb hd0 hset c3 hkl
  go_wp2_with fail
  rw [row_text _ _ 33 hd HL.out C3.out]
  have hlen := HL.out
  have hbig : ¬ (9223372036854775807 < hd.length + body.size) := by omega
  clear hlen
  go_wp2_with fail
  have hsz : ((⟨hd.toArray⟩ : ByteArray) ++ body).size = 33 + body.size := by rw [ByteArray.size_append, ← HL.out]; rfl
  have hdl : ((⟨hd.toArray⟩ : ByteArray) ++ body).data.toList = hd ++ body.data.toList := by rw [ByteArray.data_append]; simp
  refine calls_named ?_
  intro w5 hw5
  have c1s := (show Holds w5 (w.heap.size + 1) (bRow []) by rw [hw5]; exact c1s.out)
  have cbs := (show Below w.heap.size w w5 by rw [hw5]; exact cbs)
  clear hw5
  refine (sum_any _ w5 (HT.out.below cbs hpos) (by rw [hsz]; omega)).mono ?_
  rw [hdl, show Sha.sum (hd ++ body.data.toList) = R by rw [HR.out, HD.out]; unfold Seal.tagL; rw [List.append_assoc]; rfl]
  rintro e w6 ⟨rfl, hb6⟩
  have HH6 := Lib.hid (c1s.below hb6 c1s.lt)
  have hb6 := cbs.trans (hb6.mono cbs.size)
  clear hsz hdl c1s cbs
  go_wp2_with (refine wpList_store_named rfl 24 (.tmp 6) (.tmp 17) rfl (w.heap.size + 1) (bRow R) rfl rfl _ HH6.out I24.out Hold.out (bRow_one _) ?_; intro w7 hw7; have Hw7 := Lib.hid hw7; clear hw7)
  obtain ⟨T5, hT5⟩ := (show Holds w7 (w.heap.size + 1) (bRow R) from by rw [Hw7.out]; exact HH6.out.row _)
  exact bodyPost_ret (results_cell_row rfl _ _ (w.heap.size + 1) T5 _ (0, 0) _ rfl hT5 Tryd.underlying24 rfl I24.out) rfl ⟨rfl, by rw [Hw7.out]; exact below_setRow hb6 (by omega) _⟩
end Go.Proofs.YtdifbndpgbdkbaaDoor
