/- inbox.mayBe; the closure of inbox.Messages: what it does. -/
import Derived.Test.YtjeooegkfjlejaaDoorInbMem
import Derived.Deep.DeepAppendWide
import Derived.RangeFuncBox
namespace Go.Proofs.YtjeooegkfjlejaaDoor
open Go.RowKit
set_option linter.unusedVariables false
set_option linter.unusedSimpArgs false

theorem bytes_back (d : ByteArray) : (⟨d.data.toList.toArray⟩ : ByteArray) = d := by cases d; rfl
theorem item_one (i : It) : ∀ v ∈ i.cells, v.oneCell' = true := by
  intro v hv
  simp [It.cells] at hv
  rcases hv with rfl | rfl | rfl | rfl <;> rfl
theorem total_cons (a : List UInt8) (l : List (List UInt8)) : Oct.total (a :: l) = a.length + Oct.total l := rfl
theorem listE_small (l : List (List UInt8)) (hl : l.length ≤ 1024) (ht : Oct.total l ≤ 65536) : ∃ b, Oct.listE l = (b, 0) := by
  unfold Oct.listE
  rw [if_neg (by omega), Oct.listGo_mk 65536 l ht]
  exact ⟨_, rfl⟩
theorem It.code_ok {i : It} (h : i.ok = true) : ∃ s, i.textE = (s, 0) := by
  unfold It.textE
  rw [if_pos h]
  refine listE_small _ (by simp [It.fields]) ?_
  have h0 := Oct.num_length_le i.kind.toNat
  have h1 := Oct.num_length_le i.who.toNat
  have h2 := Oct.num_length_le i.n.toNat
  have h3 : i.text.data.toList.length = i.text.size := rfl
  have h4 := (It.ok_iff i).1 h
  have h5 : (i.text.size : Int) ≤ 65472 := by
    rcases h4 with h4 | h4
    · exact h4.2.2.2.2
    · have : i.text.data.toList.length = 0 := by rw [h4.2.2.2.2]; rfl
      omega
  simp only [It.fields, total_cons]
  have : Oct.total [] = 0 := rfl
  omega
theorem It.code_no {i : It} (h : i.ok = false) : i.textE = ([], 2) := by unfold It.textE; rw [if_neg (by rw [h]; simp)]
set_option maxRecDepth 20000 in
theorem mayBe_any (i : It) (w : World) :
    Calls Tryd.prog 62 #[.agg i.cells.toArray] w fun e w' => e = .returned (.bool i.ok) ∧ Below w.heap.size w w' := by
  have WI := fun W => writeItem_any i W
  obtain ⟨s, k, hs, hk⟩ : ∃ s k, i.textE = (s, k) ∧ (k == 0) = i.ok := by
    rcases Bool.eq_false_or_eq_true i.ok with h | h
    · obtain ⟨s, hs⟩ := It.code_ok h
      exact ⟨s, 0, hs, by rw [h]; rfl⟩
    · exact ⟨[], 2, It.code_no h, by rw [h]; rfl⟩
  rw [hs] at WI
  have WI' : ∀ W, Calls Tryd.prog 58 #[.agg i.cells.toArray] W fun e w' => e = .returned (.tuple #[S s, .int .i64 k]) ∧ Below W.heap.size W w' := WI
  have HWI := Lib.hid WI'
  have Hrow0 := Lib.hid (Row.new w 98 i.cells)
  have HL : Hid (i.cells.length = 4) := Lib.hid rfl
  generalize i.cells = C at *
  generalize i.ok = b at *
  have Hk := Lib.hid hk
  clear WI WI' hs hk
  go_enter Tryd.func62, Tryd.ntmps62
  go_wp2_with (with_reducible show wpList _ _ _ (⟨_, .load 98 _, _, _, _, _⟩ :: _) _ _; refine wpList_load_tx rfl 98 (.tmp 1) rfl w.heap.size 0 rfl C _ (row_range Hrow0.out) Tryd.underlying98 rfl (by rw [item_size, HL.out]) ?_)
  refine (HWI.out _).mono ?_
  rintro _ w1 ⟨rfl, hb1⟩
  have Hb1 := Lib.hid (tx_below (grownBy_of_below hb1 none))
  clear hb1
  go_wp2_with fail
  go_ret
  exact ⟨by first | rfl | (rw [← Hk.out]; rfl), Hb1.out⟩
/-- what Messages's closure writes to: the entries, and the Acc of the last one -/
def Vars (w : World) (base E Ab : Nat) (acc : List UInt8) (out : List En) : Prop :=
  base ≤ E ∧ base ≤ Ab ∧ acc.length = 32 ∧ (∀ e ∈ out, e.acc.length = 32) ∧ ∃ v, Row w E 68 [v] ∧ Row w Ab 42 (bRow acc).toList ∧ w.ownsRow base 78 35 v out.length (En.flat out)
theorem row_ne_own {w : World} {base g n size : Nat} {e t : TypeId} {v : Value} {xs ys : List Value} (h : Row w g t ys) (hown : w.ownsRow base e size v n xs) (ht : t ≠ e) : v.ownBlock ≠ some g := by
  intro hv
  rcases hown.2 with ⟨rfl, _⟩ | ⟨g', cap, cur, rfl, hg, hh, _⟩
  · simp [Value.ownBlock] at hv
  · simp only [Value.ownBlock, Option.some.injEq] at hv
    subst hv
    unfold Row at h
    rw [hh] at h
    simp at h
    exact ht h.2.symm
theorem Vars.step {w w' : World} {base E Ab : Nat} {acc : List UInt8} {out : List En} (h : Vars w base E Ab acc out) (hb : Below w.heap.size w w') : Vars w' base E Ab acc out := by
  obtain ⟨h1, h2, h3, h4, v, hE, hA, ho⟩ := h
  have hg := grownBy_of_below hb none
  exact ⟨h1, h2, h3, h4, v, hE.kept hg (by simp), hA.kept hg (by simp), own_below ho hb⟩
/-- blocks of other types stay -/
def Stay (w w' : World) : Prop := ∀ (g : Nat) (T : TypeId) (xs : List Value), Row w g T xs → T ≠ 78 → T ≠ 68 → T ≠ 42 → Row w' g T xs
theorem row_diff {w : World} {g g' : Nat} {T U : TypeId} {xs ys : List Value} (h : Row w g T xs) (k : Row w g' U ys) (hT : T ≠ U) : some g ≠ some g' := fun e => by
  injection e with e
  subst e
  exact hT (h.type k)
theorem Vars.put {w w' : World} {base E Ab g : Nat} {T : TypeId} {xs : List Value} {acc : List UInt8} {out : List En} (h : Vars w base E Ab acc out) (hr : Row w g T xs) (h1 : T ≠ 78) (h2 : T ≠ 68) (h3 : T ≠ 42)
    (hg : w.grownBy w' (some g)) : Vars w' base E Ab acc out := by
  obtain ⟨k1, k2, k3, k4, v, hE, hA, ho⟩ := h
  exact ⟨k1, k2, k3, k4, v, hE.kept hg (row_diff hE hr h2.symm), hA.kept hg (row_diff hA hr h3.symm), ho.kept hg (.inr (row_ne_own hr ho h1))⟩
theorem Vars.lt {w : World} {base E Ab : Nat} {acc : List UInt8} {out : List En} (h : Vars w base E Ab acc out) : base ≤ E ∧ base ≤ Ab ∧ E < w.heap.size ∧ Ab < w.heap.size ∧ base ≤ w.heap.size := by
  obtain ⟨h1, h2, h3, h4, v, hE, hA, ho⟩ := h
  have := hE.lt
  have := hA.lt
  omega
theorem en_places : (Tryd.prog.underlying 78).map (fun d => match d with | .struct fields => fields.toList.mapM (fun f => (Tryd.prog.info? f.type).map fun i => (f.offset, i.size)) | _ => Option.none) = some (some [(0, 1), (1, 1), (2, 1), (3, 32)]) := by kernel_rfl
theorem en_zero : (Tryd.prog.info? 78).map (·.zero) = some (some (.agg En.zero.cells.toArray)) := by kernel_rfl
theorem en_info : (Tryd.prog.info? 78).map (fun i => (i.zero, i.size, i.bytes)) = some (some (.agg En.zero.cells.toArray), 35, 64) := by kernel_rfl
theorem en_built (parts : List (Nat × Value)) : Tryd.prog.built 78 parts = Instr.fill (#[(0, 1), (1, 1), (2, 1), (3, 32)][·]?) En.zero.cells.toArray parts := by
  obtain ⟨i0, hi, hz⟩ := Option.map_eq_some_iff.1 en_zero
  have hp := en_places
  rw [Tryd.underlying78] at hp
  simp only [Option.map_some, Option.some.injEq] at hp
  unfold Program.built
  rw [hi, Tryd.underlying78]
  simp only [hz, hp]
  rfl
theorem en_four (a b : Int) (s : ByteArray) (R : List UInt8) (hR : R.length = 32) :
    Tryd.prog.built 78 [(0, .int .i64 a), (1, .string s), (2, .int .i64 b), (3, .agg (bRow R))] = some (En.cells ⟨a, s, b, R⟩).toArray := by
  have hz := Tx.bRow_len Tx.zero rfl
  have hr := Tx.bRow_len R hR
  have hL := En.cells_len (e := En.zero) rfl
  rw [en_built]
  rw [fill_step _ _ 0 _ [.int .i64 a] _ 0 1 rfl rfl rfl (by rw [hL]; omega)]
  rw [fill_step _ _ 1 _ [.string s] _ 1 1 rfl rfl rfl (by simp only [List.length_append, List.length_take, List.length_drop, List.length_cons, List.length_nil, hL]; omega)]
  rw [fill_step _ _ 2 _ [.int .i64 b] _ 2 1 rfl rfl rfl (by simp only [List.length_append, List.length_take, List.length_drop, List.length_cons, List.length_nil, hL]; omega)]
  rw [fill_step _ _ 3 _ (bRow R).toList _ 3 32 rfl (by simp [Value.cells]) hr (by simp only [List.length_append, List.length_take, List.length_drop, List.length_cons, List.length_nil, hL]; omega)]
  rw [fill_end]
  unfold En.cells En.zero
  simp only [List.cons_append, List.nil_append, List.take_succ_cons, List.take_zero, List.drop_succ_cons, List.drop_zero]
  rw [List.drop_of_length_le (by rw [hz]; omega), List.append_nil]
/-- a slice literal of one struct -/
theorem fill_one (n : Nat) (z : Value) (C : List Value) (hC : C.length = n) : Instr.fill (fun i => some (i * n, n)) ((Array.range (1 * n)).map (z.cells[· % z.cells.size]!)) [(0, .agg C.toArray)] = some C.toArray := by
  have hl : ((Array.range (1 * n)).map (z.cells[· % z.cells.size]!)).toList.length = n := by simp
  have e : (Array.range (1 * n)).map (z.cells[· % z.cells.size]!) = ((Array.range (1 * n)).map (z.cells[· % z.cells.size]!)).toList.toArray := Array.toArray_toList.symm
  rw [e, fill_step _ _ 0 _ C _ 0 n (by simp) (by simp [Value.cells]) hC (by omega), fill_end]
  rw [List.take_zero, List.nil_append, List.drop_of_length_le (by omega), List.append_nil]
set_option maxRecDepth 20000 in
set_option maxHeartbeats 1600000 in
theorem put12_any (blk kd who n : Int) (t : List UInt8) (w : World) (base E Ab : Nat) (acc : List UInt8) (out : List En) (hV : Vars w base E Ab acc out) (h0 : 0 ≤ who) (h1 : who ≤ 64) (ht : t.length ≤ 640)
    (hlen : out.length ≤ 4000000) (hT : Tab w) (hp : 0 < base) :
    Calls Tryd.prog 64 #[.int .i64 blk, .agg #[.int .i64 kd, .int .i64 who, .int .i64 n, S t], .pointer (some ⟨Ab, 0, none⟩), .pointer (some ⟨E, 0, none⟩)] w fun e w' =>
      e = .returned (.tuple #[]) ∧ Vars w' base E Ab (Inb.link acc who ⟨t.toArray⟩) (out ++ [⟨who, ⟨t.toArray⟩, blk, Inb.link acc who ⟨t.toArray⟩⟩]) ∧ Below base w w' ∧ Stay w w' := by
  obtain ⟨i0, hi, h2⟩ := Option.map_eq_some_iff.1 en_info
  simp only [Prod.mk.injEq] at h2
  have Hi := Lib.hid hi
  have Hz := Lib.hid h2.1
  have Hsz := Lib.hid h2.2.1
  have Hby := Lib.hid h2.2.2
  clear hi h2
  have hrow0 := Row.new w 98 [.int .i64 kd, .int .i64 who, .int .i64 n, S t]
  have hv0 : Vars (w.alloc (.cells #[.int .i64 kd, .int .i64 who, .int .i64 n, S t] 98)) base E Ab acc out := hV.step ((Below.refl w.heap.size w).alloc (Nat.le_refl _) _)
  have c1 := hrow0.cell 1 (by simp)
  simp only [List.getElem_cons_zero, List.getElem_cons_succ] at c1
  have Hv0 := Lib.hid hv0
  have Hrow0 := Lib.hid hrow0
  have HT := Lib.hid hT
  have NB := Lib.hid (fun W => number_ok who W h0 (by omega))
  have hltB := hV.lt.2.2.2.2
  have hAb : w.heap.size ≠ Ab := by have := hV.lt; omega
  have hEb : w.heap.size ≠ E := by have := hV.lt; omega
  obtain ⟨nb, hnb⟩ : ∃ nb, nb = Oct.num who.toNat := ⟨_, rfl⟩
  have hnl : nb.length ≤ 9 := by rw [hnb]; exact Oct.num_length_le _
  rw [← hnb] at NB
  obtain ⟨m, hm⟩ : ∃ m, Oct.listE [nb, t] = (m, 0) := listE_small _ (by simp) (by simp only [total_cons]; have : Oct.total [] = 0 := rfl; omega)
  have LB : Hid (∀ W : World, Calls Tryd.prog 59 #[.slice (some ⟨W.heap.size, 0, none⟩) 2 2] (W.alloc (.cells #[S nb, S t] 9)) fun e w' => e = .returned (.tuple #[S m, .int .i64 0]) ∧ Below (W.alloc (.cells #[S nb, S t] 9)).heap.size (W.alloc (.cells #[S nb, S t] 9)) w') := fun W => by
    have := list_2 nb t W
    rw [hm] at this
    exact this
  have hml : m.length ≤ 100000 := by have := listE_len [nb, t]; rw [hm] at this; exact this
  obtain ⟨K, hK⟩ : ∃ K, K = Inb.link acc who ⟨t.toArray⟩ := ⟨_, rfl⟩
  have hKs : K = Sha.sum (acc ++ m) := by rw [hK]; unfold Inb.link Inb.msg; rw [← hnb]; show Sha.sum (acc ++ (Oct.listE [nb, t]).1) = _; rw [hm]
  have hKl : K.length = 32 := by rw [hK]; exact Inb.link_len _ _ _
  rw [← hK]
  have CB : Hid (∀ W : World, Tab W → Calls Tryd.prog 65 #[.agg (bRow acc).toList.toArray, S m] W fun e w' => e = .returned (.agg (bRow K)) ∧ Below W.heap.size W w') := fun W hW => by
    have := chain_any acc ⟨m.toArray⟩ W hW hV.2.2.1 (by show m.length ≤ _; omega)
    rw [show (⟨m.toArray⟩ : ByteArray).data.toList = m from rfl, ← hKs] at this
    simpa using this
  have HA32 := Lib.hid (Tx.bRow_len acc hV.2.2.1)
  have HK32 := Lib.hid (Tx.bRow_len K hKl)
  have HK1 := Lib.hid (hash_one K hKl)
  have HBU := Lib.hid (en_four who blk ⟨t.toArray⟩ K hKl)
  have HCL := Lib.hid (En.cells_len (e := ⟨who, ⟨t.toArray⟩, blk, K⟩) hKl)
  have HC1 := Lib.hid (En.cells_one (e := ⟨who, ⟨t.toArray⟩, blk, K⟩) hKl)
  have HKL := Lib.hid hKl
  have hk63 : out.length + 1 ≤ maxLen := by unfold maxLen; omega
  have hk48 : ((out.length + 1) + (out.length + 1) / 4 + 192) * 64 ≤ 281474976710656 := by omega
  have HFS := Lib.hid (En.flat_snoc out ⟨who, ⟨t.toArray⟩, blk, K⟩)
  have HLS : Hid ((out ++ [(⟨who, ⟨t.toArray⟩, blk, K⟩ : En)]).length = out.length + 1) := Lib.hid (by simp)
  obtain ⟨X, hX⟩ : ∃ X : En, X = ⟨who, ⟨t.toArray⟩, blk, K⟩ := ⟨_, rfl⟩
  rw [← hX] at HBU HCL HC1 HFS HLS ⊢
  have HXA : Hid (X.acc.length = 32) := Lib.hid (by rw [hX]; exact hKl)
  clear hX hK hKs hm hnb hV hv0 hrow0 hKl hT
  generalize X.cells = C at *
  go_enter Tryd.func64, Tryd.ntmps64
  go_wp2_with fail
  refine (NB.out _).mono ?_
  rintro _ w1 ⟨rfl, hb1⟩
  have hv1 := Hv0.out.step hb1
  have hrow1 := Hrow0.out.kept (grownBy_of_below hb1 none) (by simp)
  have c3 := hrow1.cell 3 (by simp)
  simp only [List.getElem_cons_zero, List.getElem_cons_succ] at c3
  have Hb1 := Lib.hid (tx_below (grownBy_of_below hb1 none))
  have Hv1 := Lib.hid hv1
  have Hrow1 := Lib.hid hrow1
  clear hb1 hv1 hrow1 c1
  go_wp2_with fail
  refine (LB.out _).mono ?_
  rintro _ w2 ⟨rfl, hb2⟩
  have hv2 := (Hv1.out.step ((Below.refl w1.heap.size w1).alloc (Nat.le_refl _) _)).step hb2
  have hrow2 := (Hrow1.out.kept (grownBy_alloc w1 _ none) (by simp)).kept (grownBy_of_below hb2 none) (by simp)
  have Hb2 := Lib.hid (two_below' (two_below' Hb1.out ((Below.refl w1.heap.size w1).alloc (Nat.le_refl _) _)) hb2)
  have Hv2 := Lib.hid hv2
  have Hrow2 := Lib.hid hrow2
  have HR2 : Hid (Row w2 Ab 42 (bRow acc).toList) := by obtain ⟨_, _, _, _, v, _, hA, _⟩ := hv2; exact hA
  clear hb2 hv2 hrow2 c3
  go_wp2_with (with_reducible show wpList _ _ _ (⟨_, .load 42 _, _, _, _, _⟩ :: _) _ _; refine wpList_load_tx rfl 42 (.tmp 2) rfl Ab 0 rfl (bRow acc).toList _ (row_range HR2.out) Tryd.underlying42 rfl (by rw [hash_info, HA32.out]) ?_)
  refine (CB.out _ (HT.out.below Hb2.out HT.out.pos)).mono ?_
  rintro _ w3 ⟨rfl, hb3⟩
  obtain ⟨hE1, hA1, hac, hall, v, hE3, hA3, ho3⟩ := Hv2.out.step hb3
  have hrow3 := Hrow2.out.kept (grownBy_of_below hb3 none) (by simp)
  have Hb3 := Lib.hid (two_below' Hb2.out hb3)
  have HE3 := Lib.hid hE3
  have HA3 := Lib.hid hA3
  have Ho3 := Lib.hid ho3
  have Hrow3 := Lib.hid hrow3
  have Hall := Lib.hid hall
  have hneE : Hid (some E ≠ some Ab) := Lib.hid (fun e => by
    injection e with e
    have h1 := HE3.out
    rw [e] at h1
    exact absurd (h1.type HA3.out) (by decide))
  clear hb3 hE3 hA3 ho3 hrow3 hac hall
  go_wp2_with (first
  | (with_reducible show wpList _ _ _ (⟨_, .store 42 _ _, _, _, _, _⟩ :: _) _ _
     refine wpList_store_at rfl 42 (.tmp 2) (.tmp 26) rfl Ab 0 (bRow K).toList _ _ rfl rfl HA3.out (by have := HA32.out; have := HK32.out; omega) (by rw [hash_info, HK32.out]) HK1.out ?_
     intro w4 hr4 hg4
     rw [splice_all (HK32.out.trans HA32.out.symm)] at hr4
     have HA4 := Lib.hid hr4
     have hE4 := HE3.out.kept hg4 hneE.out
     have Ho4 := Lib.hid (Ho3.out.kept hg4 (.inr (row_ne_own HA3.out Ho3.out (by decide))))
     have hrow4 := Hrow3.out.kept hg4 (by simpa using hAb)
     have cE4 := hE4.cell 0 (by simp)
     have c41 := hrow4.cell 1 (by simp)
     have c43 := hrow4.cell 3 (by simp)
     simp only [List.getElem_cons_zero, List.getElem_cons_succ] at cE4 c41 c43
     have HE4 := Lib.hid hE4
     have Hg4 := Lib.hid hg4
     clear hr4 hg4 hE4 hrow4)
  | (with_reducible show wpList _ _ _ (⟨_, .load 42 _, _, _, _, _⟩ :: _) _ _; refine wpList_load_tx rfl 42 (.tmp 2) rfl Ab 0 rfl (bRow K).toList _ (row_range HA4.out) Tryd.underlying42 rfl (by rw [hash_info, HK32.out]) ?_)
  | ((with_reducible show wpList _ _ _ (⟨_, .build 78 _, _, _, _, _⟩ :: _) _ _); refine wpList_buildL rfl 78 [(0, .tmp 29), (1, .tmp 31), (2, .tmp 32), (3, .tmp 33)] rfl (some 34) rfl [(0, .int .i64 who), (1, S t), (2, .int .i64 blk), (3, .agg (bRow K))] rfl C.toArray HBU.out ?_)
  | ((with_reducible show wpList _ _ _ (⟨_, .buildSlice 68 _ _, _, _, _, _⟩ :: _) _ _)
     refine wpList_buildSliceL rfl 68 78 1 [(0, .tmp 34)] rfl (some 35) rfl [(0, .agg C.toArray)] rfl C.toArray i0 (.agg En.zero.cells.toArray) 35 Tryd.underlying68 Hi.out Hz.out Hsz.out (by decide) (by decide) (fill_one 35 _ C HCL.out) ?_
     have Hnew := Lib.hid (row_news (Row.new w4 78 C))
     have HE5 := Lib.hid (HE4.out.kept (grownBy_alloc w4 (.cells C.toArray 78) none) (by simp))
     have HA5 := Lib.hid (HA4.out.kept (grownBy_alloc w4 (.cells C.toArray 78) none) (by simp))
     have Ho5 := Lib.hid (Ho4.out.alloc (.cells C.toArray 78))
     have hz5 : base ≤ (w4.alloc (.cells C.toArray 78)).heap.size := by have := HE4.out.lt; simp; omega)
  | (at_builtin
     refine wpList_append_own_wide _ rfl (.tmp 27) (.tmp 35) 68 rfl base 78 i0 (.agg En.zero.cells.toArray) 35 64 Tryd.underlying68 Hi.out Hz.out Hsz.out Hby.out (by rw [← En.cells_len (e := En.zero) rfl]; rfl) (by decide) _ _ _ rfl Ho5.out ⟨w4.heap.size, 0, none⟩ 1 1 C rfl (by rw [HCL.out]) Hnew.out HC1.out hk63 hk48 hz5 ?_
     intro v' w6 hown6 hgrow6 _
     obtain ⟨g6, cp6, rfl⟩ := ownsRow_succ hown6
     have hE6 := HE5.out.kept hgrow6 (row_ne_own HE5.out Ho5.out (by decide)).symm
     have HA6 := Lib.hid (HA5.out.kept hgrow6 (row_ne_own HA5.out Ho5.out (by decide)).symm)
     have cE6 := hE6.cell 0 (by simp)
     have fE6 := hE6.free 0
     simp only [List.getElem_cons_zero] at cE6
     have HE6 := Lib.hid hE6
     have Hown6 := Lib.hid hown6
     have Hg6 := Lib.hid hgrow6
     clear hown6 hgrow6 hE6 cE4 c41 c43))
  go_end0
  have hb3 := (Hb3.out.mono hltB)
  have hz3 : base ≤ w3.heap.size := by have := HE3.out.lt; omega
  have hb4 := hb3.grown Hg4.out hz3 (fun k hk => by cases hk; exact hA1)
  have hz4 : base ≤ w4.heap.size := by have := HE4.out.lt; omega
  have hb5 := hb4.alloc hz4 (.cells C.toArray 78)
  have hb6 := hb5.grown Hg6.out hz5 (fun k hk => (Ho5.out.lt k hk).1)
  have hgs := grownBy_set w6 E 0 (.slice (some ⟨g6, 0, none⟩) (out.length + 1) cp6)
  have hz6 : base ≤ w6.heap.size := by have := HE6.out.lt; omega
  refine ⟨rfl, ⟨hE1, hA1, HKL.out, ?_, _, HE6.out.set 0 (.slice (some ⟨g6, 0, none⟩) (out.length + 1) cp6) (by simp), HA6.out.kept hgs hneE.out.symm, ?_⟩, hb6.grown hgs hz6 (fun k hk => by cases hk; exact hE1), ?_⟩
  · intro e he
    rcases List.mem_append.1 he with he | he
    · exact Hall.out e he
    · rw [List.mem_singleton.1 he]; exact HXA.out
  · rw [HLS.out, HFS.out]
    exact Hown6.out.kept hgs (.inr (row_ne_own HE6.out Hown6.out (by decide)))
  · intro g T xs hr q1 q2 q3
    have r3 := hr.kept (grownBy_of_below Hb3.out none) (by simp)
    have r4 := r3.kept Hg4.out (row_diff r3 HA3.out q3)
    have r5 := r4.kept (grownBy_alloc w4 (.cells C.toArray 78) none) (by simp)
    have r6 := r5.kept Hg6.out (row_ne_own r5 Ho5.out q1).symm
    exact r6.kept hgs (row_diff r6 HE6.out q2)
end Go.Proofs.YtjeooegkfjlejaaDoor
