/- What later texts need of the earlier layers. -/
import Derived.Test.YtjeooegkfjlejaaDoorEarO
import Derived.Test.YtjeooegkfjlejaaDoorEarS
import Derived.Test.YtjeooegkfjlejaaDoorEarT
import Derived.Test.YtjeooegkfjlejaaDoorEarC
import Derived.Test.YtjeooegkfjlejaaDoorEarA
import Derived.Test.YtjeooegkfjlejaaDoorEarB
import Derived.Test.YtjeooegkfjlejaaDoorIbA
import Derived.Test.YtjeooegkfjlejaaDoorTrMath
import Derived.WalkMore
/- ---- TrHash ---- -/
/- tree.number, tree.Hash: what they return. -/
namespace Go.Proofs.YtjeooegkfjlejaaDoor
open Go.RowKit
set_option linter.unusedVariables false
set_option linter.unusedSimpArgs false

theorem hash_str11 (W : World) (g o : Nat) (h : List UInt8) (hh : h.length = 32) (hg : W.rangeAt g o (bRow h).toList) :
    (Go.convert 103 9 (.slice (some ⟨g, o, none⟩) 32 32)).run Tryd.prog W = .ok (S h) W := by
  have := run_convert_bytes_arg (P := Tryd.prog) W 103 5 Tryd.underlying103 Tryd.underlying5 g o 32 32 (h.map fun b => (b.toNat : Int)) (by rw [List.length_map, hh]) (fun i hi => by
    have e : (bRow h).toList[i]? = (yRow h)[i]? := by rw [bRow_yRow h hh]; simp
    have := hg i _ (e.trans (yRow_at h i (by omega)))
    exact this) 9 Tryd.underlying9
  rw [bytes_of_] at this
  exact this
theorem number11_any (n : Int) (w : World) :
    Calls Tryd.prog 56 #[.int .i64 n] w fun e w' => e = .returned (.bool (Tx.num n)) ∧ w = w' := by
  unfold Tx.num
  by_cases h0 : 0 ≤ n
  · by_cases h1 : n ≤ 1099511627776
    · have d0 : decide (0 ≤ n) = true := by simpa using h0
      have d1 : decide (n ≤ 1099511627776) = true := by simpa using h1
      have Hd0 := Lib.hid d0
      have Hd1 := Lib.hid d1
      go_enter Tryd.func56, Tryd.ntmps56
      go_wp2_with fail
      go_ret
      first | exact ⟨rfl, rfl⟩ | (rw [Hd0.out, Hd1.out]; exact ⟨rfl, rfl⟩)
    · have d0 : decide (0 ≤ n) = true := by simpa using h0
      have d1 : decide (n ≤ 1099511627776) = false := by simpa using h1
      have Hd0 := Lib.hid d0
      have Hd1 := Lib.hid d1
      go_enter Tryd.func56, Tryd.ntmps56
      go_wp2_with fail
      go_ret
      first | exact ⟨rfl, rfl⟩ | (rw [Hd0.out, Hd1.out]; exact ⟨rfl, rfl⟩)
  · have d0 : decide (0 ≤ n) = false := by simpa using h0
    have Hd0 := Lib.hid d0
    go_enter Tryd.func56, Tryd.ntmps56
    go_wp2_with fail
    go_ret
    first | exact ⟨rfl, rfl⟩ | (rw [Hd0.out]; exact ⟨rfl, rfl⟩)
theorem number11_b {n : Int} {b : Bool} (h : Tx.num n = b) (w : World) : Calls Tryd.prog 56 #[.int .i64 n] w fun e w' => e = .returned (.bool b) ∧ w = w' := by
  have := number11_any n w
  rw [h] at this
  exact this
def hashV (K : List UInt8) (c : Int) : Value := .tuple #[.agg (bRow K).toList.toArray, .int .i64 c]
/-- where Hash stands -/
def HsAt (w wr : World) (C : List Value) : Prop := Row wr w.heap.size 45 C ∧ Row wr (w.heap.size + 1) 42 (bRow Tx.zero).toList ∧ Below w.heap.size w wr
theorem HsAt.step {w wr w' : World} {C : List Value} (h : HsAt w wr C) (hb : Below wr.heap.size wr w') : HsAt w w' C :=
  ⟨h.1.kept (grownBy_of_below hb none) (by simp), h.2.1.kept (grownBy_of_below hb none) (by simp), two_below' h.2.2 hb⟩
theorem HsAt.put {w wr w' : World} {g : Nat} {T : TypeId} {xs C : List Value} (h : HsAt w wr C) (hr : Row wr g T xs) (h1 : T ≠ 45) (h3 : T ≠ 42)
    (hg : wr.grownBy w' (some g)) (hle : w.heap.size ≤ g) : HsAt w w' C :=
  ⟨h.1.kept hg (row_diff h.1 hr h1.symm), h.2.1.kept hg (row_diff h.2.1 hr h3.symm), below_own h.2.2 hg (fun k hk => by cases hk; exact hle)⟩
theorem HsAt.grow {w wr w' : World} {C xs : List Value} {v : Value} {n : Nat} (h : HsAt w wr C) (ho : wr.ownsRow w.heap.size 9 1 v n xs) (hg : wr.grownBy w' v.ownBlock) : HsAt w w' C :=
  ⟨h.1.kept hg (row_ne_own h.1 ho (by decide)).symm, h.2.1.kept hg (row_ne_own h.2.1 ho (by decide)).symm, below_row h.2.2 h.2.2.size ho hg⟩
theorem HsAt.lt {w wr : World} {C : List Value} (h : HsAt w wr C) : w.heap.size + 1 < wr.heap.size := h.2.1.lt
namespace Tr
theorem hashE_no {b : Bk} (h : may b = false) : hashE b = (Tx.zero, 2) := by unfold hashE; rw [if_neg (by rw [h]; simp)]
theorem hashE_big {b : Bk} {e : Int} (h : may b = true) (he : (Oct.listE (texts b)).2 = e) (hne : e ≠ 0) : hashE b = (Tx.zero, e) := by unfold hashE; rw [if_pos h, if_neg (by rw [he]; exact hne), he]
theorem hashE_ok {b : Bk} {s : T8} (h : may b = true) (he : Oct.listE (texts b) = (s, 0)) : hashE b = (Sha.sum s, 0) := by unfold hashE; rw [if_pos h, if_pos (by rw [he]), he]
/-- the texts of the first k items -/
def upto (b : Bk) (k : Nat) : List T8 := Oct.num b.number.toNat :: Oct.num b.salt.toNat :: b.parent :: (b.items.take k).map fun i => i.textE.1
theorem upto_all (b : Bk) : upto b b.items.length = texts b := by unfold upto texts; rw [List.take_length]
theorem upto_next {b : Bk} {k : Nat} (hk : k < b.items.length) : upto b (k + 1) = upto b k ++ [b.items[k].textE.1] := by
  unfold upto
  rw [List.take_succ_eq_append_getElem hk, List.map_append]
  rfl
theorem upto_len {b : Bk} {k : Nat} (hk : k ≤ b.items.length) : (upto b k).length = k + 3 := by
  unfold upto
  simp only [List.length_cons, List.length_map, List.length_take]
  omega
theorem may_bad {b : Bk} {k : Nat} (hk : k < b.items.length) (h : b.items[k].ok = false) : may b = false := by
  rw [Bool.eq_false_iff]
  intro hm
  have := ((may_iff b).1 hm).2.2.2 _ (List.getElem_mem hk)
  rw [h] at this
  cases this
theorem may_all {b : Bk} (h0 : Tx.num b.number = true) (h1 : Tx.num b.salt = true) (h2 : b.items.length ≤ 32) (h : ∀ i (hi : i < b.items.length), b.items[i].ok = true) : may b = true := by
  unfold may
  rw [h0, h1]
  simp only [Bool.true_and, Bool.and_eq_true, decide_eq_true_eq, List.all_eq_true]
  refine ⟨h2, fun x hx => ?_⟩
  obtain ⟨i, hi, rfl⟩ := List.getElem_of_mem hx
  exact h i hi
end Tr
set_option maxRecDepth 20000 in
set_option maxHeartbeats 3200000 in
theorem hash11_any (b : Bk) (A : Option Addr) (cp : Nat) (hp : b.parent.length = 32) (w : World) (hits : BkItems w w.heap.size A b.items) (hT : Tab w) :
    Calls Tryd.prog 30 #[.agg (b.cells A cp).toArray] w fun e w' => e = .returned (hashV (Tr.hashE b).1 (Tr.hashE b).2) ∧ Below w.heap.size w w' := by
  have HC0 := Lib.hid (Bk.cell0 b A cp)
  have HC1 : Hid ((b.cells A cp)[1]? = some (.int .i64 b.salt)) := Lib.hid rfl
  have H34 := Lib.hid (Bk.cell34 (b := b) (A := A) (cap := cp) hp)
  have HPar : Hid (∀ (W : World) (g : Nat) (T : TypeId), Row W g T (b.cells A cp) → W.rangeAt g 2 (bRow b.parent).toList) := Lib.hid (fun W g T h j v hv => by
    have := (row_range h) (2 + j) v (by
      unfold Bk.cells
      rw [List.getElem?_append_right (by simp), List.getElem?_append_left (by simpa using (List.getElem?_eq_some_iff.1 hv).1)]
      simpa using hv)
    rw [Nat.zero_add] at this
    exact this)
  obtain ⟨r1, r2, r3⟩ := row_two w (b.cells A cp).toArray (bRow Tx.zero) 45 42
  simp only [List.toList_toArray] at r3
  have H0 : Hid (HsAt w _ (b.cells A cp)) := Lib.hid ⟨r3, r1, r2⟩
  have c0 := (row_range r3) 0 _ HC0.out
  have c1 := (row_range r3) 1 _ HC1.out
  have c34 := (row_range r3) 34 _ H34.out
  rw [Nat.zero_add] at c0 c1 c34
  have Hits := Lib.hid hits.1
  have hml := hits.2
  have HZ32 := Lib.hid (Tx.bRow_len Tx.zero rfl)
  have HZ1 : Hid (∀ v ∈ (bRow Tx.zero).toList, v.oneCell' = true) := Lib.hid (hash_one _ rfl)
  have hzh := hash_zv
  obtain ⟨K, hK⟩ : ∃ K, K = (Tr.hashE b).1 := ⟨_, rfl⟩
  obtain ⟨E, hE⟩ : ∃ E, E = (Tr.hashE b).2 := ⟨_, rfl⟩
  rw [← hK, ← hE]
  have HKE : Hid (Tr.hashE b = (K, E)) := Lib.hid (by rw [hK, hE])
  clear hK hE r1 r2 r3
  generalize b.cells A cp = C at *
  obtain ⟨m, hm⟩ : ∃ m, m = b.items.length := ⟨_, rfl⟩
  rw [← hm] at hml H34 c34
  have HMl := Lib.hid hm
  clear hits
  have HT := Lib.hid hT
  clear hT
  rcases Bool.eq_false_or_eq_true (Tx.num b.number) with a0 | a0
  rcases Bool.eq_false_or_eq_true (Tx.num b.salt) with a1 | a1
  by_cases hm32 : m ≤ 32
  · have d32 : decide ((32 : Int) < (m : Int)) = false := by simp; omega
    have N0 := Lib.hid (fun W => number11_b a0 W)
    have N1 := Lib.hid (fun W => number11_b a1 W)
    have b0 := No.num_iff.1 a0
    have b1 := No.num_iff.1 a1
    have NA := Lib.hid (fun W => number_ok b.number W b0.1 (by omega))
    have NB := Lib.hid (fun W => number_ok b.salt W b1.1 (by omega))
    obtain ⟨i0, hi0, hz0⟩ := str5
    have Hi := Lib.hid hi0
    have Hz := Lib.hid hz0.1
    have Hsz := Lib.hid hz0.2.1
    have Hby := Lib.hid hz0.2.2
    have HPl := Lib.hid hp
    have HA0 := Lib.hid a0
    have HA1 := Lib.hid a1
    have HU0 : Hid (Tr.upto b 0 = [Oct.num b.number.toNat, Oct.num b.salt.toNat, b.parent]) := Lib.hid rfl
    have HUL : Hid (∀ k, k ≤ m → (Tr.upto b k).length = k + 3) := Lib.hid (fun k hk => Tr.upto_len (by omega))
    have HUN : Hid (∀ k (hk : k < b.items.length), Tr.upto b (k + 1) = Tr.upto b k ++ [b.items[k].textE.1]) := Lib.hid (fun k hk => Tr.upto_next hk)
    have hmk : ∀ W : World, (Instr.makeSlice 80 (.int .i64 0) (.int .i64 (3 + (m : Int)))).run Tryd.prog W = .ok (.slice (some ⟨W.heap.size, 0, none⟩) 0 (3 + m)) (W.alloc (.cells (madeCells (Value.string ByteArray.empty).cells ((3 + m) * 1)) 9)) := by
      intro W
      have hr := run_make (P := Tryd.prog) W 80 9 i0 _ Tryd.underlying80 Hi.out Hz.out .i64 .i64 0 (3 + (m : Int)) (by omega) (by omega) (by rw [Hby.out]; omega) (by omega)
      have e1 : (3 + (m : Int)).toNat = 3 + m := by omega
      rw [Hsz.out, e1] at hr
      exact hr
    obtain ⟨mc, hmc⟩ : ∃ mc, mc = madeCells (Value.string ByteArray.empty).cells ((3 + m) * 1) := ⟨_, rfl⟩
    have hmade : ∀ W : World, w.heap.size ≤ W.heap.size → (W.alloc (.cells mc 9)).ownsRow w.heap.size 9 1 (.slice (some ⟨W.heap.size, 0, none⟩) 0 (3 + m)) 0 [] := fun W hW =>
      ⟨rfl, .inr ⟨W.heap.size, 3 + m, mc, rfl, hW, heap_alloc_new W _, Nat.zero_le _, by unfold maxLen; omega, by rw [hmc, size_madeCells], by simp⟩⟩
    simp only [← hmc] at hmk
    have Hmade := Lib.hid hmade
    have Hmk := Lib.hid hmk
    have hw1 : IntKind.i64.wrap (3 + (m : Int)) = 3 + (m : Int) := IntWalk.i64_in _ (by omega)
    have hz98 := item_zv12
    obtain ⟨pr, hpr⟩ : ∃ x, x = b.parent := ⟨_, rfl⟩
    obtain ⟨n1, hn1⟩ : ∃ x, x = Oct.num b.number.toNat := ⟨_, rfl⟩
    obtain ⟨n2, hn2⟩ : ∃ x, x = Oct.num b.salt.toNat := ⟨_, rfl⟩
    rw [← hpr] at HPl HPar HU0
    rw [← hn1] at NA HU0
    rw [← hn2] at NB HU0
    have HItems : Hid (∀ i (hi : i < b.items.length), b.items[i].ok = false → Tr.hashE b = (Tx.zero, 2)) := Lib.hid (fun i hi h => Tr.hashE_no (Tr.may_bad hi h))
    have HMay : Hid ((∀ i (hi : i < b.items.length), b.items[i].ok = true) → Tr.may b = true) := Lib.hid (fun h => Tr.may_all a0 a1 (by omega) h)
    generalize hnum : b.number = num at *
    generalize hsalt : b.salt = salt at *
    clear hnum hsalt hpr hn1 hn2 hmade hmk hmc a0 a1 b0 b1 hi0 hz0 hm hp
    go_enter Tryd.func30, Tryd.ntmps30
    go_wp2_with fail
    refine (N0.out _).mono ?_
    rintro _ w1 ⟨rfl, rfl⟩
    go_wp2_with fail
    refine (N1.out _).mono ?_
    rintro _ w1 ⟨rfl, rfl⟩
    go_wp2_with fail
    refine (NA.out _).mono ?_
    rintro _ w1 ⟨rfl, hb1⟩
    have hs1 := H0.out.step hb1
    have d1 := (row_range hs1.1) 1 _ HC1.out
    rw [Nat.zero_add] at d1
    have H1 := Lib.hid hs1
    clear hb1 hs1 c0 c1 c34
    go_wp2_with fail
    refine (NB.out _).mono ?_
    rintro _ w2 ⟨rfl, hb2⟩
    have H2 := Lib.hid (H1.out.step hb2)
    clear hb2 d1
    go_wp2_with fail
    refine wp_region_noPanic ?_
    refine wp_region_held_drew (S := fun w' => HsAt w w' C) (by kernel_rfl) (H2.out.step ((Below.refl _ _).drew)) (fun hHeld => ?_)
    generalize w2.drew = wq at *
    refine wpAnyH_take (i := 0) (v := .pointer (some ⟨w.heap.size, 34, none⟩)) rfl (by kernel_rfl) (by kernel_rfl) (by kernel_rfl) (fun _ _ _ h => h) (Or.inl ⟨by rfl, fun w' hSw => by go_simp⟩) hHeld ?_
    try simp only [Act.put, List.getElem_toArray, List.getElem_cons_succ, List.getElem_cons_zero, List.setIfInBounds_toArray, List.set_cons_zero, List.set_cons_succ]
    refine wpAnyH_take (i := 1) (v := .slice A m cp) rfl (by kernel_rfl) (by kernel_rfl) (by kernel_rfl) (fun _ _ _ h => h) (Or.inl ⟨by rfl, fun w' hSw => by have hq := hSw; have q := (row_range hq.1) 34 _ H34.out; rw [Nat.zero_add] at q; go_simp⟩) hHeld ?_
    try simp only [Act.put, List.getElem_toArray, List.getElem_cons_succ, List.getElem_cons_zero, List.setIfInBounds_toArray, List.set_cons_zero, List.set_cons_succ]
    refine wpAnyH_take (i := 2) (v := .int .i64 m) rfl (by kernel_rfl) (by kernel_rfl) (by kernel_rfl) (fun _ _ _ h => h) (Or.inl ⟨by rfl, fun w' hSw => by go_simp⟩) hHeld ?_
    try simp only [Act.put, List.getElem_toArray, List.getElem_cons_succ, List.getElem_cons_zero, List.setIfInBounds_toArray, List.set_cons_zero, List.set_cons_succ]
    refine wpAnyH_take (i := 3) (v := .int .i64 (3 + (m : Int))) rfl (by kernel_rfl) (by kernel_rfl) (by kernel_rfl) (fun _ _ _ h => h) (Or.inl ⟨by rfl, fun w' hSw => by go_simp⟩) hHeld ?_
    try simp only [Act.put, List.getElem_toArray, List.getElem_cons_succ, List.getElem_cons_zero, List.setIfInBounds_toArray, List.set_cons_zero, List.set_cons_succ]
    refine wpAnyH_take (i := 5) (v := S n1) rfl (by kernel_rfl) (by kernel_rfl) (by kernel_rfl) (fun _ _ _ h => h) (Or.inl ⟨by rfl, fun w' hSw => by go_simp⟩) hHeld ?_
    try simp only [Act.put, List.getElem_toArray, List.getElem_cons_succ, List.getElem_cons_zero, List.setIfInBounds_toArray, List.set_cons_zero, List.set_cons_succ]
    refine wpAnyH_take (i := 6) (v := S n2) rfl (by kernel_rfl) (by kernel_rfl) (by kernel_rfl) (fun _ _ _ h => h) (Or.inl ⟨by rfl, fun w' hSw => by go_simp⟩) hHeld ?_
    try simp only [Act.put, List.getElem_toArray, List.getElem_cons_succ, List.getElem_cons_zero, List.setIfInBounds_toArray, List.set_cons_zero, List.set_cons_succ]
    refine wpAnyH_take (i := 7) (v := .pointer (some ⟨w.heap.size, 2, none⟩)) rfl (by kernel_rfl) (by kernel_rfl) (by kernel_rfl) (fun _ _ _ h => h) (Or.inl ⟨by rfl, fun w' hSw => by go_simp⟩) hHeld ?_
    try simp only [Act.put, List.getElem_toArray, List.getElem_cons_succ, List.getElem_cons_zero, List.setIfInBounds_toArray, List.set_cons_zero, List.set_cons_succ]
    refine wpAnyH_take (i := 8) (v := .slice (some ⟨w.heap.size, 2, none⟩) 32 32) rfl (by kernel_rfl) (by kernel_rfl) (by kernel_rfl) (fun _ _ _ h => h) (Or.inl ⟨by rfl, fun w' hSw => by go_simp⟩) hHeld ?_
    try simp only [Act.put, List.getElem_toArray, List.getElem_cons_succ, List.getElem_cons_zero, List.setIfInBounds_toArray, List.set_cons_zero, List.set_cons_succ]
    refine wpAnyH_take (i := 9) (v := S pr) rfl (by kernel_rfl) (by kernel_rfl) (by kernel_rfl) (fun _ _ _ h => h) (Or.inl ⟨by rfl, fun w' hSw => by have hq := hSw; have q := hash_str11 w' w.heap.size 2 pr HPl.out (HPar.out _ _ _ hq.1); go_simp⟩) hHeld ?_
    try simp only [Act.put, List.getElem_toArray, List.getElem_cons_succ, List.getElem_cons_zero, List.setIfInBounds_toArray, List.set_cons_zero, List.set_cons_succ]
    refine wpAnyH_ready (rs := [4, 10]) (by kernel_rfl) (by simp) (AllReadyH.cons rfl (fun K1 hK1 => ?_) (AllReadyH.cons rfl (fun K1 hK1 => ?_) AllReadyH.nil))
    · skip
      try simp only [Act.put, List.getElem_toArray, List.getElem_cons_succ, List.getElem_cons_zero, List.setIfInBounds_toArray, List.set_cons_zero, List.set_cons_succ]
      have hmk2 := Hmk.out
      go_simp
      clear hmk2
      have hbk := (Below.refl wq.heap.size wq).alloc (Nat.le_refl _) (.cells mc 9)
      have hom := Hmade.out wq hHeld.2.2.size
      have hHeld2 := hHeld.step hbk
      obtain ⟨gm, hgm⟩ : ∃ gm, gm = wq.heap.size := ⟨_, rfl⟩
      rw [← hgm] at hom ⊢
      generalize wq.alloc (.cells mc 9) = wm at *
      have HOM := Lib.hid hom
      clear hom hbk hgm
      refine hK1.out _ _ (hHeld2) (fun hHeld => ?_)
      clear hK1 K1
      try simp only [Act.put, List.getElem_toArray, List.getElem_cons_succ, List.getElem_cons_zero, List.setIfInBounds_toArray, List.set_cons_zero, List.set_cons_succ]
      clear hHeld2
      refine wpAnyH_ready (rs := [10]) (by kernel_rfl) (by simp) (AllReadyH.cons rfl (fun K1 hK1 => ?_) AllReadyH.nil)
      try simp only [Act.put, List.getElem_toArray, List.getElem_cons_succ, List.getElem_cons_zero, List.setIfInBounds_toArray, List.set_cons_zero, List.set_cons_succ]
      go_simp
      have hbk := (Below.refl wm.heap.size wm).alloc (Nat.le_refl _) (.cells #[S n1, S n2, S pr] 9)
      have hnw := Row.new wm 9 [S n1, S n2, S pr]
      have hHeld2 := hHeld.step hbk
      have HOM := Lib.hid (own_below HOM.out hbk)
      obtain ⟨gb, hgb⟩ : ∃ gb, gb = wm.heap.size := ⟨_, rfl⟩
      rw [← hgb] at hnw ⊢
      have hnw : Row (wm.alloc (.cells #[S n1, S n2, S pr] 9)) gb 9 [S n1, S n2, S pr] := hnw
      generalize wm.alloc (.cells #[S n1, S n2, S pr] 9) = wb at *
      have HNew := Lib.hid hnw
      clear hnw hbk hgb
      refine hK1.out _ _ (hHeld2) (fun hHeld => ?_)
      clear hK1 K1
      try simp only [Act.put, List.getElem_toArray, List.getElem_cons_succ, List.getElem_cons_zero, List.setIfInBounds_toArray, List.set_cons_zero, List.set_cons_succ]
      clear hHeld2
      refine wpAnyH_ready (rs := [11]) (by kernel_rfl) (by simp) (AllReadyH.cons rfl (fun K1 hK1 => ?_) AllReadyH.nil)
      try simp only [Act.put, List.getElem_toArray, List.getElem_cons_succ, List.getElem_cons_zero, List.setIfInBounds_toArray, List.set_cons_zero, List.set_cons_succ]
      rw [if_pos (by rfl)]
      refine wp_append_own_wide _ _ _ 80 rfl w.heap.size 9 i0 (.string ByteArray.empty) 1 16 Tryd.underlying80 Hi.out Hz.out Hsz.out Hby.out rfl (by decide) (.slice (some ⟨gm, 0, none⟩) 0 (3 + m)) 0 [] rfl HOM.out ⟨gb, 0, none⟩ 3 3 [S n1, S n2, S pr] rfl rfl (row_news HNew.out) (by intro u hu; simp at hu; rcases hu with rfl | rfl | rfl <;> rfl) (by decide) (by decide) hHeld.2.2.size ?_
      intro v' w5 hown5 hgrow5 _
      have hs5 := hHeld.grow HOM.out hgrow5
      have HO5 : Hid (w5.ownsRow w.heap.size 9 1 v' (Tr.upto b 0).length ((Tr.upto b 0).map S)) := Lib.hid (by rw [HU0.out]; exact hown5)
      clear hown5 hgrow5
      refine hK1.out _ _ (hs5) (fun hHeld => ?_)
      clear hK1 K1
      try simp only [Act.put, List.getElem_toArray, List.getElem_cons_succ, List.getElem_cons_zero, List.setIfInBounds_toArray, List.set_cons_zero, List.set_cons_succ]
      clear hs5
      refine wpAnyH_take (i := 12) (v := v') rfl (by kernel_rfl) (by kernel_rfl) (by kernel_rfl) (fun _ _ _ h => h) (Or.inl ⟨by rfl, fun w' hSw => by go_simp⟩) hHeld ?_
      try simp only [Act.put, List.getElem_toArray, List.getElem_cons_succ, List.getElem_cons_zero, List.setIfInBounds_toArray, List.set_cons_zero, List.set_cons_succ]
      refine wpAnyH_done (by kernel_rfl) ?_ _
      refine NoPanic.normal ?_
      have H5 := Lib.hid hHeld
      clear hHeld HOM HNew
      have c34 := (row_range H5.out.1) 34 _ H34.out
      rw [Nat.zero_add] at c34
      go_wp2_with fail
      clear c34
      go_loopw [8, 59] (fun v8 i wr => ∃ (k : Nat) (v : Value), k ≤ m ∧ i = .int .i64 k ∧ v = v8 ∧ (∀ i (hi : i < b.items.length), i < k → b.items[i].ok = true) ∧ HsAt w wr C ∧ wr.ownsRow w.heap.size 9 1 v (Tr.upto b k).length ((Tr.upto b k).map S)) (fun _ i _ => m - (intOf i).toNat)
      case atStart => exact ⟨0, _, Nat.zero_le _, rfl, rfl, fun _ _ h => absurd h (Nat.not_lt_zero _), H5.out, HO5.out⟩
      case round =>
        obtain ⟨k, v, hk, rfl, rfl, hok, hs, ho⟩ := hrel
        have HS := Lib.hid hs
        have HO := Lib.hid ho
        have HOk := Lib.hid hok
        clear hs ho hok H5 HO5
        by_cases hlt : k < m
        · have hki : (k : Int) < (m : Int) := by omega
          have hkl : k < b.items.length := by rw [← HMl.out]; exact hlt
          obtain ⟨b2, off2, rfl, hb2, hat2⟩ := Hits.out (by intro e; rw [e] at hkl; simp at hkl)
          have Hr2 := Lib.hid (range_below (hat2 k hkl) HS.out.2.2 hb2)
          have HNo := Lib.hid (HItems.out k hkl)
          have HNx := Lib.hid (HUN.out k hkl)
          have HOkN : Hid (b.items[k].ok = true → ∀ i (hi : i < b.items.length), i < k + 1 → b.items[i].ok = true) := Lib.hid (fun h i hi hik => by
            by_cases e : i = k
            · subst e; exact h
            · exact HOk.out i hi (by omega))
          have hlen := HUL.out k (by omega)
          have WI : Hid (∀ W, Calls Tryd.prog 58 #[.agg b.items[k].cells.toArray] W fun e w' => e = .returned (two b.items[k].textE.1 b.items[k].textE.2) ∧ Below W.heap.size W w') := Lib.hid (fun W => writeItem_any b.items[k] W)
          have HCode : Hid (b.items[k].ok = true → b.items[k].textE.2 = 0) := Lib.hid (fun h => by obtain ⟨s, e⟩ := It.code_ok h; rw [e])
          have HCodeN : Hid (b.items[k].ok = false → b.items[k].textE.2 = 2) := Lib.hid (fun h => by rw [It.code_no h])
          generalize Tr.upto b k = T at *
          generalize b.items[k] = it at *
          clear hat2
          have HIL : Hid (it.cells.length = 4) := Lib.hid rfl
          have HI1 := Lib.hid (item_one it)
          have HZI : Hid (It.zero.cells.length = 4) := Lib.hid rfl
          have Hnew := Lib.hid (Row.new wr 98 It.zero.cells)
          have hk63 : T.length + 1 ≤ maxLen := by unfold maxLen; omega
          have hk48 : ((T.length + 1) + (T.length + 1) / 4 + 192) * 16 ≤ 281474976710656 := by omega
          clear hlen
          generalize it.cells = IC at *
          generalize it.textE.1 = s at *
          generalize it.textE.2 = cd at *
          unfold two at WI
          rcases Bool.eq_false_or_eq_true it.ok with iok | iok
          · have hcd := HCode.out iok
            subst hcd
            have HOkN := Lib.hid (HOkN.out iok)
            clear HCode HCodeN iok HNo
            go_wp2_with (first
            | ((with_reducible show wpList _ _ _ (⟨_, .load 98 (.tmp 61), _, _, _, _⟩ :: _) _ _); refine wpList_load_tx rfl 98 (.tmp 61) rfl b2 (off2 + k * 4) rfl IC _ Hr2.out Tryd.underlying98 rfl (by rw [item_size, HIL.out]) ?_)
            | ((with_reducible show wpList _ _ _ (⟨_, .load 98 (.tmp 10), _, _, _, _⟩ :: _) _ _); refine wpList_load_tx rfl 98 (.tmp 10) rfl wr.heap.size 0 rfl IC _ (row_range HR7.out) Tryd.underlying98 rfl (by rw [item_size, HIL.out]) ?_)
            | (with_reducible show wpList _ _ _ (⟨_, .store 98 _ _, _, _, _, _⟩ :: _) _ _
               refine wpList_store_at rfl 98 (.tmp 10) (.tmp 62) rfl wr.heap.size 0 IC _ _ rfl rfl Hnew.out (by have := HIL.out; have := HZI.out; omega) (by rw [item_size, HIL.out]) HI1.out ?_
               intro w7 hr7 hg7
               rw [splice_all (HIL.out.trans HZI.out.symm)] at hr7
               have HS7 := Lib.hid ((HS.out.step ((Below.refl wr.heap.size wr).alloc (Nat.le_refl _) (.cells It.zero.cells.toArray 98))).put Hnew.out (by decide) (by decide) hg7 (by have := HS.out.lt; omega))
               have HO7 := Lib.hid ((HO.out.alloc (.cells It.zero.cells.toArray 98)).kept hg7 (.inr (row_ne_own Hnew.out (HO.out.alloc (.cells It.zero.cells.toArray 98)) (by decide))))
               have HR7 := Lib.hid hr7
               clear hr7 hg7))
            refine (WI.out _).mono ?_
            rintro _ w8 ⟨rfl, hb8⟩
            have HS8 := Lib.hid (HS7.out.step hb8)
            have HO8 := Lib.hid (own_below HO7.out hb8)
            clear hb8
            have Hnew2 := Lib.hid (row_news (Row.new w8 9 [S s]))
            have HO9 := Lib.hid (HO8.out.alloc (.cells #[S s] 9))
            have HS9 := Lib.hid (HS8.out.step ((Below.refl w8.heap.size w8).alloc (Nat.le_refl _) (.cells #[S s] 9)))
            have hz9 : w.heap.size ≤ (w8.alloc (.cells #[S s] 9)).heap.size := HS9.out.2.2.size
            go_wp2_with (at_builtin; refine wpList_append_own_wide _ rfl (.tmp 71) (.tmp 73) 80 rfl w.heap.size 9 i0 (.string ByteArray.empty) 1 16 Tryd.underlying80 Hi.out Hz.out Hsz.out Hby.out rfl (by decide) v _ _ rfl HO9.out ⟨w8.heap.size, 0, none⟩ 1 1 [S s] rfl rfl Hnew2.out (by intro u hu; simp at hu; subst hu; rfl) hk63 hk48 hz9 ?_
                         intro v' w10 hown10 hgrow10 _
                         obtain ⟨g10, cp10, rfl⟩ := ownsRow_succ hown10
                         have HS10 := Lib.hid (HS9.out.grow HO9.out hgrow10)
                         have HO10 := Lib.hid hown10
                         clear hown10 hgrow10)
            exact ⟨⟨k + 1, _, hlt, by go_num, rfl, HOkN.out, HS10.out, by rw [HNx.out, List.length_append, List.map_append]; exact HO10.out⟩, by simp [intOf]; omega⟩
          · have hcd := HCodeN.out iok
            subst hcd
            have hKE := HKE.out
            rw [HNo.out iok] at hKE
            obtain ⟨rfl, rfl⟩ : Tx.zero = K ∧ 2 = E := by simpa using hKE
            clear HCode HCodeN iok HNo hKE HOkN
            go_wp2_with (first
            | ((with_reducible show wpList _ _ _ (⟨_, .load 98 (.tmp 61), _, _, _, _⟩ :: _) _ _); refine wpList_load_tx rfl 98 (.tmp 61) rfl b2 (off2 + k * 4) rfl IC _ Hr2.out Tryd.underlying98 rfl (by rw [item_size, HIL.out]) ?_)
            | ((with_reducible show wpList _ _ _ (⟨_, .load 98 (.tmp 10), _, _, _, _⟩ :: _) _ _); refine wpList_load_tx rfl 98 (.tmp 10) rfl wr.heap.size 0 rfl IC _ (row_range HR7.out) Tryd.underlying98 rfl (by rw [item_size, HIL.out]) ?_)
            | (with_reducible show wpList _ _ _ (⟨_, .store 98 _ _, _, _, _, _⟩ :: _) _ _
               refine wpList_store_at rfl 98 (.tmp 10) (.tmp 62) rfl wr.heap.size 0 IC _ _ rfl rfl Hnew.out (by have := HIL.out; have := HZI.out; omega) (by rw [item_size, HIL.out]) HI1.out ?_
               intro w7 hr7 hg7
               rw [splice_all (HIL.out.trans HZI.out.symm)] at hr7
               have HS7 := Lib.hid ((HS.out.step ((Below.refl wr.heap.size wr).alloc (Nat.le_refl _) (.cells It.zero.cells.toArray 98))).put Hnew.out (by decide) (by decide) hg7 (by have := HS.out.lt; omega))
               have HO7 := Lib.hid ((HO.out.alloc (.cells It.zero.cells.toArray 98)).kept hg7 (.inr (row_ne_own Hnew.out (HO.out.alloc (.cells It.zero.cells.toArray 98)) (by decide))))
               have HR7 := Lib.hid hr7
               clear hr7 hg7))
            refine (WI.out _).mono ?_
            rintro _ w8 ⟨rfl, hb8⟩
            have HS8 := Lib.hid (HS7.out.step hb8)
            have HO8 := Lib.hid (own_below HO7.out hb8)
            clear hb8
            go_wp2_with (first
            | ((with_reducible show wpList _ _ _ (⟨_, .build 42 _, _, _, _, _⟩ :: _) _ _); refine wpList_buildL rfl 42 [] rfl (some 70) rfl [] rfl (bRow Tx.zero) hash_built ?_)
            | (with_reducible show wpList _ _ _ (⟨_, .store 42 _ _, _, _, _, _⟩ :: _) _ _
               refine wpList_store_at rfl 42 (.tmp 2) (.tmp 70) rfl (w.heap.size + 1) 0 (bRow Tx.zero).toList _ _ rfl rfl HS8.out.2.1 (by have := HZ32.out; omega) (by rw [hash_info, HZ32.out]) HZ1.out ?_
               intro wz hrz hgz
               rw [splice_all rfl] at hrz
               have HRz := Lib.hid hrz
               have Hbz := Lib.hid (below_own HS8.out.2.2 hgz (fun k hk => by cases hk; omega))
               clear hrz hgz))
            exact bodyPost_ret (results_rowL rfl _ _ (w.heap.size + 1) 42 _ _ rfl HRz.out Tryd.underlying42 rfl (by rw [hash_info, List.size_toArray, HZ32.out]) _ rfl) rfl ⟨rfl, Hbz.out⟩
        · have hki : (m : Int) ≤ (k : Int) := by omega
          have hke : k = m := by omega
          subst hke
          have hlen := HUL.out k (by omega)
          have HMay2 := Lib.hid (HMay.out (fun i hi => HOk.out i hi (by rw [← HMl.out] at hi; exact hi)))
          have hub : Tr.upto b k = Tr.texts b := by rw [HMl.out]; exact Tr.upto_all b
          rw [hub] at HO hlen
          have LO := Lib.hid (list_owned (Tr.texts b) (k := k + 2) rfl (by rw [hlen] at HO; exact HO.out) hlen.symm)
          have hcode := Tr.listE_code (Tr.texts b)
          have hll := listE_len (Tr.texts b)
          have HBig : Hid ((Oct.listE (Tr.texts b)).2 = 3 → Tr.hashE b = (Tx.zero, 3)) := Lib.hid (fun h => Tr.hashE_big HMay2.out h (by decide))
          have HFine : Hid ((Oct.listE (Tr.texts b)).2 = 0 → Tr.hashE b = (Sha.sum (Oct.listE (Tr.texts b)).1, 0)) := Lib.hid (fun h => Tr.hashE_ok HMay2.out (by rw [← h]))
          generalize (Oct.listE (Tr.texts b)).1 = s at *
          generalize (Oct.listE (Tr.texts b)).2 = cd at *
          clear hub hlen hlt hk
          rcases hcode with rfl | rfl
          · have hKE := HKE.out
            rw [HFine.out rfl] at hKE
            obtain ⟨hKs, rfl⟩ : Sha.sum s = K ∧ 0 = E := by simpa using hKE
            have hKl : K.length = 32 := by rw [← hKs]; exact Sha.sum_len _
            have SM : Hid (∀ W : World, Tab W → Calls Tryd.prog 60 #[S s] W fun e w' => e = .returned (.agg (bRow K)) ∧ Below W.heap.size W w') := Lib.hid (fun W hW => by
              have := sum_any ⟨s.toArray⟩ W hW (by show s.length ≤ _; omega)
              rw [show (⟨s.toArray⟩ : ByteArray).data.toList = s from rfl, hKs] at this
              exact this)
            have HK32 := Lib.hid (Tx.bRow_len K hKl)
            have HK1 := Lib.hid (hash_one K hKl)
            clear hKE hKs hKl HBig HFine
            go_wp2_with fail
            refine LO.out.mono ?_
            rintro _ w9 ⟨rfl, hb9⟩
            have HS9 := Lib.hid (HS.out.step hb9)
            clear hb9
            go_wp2_with fail
            refine (SM.out _ (HT.out.below HS9.out.2.2 HT.out.pos)).mono ?_
            rintro _ w10 ⟨rfl, hb10⟩
            have HS10 := Lib.hid (HS9.out.step hb10)
            clear hb10
            go_wp2_with (with_reducible show wpList _ _ _ (⟨_, .store 42 _ _, _, _, _, _⟩ :: _) _ _
                         refine wpList_store_at rfl 42 (.tmp 2) (.tmp 86) rfl (w.heap.size + 1) 0 (bRow K).toList _ _ rfl rfl HS10.out.2.1 (by have := HK32.out; have := HZ32.out; omega) (by rw [hash_info, HK32.out]) HK1.out ?_
                         intro wz hrz hgz
                         rw [splice_all (HK32.out.trans HZ32.out.symm)] at hrz
                         have HRz := Lib.hid hrz
                         have Hbz := Lib.hid (below_own HS10.out.2.2 hgz (fun k hk => by cases hk; omega))
                         clear hrz hgz)
            exact bodyPost_ret (results_rowL rfl _ _ (w.heap.size + 1) 42 _ _ rfl HRz.out Tryd.underlying42 rfl (by rw [hash_info, List.size_toArray, HK32.out]) _ rfl) rfl ⟨rfl, Hbz.out⟩
          · have hKE := HKE.out
            rw [HBig.out rfl] at hKE
            obtain ⟨rfl, rfl⟩ : Tx.zero = K ∧ 3 = E := by simpa using hKE
            clear hKE HBig HFine
            go_wp2_with fail
            refine LO.out.mono ?_
            rintro _ w9 ⟨rfl, hb9⟩
            have HS9 := Lib.hid (HS.out.step hb9)
            clear hb9
            go_wp2_with (first
            | ((with_reducible show wpList _ _ _ (⟨_, .build 42 _, _, _, _, _⟩ :: _) _ _); refine wpList_buildL rfl 42 [] rfl (some 83) rfl [] rfl (bRow Tx.zero) hash_built ?_)
            | (with_reducible show wpList _ _ _ (⟨_, .store 42 _ _, _, _, _, _⟩ :: _) _ _
               refine wpList_store_at rfl 42 (.tmp 2) (.tmp 83) rfl (w.heap.size + 1) 0 (bRow Tx.zero).toList _ _ rfl rfl HS9.out.2.1 (by have := HZ32.out; omega) (by rw [hash_info, HZ32.out]) HZ1.out ?_
               intro wz hrz hgz
               rw [splice_all rfl] at hrz
               have HRz := Lib.hid hrz
               have Hbz := Lib.hid (below_own HS9.out.2.2 hgz (fun k hk => by cases hk; omega))
               clear hrz hgz))
            exact bodyPost_ret (results_rowL rfl _ _ (w.heap.size + 1) 42 _ _ rfl HRz.out Tryd.underlying42 rfl (by rw [hash_info, List.size_toArray, HZ32.out]) _ rfl) rfl ⟨rfl, Hbz.out⟩
    · skip
      try simp only [Act.put, List.getElem_toArray, List.getElem_cons_succ, List.getElem_cons_zero, List.setIfInBounds_toArray, List.set_cons_zero, List.set_cons_succ]
      go_simp
      have hbk := (Below.refl wq.heap.size wq).alloc (Nat.le_refl _) (.cells #[S n1, S n2, S pr] 9)
      have hnw := Row.new wq 9 [S n1, S n2, S pr]
      have hHeld2 := hHeld.step hbk
      obtain ⟨gb, hgb⟩ : ∃ gb, gb = wq.heap.size := ⟨_, rfl⟩
      rw [← hgb] at hnw ⊢
      have hnw : Row (wq.alloc (.cells #[S n1, S n2, S pr] 9)) gb 9 [S n1, S n2, S pr] := hnw
      generalize wq.alloc (.cells #[S n1, S n2, S pr] 9) = wb at *
      have HNew := Lib.hid hnw
      clear hnw hbk hgb
      refine hK1.out _ _ (hHeld2) (fun hHeld => ?_)
      clear hK1 K1
      try simp only [Act.put, List.getElem_toArray, List.getElem_cons_succ, List.getElem_cons_zero, List.setIfInBounds_toArray, List.set_cons_zero, List.set_cons_succ]
      clear hHeld2
      refine wpAnyH_ready (rs := [4]) (by kernel_rfl) (by simp) (AllReadyH.cons rfl (fun K1 hK1 => ?_) AllReadyH.nil)
      try simp only [Act.put, List.getElem_toArray, List.getElem_cons_succ, List.getElem_cons_zero, List.setIfInBounds_toArray, List.set_cons_zero, List.set_cons_succ]
      have hmk2 := Hmk.out
      go_simp
      clear hmk2
      have hbk := (Below.refl wb.heap.size wb).alloc (Nat.le_refl _) (.cells mc 9)
      have hom := Hmade.out wb hHeld.2.2.size
      have hHeld2 := hHeld.step hbk
      have HNew := Lib.hid (HNew.out.kept (grownBy_of_below hbk none) (by simp))
      obtain ⟨gm, hgm⟩ : ∃ gm, gm = wb.heap.size := ⟨_, rfl⟩
      rw [← hgm] at hom ⊢
      generalize wb.alloc (.cells mc 9) = wm at *
      have HOM := Lib.hid hom
      clear hom hbk hgm
      refine hK1.out _ _ (hHeld2) (fun hHeld => ?_)
      clear hK1 K1
      try simp only [Act.put, List.getElem_toArray, List.getElem_cons_succ, List.getElem_cons_zero, List.setIfInBounds_toArray, List.set_cons_zero, List.set_cons_succ]
      clear hHeld2
      refine wpAnyH_ready (rs := [11]) (by kernel_rfl) (by simp) (AllReadyH.cons rfl (fun K1 hK1 => ?_) AllReadyH.nil)
      try simp only [Act.put, List.getElem_toArray, List.getElem_cons_succ, List.getElem_cons_zero, List.setIfInBounds_toArray, List.set_cons_zero, List.set_cons_succ]
      rw [if_pos (by rfl)]
      refine wp_append_own_wide _ _ _ 80 rfl w.heap.size 9 i0 (.string ByteArray.empty) 1 16 Tryd.underlying80 Hi.out Hz.out Hsz.out Hby.out rfl (by decide) (.slice (some ⟨gm, 0, none⟩) 0 (3 + m)) 0 [] rfl HOM.out ⟨gb, 0, none⟩ 3 3 [S n1, S n2, S pr] rfl rfl (row_news HNew.out) (by intro u hu; simp at hu; rcases hu with rfl | rfl | rfl <;> rfl) (by decide) (by decide) hHeld.2.2.size ?_
      intro v' w5 hown5 hgrow5 _
      have hs5 := hHeld.grow HOM.out hgrow5
      have HO5 : Hid (w5.ownsRow w.heap.size 9 1 v' (Tr.upto b 0).length ((Tr.upto b 0).map S)) := Lib.hid (by rw [HU0.out]; exact hown5)
      clear hown5 hgrow5
      refine hK1.out _ _ (hs5) (fun hHeld => ?_)
      clear hK1 K1
      try simp only [Act.put, List.getElem_toArray, List.getElem_cons_succ, List.getElem_cons_zero, List.setIfInBounds_toArray, List.set_cons_zero, List.set_cons_succ]
      clear hs5
      refine wpAnyH_take (i := 12) (v := v') rfl (by kernel_rfl) (by kernel_rfl) (by kernel_rfl) (fun _ _ _ h => h) (Or.inl ⟨by rfl, fun w' hSw => by go_simp⟩) hHeld ?_
      try simp only [Act.put, List.getElem_toArray, List.getElem_cons_succ, List.getElem_cons_zero, List.setIfInBounds_toArray, List.set_cons_zero, List.set_cons_succ]
      refine wpAnyH_done (by kernel_rfl) ?_ _
      refine NoPanic.normal ?_
      have H5 := Lib.hid hHeld
      clear hHeld HOM HNew
      have c34 := (row_range H5.out.1) 34 _ H34.out
      rw [Nat.zero_add] at c34
      go_wp2_with fail
      clear c34
      go_loopw [8, 59] (fun v8 i wr => ∃ (k : Nat) (v : Value), k ≤ m ∧ i = .int .i64 k ∧ v = v8 ∧ (∀ i (hi : i < b.items.length), i < k → b.items[i].ok = true) ∧ HsAt w wr C ∧ wr.ownsRow w.heap.size 9 1 v (Tr.upto b k).length ((Tr.upto b k).map S)) (fun _ i _ => m - (intOf i).toNat)
      case atStart => exact ⟨0, _, Nat.zero_le _, rfl, rfl, fun _ _ h => absurd h (Nat.not_lt_zero _), H5.out, HO5.out⟩
      case round =>
        obtain ⟨k, v, hk, rfl, rfl, hok, hs, ho⟩ := hrel
        have HS := Lib.hid hs
        have HO := Lib.hid ho
        have HOk := Lib.hid hok
        clear hs ho hok H5 HO5
        by_cases hlt : k < m
        · have hki : (k : Int) < (m : Int) := by omega
          have hkl : k < b.items.length := by rw [← HMl.out]; exact hlt
          obtain ⟨b2, off2, rfl, hb2, hat2⟩ := Hits.out (by intro e; rw [e] at hkl; simp at hkl)
          have Hr2 := Lib.hid (range_below (hat2 k hkl) HS.out.2.2 hb2)
          have HNo := Lib.hid (HItems.out k hkl)
          have HNx := Lib.hid (HUN.out k hkl)
          have HOkN : Hid (b.items[k].ok = true → ∀ i (hi : i < b.items.length), i < k + 1 → b.items[i].ok = true) := Lib.hid (fun h i hi hik => by
            by_cases e : i = k
            · subst e; exact h
            · exact HOk.out i hi (by omega))
          have hlen := HUL.out k (by omega)
          have WI : Hid (∀ W, Calls Tryd.prog 58 #[.agg b.items[k].cells.toArray] W fun e w' => e = .returned (two b.items[k].textE.1 b.items[k].textE.2) ∧ Below W.heap.size W w') := Lib.hid (fun W => writeItem_any b.items[k] W)
          have HCode : Hid (b.items[k].ok = true → b.items[k].textE.2 = 0) := Lib.hid (fun h => by obtain ⟨s, e⟩ := It.code_ok h; rw [e])
          have HCodeN : Hid (b.items[k].ok = false → b.items[k].textE.2 = 2) := Lib.hid (fun h => by rw [It.code_no h])
          generalize Tr.upto b k = T at *
          generalize b.items[k] = it at *
          clear hat2
          have HIL : Hid (it.cells.length = 4) := Lib.hid rfl
          have HI1 := Lib.hid (item_one it)
          have HZI : Hid (It.zero.cells.length = 4) := Lib.hid rfl
          have Hnew := Lib.hid (Row.new wr 98 It.zero.cells)
          have hk63 : T.length + 1 ≤ maxLen := by unfold maxLen; omega
          have hk48 : ((T.length + 1) + (T.length + 1) / 4 + 192) * 16 ≤ 281474976710656 := by omega
          clear hlen
          generalize it.cells = IC at *
          generalize it.textE.1 = s at *
          generalize it.textE.2 = cd at *
          unfold two at WI
          rcases Bool.eq_false_or_eq_true it.ok with iok | iok
          · have hcd := HCode.out iok
            subst hcd
            have HOkN := Lib.hid (HOkN.out iok)
            clear HCode HCodeN iok HNo
            go_wp2_with (first
            | ((with_reducible show wpList _ _ _ (⟨_, .load 98 (.tmp 61), _, _, _, _⟩ :: _) _ _); refine wpList_load_tx rfl 98 (.tmp 61) rfl b2 (off2 + k * 4) rfl IC _ Hr2.out Tryd.underlying98 rfl (by rw [item_size, HIL.out]) ?_)
            | ((with_reducible show wpList _ _ _ (⟨_, .load 98 (.tmp 10), _, _, _, _⟩ :: _) _ _); refine wpList_load_tx rfl 98 (.tmp 10) rfl wr.heap.size 0 rfl IC _ (row_range HR7.out) Tryd.underlying98 rfl (by rw [item_size, HIL.out]) ?_)
            | (with_reducible show wpList _ _ _ (⟨_, .store 98 _ _, _, _, _, _⟩ :: _) _ _
               refine wpList_store_at rfl 98 (.tmp 10) (.tmp 62) rfl wr.heap.size 0 IC _ _ rfl rfl Hnew.out (by have := HIL.out; have := HZI.out; omega) (by rw [item_size, HIL.out]) HI1.out ?_
               intro w7 hr7 hg7
               rw [splice_all (HIL.out.trans HZI.out.symm)] at hr7
               have HS7 := Lib.hid ((HS.out.step ((Below.refl wr.heap.size wr).alloc (Nat.le_refl _) (.cells It.zero.cells.toArray 98))).put Hnew.out (by decide) (by decide) hg7 (by have := HS.out.lt; omega))
               have HO7 := Lib.hid ((HO.out.alloc (.cells It.zero.cells.toArray 98)).kept hg7 (.inr (row_ne_own Hnew.out (HO.out.alloc (.cells It.zero.cells.toArray 98)) (by decide))))
               have HR7 := Lib.hid hr7
               clear hr7 hg7))
            refine (WI.out _).mono ?_
            rintro _ w8 ⟨rfl, hb8⟩
            have HS8 := Lib.hid (HS7.out.step hb8)
            have HO8 := Lib.hid (own_below HO7.out hb8)
            clear hb8
            have Hnew2 := Lib.hid (row_news (Row.new w8 9 [S s]))
            have HO9 := Lib.hid (HO8.out.alloc (.cells #[S s] 9))
            have HS9 := Lib.hid (HS8.out.step ((Below.refl w8.heap.size w8).alloc (Nat.le_refl _) (.cells #[S s] 9)))
            have hz9 : w.heap.size ≤ (w8.alloc (.cells #[S s] 9)).heap.size := HS9.out.2.2.size
            go_wp2_with (at_builtin; refine wpList_append_own_wide _ rfl (.tmp 71) (.tmp 73) 80 rfl w.heap.size 9 i0 (.string ByteArray.empty) 1 16 Tryd.underlying80 Hi.out Hz.out Hsz.out Hby.out rfl (by decide) v _ _ rfl HO9.out ⟨w8.heap.size, 0, none⟩ 1 1 [S s] rfl rfl Hnew2.out (by intro u hu; simp at hu; subst hu; rfl) hk63 hk48 hz9 ?_
                         intro v' w10 hown10 hgrow10 _
                         obtain ⟨g10, cp10, rfl⟩ := ownsRow_succ hown10
                         have HS10 := Lib.hid (HS9.out.grow HO9.out hgrow10)
                         have HO10 := Lib.hid hown10
                         clear hown10 hgrow10)
            exact ⟨⟨k + 1, _, hlt, by go_num, rfl, HOkN.out, HS10.out, by rw [HNx.out, List.length_append, List.map_append]; exact HO10.out⟩, by simp [intOf]; omega⟩
          · have hcd := HCodeN.out iok
            subst hcd
            have hKE := HKE.out
            rw [HNo.out iok] at hKE
            obtain ⟨rfl, rfl⟩ : Tx.zero = K ∧ 2 = E := by simpa using hKE
            clear HCode HCodeN iok HNo hKE HOkN
            go_wp2_with (first
            | ((with_reducible show wpList _ _ _ (⟨_, .load 98 (.tmp 61), _, _, _, _⟩ :: _) _ _); refine wpList_load_tx rfl 98 (.tmp 61) rfl b2 (off2 + k * 4) rfl IC _ Hr2.out Tryd.underlying98 rfl (by rw [item_size, HIL.out]) ?_)
            | ((with_reducible show wpList _ _ _ (⟨_, .load 98 (.tmp 10), _, _, _, _⟩ :: _) _ _); refine wpList_load_tx rfl 98 (.tmp 10) rfl wr.heap.size 0 rfl IC _ (row_range HR7.out) Tryd.underlying98 rfl (by rw [item_size, HIL.out]) ?_)
            | (with_reducible show wpList _ _ _ (⟨_, .store 98 _ _, _, _, _, _⟩ :: _) _ _
               refine wpList_store_at rfl 98 (.tmp 10) (.tmp 62) rfl wr.heap.size 0 IC _ _ rfl rfl Hnew.out (by have := HIL.out; have := HZI.out; omega) (by rw [item_size, HIL.out]) HI1.out ?_
               intro w7 hr7 hg7
               rw [splice_all (HIL.out.trans HZI.out.symm)] at hr7
               have HS7 := Lib.hid ((HS.out.step ((Below.refl wr.heap.size wr).alloc (Nat.le_refl _) (.cells It.zero.cells.toArray 98))).put Hnew.out (by decide) (by decide) hg7 (by have := HS.out.lt; omega))
               have HO7 := Lib.hid ((HO.out.alloc (.cells It.zero.cells.toArray 98)).kept hg7 (.inr (row_ne_own Hnew.out (HO.out.alloc (.cells It.zero.cells.toArray 98)) (by decide))))
               have HR7 := Lib.hid hr7
               clear hr7 hg7))
            refine (WI.out _).mono ?_
            rintro _ w8 ⟨rfl, hb8⟩
            have HS8 := Lib.hid (HS7.out.step hb8)
            have HO8 := Lib.hid (own_below HO7.out hb8)
            clear hb8
            go_wp2_with (first
            | ((with_reducible show wpList _ _ _ (⟨_, .build 42 _, _, _, _, _⟩ :: _) _ _); refine wpList_buildL rfl 42 [] rfl (some 70) rfl [] rfl (bRow Tx.zero) hash_built ?_)
            | (with_reducible show wpList _ _ _ (⟨_, .store 42 _ _, _, _, _, _⟩ :: _) _ _
               refine wpList_store_at rfl 42 (.tmp 2) (.tmp 70) rfl (w.heap.size + 1) 0 (bRow Tx.zero).toList _ _ rfl rfl HS8.out.2.1 (by have := HZ32.out; omega) (by rw [hash_info, HZ32.out]) HZ1.out ?_
               intro wz hrz hgz
               rw [splice_all rfl] at hrz
               have HRz := Lib.hid hrz
               have Hbz := Lib.hid (below_own HS8.out.2.2 hgz (fun k hk => by cases hk; omega))
               clear hrz hgz))
            exact bodyPost_ret (results_rowL rfl _ _ (w.heap.size + 1) 42 _ _ rfl HRz.out Tryd.underlying42 rfl (by rw [hash_info, List.size_toArray, HZ32.out]) _ rfl) rfl ⟨rfl, Hbz.out⟩
        · have hki : (m : Int) ≤ (k : Int) := by omega
          have hke : k = m := by omega
          subst hke
          have hlen := HUL.out k (by omega)
          have HMay2 := Lib.hid (HMay.out (fun i hi => HOk.out i hi (by rw [← HMl.out] at hi; exact hi)))
          have hub : Tr.upto b k = Tr.texts b := by rw [HMl.out]; exact Tr.upto_all b
          rw [hub] at HO hlen
          have LO := Lib.hid (list_owned (Tr.texts b) (k := k + 2) rfl (by rw [hlen] at HO; exact HO.out) hlen.symm)
          have hcode := Tr.listE_code (Tr.texts b)
          have hll := listE_len (Tr.texts b)
          have HBig : Hid ((Oct.listE (Tr.texts b)).2 = 3 → Tr.hashE b = (Tx.zero, 3)) := Lib.hid (fun h => Tr.hashE_big HMay2.out h (by decide))
          have HFine : Hid ((Oct.listE (Tr.texts b)).2 = 0 → Tr.hashE b = (Sha.sum (Oct.listE (Tr.texts b)).1, 0)) := Lib.hid (fun h => Tr.hashE_ok HMay2.out (by rw [← h]))
          generalize (Oct.listE (Tr.texts b)).1 = s at *
          generalize (Oct.listE (Tr.texts b)).2 = cd at *
          clear hub hlen hlt hk
          rcases hcode with rfl | rfl
          · have hKE := HKE.out
            rw [HFine.out rfl] at hKE
            obtain ⟨hKs, rfl⟩ : Sha.sum s = K ∧ 0 = E := by simpa using hKE
            have hKl : K.length = 32 := by rw [← hKs]; exact Sha.sum_len _
            have SM : Hid (∀ W : World, Tab W → Calls Tryd.prog 60 #[S s] W fun e w' => e = .returned (.agg (bRow K)) ∧ Below W.heap.size W w') := Lib.hid (fun W hW => by
              have := sum_any ⟨s.toArray⟩ W hW (by show s.length ≤ _; omega)
              rw [show (⟨s.toArray⟩ : ByteArray).data.toList = s from rfl, hKs] at this
              exact this)
            have HK32 := Lib.hid (Tx.bRow_len K hKl)
            have HK1 := Lib.hid (hash_one K hKl)
            clear hKE hKs hKl HBig HFine
            go_wp2_with fail
            refine LO.out.mono ?_
            rintro _ w9 ⟨rfl, hb9⟩
            have HS9 := Lib.hid (HS.out.step hb9)
            clear hb9
            go_wp2_with fail
            refine (SM.out _ (HT.out.below HS9.out.2.2 HT.out.pos)).mono ?_
            rintro _ w10 ⟨rfl, hb10⟩
            have HS10 := Lib.hid (HS9.out.step hb10)
            clear hb10
            go_wp2_with (with_reducible show wpList _ _ _ (⟨_, .store 42 _ _, _, _, _, _⟩ :: _) _ _
                         refine wpList_store_at rfl 42 (.tmp 2) (.tmp 86) rfl (w.heap.size + 1) 0 (bRow K).toList _ _ rfl rfl HS10.out.2.1 (by have := HK32.out; have := HZ32.out; omega) (by rw [hash_info, HK32.out]) HK1.out ?_
                         intro wz hrz hgz
                         rw [splice_all (HK32.out.trans HZ32.out.symm)] at hrz
                         have HRz := Lib.hid hrz
                         have Hbz := Lib.hid (below_own HS10.out.2.2 hgz (fun k hk => by cases hk; omega))
                         clear hrz hgz)
            exact bodyPost_ret (results_rowL rfl _ _ (w.heap.size + 1) 42 _ _ rfl HRz.out Tryd.underlying42 rfl (by rw [hash_info, List.size_toArray, HK32.out]) _ rfl) rfl ⟨rfl, Hbz.out⟩
          · have hKE := HKE.out
            rw [HBig.out rfl] at hKE
            obtain ⟨rfl, rfl⟩ : Tx.zero = K ∧ 3 = E := by simpa using hKE
            clear hKE HBig HFine
            go_wp2_with fail
            refine LO.out.mono ?_
            rintro _ w9 ⟨rfl, hb9⟩
            have HS9 := Lib.hid (HS.out.step hb9)
            clear hb9
            go_wp2_with (first
            | ((with_reducible show wpList _ _ _ (⟨_, .build 42 _, _, _, _, _⟩ :: _) _ _); refine wpList_buildL rfl 42 [] rfl (some 83) rfl [] rfl (bRow Tx.zero) hash_built ?_)
            | (with_reducible show wpList _ _ _ (⟨_, .store 42 _ _, _, _, _, _⟩ :: _) _ _
               refine wpList_store_at rfl 42 (.tmp 2) (.tmp 83) rfl (w.heap.size + 1) 0 (bRow Tx.zero).toList _ _ rfl rfl HS9.out.2.1 (by have := HZ32.out; omega) (by rw [hash_info, HZ32.out]) HZ1.out ?_
               intro wz hrz hgz
               rw [splice_all rfl] at hrz
               have HRz := Lib.hid hrz
               have Hbz := Lib.hid (below_own HS9.out.2.2 hgz (fun k hk => by cases hk; omega))
               clear hrz hgz))
            exact bodyPost_ret (results_rowL rfl _ _ (w.heap.size + 1) 42 _ _ rfl HRz.out Tryd.underlying42 rfl (by rw [hash_info, List.size_toArray, HZ32.out]) _ rfl) rfl ⟨rfl, Hbz.out⟩
  · -- too many items
    have hno : Tr.may b = false := by rw [Bool.eq_false_iff]; intro h; have := ((Tr.may_iff b).1 h).2.2.1; omega
    have hKE := HKE.out
    rw [Tr.hashE_no hno] at hKE
    obtain ⟨rfl, rfl⟩ : Tx.zero = K ∧ 2 = E := by simpa using hKE
    have N0 := Lib.hid (fun W => number11_b a0 W)
    have N1 := Lib.hid (fun W => number11_b a1 W)
    have d32 : decide ((32 : Int) < (m : Int)) = true := by simp; omega
    generalize b.number = num at *
    generalize b.salt = salt at *
    clear hno hKE a0 a1 hm
    go_enter Tryd.func30, Tryd.ntmps30
    go_wp2_with fail
    refine (N0.out _).mono ?_
    rintro _ w1 ⟨rfl, rfl⟩
    go_wp2_with fail
    refine (N1.out _).mono ?_
    rintro _ w1 ⟨rfl, rfl⟩
    go_wp2_with (first
    | ((with_reducible show wpList _ _ _ (⟨_, .build 42 _, _, _, _, _⟩ :: _) _ _); refine wpList_buildL rfl 42 [] rfl (some 31) rfl [] rfl (bRow Tx.zero) hash_built ?_)
    | (with_reducible show wpList _ _ _ (⟨_, .store 42 _ _, _, _, _, _⟩ :: _) _ _
       refine wpList_store_at rfl 42 (.tmp 2) (.tmp 31) rfl (w.heap.size + 1) 0 (bRow Tx.zero).toList _ _ rfl rfl H0.out.2.1 (by have := HZ32.out; omega) (by rw [hash_info, HZ32.out]) HZ1.out ?_
       intro wz hrz hgz
       rw [splice_all rfl] at hrz
       have HRz := Lib.hid hrz
       have Hbz := Lib.hid (below_own H0.out.2.2 hgz (fun k hk => by cases hk; omega))
       clear hrz hgz))
    exact bodyPost_ret (results_rowL rfl _ _ (w.heap.size + 1) 42 _ _ rfl HRz.out Tryd.underlying42 rfl (by rw [hash_info, List.size_toArray, HZ32.out]) _ rfl) rfl ⟨rfl, Hbz.out⟩
  · have hno : Tr.may b = false := by rw [Bool.eq_false_iff]; intro h; rw [Tr.may_iff, ← No.num_iff, ← No.num_iff] at h; rw [a1] at h; simp at h
    have hKE := HKE.out
    rw [Tr.hashE_no hno] at hKE
    obtain ⟨rfl, rfl⟩ : Tx.zero = K ∧ 2 = E := by simpa using hKE
    have N0 := Lib.hid (fun W => number11_b a0 W)
    have N1 := Lib.hid (fun W => number11_b a1 W)
    generalize b.number = num at *
    generalize b.salt = salt at *
    clear hno hKE a0 a1 hm
    go_enter Tryd.func30, Tryd.ntmps30
    go_wp2_with fail
    refine (N0.out _).mono ?_
    rintro _ w1 ⟨rfl, rfl⟩
    go_wp2_with fail
    refine (N1.out _).mono ?_
    rintro _ w1 ⟨rfl, rfl⟩
    go_wp2_with (first
    | ((with_reducible show wpList _ _ _ (⟨_, .build 42 _, _, _, _, _⟩ :: _) _ _); refine wpList_buildL rfl 42 [] rfl (some 31) rfl [] rfl (bRow Tx.zero) hash_built ?_)
    | (with_reducible show wpList _ _ _ (⟨_, .store 42 _ _, _, _, _, _⟩ :: _) _ _
       refine wpList_store_at rfl 42 (.tmp 2) (.tmp 31) rfl (w.heap.size + 1) 0 (bRow Tx.zero).toList _ _ rfl rfl H0.out.2.1 (by have := HZ32.out; omega) (by rw [hash_info, HZ32.out]) HZ1.out ?_
       intro wz hrz hgz
       rw [splice_all rfl] at hrz
       have HRz := Lib.hid hrz
       have Hbz := Lib.hid (below_own H0.out.2.2 hgz (fun k hk => by cases hk; omega))
       clear hrz hgz))
    exact bodyPost_ret (results_rowL rfl _ _ (w.heap.size + 1) 42 _ _ rfl HRz.out Tryd.underlying42 rfl (by rw [hash_info, List.size_toArray, HZ32.out]) _ rfl) rfl ⟨rfl, Hbz.out⟩
  · have hno : Tr.may b = false := by rw [Bool.eq_false_iff]; intro h; rw [Tr.may_iff, ← No.num_iff, ← No.num_iff] at h; rw [a0] at h; simp at h
    have hKE := HKE.out
    rw [Tr.hashE_no hno] at hKE
    obtain ⟨rfl, rfl⟩ : Tx.zero = K ∧ 2 = E := by simpa using hKE
    have N0 := Lib.hid (fun W => number11_b a0 W)
    generalize b.number = num at *
    generalize b.salt = salt at *
    clear hno hKE a0 hm
    go_enter Tryd.func30, Tryd.ntmps30
    go_wp2_with fail
    refine (N0.out _).mono ?_
    rintro _ w1 ⟨rfl, rfl⟩
    go_wp2_with (first
    | ((with_reducible show wpList _ _ _ (⟨_, .build 42 _, _, _, _, _⟩ :: _) _ _); refine wpList_buildL rfl 42 [] rfl (some 31) rfl [] rfl (bRow Tx.zero) hash_built ?_)
    | (with_reducible show wpList _ _ _ (⟨_, .store 42 _ _, _, _, _, _⟩ :: _) _ _
       refine wpList_store_at rfl 42 (.tmp 2) (.tmp 31) rfl (w.heap.size + 1) 0 (bRow Tx.zero).toList _ _ rfl rfl H0.out.2.1 (by have := HZ32.out; omega) (by rw [hash_info, HZ32.out]) HZ1.out ?_
       intro wz hrz hgz
       rw [splice_all rfl] at hrz
       have HRz := Lib.hid hrz
       have Hbz := Lib.hid (below_own H0.out.2.2 hgz (fun k hk => by cases hk; omega))
       clear hrz hgz))
    exact bodyPost_ret (results_rowL rfl _ _ (w.heap.size + 1) 42 _ _ rfl HRz.out Tryd.underlying42 rfl (by rw [hash_info, List.size_toArray, HZ32.out]) _ rfl) rfl ⟨rfl, Hbz.out⟩
end Go.Proofs.YtjeooegkfjlejaaDoor
