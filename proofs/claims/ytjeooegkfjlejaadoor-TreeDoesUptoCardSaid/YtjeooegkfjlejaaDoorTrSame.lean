/- What later texts need of the earlier layers. -/
import Derived.Test.YtjeooegkfjlejaaDoorEarO
import Derived.Test.YtjeooegkfjlejaaDoorEarS
import Derived.Test.YtjeooegkfjlejaaDoorEarT
import Derived.Test.YtjeooegkfjlejaaDoorEarC
import Derived.Test.YtjeooegkfjlejaaDoorEarA
import Derived.Test.YtjeooegkfjlejaaDoorEarB
import Derived.Test.YtjeooegkfjlejaaDoorIbA
import Derived.Test.YtjeooegkfjlejaaDoorTrMath
import Derived.Test.YtjeooegkfjlejaaDoorTrTm
import Derived.Test.YtjeooegkfjlejaaDoorTrHash
import Derived.Test.YtjeooegkfjlejaaDoorTrMem
import Derived.Test.YtjeooegkfjlejaaDoorTrLv
import Derived.Test.YtjeooegkfjlejaaDoorTrLink
import Derived.Test.YtjeooegkfjlejaaDoorTrBeh
import Derived.Test.YtjeooegkfjlejaaDoorTrCh
import Derived.Test.YtjeooegkfjlejaaDoorTrAt
import Derived.Test.YtjeooegkfjlejaaDoorTrNew
import Derived.Test.YtjeooegkfjlejaaDoorTrMine
import Derived.Test.YtjeooegkfjlejaaDoorTrAll
import Derived.Test.YtjeooegkfjlejaaDoorTrFind
import Derived.Test.YtjeooegkfjlejaaDoorTrAwk
import Derived.Test.YtjeooegkfjlejaaDoorTrLaw2
import Derived.Test.YtjeooegkfjlejaaDoorTrRch
import Derived.Test.YtjeooegkfjlejaaDoorTrRnew
import Derived.Test.YtjeooegkfjlejaaDoorTrFew
import Derived.Test.YtjeooegkfjlejaaDoorTrUpd
/- ---- TrSame ---- -/
/- cavalcaderef11.Same and All over equal blocks. -/
namespace Go.Proofs.YtjeooegkfjlejaaDoor
open Go.RowKit
set_option linter.unusedVariables false
set_option linter.unusedSimpArgs false

theorem it_same (W : World) (i : It) (h : i.ok = true) : (Op.equalIn 10000 98 (.agg i.cells.toArray) (.agg i.cells.toArray)).run Tryd.prog W = .ok true W := by
  have hk : Tryd.prog.keyTypeAt 3 98 = true := by kernel_rfl
  have hc : Tryd.prog.cellsOf 98 = 4 := by kernel_rfl
  have hI : Tryd.prog.cellsOf 3 = 1 := by kernel_rfl
  have hS : Tryd.prog.cellsOf 9 = 1 := by kernel_rfl
  have hf : (Value.agg i.cells.toArray).formed Tryd.prog 98 = true := by
    simp [Value.formed, Tryd.underlying98, hc, It.cells]
  have hn : Tx.fits i.kind ∧ Tx.fits i.who ∧ Tx.fits i.n ∧ i.text.size ≤ maxLen := by
    have := (It.ok_iff i).1 h
    unfold Tx.fits maxLen
    rcases this with h | h
    · omega
    · have : i.text.size = 0 := by
        have h5 : i.text.data.toList.length = 0 := by rw [h.2.2.2.2]; rfl
        show i.text.data.size = 0
        rw [← Array.length_toList]
        exact h5
      omega
  have hl : Tryd.prog.keyLits 3 98 i.cells = some [.int .i64 i.kind, .int .i64 i.who, .int .i64 i.n, .string i.text.data.toList] := by
    unfold Program.keyLits
    simp only [Tryd.underlying98]
    rw [if_pos ⟨by rw [hc]; rfl, by kernel_rfl⟩]
    have e0 : Tryd.prog.keyLits 2 3 ((i.cells.drop 0).take (Tryd.prog.cellsOf 3)) = some [.int .i64 i.kind] := by rw [hI]; exact lit_int 1 hn.1
    have e1 : Tryd.prog.keyLits 2 3 ((i.cells.drop 1).take (Tryd.prog.cellsOf 3)) = some [.int .i64 i.who] := by rw [hI]; exact lit_int 1 hn.2.1
    have e2 : Tryd.prog.keyLits 2 3 ((i.cells.drop 2).take (Tryd.prog.cellsOf 3)) = some [.int .i64 i.n] := by rw [hI]; exact lit_int 1 hn.2.2.1
    have e3 : Tryd.prog.keyLits 2 9 ((i.cells.drop 3).take (Tryd.prog.cellsOf 9)) = some [.string i.text.data.toList] := by rw [hS]; exact lit_str 1 _ hn.2.2.2
    simp only [List.mapM_cons, List.mapM_nil, e0, e1, e2, e3, Option.bind_eq_bind, Option.bind_some, Option.pure_def, Option.map_some]
    simp
  obtain ⟨r, hr, hiff⟩ := run_equalIn_deep (P := Tryd.prog) 9997 3 98 hk W 3 3 (.agg i.cells.toArray) (.agg i.cells.toArray) _ _ hf hf (by show Tryd.prog.keyLits 3 _ i.cells.toArray.toList = _; exact hl) (by show Tryd.prog.keyLits 3 _ i.cells.toArray.toList = _; exact hl)
  rw [hr, hiff.2 rfl]
/-- where Same stands -/
def SmIn (w w' : World) (C1 C2 : List Value) : Prop := Row w' w.heap.size 45 C1 ∧ Row w' (w.heap.size + 1) 45 C2 ∧ Below w.heap.size w w'
theorem SmIn.step {w W W' : World} {C1 C2 : List Value} (h : SmIn w W C1 C2) (hb : Below W.heap.size W W') : SmIn w W' C1 C2 := ⟨h.1.below hb, h.2.1.below hb, two_below' h.2.2 hb⟩
/-- a block's items may be -/
def Bk.Fine (b : Bk) : Prop := Tx.fits b.salt ∧ ∀ i ∈ b.items, i.ok = true
theorem Bk.at_ {b : Bk} {A : Option Addr} {c : Nat} (hp : b.parent.length = 32) {w : World} {g : Nat} (h : Row w g 45 (b.cells A c)) : w.cell? ⟨g, 0, none⟩ = some (.int .i64 b.number) ∧ w.cell? ⟨g, 1, none⟩ = some (.int .i64 b.salt) ∧ w.rangeAt g 2 (bRow b.parent).toList ∧ w.cell? ⟨g, 34, none⟩ = some (.slice A b.items.length c) := by
  have q0 := (row_range h) 0 _ (Bk.cell0 b A c)
  have q1 := (row_range h) 1 (.int .i64 b.salt) rfl
  have q34 := (row_range h) 34 _ (Bk.cell34 (A := A) (cap := c) hp)
  rw [Nat.zero_add] at q0 q1 q34
  refine ⟨q0, q1, fun j v hv => ?_, q34⟩
  have := (row_range h) (2 + j) v (by
    unfold Bk.cells
    rw [List.getElem?_append_right (by simp), List.getElem?_append_left (by simpa using (List.getElem?_eq_some_iff.1 hv).1)]
    simpa using hv)
  rw [Nat.zero_add] at this
  exact this
set_option maxRecDepth 20000 in
set_option maxHeartbeats 3200000 in
theorem rsame_any (b : Bk) (A A' : Option Addr) (c c' : Nat) (hp : b.parent.length = 32) (hok : b.Fine) (hl : b.items.length ≤ 9223372036854775807) (w : World) (h1 : BkItems w w.heap.size A b.items) (h2 : BkItems w w.heap.size A' b.items) :
    Calls Tryd.prog 27 #[.agg (b.cells A c).toArray, .agg (b.cells A' c').toArray] w fun e w' => e = .returned (.bool true) ∧ Below w.heap.size w w' := by
  obtain ⟨r2, hb, r1⟩ := row_two w (b.cells A c).toArray (b.cells A' c').toArray 45 45
  simp only [List.toList_toArray] at r1 r2
  obtain ⟨p0, p1, p2, p34⟩ := Bk.at_ hp r1
  obtain ⟨q0, q1, q2, q34⟩ := Bk.at_ hp r2
  have HP1 := Lib.hid p2
  have HP2 := Lib.hid q2
  have HZ32 := Lib.hid (Tx.bRow_len b.parent hp)
  have heq : ∀ W : World, (Op.equalIn 10000 42 (.agg (bRow b.parent)) (.agg (bRow b.parent))).run Tryd.prog W = .ok true W := fun W => (hash_eq W _ _ hp hp).trans (by simp)
  have HI0 : Hid (SmIn w _ (b.cells A c) (b.cells A' c')) := Lib.hid ⟨r1, r2, hb⟩
  have HC1 : Hid (∀ W, Row W w.heap.size 45 (b.cells A c) → W.cell? ⟨w.heap.size, 34, none⟩ = some (.slice A b.items.length c)) := Lib.hid (fun W h => (Bk.at_ hp h).2.2.2)
  have HC2 : Hid (∀ W, Row W (w.heap.size + 1) 45 (b.cells A' c') → W.cell? ⟨w.heap.size + 1, 34, none⟩ = some (.slice A' b.items.length c')) := Lib.hid (fun W h => (Bk.at_ hp h).2.2.2)
  have HOk := Lib.hid hok.2
  have HA := Lib.hid h1.1
  have HB := Lib.hid h2.1
  obtain ⟨n, hn⟩ : ∃ n, n = b.items.length := ⟨_, rfl⟩
  rw [← hn] at p34 q34 HC1 HC2 hl
  have HN := Lib.hid hn
  clear r1 r2 hb p2 q2 hok h1 h2 hn hp
  generalize hits : b.items = its at *
  generalize b.cells A c = C1 at *
  generalize b.cells A' c' = C2 at *
  generalize hZZ : bRow b.parent = ZZ at *
  generalize b.number = num at *
  generalize b.salt = salt at *
  clear hits hZZ
  go_enter Tryd.func27, Tryd.ntmps27
  go_wp2_with (first
  | ((with_reducible show wpList _ _ _ (⟨_, .load 42 (.tmp 19), _, _, _, _⟩ :: _) _ _); refine wpList_load_tx rfl 42 (.tmp 19) rfl w.heap.size 2 rfl ZZ.toList _ HP1.out Tryd.underlying42 rfl (by rw [hash_info, HZ32.out]) ?_)
  | ((with_reducible show wpList _ _ _ (⟨_, .load 42 (.tmp 21), _, _, _, _⟩ :: _) _ _); refine wpList_load_tx rfl 42 (.tmp 21) rfl (w.heap.size + 1) 2 rfl ZZ.toList _ HP2.out Tryd.underlying42 rfl (by rw [hash_info, HZ32.out]) ?_))
  clear p0 p1 p34 q0 q1 q34 heq HP1 HP2
  generalize ((w.alloc (.cells C1.toArray 45)).alloc (.cells C2.toArray 45)) = W2 at *
  go_loopw [5] (fun i wr => ∃ k : Nat, k ≤ n ∧ i = .int .i64 k ∧ SmIn w wr C1 C2) (fun i _ => n - (intOf i).toNat)
  case atStart => exact ⟨0, Nat.zero_le _, rfl, HI0.out⟩
  case round =>
    obtain ⟨k, hk, rfl, hI⟩ := hrel
    have HI := Lib.hid hI
    have c1 := HC1.out _ hI.1
    have c2 := HC2.out _ hI.2.1
    clear hI HI0
    by_cases hkn : k < n
    · have hki : (k : Int) < (n : Int) := by omega
      have hkl : k < its.length := by rw [← HN.out]; exact hkn
      obtain ⟨ga, oa, rfl, hga, hca⟩ := HA.out (by intro e; rw [e] at hkl; simp at hkl)
      obtain ⟨gb, ob, rfl, hgb, hcb⟩ := HB.out (by intro e; rw [e] at hkl; simp at hkl)
      have hra := hca k hkl
      have hrb := hcb k hkl
      have heq := fun W => it_same W its[k] (HOk.out _ (List.getElem_mem _))
      have HCL : Hid (its[k].cells.length = 4) := Lib.hid rfl
      unfold ItR at hra hrb
      clear hca hcb
      generalize its[k].cells = IC at *
      have RA : Hid (∀ W, Below w.heap.size w W → W.rangeAt ga (oa + k * 4) IC) := Lib.hid (fun W hW => range_below hra hW hga)
      have RB : Hid (∀ W, Below w.heap.size w W → W.rangeAt gb (ob + k * 4) IC) := Lib.hid (fun W hW => range_below hrb hW hgb)
      have hu := Tryd.underlying98
      have hi : (Tryd.prog.info? 98).map (·.size) = some IC.length := by rw [item_size, HCL.out]
      clear hra hrb
      go_wp2_with fail
      refine wp_region_noPanic ?_
      refine wp_region_held_drew (S := fun w' => SmIn w w' C1 C2) (by kernel_rfl) (HI.out.step ((Below.refl _ _).drew)) (fun hHeld => ?_)
      generalize wr.drew = wq at *
      refine wpAnyH_take (i := 0) (v := .pointer (some ⟨w.heap.size, 34, none⟩)) rfl (by kernel_rfl) (by kernel_rfl) (by kernel_rfl) (fun _ _ _ h => h) (Or.inl ⟨by rfl, fun w' hSw => by go_simp⟩) hHeld ?_
      try simp only [Act.put, List.getElem_toArray, List.getElem_cons_succ, List.getElem_cons_zero, List.setIfInBounds_toArray, List.set_cons_zero, List.set_cons_succ]
      refine wpAnyH_take (i := 1) (v := .slice (some ⟨ga, oa, none⟩) n c) rfl (by kernel_rfl) (by kernel_rfl) (by kernel_rfl) (fun _ _ _ h => h) (Or.inl ⟨by rfl, fun w' hSw => by have hq := hSw; have hd := HC1.out _ hq.1; go_simp⟩) hHeld ?_
      try simp only [Act.put, List.getElem_toArray, List.getElem_cons_succ, List.getElem_cons_zero, List.setIfInBounds_toArray, List.set_cons_zero, List.set_cons_succ]
      refine wpAnyH_take (i := 2) (v := .int .i64 k) rfl (by kernel_rfl) (by kernel_rfl) (by kernel_rfl) (fun _ _ _ h => h) (Or.inl ⟨by rfl, fun w' hSw => by go_simp⟩) hHeld ?_
      try simp only [Act.put, List.getElem_toArray, List.getElem_cons_succ, List.getElem_cons_zero, List.setIfInBounds_toArray, List.set_cons_zero, List.set_cons_succ]
      refine wpAnyH_take (i := 3) (v := .pointer (some ⟨ga, (oa + k * 4), none⟩)) rfl (by kernel_rfl) (by kernel_rfl) (by kernel_rfl) (fun _ _ _ h => h) (Or.inl ⟨by rfl, fun w' hSw => by go_simp⟩) hHeld ?_
      try simp only [Act.put, List.getElem_toArray, List.getElem_cons_succ, List.getElem_cons_zero, List.setIfInBounds_toArray, List.set_cons_zero, List.set_cons_succ]
      refine' wpAnyH_take (i := 4) (v := _) rfl (by kernel_rfl) (by kernel_rfl) (by kernel_rfl) (fun _ _ _ h => h) (yieldsIf_load_mid (by rfl) _ _ rfl ga (oa + k * 4) rfl IC _ (fun w' hSw => RA.out _ hSw.2.2) hu rfl hi) hHeld ?_
      try simp only [Act.put, List.getElem_toArray, List.getElem_cons_succ, List.getElem_cons_zero, List.setIfInBounds_toArray, List.set_cons_zero, List.set_cons_succ]
      refine wpAnyH_take (i := 5) (v := .pointer (some ⟨(w.heap.size + 1), 34, none⟩)) rfl (by kernel_rfl) (by kernel_rfl) (by kernel_rfl) (fun _ _ _ h => h) (Or.inl ⟨by rfl, fun w' hSw => by go_simp⟩) hHeld ?_
      try simp only [Act.put, List.getElem_toArray, List.getElem_cons_succ, List.getElem_cons_zero, List.setIfInBounds_toArray, List.set_cons_zero, List.set_cons_succ]
      refine wpAnyH_take (i := 6) (v := .slice (some ⟨gb, ob, none⟩) n c') rfl (by kernel_rfl) (by kernel_rfl) (by kernel_rfl) (fun _ _ _ h => h) (Or.inl ⟨by rfl, fun w' hSw => by have hq := hSw; have hd := HC2.out _ hq.2.1; go_simp⟩) hHeld ?_
      try simp only [Act.put, List.getElem_toArray, List.getElem_cons_succ, List.getElem_cons_zero, List.setIfInBounds_toArray, List.set_cons_zero, List.set_cons_succ]
      refine wpAnyH_take (i := 7) (v := .int .i64 k) rfl (by kernel_rfl) (by kernel_rfl) (by kernel_rfl) (fun _ _ _ h => h) (Or.inl ⟨by rfl, fun w' hSw => by go_simp⟩) hHeld ?_
      try simp only [Act.put, List.getElem_toArray, List.getElem_cons_succ, List.getElem_cons_zero, List.setIfInBounds_toArray, List.set_cons_zero, List.set_cons_succ]
      refine wpAnyH_take (i := 8) (v := .pointer (some ⟨gb, (ob + k * 4), none⟩)) rfl (by kernel_rfl) (by kernel_rfl) (by kernel_rfl) (fun _ _ _ h => h) (Or.inl ⟨by rfl, fun w' hSw => by go_simp⟩) hHeld ?_
      try simp only [Act.put, List.getElem_toArray, List.getElem_cons_succ, List.getElem_cons_zero, List.setIfInBounds_toArray, List.set_cons_zero, List.set_cons_succ]
      refine' wpAnyH_take (i := 9) (v := _) rfl (by kernel_rfl) (by kernel_rfl) (by kernel_rfl) (fun _ _ _ h => h) (yieldsIf_load_mid (by rfl) _ _ rfl gb (ob + k * 4) rfl IC _ (fun w' hSw => RB.out _ hSw.2.2) hu rfl hi) hHeld ?_
      try simp only [Act.put, List.getElem_toArray, List.getElem_cons_succ, List.getElem_cons_zero, List.setIfInBounds_toArray, List.set_cons_zero, List.set_cons_succ]
      refine wpAnyH_take (i := 10) (v := .bool false) rfl (by kernel_rfl) (by kernel_rfl) (by kernel_rfl) (fun _ _ _ h => h) (Or.inl ⟨by rfl, fun w' hSw => by go_simp⟩) hHeld ?_
      try simp only [Act.put, List.getElem_toArray, List.getElem_cons_succ, List.getElem_cons_zero, List.setIfInBounds_toArray, List.set_cons_zero, List.set_cons_succ]
      refine wpAnyH_done (by kernel_rfl) ?_ _
      refine NoPanic.normal ?_
      have HRe := Lib.hid hHeld
      clear hHeld heq
      go_wp2_with fail
      exact ⟨⟨k + 1, hkn, by go_num, HRe.out⟩, by simp [intOf]; omega⟩
    · have hki : (n : Int) ≤ (k : Int) := by omega
      go_wp2_with fail
      go_ret
      exact ⟨rfl, HI.out.2.2⟩
set_option maxRecDepth 20000 in
set_option maxHeartbeats 3200000 in
theorem rall_any (l m : List Bv) (hlm : bks l = bks m) (hf : ∀ x ∈ l, x.Fits) (hfm : ∀ x ∈ m, x.Fits) (hok : ∀ x ∈ l, x.b.Fine) (hl : l.length ≤ 1000000) (A B : Option Addr) (c d : Nat) (w : World) (hA : BvIn w w.heap.size A c l) (hB : BvIn w w.heap.size B d m) :
    Calls Tryd.prog 23 #[.slice A l.length c, .slice B m.length d] w fun e w' => e = .returned (.bool true) ∧ Below w.heap.size w w' := by
  have hml : m.length = l.length := by rw [← bks_len, ← bks_len, hlm]
  rw [hml]
  have HA := Lib.hid hA.1
  have HB := Lib.hid hB.1
  have HF := Lib.hid hf
  have HFm := Lib.hid hfm
  have HOk := Lib.hid hok
  have HLM := Lib.hid hlm
  have HML := Lib.hid hml
  obtain ⟨n, hn⟩ : ∃ n, n = l.length := ⟨_, rfl⟩
  rw [← hn] at hl ⊢
  have HN := Lib.hid hn
  have Hb0 := Lib.hid (Below.refl w.heap.size w)
  clear hn hA hB hf hfm hok hlm hml
  go_enter Tryd.func23, Tryd.ntmps23
  go_wp2_with fail
  go_loopw [5] (fun i wr => ∃ k : Nat, k ≤ n ∧ i = .int .i64 k ∧ Below w.heap.size w wr) (fun i _ => n - (intOf i).toNat)
  case atStart => exact ⟨0, Nat.zero_le _, rfl, Hb0.out⟩
  case round =>
    obtain ⟨k, hk, rfl, hR⟩ := hrel
    have HR := Lib.hid hR
    clear hR Hb0
    by_cases hkn : k < n
    · have hki : (k : Int) < (n : Int) := by omega
      have hkl : k < l.length := by rw [← HN.out]; exact hkn
      have hkm : k < m.length := by rw [HML.out, ← HN.out]; exact hkn
      obtain ⟨ga, oa, rfl, hga, hca⟩ := HA.out (by intro e; rw [e] at hkl; simp at hkl)
      obtain ⟨gb, ob, rfl, hgb, hcb⟩ := HB.out (by intro e; rw [e] at hkm; simp at hkm)
      obtain ⟨hra, hia, _⟩ := hca k hkl
      obtain ⟨hrb, hib, _⟩ := hcb k hkm
      have hxb : l[k].b = m[k].b := by
        have := congrArg (fun L : List Bk => L[k]?) HLM.out
        simp only [bks, List.getElem?_map, List.getElem?_eq_getElem hkl, List.getElem?_eq_getElem hkm, Option.map_some, Option.some.injEq] at this
        exact this
      have hfa := HF.out _ (List.getElem_mem hkl)
      have hfb := HFm.out _ (List.getElem_mem hkm)
      have hoa := HOk.out _ (List.getElem_mem hkl)
      have HCL := Lib.hid (Bv.cells_len hfa)
      have HDL := Lib.hid (Bv.cells_len hfb)
      obtain ⟨x, hx⟩ : ∃ x, x = l[k] := ⟨_, rfl⟩
      obtain ⟨y, hy⟩ : ∃ y, y = m[k] := ⟨_, rfl⟩
      rw [← hx] at hra hia hxb hfa hoa HCL
      rw [← hy] at hrb hib hxb HDL
      obtain ⟨bx, Ax, cx⟩ := x
      obtain ⟨b2, Ay, cy⟩ := y
      simp only at hxb
      subst hxb
      have CS : Hid (∀ W, Below w.heap.size w W → Calls Tryd.prog 27 #[.agg (Bv.cells ⟨bx, Ax, cx⟩).toArray, .agg (Bv.cells ⟨bx, Ay, cy⟩).toArray] W fun e w' => e = .returned (.bool true) ∧ Below W.heap.size W w') :=
        Lib.hid (fun W hW => rsame_any bx Ax Ay cx cy hfa.1 hoa hia.2 W ((hia.below hW).mono hW.size) ((hib.below hW).mono hW.size))
      clear hca hcb hfa hfb hoa hia hib hx hy
      generalize Bv.cells ⟨bx, Ax, cx⟩ = XC at *
      generalize Bv.cells ⟨bx, Ay, cy⟩ = YC at *
      have RA : Hid (∀ W, Below w.heap.size w W → W.rangeAt ga (oa + k * 35) XC) := Lib.hid (fun W hW => range_below hra hW hga)
      have RB : Hid (∀ W, Below w.heap.size w W → W.rangeAt gb (ob + k * 35) YC) := Lib.hid (fun W hW => range_below hrb hW hgb)
      have hu := Tryd.underlying45
      have hi : (Tryd.prog.info? 45).map (·.size) = some XC.length := by rw [block_size, HCL.out]
      have hi2 : (Tryd.prog.info? 45).map (·.size) = some YC.length := by rw [block_size, HDL.out]
      clear hra hrb
      go_wp2_with fail
      refine wp_region_noPanic ?_
      refine wp_region_held_drew (S := fun w' => Below w.heap.size w w') (by kernel_rfl) (HR.out.drew) (fun hHeld => ?_)
      generalize wr.drew = wq at *
      refine wpAnyH_take (i := 0) (v := .slice (some ⟨ga, oa, none⟩) n c) rfl (by kernel_rfl) (by kernel_rfl) (by kernel_rfl) (fun _ _ _ h => h) (Or.inl ⟨by rfl, fun w' hSw => by go_simp⟩) hHeld ?_
      try simp only [Act.put, List.getElem_toArray, List.getElem_cons_succ, List.getElem_cons_zero, List.setIfInBounds_toArray, List.set_cons_zero, List.set_cons_succ]
      refine wpAnyH_take (i := 1) (v := .int .i64 k) rfl (by kernel_rfl) (by kernel_rfl) (by kernel_rfl) (fun _ _ _ h => h) (Or.inl ⟨by rfl, fun w' hSw => by go_simp⟩) hHeld ?_
      try simp only [Act.put, List.getElem_toArray, List.getElem_cons_succ, List.getElem_cons_zero, List.setIfInBounds_toArray, List.set_cons_zero, List.set_cons_succ]
      refine wpAnyH_take (i := 2) (v := .pointer (some ⟨ga, (oa + k * 35), none⟩)) rfl (by kernel_rfl) (by kernel_rfl) (by kernel_rfl) (fun _ _ _ h => h) (Or.inl ⟨by rfl, fun w' hSw => by go_simp⟩) hHeld ?_
      try simp only [Act.put, List.getElem_toArray, List.getElem_cons_succ, List.getElem_cons_zero, List.setIfInBounds_toArray, List.set_cons_zero, List.set_cons_succ]
      refine' wpAnyH_take (i := 3) (v := _) rfl (by kernel_rfl) (by kernel_rfl) (by kernel_rfl) (fun _ _ _ h => h) (yieldsIf_load_mid (by rfl) _ _ rfl ga (oa + k * 35) rfl XC _ (fun w' hSw => RA.out _ hSw) hu rfl hi) hHeld ?_
      try simp only [Act.put, List.getElem_toArray, List.getElem_cons_succ, List.getElem_cons_zero, List.setIfInBounds_toArray, List.set_cons_zero, List.set_cons_succ]
      refine wpAnyH_take (i := 4) (v := .slice (some ⟨gb, ob, none⟩) n d) rfl (by kernel_rfl) (by kernel_rfl) (by kernel_rfl) (fun _ _ _ h => h) (Or.inl ⟨by rfl, fun w' hSw => by go_simp⟩) hHeld ?_
      try simp only [Act.put, List.getElem_toArray, List.getElem_cons_succ, List.getElem_cons_zero, List.setIfInBounds_toArray, List.set_cons_zero, List.set_cons_succ]
      refine wpAnyH_take (i := 5) (v := .int .i64 k) rfl (by kernel_rfl) (by kernel_rfl) (by kernel_rfl) (fun _ _ _ h => h) (Or.inl ⟨by rfl, fun w' hSw => by go_simp⟩) hHeld ?_
      try simp only [Act.put, List.getElem_toArray, List.getElem_cons_succ, List.getElem_cons_zero, List.setIfInBounds_toArray, List.set_cons_zero, List.set_cons_succ]
      refine wpAnyH_take (i := 6) (v := .pointer (some ⟨gb, (ob + k * 35), none⟩)) rfl (by kernel_rfl) (by kernel_rfl) (by kernel_rfl) (fun _ _ _ h => h) (Or.inl ⟨by rfl, fun w' hSw => by go_simp⟩) hHeld ?_
      try simp only [Act.put, List.getElem_toArray, List.getElem_cons_succ, List.getElem_cons_zero, List.setIfInBounds_toArray, List.set_cons_zero, List.set_cons_succ]
      refine' wpAnyH_take (i := 7) (v := _) rfl (by kernel_rfl) (by kernel_rfl) (by kernel_rfl) (fun _ _ _ h => h) (yieldsIf_load_mid (by rfl) _ _ rfl gb (ob + k * 35) rfl YC _ (fun w' hSw => RB.out _ hSw) hu rfl hi2) hHeld ?_
      try simp only [Act.put, List.getElem_toArray, List.getElem_cons_succ, List.getElem_cons_zero, List.setIfInBounds_toArray, List.set_cons_zero, List.set_cons_succ]
      refine wpAnyH_ready (rs := [8]) (by kernel_rfl) (by simp) (AllReadyH.cons rfl (fun K1 hK1 => ?_) AllReadyH.nil)
      try simp only [Act.put, List.getElem_toArray, List.getElem_cons_succ, List.getElem_cons_zero, List.setIfInBounds_toArray, List.set_cons_zero, List.set_cons_succ]
      go_simp
      refine Calls.mono (CS.out _ hHeld) ?_
      rintro e w2 ⟨rfl, hb2⟩
      refine hK1.out _ _ (two_below' hHeld hb2) (fun hHeld => ?_)
      clear hK1 K1
      try simp only [Act.put, List.getElem_toArray, List.getElem_cons_succ, List.getElem_cons_zero, List.setIfInBounds_toArray, List.set_cons_zero, List.set_cons_succ]
      refine wpAnyH_take (i := 9) (v := .bool false) rfl (by kernel_rfl) (by kernel_rfl) (by kernel_rfl) (fun _ _ _ h => h) (Or.inl ⟨by rfl, fun w' hSw => by go_simp⟩) hHeld ?_
      try simp only [Act.put, List.getElem_toArray, List.getElem_cons_succ, List.getElem_cons_zero, List.setIfInBounds_toArray, List.set_cons_zero, List.set_cons_succ]
      refine wpAnyH_done (by kernel_rfl) ?_ _
      refine NoPanic.normal ?_
      have HRe := Lib.hid hHeld
      clear hHeld
      go_wp2_with fail
      exact ⟨⟨k + 1, hkn, by go_num, HRe.out⟩, by simp [intOf]; omega⟩
    · have hki : (n : Int) ≤ (k : Int) := by omega
      go_wp2_with fail
      go_ret
      exact ⟨rfl, HR.out⟩
end Go.Proofs.YtjeooegkfjlejaaDoor
