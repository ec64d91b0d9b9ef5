/- What later texts need of the earlier layers. -/
import Derived.Test.YtjeooegkfjlejaaDoorEarO
import Derived.Test.YtjeooegkfjlejaaDoorEarS
import Derived.Test.YtjeooegkfjlejaaDoorEarT
import Derived.Test.YtjeooegkfjlejaaDoorEarC
import Derived.Test.YtjeooegkfjlejaaDoorEarA
import Derived.Test.YtjeooegkfjlejaaDoorEarB
import Derived.Test.YtjeooegkfjlejaaDoorIbA
import Derived.Test.YtjeooegkfjlejaaDoorTrMath
import Derived.Test.YtjeooegkfjlejaaDoorTrHash
import Derived.Test.YtjeooegkfjlejaaDoorTrMem
import Derived.Test.YtjeooegkfjlejaaDoorTrLv
import Derived.Test.YtjeooegkfjlejaaDoorTrLink
import Derived.Test.YtjeooegkfjlejaaDoorTrBeh
import Derived.Test.YtjeooegkfjlejaaDoorTrCh
import Derived.Test.YtjeooegkfjlejaaDoorTrAt
import Derived.Test.YtjeooegkfjlejaaDoorTrNew
/- ---- TrMine ---- -/
/- (*tree.Chain).Mine: what it does. -/
namespace Go.Proofs.YtjeooegkfjlejaaDoor
open Go.RowKit
set_option linter.unusedVariables false
set_option linter.unusedSimpArgs false

theorem lk_info11 : (Tryd.prog.info? 86).map (fun i => (i.zero, i.size, i.bytes)) = some (some (.agg Lv.zero.cells.toArray), 67, 104) := by kernel_rfl
namespace Tr
/-- a block behind these: its link, and why there is none -/
def mineE (last : Lk) (n : Nat) (items : List It) (salt : Int) : T8 × Int := if 4096 ≤ n then (Tx.zero, 25) else hashE (next last items salt)
end Tr
theorem hashE_err {b : Bk} (h : (Tr.hashE b).2 ≠ 0) : (Tr.hashE b).1 = Tx.zero := by
  unfold Tr.hashE at h ⊢
  split
  · next hm =>
    rw [if_pos hm] at h
    split
    · next he => rw [if_pos he] at h; exact absurd rfl h
    · rfl
  · rfl
/-- as Keep, of the blocks below B -/
def KeepU (B : Nat) (w w' : World) : Prop := w.heap.size ≤ w'.heap.size ∧ w'.os = w.os ∧ w'.tape = w.tape ∧ w'.output = w.output ∧ ∀ (g : Nat) (cs : Array Value) (T : TypeId) (fz : Nat × Nat), g < B → w.heap[g]? = some (.cells cs T fz) → T ≠ 91 → T ≠ 86 → w'.heap[g]? = some (.cells cs T fz)
theorem KeepU.keep {w w' : World} (h : KeepU w.heap.size w w') : Keep w w' := ⟨h.1, h.2.1, h.2.2.1, h.2.2.2.1, fun g cs T fz hh h1 h2 => h.2.2.2.2 g cs T fz (lt_of_block hh) hh h1 h2⟩
theorem Keep.u {w w' : World} (h : Keep w w') (B : Nat) : KeepU B w w' := ⟨h.1, h.2.1, h.2.2.1, h.2.2.2.1, fun g cs T fz _ hh h1 h2 => h.2.2.2.2 g cs T fz hh h1 h2⟩
theorem KeepU.trans {B : Nat} {a b c : World} (h : KeepU B a b) (k : KeepU B b c) : KeepU B a c :=
  ⟨Nat.le_trans h.1 k.1, k.2.1.trans h.2.1, k.2.2.1.trans h.2.2.1, k.2.2.2.1.trans h.2.2.2.1, fun g cs T fz hB hh h1 h2 => k.2.2.2.2 g cs T fz hB (h.2.2.2.2 g cs T fz hB hh h1 h2) h1 h2⟩
theorem KeepU.new {B : Nat} {w w' : World} {r : Option Nat} (hg : w.grownBy w' r) (hr : ∀ g, r = some g → B ≤ g) : KeepU B w w' :=
  ⟨hg.size, hg.os, hg.tape, hg.output, fun g cs T fz hB hh _ _ => (hg.block g (lt_of_block hh) (fun e => by have := hr g e.symm; omega)).trans hh⟩
theorem KeepU.row {B : Nat} {w w' : World} {g : Nat} {T : TypeId} {xs : List Value} (hr : Row w g T xs) (hT : T = 91 ∨ T = 86) (hg : w.grownBy w' (some g)) : KeepU B w w' :=
  (Keep.of_grown hg (fun g' e => by cases e; exact ⟨_, T, _, hr, hT⟩)).u B
theorem KeepU.link {B : Nat} {w w' : World} {base n : Nat} {v : Value} {xs : List Value} (h : w.ownsRow base 86 67 v n xs) (hg : w.grownBy w' v.ownBlock) : KeepU B w w' :=
  (Keep.of_grown hg (fun g e => by
    rcases h.2 with ⟨rfl, _⟩ | ⟨g', cap, cur, rfl, _, hh, _⟩
    · simp [Value.ownBlock] at e
    · simp only [Value.ownBlock, Option.some.injEq] at e
      subst e
      exact ⟨_, _, _, hh, .inr rfl⟩)).u B
/-- what Mine comes to -/
def MineOut (w : World) (base P : Nat) (dp de : Int) (ls : List Lv) (items : List It) (salt : Int) (last : Tr.Lk) (e : Ending) (w' : World) : Prop :=
  e = .returned (hashV (Tr.mineE last (ls.length - 1) items salt).1 (Tr.mineE last (ls.length - 1) items salt).2) ∧ Below base w w' ∧ Keep w w' ∧
    (((Tr.mineE last (ls.length - 1) items salt).2 ≠ 0 ∧ ChAt w' base P dp de ls) ∨
      ((Tr.mineE last (ls.length - 1) items salt).2 = 0 ∧ ∃ x : Lv, x.k = (Tr.link (Tr.next last items salt)).1 ∧ ChAt w' base P dp de (ls ++ [x])))
/-- what the drawn statement of Mine counts on -/
def MnIn (w w' : World) (base P : Nat) (dp de : Int) (A : Option Addr) (c : Nat) (ls : List Lv) : Prop :=
  Row w' P 91 [.int .i64 dp, .int .i64 de, .slice A ls.length c] ∧ OwnLs w' base (.slice A ls.length c) ls ∧ Row w' w.heap.size 42 (bRow Tx.zero).toList ∧ Below w.heap.size w w'
theorem MnIn.step {w W W' : World} {base P : Nat} {dp de : Int} {A : Option Addr} {c : Nat} {ls : List Lv} (h : MnIn w W base P dp de A c ls) (hb : Below W.heap.size W W') : MnIn w W' base P dp de A c ls :=
  ⟨h.1.kept (grownBy_of_below hb none) (by simp), h.2.1.below hb, h.2.2.1.kept (grownBy_of_below hb none) (by simp), two_below' h.2.2.2 hb⟩
theorem MnIn.ch {w W : World} {base P : Nat} {dp de : Int} {A : Option Addr} {c : Nat} {ls : List Lv} (h : MnIn w W base P dp de A c ls) (hP : base ≤ P) : ChAt W base P dp de ls := ⟨hP, _, h.1, h.2.1⟩
/-- a new block of a link: all links that were there stay -/
theorem OwnLs.fresh {w w' : World} {base g : Nat} {v : Value} {ls : List Lv} (h : OwnLs w base v ls) (hg : w.grownBy w' (some g)) (h1 : v.ownBlock ≠ some g) (h2 : ∀ x ∈ ls, (Value.slice x.A x.k.b.items.length x.cap).ownBlock ≠ some g) : OwnLs w' base v ls :=
  ⟨h.1.kept hg (.inr h1), fun x hx => ⟨(h.2 x hx).1, (h.2 x hx).2.kept hg (.inr (h2 x hx))⟩⟩
theorem ownBlock_lt {w : World} {base n size : Nat} {e : TypeId} {v : Value} {xs : List Value} {g : Nat} (h : w.ownsRow base e size v n xs) (hg : w.heap.size ≤ g) : v.ownBlock ≠ some g := fun e => by
  have := (h.lt g e).2
  omega
set_option maxRecDepth 20000 in
set_option maxHeartbeats 6400000 in
theorem mine_any (w : World) (base P : Nat) (dp de : Int) (ls : List Lv) (hch : ChAt w base P dp de ls) (hl0 : 0 < ls.length) (hl1 : ls.length ≤ 5000) (hnum : (ls[ls.length - 1]).k.b.number < 9223372036854775807) (A0 : Option Addr) (c0 : Nat) (items : List It) (salt : Int) (hs : Tx.fits salt)
    (hin : SlIn w w.heap.size A0 c0 items) (hT : Tab w) (hp : 0 < base) :
    Calls Tryd.prog 31 #[.pointer (some ⟨P, 0, none⟩), .slice A0 items.length c0, .int .i64 salt] w fun e w' => MineOut w base P dp de ls items salt (ls[ls.length - 1]).k e w' := by
  have HZ32 := Lib.hid (Tx.bRow_len Tx.zero rfl)
  have HZ1 : Hid (∀ v ∈ (bRow Tx.zero).toList, v.oneCell' = true) := Lib.hid (hash_one _ rfl)
  have hzh := hash_zv
  have hz86 := lk_zv
  have hPlt : base ≤ P ∧ P < w.heap.size := by obtain ⟨h0, v, h1, _⟩ := hch; exact ⟨h0, h1.lt⟩
  have hb0 := (Below.refl w.heap.size w).alloc (Nat.le_refl _) (.cells (bRow Tx.zero) 42)
  have hr0 := Row.new w 42 (bRow Tx.zero).toList
  rw [Array.toArray_toList] at hr0
  obtain ⟨A, c, q0, q1, q2, q3, q4, q5, q6⟩ := (hch.below hb0).cells
  have hM0 : MnIn w _ base P dp de A c ls := ⟨q6, q5, hr0, hb0⟩
  obtain ⟨gl, hA, hgl1, hgl2, hlc, hat⟩ := q5.at_ (by intro e; rw [e] at hl0; simp at hl0) rfl
  have HB : Hid (∀ W, ChAt W base P dp de ls → Calls Tryd.prog 18 #[.pointer (some ⟨P, 0, none⟩)] W fun e w' => e = .returned (.int .i64 ((ls.length - 1 : Nat) : Int)) ∧ W = w') := Lib.hid (fun W h => by
    have := height_any W base P dp de ls h hl0 (by omega)
    rw [show ((ls.length : Int) - 1) = ((ls.length - 1 : Nat) : Int) by omega] at this
    exact this)
  have hlast := (q5.2 _ (List.getElem_mem (show ls.length - 1 < ls.length by omega))).1
  have BH : Hid (∀ W, Below w.heap.size w W → Calls Tryd.prog 61 #[.agg (ls[ls.length - 1]).cells.toArray, .slice A0 items.length c0, .int .i64 salt, .agg Lv.zero.cells.toArray] W fun e w' => LinkOut W.heap.size (Tr.link (Tr.next (ls[ls.length - 1]).k items salt)) e w' ∧ Below W.heap.size W w') := Lib.hid (fun W hW =>
    behind_any (ls[ls.length - 1]) Lv.zero salt A0 c0 items hlast hnum Lv.zero_fits Tr.zeroL_right hs W ((hin.below hW).mono hW.size) (hT.below hW hT.pos))
  have HAt : Hid (∀ W, MnIn w W base P dp de A c ls → W.rangeAt gl ((ls.length - 1) * 67) (ls[ls.length - 1]).cells) := Lib.hid (fun W h => by
    obtain ⟨g', hA', _, _, _, hat'⟩ := h.2.1.at_ (by intro e; rw [e] at hl0; simp at hl0) rfl
    rw [hA] at hA'
    injection hA' with hA'
    injection hA' with hA'
    subst hA'
    exact hat' _ (by omega))
  have HLL := Lib.hid (Lv.cells_len hlast)
  have HNF : Hid (∀ A1 c1, Lv.Fits ⟨(Tr.link (Tr.next (ls[ls.length - 1]).k items salt)).1, A1, c1⟩) := Lib.hid (fun A1 c1 => ⟨hlast.2.1, Tr.hashE_len _, by
    have := hlast.2.2.1
    show -9223372036854775808 ≤ (ls[ls.length - 1]).k.b.number + 1 ∧ (ls[ls.length - 1]).k.b.number + 1 ≤ 9223372036854775807
    unfold Tx.fits at this
    omega, hs⟩)
  have HNI : Hid ((Tr.link (Tr.next (ls[ls.length - 1]).k items salt)).1.b.items = items) := Lib.hid rfl
  have HMine : Hid (ls.length - 1 < 4096 → Tr.mineE (ls[ls.length - 1]).k (ls.length - 1) items salt = ((Tr.link (Tr.next (ls[ls.length - 1]).k items salt)).1.hash, (Tr.link (Tr.next (ls[ls.length - 1]).k items salt)).2)) := Lib.hid (fun h => by unfold Tr.mineE; rw [if_neg (by omega)]; rfl)
  have HErr : Hid ((Tr.link (Tr.next (ls[ls.length - 1]).k items salt)).2 ≠ 0 → (Tr.link (Tr.next (ls[ls.length - 1]).k items salt)).1.hash = Tx.zero) := Lib.hid (fun h => hashE_err h)
  have HFull : Hid (4096 ≤ ls.length - 1 → Tr.mineE (ls[ls.length - 1]).k (ls.length - 1) items salt = (Tx.zero, 25)) := Lib.hid (fun h => by unfold Tr.mineE; rw [if_pos h])
  have HIl : Hid ((Tr.link (Tr.next (ls[ls.length - 1]).k items salt)).1.b.items.length ≤ 4000000000000) := Lib.hid hin.2.2.2
  unfold MineOut
  obtain ⟨last, hlaste⟩ : ∃ x, x = ls[ls.length - 1] := ⟨_, rfl⟩
  rw [← hlaste] at BH HAt HLL HNF HNI HMine HErr HFull HIl ⊢
  generalize hq : Tr.link (Tr.next last.k items salt) = q at *
  have HME : Hid (∀ n, n = ls.length - 1 → True) := Lib.hid (fun _ _ => trivial)
  generalize hme : Tr.mineE last.k (ls.length - 1) items salt = me at *
  generalize last.cells = LC at *
  have HM0 := Lib.hid hM0
  have HHin := Lib.hid hPlt.1
  have hPb := hPlt.2
  obtain ⟨i0, hi0, hz0⟩ := Option.map_eq_some_iff.1 lk_info11
  simp only [Prod.mk.injEq] at hz0
  have Hi := Lib.hid hi0
  have Hz := Lib.hid hz0.1
  have Hsz := Lib.hid hz0.2.1
  have Hby := Lib.hid hz0.2.2
  have HZL := Lib.hid (Lv.cells_len Lv.zero_fits)
  have HLB0 := Lib.hid lk_built0
  obtain ⟨n, hn⟩ : ∃ n, n = ls.length := ⟨_, rfl⟩
  obtain ⟨k, hk⟩ : ∃ k, k = ls.length - 1 := ⟨_, rfl⟩
  have HN := Lib.hid hn
  have HKk := Lib.hid hk
  rw [← hk] at HMine HFull HAt HB
  have hkn : k < n := by omega
  have hki : (k : Int) < (n : Int) := by omega
  have hn2 : n ≤ 5000 := by omega
  have hnlt : n ≤ c := by omega
  rw [← hn] at q2
  subst hA
  generalize items.length = m at *
  clear hch hb0 hr0 q0 q1 q3 q4 q5 q6 hM0 hgl1 hgl2 hlc hat hlast hnum hs hin hT hlaste hq hme hi0 hz0 hn hk hl0 hl1
  have c2 : (w.alloc (.cells (bRow Tx.zero) 42)).cell? ⟨P, 2, none⟩ = some (.slice (some ⟨gl, 0, none⟩) n c) := q2
  clear q2
  by_cases hfull : 4096 ≤ k
  · have d1 : decide ((4096 : Int) ≤ (k : Int)) = true := by simp; omega
    have hme := HFull.out hfull
    subst hme
    go_enter Tryd.func31, Tryd.ntmps31
    go_wp2_with fail
    refine (HB.out _ (HM0.out.ch HHin.out)).mono ?_
    rintro _ w1 ⟨rfl, rfl⟩
    go_wp2_with (first
    | ((with_reducible show wpList _ _ _ (⟨_, .build 42 _, _, _, _, _⟩ :: _) _ _); refine wpList_buildL rfl 42 [] rfl (some 16) rfl [] rfl (bRow Tx.zero) hash_built ?_)
    | (with_reducible show wpList _ _ _ (⟨_, .store 42 _ _, _, _, _, _⟩ :: _) _ _
       refine wpList_store_at rfl 42 (.tmp 6) (.tmp 16) rfl w.heap.size 0 (bRow Tx.zero).toList (bRow Tx.zero).toList _ rfl rfl HM0.out.2.2.1 (by have := HZ32.out; omega) (by rw [hash_info, HZ32.out]) HZ1.out ?_
       intro wz hrz hgz
       rw [splice_all rfl] at hrz
       have HRz := Lib.hid hrz
       have HGz := Lib.hid hgz
       have Hbz := Lib.hid (below_own HM0.out.2.2.2 hgz (fun k hk => by cases hk; exact Nat.le_refl _))
       clear hrz hgz))
    have hch := HM0.out.ch HHin.out
    exact bodyPost_ret (results_rowL rfl _ _ w.heap.size 42 _ _ rfl HRz.out Tryd.underlying42 rfl (by rw [hash_info, List.size_toArray, HZ32.out]) _ rfl) rfl ⟨rfl, (Hbz.out.mono (Nat.le_trans HHin.out (Nat.le_of_lt hPb))), Keep.of_below Hbz.out, .inl ⟨by decide, hch.put HM0.out.2.2.1 (by decide) (by decide) (by decide) HGz.out⟩⟩
  · have d1 : decide ((4096 : Int) ≤ (k : Int)) = false := by simp; omega
    have hme := HMine.out (by omega)
    subst hme
    go_enter Tryd.func31, Tryd.ntmps31
    go_wp2_with fail
    refine (HB.out _ (HM0.out.ch HHin.out)).mono ?_
    rintro _ w1 ⟨rfl, rfl⟩
    go_wp2_with fail
    have hu86 := Tryd.underlying86
    have hi86 : (Tryd.prog.info? 86).map (·.size) = some LC.length := by rw [link_size, HLL.out]
    clear d1 c2
    refine wp_region_held_drew (S := fun w' => MnIn w w' base P dp de (some ⟨gl, 0, none⟩) c ls) (by kernel_rfl) (HM0.out.step ((Below.refl _ _).drew)) (fun hHeld => ?_)
    generalize (w.alloc (.cells (bRow Tx.zero) 42)).drew = wq at *
    refine wpAnyH_take (i := 0) (v := .pointer (some ⟨P, 0, none⟩)) rfl (by kernel_rfl) (by kernel_rfl) (by kernel_rfl) (fun _ _ _ h => h) (Or.inl ⟨by rfl, fun w' hSw => by go_simp⟩) hHeld ?_
    try simp only [Act.put, List.getElem_toArray, List.getElem_cons_succ, List.getElem_cons_zero, List.setIfInBounds_toArray, List.set_cons_zero, List.set_cons_succ]
    refine wpAnyH_take (i := 1) (v := .pointer (some ⟨P, 0, none⟩)) rfl (by kernel_rfl) (by kernel_rfl) (by kernel_rfl) (fun _ _ _ h => h) (Or.inl ⟨by rfl, fun w' hSw => by go_simp⟩) hHeld ?_
    try simp only [Act.put, List.getElem_toArray, List.getElem_cons_succ, List.getElem_cons_zero, List.setIfInBounds_toArray, List.set_cons_zero, List.set_cons_succ]
    refine wpAnyH_take (i := 2) (v := .pointer (some ⟨P, 2, none⟩)) rfl (by kernel_rfl) (by kernel_rfl) (by kernel_rfl) (fun _ _ _ h => h) (Or.inl ⟨by rfl, fun w' hSw => by go_simp⟩) hHeld ?_
    try simp only [Act.put, List.getElem_toArray, List.getElem_cons_succ, List.getElem_cons_zero, List.setIfInBounds_toArray, List.set_cons_zero, List.set_cons_succ]
    refine wpAnyH_take (i := 3) (v := .slice (some ⟨gl, 0, none⟩) n c) rfl (by kernel_rfl) (by kernel_rfl) (by kernel_rfl) (fun _ _ _ h => h) (Or.inl ⟨by rfl, fun w' hSw => by have hq := hSw; have hc := hq.1.cell 2 (by simp); simp only [List.getElem_cons_zero, List.getElem_cons_succ] at hc; rw [← HN.out] at hc; go_simp⟩) hHeld ?_
    try simp only [Act.put, List.getElem_toArray, List.getElem_cons_succ, List.getElem_cons_zero, List.setIfInBounds_toArray, List.set_cons_zero, List.set_cons_succ]
    refine wpAnyH_take (i := 4) (v := .pointer (some ⟨P, 0, none⟩)) rfl (by kernel_rfl) (by kernel_rfl) (by kernel_rfl) (fun _ _ _ h => h) (Or.inl ⟨by rfl, fun w' hSw => by go_simp⟩) hHeld ?_
    try simp only [Act.put, List.getElem_toArray, List.getElem_cons_succ, List.getElem_cons_zero, List.setIfInBounds_toArray, List.set_cons_zero, List.set_cons_succ]
    refine wpAnyH_take (i := 8) (v := .slice A0 m c0) rfl (by kernel_rfl) (by kernel_rfl) (by kernel_rfl) (fun _ _ _ h => h) (Or.inl ⟨by rfl, fun w' hSw => by go_simp⟩) hHeld ?_
    try simp only [Act.put, List.getElem_toArray, List.getElem_cons_succ, List.getElem_cons_zero, List.setIfInBounds_toArray, List.set_cons_zero, List.set_cons_succ]
    refine wpAnyH_take (i := 9) (v := .int .i64 salt) rfl (by kernel_rfl) (by kernel_rfl) (by kernel_rfl) (fun _ _ _ h => h) (Or.inl ⟨by rfl, fun w' hSw => by go_simp⟩) hHeld ?_
    try simp only [Act.put, List.getElem_toArray, List.getElem_cons_succ, List.getElem_cons_zero, List.setIfInBounds_toArray, List.set_cons_zero, List.set_cons_succ]
    refine' wpAnyH_take (i := 10) (v := .agg Lv.zero.cells.toArray) rfl (by kernel_rfl) (by kernel_rfl) (by kernel_rfl) (fun _ _ _ h => h) (yieldsIf_buildL (by rfl) 86 [] rfl [] rfl Lv.zero.cells.toArray HLB0.out) hHeld ?_
    try simp only [Act.put, List.getElem_toArray, List.getElem_cons_succ, List.getElem_cons_zero, List.setIfInBounds_toArray, List.set_cons_zero, List.set_cons_succ]
    refine wpAnyH_ready (rs := [5, 15]) (by kernel_rfl) (by simp) (AllReadyH.cons rfl (fun K1 hK1 => ?_) (AllReadyH.cons rfl (fun K1 hK1 => ?_) AllReadyH.nil))
    · skip
      try simp only [Act.put, List.getElem_toArray, List.getElem_cons_succ, List.getElem_cons_zero, List.setIfInBounds_toArray, List.set_cons_zero, List.set_cons_succ]
      go_simp
      refine Calls.mono (HB.out _ (hHeld.ch HHin.out)) ?_
      rintro e w2 ⟨rfl, rfl⟩
      refine hK1.out _ _ (hHeld) (fun hHeld => ?_)
      clear hK1 K1
      try simp only [Act.put, List.getElem_toArray, List.getElem_cons_succ, List.getElem_cons_zero, List.setIfInBounds_toArray, List.set_cons_zero, List.set_cons_succ]
      refine wpAnyH_take (i := 6) (v := .pointer (some ⟨gl, k * 67, none⟩)) rfl (by kernel_rfl) (by kernel_rfl) (by kernel_rfl) (fun _ _ _ h => h) (Or.inl ⟨by rfl, fun w' hSw => by go_simp⟩) hHeld ?_
      try simp only [Act.put, List.getElem_toArray, List.getElem_cons_succ, List.getElem_cons_zero, List.setIfInBounds_toArray, List.set_cons_zero, List.set_cons_succ]
      refine' wpAnyH_take (i := 7) (v := _) rfl (by kernel_rfl) (by kernel_rfl) (by kernel_rfl) (fun _ _ _ h => h) (yieldsIf_load_mid (by rfl) _ _ rfl gl (k * 67) rfl LC _ (fun w' hSw => HAt.out _ hSw) hu86 rfl hi86) hHeld ?_
      try simp only [Act.put, List.getElem_toArray, List.getElem_cons_succ, List.getElem_cons_zero, List.setIfInBounds_toArray, List.set_cons_zero, List.set_cons_succ]
      refine wpAnyH_ready (rs := [11, 15]) (by kernel_rfl) (by simp) (AllReadyH.cons rfl (fun K1 hK1 => ?_) (AllReadyH.cons rfl (fun K1 hK1 => ?_) AllReadyH.nil))
      · skip
        try simp only [Act.put, List.getElem_toArray, List.getElem_cons_succ, List.getElem_cons_zero, List.setIfInBounds_toArray, List.set_cons_zero, List.set_cons_succ]
        go_simp
        refine Calls.mono (BH.out _ hHeld.2.2.2) ?_
        rintro e wb ⟨⟨A1, c1, rfl, ho1⟩, hb1⟩
        have HO1 := Lib.hid (own_lower ho1 hHeld.2.2.2.size)
        clear ho1
        refine hK1.out _ _ (hHeld.step hb1) (fun hHeld => ?_)
        clear hK1 K1
        try simp only [Act.put, List.getElem_toArray, List.getElem_cons_succ, List.getElem_cons_zero, List.setIfInBounds_toArray, List.set_cons_zero, List.set_cons_succ]
        clear hb1
        refine wpAnyH_take (i := 12) (v := .tuple #[.agg (Lv.cells ⟨q.1, A1, c1⟩).toArray, .int .i64 q.2]) rfl (by kernel_rfl) (by kernel_rfl) (by kernel_rfl) (fun _ _ _ h => h) (Or.inl ⟨by rfl, fun w' hSw => by go_simp⟩) hHeld ?_
        try simp only [Act.put, List.getElem_toArray, List.getElem_cons_succ, List.getElem_cons_zero, List.setIfInBounds_toArray, List.set_cons_zero, List.set_cons_succ]
        refine wpAnyH_take (i := 13) (v := .agg (Lv.cells ⟨q.1, A1, c1⟩).toArray) rfl (by kernel_rfl) (by kernel_rfl) (by kernel_rfl) (fun _ _ _ h => h) (Or.inl ⟨by rfl, fun w' hSw => by go_simp⟩) hHeld ?_
        try simp only [Act.put, List.getElem_toArray, List.getElem_cons_succ, List.getElem_cons_zero, List.setIfInBounds_toArray, List.set_cons_zero, List.set_cons_succ]
        refine wpAnyH_take (i := 14) (v := .int .i64 q.2) rfl (by kernel_rfl) (by kernel_rfl) (by kernel_rfl) (fun _ _ _ h => h) (Or.inl ⟨by rfl, fun w' hSw => by go_simp⟩) hHeld ?_
        try simp only [Act.put, List.getElem_toArray, List.getElem_cons_succ, List.getElem_cons_zero, List.setIfInBounds_toArray, List.set_cons_zero, List.set_cons_succ]
        refine wpAnyH_ready (rs := [15]) (by kernel_rfl) (by simp) (AllReadyH.cons rfl (fun K1 hK1 => ?_) AllReadyH.nil)
        try simp only [Act.put, List.getElem_toArray, List.getElem_cons_succ, List.getElem_cons_zero, List.setIfInBounds_toArray, List.set_cons_zero, List.set_cons_succ]
        go_simp
        have hbk := (Below.refl wb.heap.size wb).alloc (Nat.le_refl _) (.cells Lv.zero.cells.toArray 86)
        have hnw := Row.new wb 86 Lv.zero.cells
        have hHeld2 := hHeld.step hbk
        have hg8 : w.heap.size < wb.heap.size := hHeld.2.2.1.lt
        have HLs := Lib.hid (fun x hx => ownBlock_lt (hHeld.2.1.2 x hx).2.1 (Nat.le_refl _))
        have HLv := Lib.hid (ownBlock_lt hHeld.2.1.1 (Nat.le_refl _))
        have HO1 := Lib.hid (own_below HO1.out hbk)
        generalize wb.alloc (.cells Lv.zero.cells.toArray 86) = wm at *
        generalize wb.heap.size = g8 at *
        have HNew := Lib.hid hnw
        clear hnw hbk
        refine hK1.out _ _ (hHeld2) (fun hHeld => ?_)
        clear hK1 K1
        try simp only [Act.put, List.getElem_toArray, List.getElem_cons_succ, List.getElem_cons_zero, List.setIfInBounds_toArray, List.set_cons_zero, List.set_cons_succ]
        clear hHeld2
        refine wpAnyH_ready (rs := [16]) (by kernel_rfl) (by simp) (AllReadyH.cons rfl (fun K1 hK1 => ?_) AllReadyH.nil)
        try simp only [Act.put, List.getElem_toArray, List.getElem_cons_succ, List.getElem_cons_zero, List.setIfInBounds_toArray, List.set_cons_zero, List.set_cons_succ]
        have HQL := Lib.hid (Lv.cells_len (HNF.out A1 c1))
        have HQ1 := Lib.hid (Lv.cells_one (HNF.out A1 c1))
        rw [if_pos (by rfl)]
        refine wp_store_at 86 (.tmp 8) (.tmp 30) rfl g8 0 (Lv.cells ⟨q.1, A1, c1⟩) _ _ rfl rfl HNew.out (by rw [HQL.out, HZL.out]; decide) (by rw [link_size, HQL.out]) HQ1.out ?_
        intro w5 hr5 hg5
        rw [splice_all (HQL.out.trans HZL.out.symm)] at hr5
        have HR5 := Lib.hid hr5
        have HO5 := Lib.hid (HO1.out.kept hg5 (.inr (row_ne_own HNew.out HO1.out (by decide))))
        have hM5 : MnIn w w5 base P dp de (some ⟨gl, 0, none⟩) c ls := ⟨hHeld.1.kept hg5 (row_diff hHeld.1 HNew.out (by decide)), hHeld.2.1.fresh hg5 HLv.out HLs.out, hHeld.2.2.1.kept hg5 (row_diff hHeld.2.2.1 HNew.out (by decide)), below_own hHeld.2.2.2 hg5 (fun k hk => by cases hk; omega)⟩
        refine hK1.out _ _ (hM5) (fun hHeld => ?_)
        clear hK1 K1
        try simp only [Act.put, List.getElem_toArray, List.getElem_cons_succ, List.getElem_cons_zero, List.setIfInBounds_toArray, List.set_cons_zero, List.set_cons_succ]
        clear hr5 hg5 hM5
        refine wpAnyH_take (i := 17) (v := .int .i64 q.2) rfl (by kernel_rfl) (by kernel_rfl) (by kernel_rfl) (fun _ _ _ h => h) (Or.inl ⟨by rfl, fun w' hSw => by go_simp⟩) hHeld ?_
        try simp only [Act.put, List.getElem_toArray, List.getElem_cons_succ, List.getElem_cons_zero, List.setIfInBounds_toArray, List.set_cons_zero, List.set_cons_succ]
        refine wpAnyH_done (by kernel_rfl) ?_ _
        have H5 := Lib.hid hHeld
        clear hHeld HNew HO1
        have HWb : Hid (base ≤ w.heap.size) := Lib.hid (Nat.le_trans HHin.out (Nat.le_of_lt hPb))
        by_cases hq0 : q.2 = 0
        · have dq : (q.2 != 0) = false := by simp [hq0]
          have HQ0 := Lib.hid hq0
          have HKh : Hid (q.1.hash.length = 32) := Lib.hid (HNF.out A1 c1).2.1
          have HKh32 := Lib.hid (Tx.bRow_len _ (HNF.out A1 c1).2.1)
          have HKh1 := Lib.hid (hash_one _ (HNF.out A1 c1).2.1)
          have HAt2 : Hid (∀ W g, Row W g 86 (Lv.cells ⟨q.1, A1, c1⟩) → W.rangeAt g 35 (bRow q.1.hash).toList) := Lib.hid (fun W g h => by
            have := (Lv.at_ (HNF.out A1 c1) (row_range h)).2.2.2.2.1
            rwa [Nat.zero_add] at this)
          clear hq0
          go_wp2_with fail
          clear dq
          have HQL := Lib.hid (Lv.cells_len (HNF.out A1 c1))
          have HQ1 := Lib.hid (Lv.cells_one (HNF.out A1 c1))
          have HFl : Hid (Lv.flat (ls ++ [⟨q.1, A1, c1⟩]) = Lv.flat ls ++ Lv.cells ⟨q.1, A1, c1⟩) := Lib.hid (by rw [Lv.flat_append]; simp [Lv.flat])
          have hk63 : n + 1 ≤ maxLen := by unfold maxLen; omega
          have hk48 : ((n + 1) + (n + 1) / 4 + 192) * 104 ≤ 281474976710656 := by omega
          generalize hQC : Lv.cells ⟨q.1, A1, c1⟩ = QC at *
          clear hQC
          have hi8 : (Tryd.prog.info? 86).map (·.size) = some QC.length := by rw [link_size, HQL.out]
          have HM6 : Hid (MnIn w w5.drew base P dp de (some ⟨gl, 0, none⟩) c ls) := Lib.hid (H5.out.step ((Below.refl _ _).drew))
          have HR6 := Lib.hid (HR5.out.kept (grownBy_drew w5 none) (by simp))
          have HO6 := Lib.hid (HO5.out.kept (grownBy_drew w5 none) (by cases A1 <;> simp [Value.ownBlock]))
          refine wp_region_held_drew (S := fun w' => Row w' g8 86 QC) (by kernel_rfl) (HR6.out) (fun hHeld => ?_)
          generalize w5.drew = wr at *
          refine wpAnyH_take (i := 0) (v := .pointer (some ⟨P, 0, none⟩)) rfl (by kernel_rfl) (by kernel_rfl) (by kernel_rfl) (fun _ _ _ h => h) (Or.inl ⟨by rfl, fun w' hSw => by go_simp⟩) hHeld ?_
          try simp only [Act.put, List.getElem_toArray, List.getElem_cons_succ, List.getElem_cons_zero, List.setIfInBounds_toArray, List.set_cons_zero, List.set_cons_succ]
          refine wpAnyH_take (i := 1) (v := .pointer (some ⟨P, 0, none⟩)) rfl (by kernel_rfl) (by kernel_rfl) (by kernel_rfl) (fun _ _ _ h => h) (Or.inl ⟨by rfl, fun w' hSw => by go_simp⟩) hHeld ?_
          try simp only [Act.put, List.getElem_toArray, List.getElem_cons_succ, List.getElem_cons_zero, List.setIfInBounds_toArray, List.set_cons_zero, List.set_cons_succ]
          refine wpAnyH_take (i := 2) (v := .pointer (some ⟨P, 0, none⟩)) rfl (by kernel_rfl) (by kernel_rfl) (by kernel_rfl) (fun _ _ _ h => h) (Or.inl ⟨by rfl, fun w' hSw => by go_simp⟩) hHeld ?_
          try simp only [Act.put, List.getElem_toArray, List.getElem_cons_succ, List.getElem_cons_zero, List.setIfInBounds_toArray, List.set_cons_zero, List.set_cons_succ]
          refine wpAnyH_take (i := 3) (v := .pointer (some ⟨P, 2, none⟩)) rfl (by kernel_rfl) (by kernel_rfl) (by kernel_rfl) (fun _ _ _ h => h) (Or.inl ⟨by rfl, fun w' hSw => by go_simp⟩) hHeld ?_
          try simp only [Act.put, List.getElem_toArray, List.getElem_cons_succ, List.getElem_cons_zero, List.setIfInBounds_toArray, List.set_cons_zero, List.set_cons_succ]
          refine' wpAnyH_take (i := 5) (v := _) rfl (by kernel_rfl) (by kernel_rfl) (by kernel_rfl) (fun _ _ _ h => h) (yieldsIf_load_mid (by rfl) _ _ rfl g8 0 rfl QC _ (fun w' hSw => row_range hSw) Tryd.underlying86 rfl hi8) hHeld ?_
          try simp only [Act.put, List.getElem_toArray, List.getElem_cons_succ, List.getElem_cons_zero, List.setIfInBounds_toArray, List.set_cons_zero, List.set_cons_succ]
          refine wpAnyH_ready (rs := [4, 6]) (by kernel_rfl) (by simp) (AllReadyH.cons rfl (fun K1 hK1 => ?_) (AllReadyH.cons rfl (fun K1 hK1 => ?_) AllReadyH.nil))
          · skip
            try simp only [Act.put, List.getElem_toArray, List.getElem_cons_succ, List.getElem_cons_zero, List.setIfInBounds_toArray, List.set_cons_zero, List.set_cons_succ]
            have c4 := HM6.out.1.cell 2 (by simp)
            simp only [List.getElem_cons_zero, List.getElem_cons_succ] at c4
            rw [← HN.out] at c4
            go_simp
            refine hK1.out _ _ (hHeld) (fun hHeld => ?_)
            clear hK1 K1
            try simp only [Act.put, List.getElem_toArray, List.getElem_cons_succ, List.getElem_cons_zero, List.setIfInBounds_toArray, List.set_cons_zero, List.set_cons_succ]
            clear c4
            refine wpAnyH_ready (rs := [6]) (by kernel_rfl) (by simp) (AllReadyH.cons rfl (fun K1 hK1 => ?_) AllReadyH.nil)
            try simp only [Act.put, List.getElem_toArray, List.getElem_cons_succ, List.getElem_cons_zero, List.setIfInBounds_toArray, List.set_cons_zero, List.set_cons_succ]
            rw [if_pos (by rfl)]
            refine wp_buildSlice 89 86 1 _ rfl QC.toArray i0 (.agg Lv.zero.cells.toArray) Tryd.underlying89 Hi.out Hz.out (by rw [Hsz.out]; decide) (by rw [Hsz.out]; decide) (by rw [Hsz.out, Array.toList_map]; exact fill_one 67 (.agg Lv.zero.cells.toArray) QC HQL.out) ?_
            have hM7 := HM6.out.step ((Below.refl wr.heap.size wr).alloc (Nat.le_refl _) (.cells QC.toArray 86))
            have hown7 := hM7.2.1.1
            rw [← HN.out] at hown7
            have Hown7 := Lib.hid hown7
            have HM7 := Lib.hid hM7
            have HO7 := Lib.hid (HO6.out.alloc (.cells QC.toArray 86))
            have Hnew7 := Lib.hid (row_news (Row.new wr 86 QC))
            have hz7 : base ≤ (wr.alloc (.cells QC.toArray 86)).heap.size := Nat.le_trans HWb.out hM7.2.2.2.size
            have hHeld2 := hHeld.kept (grownBy_alloc wr (.cells QC.toArray 86) none) (by simp)
            refine hK1.out _ _ (hHeld2) (fun hHeld => ?_)
            clear hK1 K1
            try simp only [Act.put, List.getElem_toArray, List.getElem_cons_succ, List.getElem_cons_zero, List.setIfInBounds_toArray, List.set_cons_zero, List.set_cons_succ]
            clear hM7 hown7 hHeld2
            refine wpAnyH_ready (rs := [7]) (by kernel_rfl) (by simp) (AllReadyH.cons rfl (fun K1 hK1 => ?_) AllReadyH.nil)
            try simp only [Act.put, List.getElem_toArray, List.getElem_cons_succ, List.getElem_cons_zero, List.setIfInBounds_toArray, List.set_cons_zero, List.set_cons_succ]
            rw [if_pos (by rfl)]
            refine wp_append_own_wide _ _ _ 89 rfl base 86 i0 (.agg Lv.zero.cells.toArray) 67 104 Tryd.underlying89 Hi.out Hz.out Hsz.out Hby.out (by rw [← HZL.out]; rfl) (by decide) (.slice (some ⟨gl, 0, none⟩) n c) n (Lv.flat ls) rfl Hown7.out ⟨wr.heap.size, 0, none⟩ 1 1 QC rfl (by rw [HQL.out]) Hnew7.out HQ1.out hk63 hk48 hz7 ?_
            intro v' w8 hown8 hgrow8 _
            obtain ⟨g9, cp9, rfl⟩ := ownsRow_succ hown8
            have hP8 := HM7.out.1.kept hgrow8 (row_ne_own HM7.out.1 Hown7.out (by decide)).symm
            have hRs8 := HM7.out.2.2.1.kept hgrow8 (row_ne_own HM7.out.2.2.1 Hown7.out (by decide)).symm
            have hne8 : some g8 ≠ (Value.slice (some ⟨gl, 0, none⟩) n c).ownBlock := fun e => HLv.out (by rw [← HN.out]; exact e.symm)
            have hR8 := hHeld.kept hgrow8 hne8
            have HO8 := Lib.hid (HO7.out.kept hgrow8 (own_ne_own HO7.out Hown7.out (by decide)))
            have HIts8 : Hid (∀ y ∈ ls, y.Fits ∧ OwnIts w8 base y) := Lib.hid (fun y hy => ⟨(HM7.out.2.1.2 y hy).1, (HM7.out.2.1.2 y hy).2.kept hgrow8 (own_ne_own (HM7.out.2.1.2 y hy).2.1 Hown7.out (by decide))⟩)
            have hb8 : Below base w w8 := below_row (HM7.out.2.2.2.mono HWb.out) hz7 Hown7.out hgrow8
            have HK8 : Hid (KeepU w.heap.size w w8) := Lib.hid (((Keep.of_below HM7.out.2.2.2).u _).trans (KeepU.link Hown7.out hgrow8))
            have HP8 := Lib.hid hP8
            have HRs8 := Lib.hid hRs8
            have Hown8 := Lib.hid hown8
            have Hb8 := Lib.hid hb8
            refine hK1.out _ _ (hR8) (fun hHeld => ?_)
            clear hK1 K1
            try simp only [Act.put, List.getElem_toArray, List.getElem_cons_succ, List.getElem_cons_zero, List.setIfInBounds_toArray, List.set_cons_zero, List.set_cons_succ]
            clear hP8 hRs8 hown8 hb8 hgrow8 hR8 hne8
            refine wpAnyH_take (i := 8) (v := .pointer (some ⟨P, 0, none⟩)) rfl (by kernel_rfl) (by kernel_rfl) (by kernel_rfl) (fun _ _ _ h => h) (Or.inl ⟨by rfl, fun w' hSw => by go_simp⟩) hHeld ?_
            try simp only [Act.put, List.getElem_toArray, List.getElem_cons_succ, List.getElem_cons_zero, List.setIfInBounds_toArray, List.set_cons_zero, List.set_cons_succ]
            refine wpAnyH_take (i := 9) (v := .pointer (some ⟨P, 2, none⟩)) rfl (by kernel_rfl) (by kernel_rfl) (by kernel_rfl) (fun _ _ _ h => h) (Or.inl ⟨by rfl, fun w' hSw => by go_simp⟩) hHeld ?_
            try simp only [Act.put, List.getElem_toArray, List.getElem_cons_succ, List.getElem_cons_zero, List.setIfInBounds_toArray, List.set_cons_zero, List.set_cons_succ]
            refine wpAnyH_ready (rs := [10]) (by kernel_rfl) (by simp) (AllReadyH.cons rfl (fun K1 hK1 => ?_) AllReadyH.nil)
            try simp only [Act.put, List.getElem_toArray, List.getElem_cons_succ, List.getElem_cons_zero, List.setIfInBounds_toArray, List.set_cons_zero, List.set_cons_succ]
            have d2 := HP8.out.cell 2 (by simp)
            have f2 := HP8.out.free 2
            simp only [List.getElem_cons_zero, List.getElem_cons_succ] at d2
            go_simp
            have hgs := grownBy_set w8 P 2 (.slice (some ⟨g9, 0, none⟩) (n + 1) cp9)
            have hP9 := HP8.out.set 2 (.slice (some ⟨g9, 0, none⟩) (n + 1) cp9) (by simp)
            have HP9 := Lib.hid hP9
            have HRs9 := Lib.hid (HRs8.out.kept hgs (row_diff HRs8.out HP8.out (by decide)))
            have hR9 := hHeld.kept hgs (row_diff hHeld HP8.out (by decide))
            have HR9 := Lib.hid hR9
            have HO9 := Lib.hid (HO8.out.kept hgs (.inr (row_ne_own HP8.out HO8.out (by decide))))
            have HOwn9 := Lib.hid (Hown8.out.kept hgs (.inr (row_ne_own HP8.out Hown8.out (by decide))))
            have HIts9 : Hid (∀ y ∈ ls, y.Fits ∧ OwnIts (w8.setCell ⟨P, 2, none⟩ (.slice (some ⟨g9, 0, none⟩) (n + 1) cp9)) base y) := Lib.hid (fun y hy => ⟨(HIts8.out y hy).1, (HIts8.out y hy).2.kept hgs (.inr (row_ne_own HP8.out (HIts8.out y hy).2.1 (by decide)))⟩)
            have HbS9 := Lib.hid (Hb8.out.grown hgs (Nat.le_trans HWb.out Hb8.out.size) (fun k hk => by cases hk; exact HHin.out))
            have HK9 : Hid (KeepU w.heap.size w (w8.setCell ⟨P, 2, none⟩ (.slice (some ⟨g9, 0, none⟩) (n + 1) cp9))) := Lib.hid (HK8.out.trans (KeepU.row HP8.out (.inl rfl) hgs))
            refine hK1.out _ _ (hR9) (fun hHeld => ?_)
            clear hK1 K1
            try simp only [Act.put, List.getElem_toArray, List.getElem_cons_succ, List.getElem_cons_zero, List.setIfInBounds_toArray, List.set_cons_zero, List.set_cons_succ]
            clear hgs hP9 hR9 d2 f2
            refine wpAnyH_done (by kernel_rfl) ?_ _
            clear hHeld
            go_wp2_with (first
            | ((with_reducible show wpList _ _ _ (⟨_, .load 42 _, _, _, _, _⟩ :: _) _ _); refine wpList_load_tx rfl 42 (.tmp 46) rfl g8 35 rfl (bRow q.1.hash).toList _ (HAt2.out _ _ HR9.out) Tryd.underlying42 rfl (by rw [hash_info, HKh32.out]) ?_)
            | (with_reducible show wpList _ _ _ (⟨_, .store 42 _ _, _, _, _, _⟩ :: _) _ _
               refine wpList_store_at rfl 42 (.tmp 6) (.tmp 47) rfl w.heap.size 0 (bRow q.1.hash).toList (bRow Tx.zero).toList _ rfl rfl HRs9.out (by have := HZ32.out; have := HKh32.out; omega) (by rw [hash_info, HKh32.out]) HKh1.out ?_
               intro wz hrz hgz
               rw [splice_all (HKh32.out.trans HZ32.out.symm)] at hrz
               have HRz := Lib.hid hrz
               have HGz := Lib.hid hgz
               clear hrz hgz))
            have hch9 : ChAt (w8.setCell ⟨P, 2, none⟩ (.slice (some ⟨g9, 0, none⟩) (n + 1) cp9)) base P dp de (ls ++ [⟨q.1, A1, c1⟩]) := by
              refine ⟨HHin.out, _, HP9.out, ?_, fun y hy => ?_⟩
              · rw [HFl.out, List.length_append, List.length_singleton, ← HN.out]
                exact HOwn9.out
              · rcases List.mem_append.1 hy with hy | hy
                · exact HIts9.out y hy
                · rw [List.mem_singleton.1 hy]
                  refine ⟨HNF.out A1 c1, own_lower HO9.out HWb.out, ?_⟩
                  show q.1.b.items.length ≤ _
                  exact HIl.out
            exact bodyPost_ret (results_rowL rfl _ _ w.heap.size 42 _ _ rfl HRz.out Tryd.underlying42 rfl (by rw [hash_info, List.size_toArray, HKh32.out]) _ rfl) rfl ⟨by rw [show q.2 = 0 from HQ0.out]; rfl, HbS9.out.grown HGz.out (Nat.le_trans HWb.out HbS9.out.size) (fun k hk => by cases hk; exact HWb.out), (HK9.out.trans (KeepU.new HGz.out (fun g e => by cases e; exact Nat.le_refl _))).keep, .inr ⟨HQ0.out, ⟨q.1, A1, c1⟩, rfl, hch9.put HRs9.out (by decide) (by decide) (by decide) HGz.out⟩⟩
          · skip
            try simp only [Act.put, List.getElem_toArray, List.getElem_cons_succ, List.getElem_cons_zero, List.setIfInBounds_toArray, List.set_cons_zero, List.set_cons_succ]
            rw [if_pos (by rfl)]
            refine wp_buildSlice 89 86 1 _ rfl QC.toArray i0 (.agg Lv.zero.cells.toArray) Tryd.underlying89 Hi.out Hz.out (by rw [Hsz.out]; decide) (by rw [Hsz.out]; decide) (by rw [Hsz.out, Array.toList_map]; exact fill_one 67 (.agg Lv.zero.cells.toArray) QC HQL.out) ?_
            have hM7 := HM6.out.step ((Below.refl wr.heap.size wr).alloc (Nat.le_refl _) (.cells QC.toArray 86))
            have hown7 := hM7.2.1.1
            rw [← HN.out] at hown7
            have Hown7 := Lib.hid hown7
            have HM7 := Lib.hid hM7
            have HO7 := Lib.hid (HO6.out.alloc (.cells QC.toArray 86))
            have Hnew7 := Lib.hid (row_news (Row.new wr 86 QC))
            have hz7 : base ≤ (wr.alloc (.cells QC.toArray 86)).heap.size := Nat.le_trans HWb.out hM7.2.2.2.size
            have hHeld2 := hHeld.kept (grownBy_alloc wr (.cells QC.toArray 86) none) (by simp)
            refine hK1.out _ _ (hHeld2) (fun hHeld => ?_)
            clear hK1 K1
            try simp only [Act.put, List.getElem_toArray, List.getElem_cons_succ, List.getElem_cons_zero, List.setIfInBounds_toArray, List.set_cons_zero, List.set_cons_succ]
            clear hM7 hown7 hHeld2
            refine wpAnyH_ready (rs := [4]) (by kernel_rfl) (by simp) (AllReadyH.cons rfl (fun K1 hK1 => ?_) AllReadyH.nil)
            try simp only [Act.put, List.getElem_toArray, List.getElem_cons_succ, List.getElem_cons_zero, List.setIfInBounds_toArray, List.set_cons_zero, List.set_cons_succ]
            have c4 := HM7.out.1.cell 2 (by simp)
            simp only [List.getElem_cons_zero, List.getElem_cons_succ] at c4
            rw [← HN.out] at c4
            go_simp
            refine hK1.out _ _ (hHeld) (fun hHeld => ?_)
            clear hK1 K1
            try simp only [Act.put, List.getElem_toArray, List.getElem_cons_succ, List.getElem_cons_zero, List.setIfInBounds_toArray, List.set_cons_zero, List.set_cons_succ]
            clear c4
            refine wpAnyH_ready (rs := [7]) (by kernel_rfl) (by simp) (AllReadyH.cons rfl (fun K1 hK1 => ?_) AllReadyH.nil)
            try simp only [Act.put, List.getElem_toArray, List.getElem_cons_succ, List.getElem_cons_zero, List.setIfInBounds_toArray, List.set_cons_zero, List.set_cons_succ]
            rw [if_pos (by rfl)]
            refine wp_append_own_wide _ _ _ 89 rfl base 86 i0 (.agg Lv.zero.cells.toArray) 67 104 Tryd.underlying89 Hi.out Hz.out Hsz.out Hby.out (by rw [← HZL.out]; rfl) (by decide) (.slice (some ⟨gl, 0, none⟩) n c) n (Lv.flat ls) rfl Hown7.out ⟨wr.heap.size, 0, none⟩ 1 1 QC rfl (by rw [HQL.out]) Hnew7.out HQ1.out hk63 hk48 hz7 ?_
            intro v' w8 hown8 hgrow8 _
            obtain ⟨g9, cp9, rfl⟩ := ownsRow_succ hown8
            have hP8 := HM7.out.1.kept hgrow8 (row_ne_own HM7.out.1 Hown7.out (by decide)).symm
            have hRs8 := HM7.out.2.2.1.kept hgrow8 (row_ne_own HM7.out.2.2.1 Hown7.out (by decide)).symm
            have hne8 : some g8 ≠ (Value.slice (some ⟨gl, 0, none⟩) n c).ownBlock := fun e => HLv.out (by rw [← HN.out]; exact e.symm)
            have hR8 := hHeld.kept hgrow8 hne8
            have HO8 := Lib.hid (HO7.out.kept hgrow8 (own_ne_own HO7.out Hown7.out (by decide)))
            have HIts8 : Hid (∀ y ∈ ls, y.Fits ∧ OwnIts w8 base y) := Lib.hid (fun y hy => ⟨(HM7.out.2.1.2 y hy).1, (HM7.out.2.1.2 y hy).2.kept hgrow8 (own_ne_own (HM7.out.2.1.2 y hy).2.1 Hown7.out (by decide))⟩)
            have hb8 : Below base w w8 := below_row (HM7.out.2.2.2.mono HWb.out) hz7 Hown7.out hgrow8
            have HK8 : Hid (KeepU w.heap.size w w8) := Lib.hid (((Keep.of_below HM7.out.2.2.2).u _).trans (KeepU.link Hown7.out hgrow8))
            have HP8 := Lib.hid hP8
            have HRs8 := Lib.hid hRs8
            have Hown8 := Lib.hid hown8
            have Hb8 := Lib.hid hb8
            refine hK1.out _ _ (hR8) (fun hHeld => ?_)
            clear hK1 K1
            try simp only [Act.put, List.getElem_toArray, List.getElem_cons_succ, List.getElem_cons_zero, List.setIfInBounds_toArray, List.set_cons_zero, List.set_cons_succ]
            clear hP8 hRs8 hown8 hb8 hgrow8 hR8 hne8
            refine wpAnyH_take (i := 8) (v := .pointer (some ⟨P, 0, none⟩)) rfl (by kernel_rfl) (by kernel_rfl) (by kernel_rfl) (fun _ _ _ h => h) (Or.inl ⟨by rfl, fun w' hSw => by go_simp⟩) hHeld ?_
            try simp only [Act.put, List.getElem_toArray, List.getElem_cons_succ, List.getElem_cons_zero, List.setIfInBounds_toArray, List.set_cons_zero, List.set_cons_succ]
            refine wpAnyH_take (i := 9) (v := .pointer (some ⟨P, 2, none⟩)) rfl (by kernel_rfl) (by kernel_rfl) (by kernel_rfl) (fun _ _ _ h => h) (Or.inl ⟨by rfl, fun w' hSw => by go_simp⟩) hHeld ?_
            try simp only [Act.put, List.getElem_toArray, List.getElem_cons_succ, List.getElem_cons_zero, List.setIfInBounds_toArray, List.set_cons_zero, List.set_cons_succ]
            refine wpAnyH_ready (rs := [10]) (by kernel_rfl) (by simp) (AllReadyH.cons rfl (fun K1 hK1 => ?_) AllReadyH.nil)
            try simp only [Act.put, List.getElem_toArray, List.getElem_cons_succ, List.getElem_cons_zero, List.setIfInBounds_toArray, List.set_cons_zero, List.set_cons_succ]
            have d2 := HP8.out.cell 2 (by simp)
            have f2 := HP8.out.free 2
            simp only [List.getElem_cons_zero, List.getElem_cons_succ] at d2
            go_simp
            have hgs := grownBy_set w8 P 2 (.slice (some ⟨g9, 0, none⟩) (n + 1) cp9)
            have hP9 := HP8.out.set 2 (.slice (some ⟨g9, 0, none⟩) (n + 1) cp9) (by simp)
            have HP9 := Lib.hid hP9
            have HRs9 := Lib.hid (HRs8.out.kept hgs (row_diff HRs8.out HP8.out (by decide)))
            have hR9 := hHeld.kept hgs (row_diff hHeld HP8.out (by decide))
            have HR9 := Lib.hid hR9
            have HO9 := Lib.hid (HO8.out.kept hgs (.inr (row_ne_own HP8.out HO8.out (by decide))))
            have HOwn9 := Lib.hid (Hown8.out.kept hgs (.inr (row_ne_own HP8.out Hown8.out (by decide))))
            have HIts9 : Hid (∀ y ∈ ls, y.Fits ∧ OwnIts (w8.setCell ⟨P, 2, none⟩ (.slice (some ⟨g9, 0, none⟩) (n + 1) cp9)) base y) := Lib.hid (fun y hy => ⟨(HIts8.out y hy).1, (HIts8.out y hy).2.kept hgs (.inr (row_ne_own HP8.out (HIts8.out y hy).2.1 (by decide)))⟩)
            have HbS9 := Lib.hid (Hb8.out.grown hgs (Nat.le_trans HWb.out Hb8.out.size) (fun k hk => by cases hk; exact HHin.out))
            have HK9 : Hid (KeepU w.heap.size w (w8.setCell ⟨P, 2, none⟩ (.slice (some ⟨g9, 0, none⟩) (n + 1) cp9))) := Lib.hid (HK8.out.trans (KeepU.row HP8.out (.inl rfl) hgs))
            refine hK1.out _ _ (hR9) (fun hHeld => ?_)
            clear hK1 K1
            try simp only [Act.put, List.getElem_toArray, List.getElem_cons_succ, List.getElem_cons_zero, List.setIfInBounds_toArray, List.set_cons_zero, List.set_cons_succ]
            clear hgs hP9 hR9 d2 f2
            refine wpAnyH_done (by kernel_rfl) ?_ _
            clear hHeld
            go_wp2_with (first
            | ((with_reducible show wpList _ _ _ (⟨_, .load 42 _, _, _, _, _⟩ :: _) _ _); refine wpList_load_tx rfl 42 (.tmp 46) rfl g8 35 rfl (bRow q.1.hash).toList _ (HAt2.out _ _ HR9.out) Tryd.underlying42 rfl (by rw [hash_info, HKh32.out]) ?_)
            | (with_reducible show wpList _ _ _ (⟨_, .store 42 _ _, _, _, _, _⟩ :: _) _ _
               refine wpList_store_at rfl 42 (.tmp 6) (.tmp 47) rfl w.heap.size 0 (bRow q.1.hash).toList (bRow Tx.zero).toList _ rfl rfl HRs9.out (by have := HZ32.out; have := HKh32.out; omega) (by rw [hash_info, HKh32.out]) HKh1.out ?_
               intro wz hrz hgz
               rw [splice_all (HKh32.out.trans HZ32.out.symm)] at hrz
               have HRz := Lib.hid hrz
               have HGz := Lib.hid hgz
               clear hrz hgz))
            have hch9 : ChAt (w8.setCell ⟨P, 2, none⟩ (.slice (some ⟨g9, 0, none⟩) (n + 1) cp9)) base P dp de (ls ++ [⟨q.1, A1, c1⟩]) := by
              refine ⟨HHin.out, _, HP9.out, ?_, fun y hy => ?_⟩
              · rw [HFl.out, List.length_append, List.length_singleton, ← HN.out]
                exact HOwn9.out
              · rcases List.mem_append.1 hy with hy | hy
                · exact HIts9.out y hy
                · rw [List.mem_singleton.1 hy]
                  refine ⟨HNF.out A1 c1, own_lower HO9.out HWb.out, ?_⟩
                  show q.1.b.items.length ≤ _
                  exact HIl.out
            exact bodyPost_ret (results_rowL rfl _ _ w.heap.size 42 _ _ rfl HRz.out Tryd.underlying42 rfl (by rw [hash_info, List.size_toArray, HKh32.out]) _ rfl) rfl ⟨by rw [show q.2 = 0 from HQ0.out]; rfl, HbS9.out.grown HGz.out (Nat.le_trans HWb.out HbS9.out.size) (fun k hk => by cases hk; exact HWb.out), (HK9.out.trans (KeepU.new HGz.out (fun g e => by cases e; exact Nat.le_refl _))).keep, .inr ⟨HQ0.out, ⟨q.1, A1, c1⟩, rfl, hch9.put HRs9.out (by decide) (by decide) (by decide) HGz.out⟩⟩
        · have dq : (q.2 != 0) = true := by simpa using hq0
          have hz0 := HErr.out hq0
          have HZ0 := Lib.hid hz0
          have HQ0 := Lib.hid hq0
          clear hz0 hq0
          go_wp2_with (first
          | ((with_reducible show wpList _ _ _ (⟨_, .build 42 _, _, _, _, _⟩ :: _) _ _); refine wpList_buildL rfl 42 [] rfl (some 34) rfl [] rfl (bRow Tx.zero) hash_built ?_)
          | (with_reducible show wpList _ _ _ (⟨_, .store 42 _ _, _, _, _, _⟩ :: _) _ _
             refine wpList_store_at rfl 42 (.tmp 6) (.tmp 34) rfl w.heap.size 0 (bRow Tx.zero).toList (bRow Tx.zero).toList _ rfl rfl H5.out.2.2.1 (by have := HZ32.out; omega) (by rw [hash_info, HZ32.out]) HZ1.out ?_
             intro wz hrz hgz
             rw [splice_all rfl] at hrz
             have HRz := Lib.hid hrz
             have HGz := Lib.hid hgz
             have Hbz := Lib.hid (below_own H5.out.2.2.2 hgz (fun k hk => by cases hk; exact Nat.le_refl _))
             clear hrz hgz))
          have hch := H5.out.ch HHin.out
          exact bodyPost_ret (results_rowL rfl _ _ w.heap.size 42 _ _ rfl HRz.out Tryd.underlying42 rfl (by rw [hash_info, List.size_toArray, HZ32.out]) _ rfl) rfl ⟨by rw [HZ0.out]; rfl, Hbz.out.mono HWb.out, Keep.of_below Hbz.out, .inl ⟨HQ0.out, hch.put H5.out.2.2.1 (by decide) (by decide) (by decide) HGz.out⟩⟩
      · skip
        try simp only [Act.put, List.getElem_toArray, List.getElem_cons_succ, List.getElem_cons_zero, List.setIfInBounds_toArray, List.set_cons_zero, List.set_cons_succ]
        go_simp
        have hbk := (Below.refl wq.heap.size wq).alloc (Nat.le_refl _) (.cells Lv.zero.cells.toArray 86)
        have hnw := Row.new wq 86 Lv.zero.cells
        have hHeld2 := hHeld.step hbk
        have hg8 : w.heap.size < wq.heap.size := hHeld.2.2.1.lt
        have HLs := Lib.hid (fun x hx => ownBlock_lt (hHeld.2.1.2 x hx).2.1 (Nat.le_refl _))
        have HLv := Lib.hid (ownBlock_lt hHeld.2.1.1 (Nat.le_refl _))
        generalize wq.alloc (.cells Lv.zero.cells.toArray 86) = wm at *
        generalize wq.heap.size = g8 at *
        have HNew := Lib.hid hnw
        clear hnw hbk
        refine hK1.out _ _ (hHeld2) (fun hHeld => ?_)
        clear hK1 K1
        try simp only [Act.put, List.getElem_toArray, List.getElem_cons_succ, List.getElem_cons_zero, List.setIfInBounds_toArray, List.set_cons_zero, List.set_cons_succ]
        clear hHeld2
        refine wpAnyH_ready (rs := [11]) (by kernel_rfl) (by simp) (AllReadyH.cons rfl (fun K1 hK1 => ?_) AllReadyH.nil)
        try simp only [Act.put, List.getElem_toArray, List.getElem_cons_succ, List.getElem_cons_zero, List.setIfInBounds_toArray, List.set_cons_zero, List.set_cons_succ]
        go_simp
        refine Calls.mono (BH.out _ hHeld.2.2.2) ?_
        rintro e wb ⟨⟨A1, c1, rfl, ho1⟩, hb1⟩
        have HO1 := Lib.hid (own_lower ho1 hHeld.2.2.2.size)
        clear ho1
        have HNew := Lib.hid (HNew.out.kept (grownBy_of_below hb1 none) (by simp))
        refine hK1.out _ _ (hHeld.step hb1) (fun hHeld => ?_)
        clear hK1 K1
        try simp only [Act.put, List.getElem_toArray, List.getElem_cons_succ, List.getElem_cons_zero, List.setIfInBounds_toArray, List.set_cons_zero, List.set_cons_succ]
        clear hb1
        refine wpAnyH_take (i := 12) (v := .tuple #[.agg (Lv.cells ⟨q.1, A1, c1⟩).toArray, .int .i64 q.2]) rfl (by kernel_rfl) (by kernel_rfl) (by kernel_rfl) (fun _ _ _ h => h) (Or.inl ⟨by rfl, fun w' hSw => by go_simp⟩) hHeld ?_
        try simp only [Act.put, List.getElem_toArray, List.getElem_cons_succ, List.getElem_cons_zero, List.setIfInBounds_toArray, List.set_cons_zero, List.set_cons_succ]
        refine wpAnyH_take (i := 13) (v := .agg (Lv.cells ⟨q.1, A1, c1⟩).toArray) rfl (by kernel_rfl) (by kernel_rfl) (by kernel_rfl) (fun _ _ _ h => h) (Or.inl ⟨by rfl, fun w' hSw => by go_simp⟩) hHeld ?_
        try simp only [Act.put, List.getElem_toArray, List.getElem_cons_succ, List.getElem_cons_zero, List.setIfInBounds_toArray, List.set_cons_zero, List.set_cons_succ]
        refine wpAnyH_take (i := 14) (v := .int .i64 q.2) rfl (by kernel_rfl) (by kernel_rfl) (by kernel_rfl) (fun _ _ _ h => h) (Or.inl ⟨by rfl, fun w' hSw => by go_simp⟩) hHeld ?_
        try simp only [Act.put, List.getElem_toArray, List.getElem_cons_succ, List.getElem_cons_zero, List.setIfInBounds_toArray, List.set_cons_zero, List.set_cons_succ]
        refine wpAnyH_ready (rs := [16]) (by kernel_rfl) (by simp) (AllReadyH.cons rfl (fun K1 hK1 => ?_) AllReadyH.nil)
        try simp only [Act.put, List.getElem_toArray, List.getElem_cons_succ, List.getElem_cons_zero, List.setIfInBounds_toArray, List.set_cons_zero, List.set_cons_succ]
        have HQL := Lib.hid (Lv.cells_len (HNF.out A1 c1))
        have HQ1 := Lib.hid (Lv.cells_one (HNF.out A1 c1))
        rw [if_pos (by rfl)]
        refine wp_store_at 86 (.tmp 8) (.tmp 30) rfl g8 0 (Lv.cells ⟨q.1, A1, c1⟩) _ _ rfl rfl HNew.out (by rw [HQL.out, HZL.out]; decide) (by rw [link_size, HQL.out]) HQ1.out ?_
        intro w5 hr5 hg5
        rw [splice_all (HQL.out.trans HZL.out.symm)] at hr5
        have HR5 := Lib.hid hr5
        have HO5 := Lib.hid (HO1.out.kept hg5 (.inr (row_ne_own HNew.out HO1.out (by decide))))
        have hM5 : MnIn w w5 base P dp de (some ⟨gl, 0, none⟩) c ls := ⟨hHeld.1.kept hg5 (row_diff hHeld.1 HNew.out (by decide)), hHeld.2.1.fresh hg5 HLv.out HLs.out, hHeld.2.2.1.kept hg5 (row_diff hHeld.2.2.1 HNew.out (by decide)), below_own hHeld.2.2.2 hg5 (fun k hk => by cases hk; omega)⟩
        refine hK1.out _ _ (hM5) (fun hHeld => ?_)
        clear hK1 K1
        try simp only [Act.put, List.getElem_toArray, List.getElem_cons_succ, List.getElem_cons_zero, List.setIfInBounds_toArray, List.set_cons_zero, List.set_cons_succ]
        clear hr5 hg5 hM5
        refine wpAnyH_take (i := 17) (v := .int .i64 q.2) rfl (by kernel_rfl) (by kernel_rfl) (by kernel_rfl) (fun _ _ _ h => h) (Or.inl ⟨by rfl, fun w' hSw => by go_simp⟩) hHeld ?_
        try simp only [Act.put, List.getElem_toArray, List.getElem_cons_succ, List.getElem_cons_zero, List.setIfInBounds_toArray, List.set_cons_zero, List.set_cons_succ]
        refine wpAnyH_done (by kernel_rfl) ?_ _
        have H5 := Lib.hid hHeld
        clear hHeld HNew HO1
        have HWb : Hid (base ≤ w.heap.size) := Lib.hid (Nat.le_trans HHin.out (Nat.le_of_lt hPb))
        by_cases hq0 : q.2 = 0
        · have dq : (q.2 != 0) = false := by simp [hq0]
          have HQ0 := Lib.hid hq0
          have HKh : Hid (q.1.hash.length = 32) := Lib.hid (HNF.out A1 c1).2.1
          have HKh32 := Lib.hid (Tx.bRow_len _ (HNF.out A1 c1).2.1)
          have HKh1 := Lib.hid (hash_one _ (HNF.out A1 c1).2.1)
          have HAt2 : Hid (∀ W g, Row W g 86 (Lv.cells ⟨q.1, A1, c1⟩) → W.rangeAt g 35 (bRow q.1.hash).toList) := Lib.hid (fun W g h => by
            have := (Lv.at_ (HNF.out A1 c1) (row_range h)).2.2.2.2.1
            rwa [Nat.zero_add] at this)
          clear hq0
          go_wp2_with fail
          clear dq
          have HQL := Lib.hid (Lv.cells_len (HNF.out A1 c1))
          have HQ1 := Lib.hid (Lv.cells_one (HNF.out A1 c1))
          have HFl : Hid (Lv.flat (ls ++ [⟨q.1, A1, c1⟩]) = Lv.flat ls ++ Lv.cells ⟨q.1, A1, c1⟩) := Lib.hid (by rw [Lv.flat_append]; simp [Lv.flat])
          have hk63 : n + 1 ≤ maxLen := by unfold maxLen; omega
          have hk48 : ((n + 1) + (n + 1) / 4 + 192) * 104 ≤ 281474976710656 := by omega
          generalize hQC : Lv.cells ⟨q.1, A1, c1⟩ = QC at *
          clear hQC
          have hi8 : (Tryd.prog.info? 86).map (·.size) = some QC.length := by rw [link_size, HQL.out]
          have HM6 : Hid (MnIn w w5.drew base P dp de (some ⟨gl, 0, none⟩) c ls) := Lib.hid (H5.out.step ((Below.refl _ _).drew))
          have HR6 := Lib.hid (HR5.out.kept (grownBy_drew w5 none) (by simp))
          have HO6 := Lib.hid (HO5.out.kept (grownBy_drew w5 none) (by cases A1 <;> simp [Value.ownBlock]))
          refine wp_region_held_drew (S := fun w' => Row w' g8 86 QC) (by kernel_rfl) (HR6.out) (fun hHeld => ?_)
          generalize w5.drew = wr at *
          refine wpAnyH_take (i := 0) (v := .pointer (some ⟨P, 0, none⟩)) rfl (by kernel_rfl) (by kernel_rfl) (by kernel_rfl) (fun _ _ _ h => h) (Or.inl ⟨by rfl, fun w' hSw => by go_simp⟩) hHeld ?_
          try simp only [Act.put, List.getElem_toArray, List.getElem_cons_succ, List.getElem_cons_zero, List.setIfInBounds_toArray, List.set_cons_zero, List.set_cons_succ]
          refine wpAnyH_take (i := 1) (v := .pointer (some ⟨P, 0, none⟩)) rfl (by kernel_rfl) (by kernel_rfl) (by kernel_rfl) (fun _ _ _ h => h) (Or.inl ⟨by rfl, fun w' hSw => by go_simp⟩) hHeld ?_
          try simp only [Act.put, List.getElem_toArray, List.getElem_cons_succ, List.getElem_cons_zero, List.setIfInBounds_toArray, List.set_cons_zero, List.set_cons_succ]
          refine wpAnyH_take (i := 2) (v := .pointer (some ⟨P, 0, none⟩)) rfl (by kernel_rfl) (by kernel_rfl) (by kernel_rfl) (fun _ _ _ h => h) (Or.inl ⟨by rfl, fun w' hSw => by go_simp⟩) hHeld ?_
          try simp only [Act.put, List.getElem_toArray, List.getElem_cons_succ, List.getElem_cons_zero, List.setIfInBounds_toArray, List.set_cons_zero, List.set_cons_succ]
          refine wpAnyH_take (i := 3) (v := .pointer (some ⟨P, 2, none⟩)) rfl (by kernel_rfl) (by kernel_rfl) (by kernel_rfl) (fun _ _ _ h => h) (Or.inl ⟨by rfl, fun w' hSw => by go_simp⟩) hHeld ?_
          try simp only [Act.put, List.getElem_toArray, List.getElem_cons_succ, List.getElem_cons_zero, List.setIfInBounds_toArray, List.set_cons_zero, List.set_cons_succ]
          refine' wpAnyH_take (i := 5) (v := _) rfl (by kernel_rfl) (by kernel_rfl) (by kernel_rfl) (fun _ _ _ h => h) (yieldsIf_load_mid (by rfl) _ _ rfl g8 0 rfl QC _ (fun w' hSw => row_range hSw) Tryd.underlying86 rfl hi8) hHeld ?_
          try simp only [Act.put, List.getElem_toArray, List.getElem_cons_succ, List.getElem_cons_zero, List.setIfInBounds_toArray, List.set_cons_zero, List.set_cons_succ]
          refine wpAnyH_ready (rs := [4, 6]) (by kernel_rfl) (by simp) (AllReadyH.cons rfl (fun K1 hK1 => ?_) (AllReadyH.cons rfl (fun K1 hK1 => ?_) AllReadyH.nil))
          · skip
            try simp only [Act.put, List.getElem_toArray, List.getElem_cons_succ, List.getElem_cons_zero, List.setIfInBounds_toArray, List.set_cons_zero, List.set_cons_succ]
            have c4 := HM6.out.1.cell 2 (by simp)
            simp only [List.getElem_cons_zero, List.getElem_cons_succ] at c4
            rw [← HN.out] at c4
            go_simp
            refine hK1.out _ _ (hHeld) (fun hHeld => ?_)
            clear hK1 K1
            try simp only [Act.put, List.getElem_toArray, List.getElem_cons_succ, List.getElem_cons_zero, List.setIfInBounds_toArray, List.set_cons_zero, List.set_cons_succ]
            clear c4
            refine wpAnyH_ready (rs := [6]) (by kernel_rfl) (by simp) (AllReadyH.cons rfl (fun K1 hK1 => ?_) AllReadyH.nil)
            try simp only [Act.put, List.getElem_toArray, List.getElem_cons_succ, List.getElem_cons_zero, List.setIfInBounds_toArray, List.set_cons_zero, List.set_cons_succ]
            rw [if_pos (by rfl)]
            refine wp_buildSlice 89 86 1 _ rfl QC.toArray i0 (.agg Lv.zero.cells.toArray) Tryd.underlying89 Hi.out Hz.out (by rw [Hsz.out]; decide) (by rw [Hsz.out]; decide) (by rw [Hsz.out, Array.toList_map]; exact fill_one 67 (.agg Lv.zero.cells.toArray) QC HQL.out) ?_
            have hM7 := HM6.out.step ((Below.refl wr.heap.size wr).alloc (Nat.le_refl _) (.cells QC.toArray 86))
            have hown7 := hM7.2.1.1
            rw [← HN.out] at hown7
            have Hown7 := Lib.hid hown7
            have HM7 := Lib.hid hM7
            have HO7 := Lib.hid (HO6.out.alloc (.cells QC.toArray 86))
            have Hnew7 := Lib.hid (row_news (Row.new wr 86 QC))
            have hz7 : base ≤ (wr.alloc (.cells QC.toArray 86)).heap.size := Nat.le_trans HWb.out hM7.2.2.2.size
            have hHeld2 := hHeld.kept (grownBy_alloc wr (.cells QC.toArray 86) none) (by simp)
            refine hK1.out _ _ (hHeld2) (fun hHeld => ?_)
            clear hK1 K1
            try simp only [Act.put, List.getElem_toArray, List.getElem_cons_succ, List.getElem_cons_zero, List.setIfInBounds_toArray, List.set_cons_zero, List.set_cons_succ]
            clear hM7 hown7 hHeld2
            refine wpAnyH_ready (rs := [7]) (by kernel_rfl) (by simp) (AllReadyH.cons rfl (fun K1 hK1 => ?_) AllReadyH.nil)
            try simp only [Act.put, List.getElem_toArray, List.getElem_cons_succ, List.getElem_cons_zero, List.setIfInBounds_toArray, List.set_cons_zero, List.set_cons_succ]
            rw [if_pos (by rfl)]
            refine wp_append_own_wide _ _ _ 89 rfl base 86 i0 (.agg Lv.zero.cells.toArray) 67 104 Tryd.underlying89 Hi.out Hz.out Hsz.out Hby.out (by rw [← HZL.out]; rfl) (by decide) (.slice (some ⟨gl, 0, none⟩) n c) n (Lv.flat ls) rfl Hown7.out ⟨wr.heap.size, 0, none⟩ 1 1 QC rfl (by rw [HQL.out]) Hnew7.out HQ1.out hk63 hk48 hz7 ?_
            intro v' w8 hown8 hgrow8 _
            obtain ⟨g9, cp9, rfl⟩ := ownsRow_succ hown8
            have hP8 := HM7.out.1.kept hgrow8 (row_ne_own HM7.out.1 Hown7.out (by decide)).symm
            have hRs8 := HM7.out.2.2.1.kept hgrow8 (row_ne_own HM7.out.2.2.1 Hown7.out (by decide)).symm
            have hne8 : some g8 ≠ (Value.slice (some ⟨gl, 0, none⟩) n c).ownBlock := fun e => HLv.out (by rw [← HN.out]; exact e.symm)
            have hR8 := hHeld.kept hgrow8 hne8
            have HO8 := Lib.hid (HO7.out.kept hgrow8 (own_ne_own HO7.out Hown7.out (by decide)))
            have HIts8 : Hid (∀ y ∈ ls, y.Fits ∧ OwnIts w8 base y) := Lib.hid (fun y hy => ⟨(HM7.out.2.1.2 y hy).1, (HM7.out.2.1.2 y hy).2.kept hgrow8 (own_ne_own (HM7.out.2.1.2 y hy).2.1 Hown7.out (by decide))⟩)
            have hb8 : Below base w w8 := below_row (HM7.out.2.2.2.mono HWb.out) hz7 Hown7.out hgrow8
            have HK8 : Hid (KeepU w.heap.size w w8) := Lib.hid (((Keep.of_below HM7.out.2.2.2).u _).trans (KeepU.link Hown7.out hgrow8))
            have HP8 := Lib.hid hP8
            have HRs8 := Lib.hid hRs8
            have Hown8 := Lib.hid hown8
            have Hb8 := Lib.hid hb8
            refine hK1.out _ _ (hR8) (fun hHeld => ?_)
            clear hK1 K1
            try simp only [Act.put, List.getElem_toArray, List.getElem_cons_succ, List.getElem_cons_zero, List.setIfInBounds_toArray, List.set_cons_zero, List.set_cons_succ]
            clear hP8 hRs8 hown8 hb8 hgrow8 hR8 hne8
            refine wpAnyH_take (i := 8) (v := .pointer (some ⟨P, 0, none⟩)) rfl (by kernel_rfl) (by kernel_rfl) (by kernel_rfl) (fun _ _ _ h => h) (Or.inl ⟨by rfl, fun w' hSw => by go_simp⟩) hHeld ?_
            try simp only [Act.put, List.getElem_toArray, List.getElem_cons_succ, List.getElem_cons_zero, List.setIfInBounds_toArray, List.set_cons_zero, List.set_cons_succ]
            refine wpAnyH_take (i := 9) (v := .pointer (some ⟨P, 2, none⟩)) rfl (by kernel_rfl) (by kernel_rfl) (by kernel_rfl) (fun _ _ _ h => h) (Or.inl ⟨by rfl, fun w' hSw => by go_simp⟩) hHeld ?_
            try simp only [Act.put, List.getElem_toArray, List.getElem_cons_succ, List.getElem_cons_zero, List.setIfInBounds_toArray, List.set_cons_zero, List.set_cons_succ]
            refine wpAnyH_ready (rs := [10]) (by kernel_rfl) (by simp) (AllReadyH.cons rfl (fun K1 hK1 => ?_) AllReadyH.nil)
            try simp only [Act.put, List.getElem_toArray, List.getElem_cons_succ, List.getElem_cons_zero, List.setIfInBounds_toArray, List.set_cons_zero, List.set_cons_succ]
            have d2 := HP8.out.cell 2 (by simp)
            have f2 := HP8.out.free 2
            simp only [List.getElem_cons_zero, List.getElem_cons_succ] at d2
            go_simp
            have hgs := grownBy_set w8 P 2 (.slice (some ⟨g9, 0, none⟩) (n + 1) cp9)
            have hP9 := HP8.out.set 2 (.slice (some ⟨g9, 0, none⟩) (n + 1) cp9) (by simp)
            have HP9 := Lib.hid hP9
            have HRs9 := Lib.hid (HRs8.out.kept hgs (row_diff HRs8.out HP8.out (by decide)))
            have hR9 := hHeld.kept hgs (row_diff hHeld HP8.out (by decide))
            have HR9 := Lib.hid hR9
            have HO9 := Lib.hid (HO8.out.kept hgs (.inr (row_ne_own HP8.out HO8.out (by decide))))
            have HOwn9 := Lib.hid (Hown8.out.kept hgs (.inr (row_ne_own HP8.out Hown8.out (by decide))))
            have HIts9 : Hid (∀ y ∈ ls, y.Fits ∧ OwnIts (w8.setCell ⟨P, 2, none⟩ (.slice (some ⟨g9, 0, none⟩) (n + 1) cp9)) base y) := Lib.hid (fun y hy => ⟨(HIts8.out y hy).1, (HIts8.out y hy).2.kept hgs (.inr (row_ne_own HP8.out (HIts8.out y hy).2.1 (by decide)))⟩)
            have HbS9 := Lib.hid (Hb8.out.grown hgs (Nat.le_trans HWb.out Hb8.out.size) (fun k hk => by cases hk; exact HHin.out))
            have HK9 : Hid (KeepU w.heap.size w (w8.setCell ⟨P, 2, none⟩ (.slice (some ⟨g9, 0, none⟩) (n + 1) cp9))) := Lib.hid (HK8.out.trans (KeepU.row HP8.out (.inl rfl) hgs))
            refine hK1.out _ _ (hR9) (fun hHeld => ?_)
            clear hK1 K1
            try simp only [Act.put, List.getElem_toArray, List.getElem_cons_succ, List.getElem_cons_zero, List.setIfInBounds_toArray, List.set_cons_zero, List.set_cons_succ]
            clear hgs hP9 hR9 d2 f2
            refine wpAnyH_done (by kernel_rfl) ?_ _
            clear hHeld
            go_wp2_with (first
            | ((with_reducible show wpList _ _ _ (⟨_, .load 42 _, _, _, _, _⟩ :: _) _ _); refine wpList_load_tx rfl 42 (.tmp 46) rfl g8 35 rfl (bRow q.1.hash).toList _ (HAt2.out _ _ HR9.out) Tryd.underlying42 rfl (by rw [hash_info, HKh32.out]) ?_)
            | (with_reducible show wpList _ _ _ (⟨_, .store 42 _ _, _, _, _, _⟩ :: _) _ _
               refine wpList_store_at rfl 42 (.tmp 6) (.tmp 47) rfl w.heap.size 0 (bRow q.1.hash).toList (bRow Tx.zero).toList _ rfl rfl HRs9.out (by have := HZ32.out; have := HKh32.out; omega) (by rw [hash_info, HKh32.out]) HKh1.out ?_
               intro wz hrz hgz
               rw [splice_all (HKh32.out.trans HZ32.out.symm)] at hrz
               have HRz := Lib.hid hrz
               have HGz := Lib.hid hgz
               clear hrz hgz))
            have hch9 : ChAt (w8.setCell ⟨P, 2, none⟩ (.slice (some ⟨g9, 0, none⟩) (n + 1) cp9)) base P dp de (ls ++ [⟨q.1, A1, c1⟩]) := by
              refine ⟨HHin.out, _, HP9.out, ?_, fun y hy => ?_⟩
              · rw [HFl.out, List.length_append, List.length_singleton, ← HN.out]
                exact HOwn9.out
              · rcases List.mem_append.1 hy with hy | hy
                · exact HIts9.out y hy
                · rw [List.mem_singleton.1 hy]
                  refine ⟨HNF.out A1 c1, own_lower HO9.out HWb.out, ?_⟩
                  show q.1.b.items.length ≤ _
                  exact HIl.out
            exact bodyPost_ret (results_rowL rfl _ _ w.heap.size 42 _ _ rfl HRz.out Tryd.underlying42 rfl (by rw [hash_info, List.size_toArray, HKh32.out]) _ rfl) rfl ⟨by rw [show q.2 = 0 from HQ0.out]; rfl, HbS9.out.grown HGz.out (Nat.le_trans HWb.out HbS9.out.size) (fun k hk => by cases hk; exact HWb.out), (HK9.out.trans (KeepU.new HGz.out (fun g e => by cases e; exact Nat.le_refl _))).keep, .inr ⟨HQ0.out, ⟨q.1, A1, c1⟩, rfl, hch9.put HRs9.out (by decide) (by decide) (by decide) HGz.out⟩⟩
          · skip
            try simp only [Act.put, List.getElem_toArray, List.getElem_cons_succ, List.getElem_cons_zero, List.setIfInBounds_toArray, List.set_cons_zero, List.set_cons_succ]
            rw [if_pos (by rfl)]
            refine wp_buildSlice 89 86 1 _ rfl QC.toArray i0 (.agg Lv.zero.cells.toArray) Tryd.underlying89 Hi.out Hz.out (by rw [Hsz.out]; decide) (by rw [Hsz.out]; decide) (by rw [Hsz.out, Array.toList_map]; exact fill_one 67 (.agg Lv.zero.cells.toArray) QC HQL.out) ?_
            have hM7 := HM6.out.step ((Below.refl wr.heap.size wr).alloc (Nat.le_refl _) (.cells QC.toArray 86))
            have hown7 := hM7.2.1.1
            rw [← HN.out] at hown7
            have Hown7 := Lib.hid hown7
            have HM7 := Lib.hid hM7
            have HO7 := Lib.hid (HO6.out.alloc (.cells QC.toArray 86))
            have Hnew7 := Lib.hid (row_news (Row.new wr 86 QC))
            have hz7 : base ≤ (wr.alloc (.cells QC.toArray 86)).heap.size := Nat.le_trans HWb.out hM7.2.2.2.size
            have hHeld2 := hHeld.kept (grownBy_alloc wr (.cells QC.toArray 86) none) (by simp)
            refine hK1.out _ _ (hHeld2) (fun hHeld => ?_)
            clear hK1 K1
            try simp only [Act.put, List.getElem_toArray, List.getElem_cons_succ, List.getElem_cons_zero, List.setIfInBounds_toArray, List.set_cons_zero, List.set_cons_succ]
            clear hM7 hown7 hHeld2
            refine wpAnyH_ready (rs := [4]) (by kernel_rfl) (by simp) (AllReadyH.cons rfl (fun K1 hK1 => ?_) AllReadyH.nil)
            try simp only [Act.put, List.getElem_toArray, List.getElem_cons_succ, List.getElem_cons_zero, List.setIfInBounds_toArray, List.set_cons_zero, List.set_cons_succ]
            have c4 := HM7.out.1.cell 2 (by simp)
            simp only [List.getElem_cons_zero, List.getElem_cons_succ] at c4
            rw [← HN.out] at c4
            go_simp
            refine hK1.out _ _ (hHeld) (fun hHeld => ?_)
            clear hK1 K1
            try simp only [Act.put, List.getElem_toArray, List.getElem_cons_succ, List.getElem_cons_zero, List.setIfInBounds_toArray, List.set_cons_zero, List.set_cons_succ]
            clear c4
            refine wpAnyH_ready (rs := [7]) (by kernel_rfl) (by simp) (AllReadyH.cons rfl (fun K1 hK1 => ?_) AllReadyH.nil)
            try simp only [Act.put, List.getElem_toArray, List.getElem_cons_succ, List.getElem_cons_zero, List.setIfInBounds_toArray, List.set_cons_zero, List.set_cons_succ]
            rw [if_pos (by rfl)]
            refine wp_append_own_wide _ _ _ 89 rfl base 86 i0 (.agg Lv.zero.cells.toArray) 67 104 Tryd.underlying89 Hi.out Hz.out Hsz.out Hby.out (by rw [← HZL.out]; rfl) (by decide) (.slice (some ⟨gl, 0, none⟩) n c) n (Lv.flat ls) rfl Hown7.out ⟨wr.heap.size, 0, none⟩ 1 1 QC rfl (by rw [HQL.out]) Hnew7.out HQ1.out hk63 hk48 hz7 ?_
            intro v' w8 hown8 hgrow8 _
            obtain ⟨g9, cp9, rfl⟩ := ownsRow_succ hown8
            have hP8 := HM7.out.1.kept hgrow8 (row_ne_own HM7.out.1 Hown7.out (by decide)).symm
            have hRs8 := HM7.out.2.2.1.kept hgrow8 (row_ne_own HM7.out.2.2.1 Hown7.out (by decide)).symm
            have hne8 : some g8 ≠ (Value.slice (some ⟨gl, 0, none⟩) n c).ownBlock := fun e => HLv.out (by rw [← HN.out]; exact e.symm)
            have hR8 := hHeld.kept hgrow8 hne8
            have HO8 := Lib.hid (HO7.out.kept hgrow8 (own_ne_own HO7.out Hown7.out (by decide)))
            have HIts8 : Hid (∀ y ∈ ls, y.Fits ∧ OwnIts w8 base y) := Lib.hid (fun y hy => ⟨(HM7.out.2.1.2 y hy).1, (HM7.out.2.1.2 y hy).2.kept hgrow8 (own_ne_own (HM7.out.2.1.2 y hy).2.1 Hown7.out (by decide))⟩)
            have hb8 : Below base w w8 := below_row (HM7.out.2.2.2.mono HWb.out) hz7 Hown7.out hgrow8
            have HK8 : Hid (KeepU w.heap.size w w8) := Lib.hid (((Keep.of_below HM7.out.2.2.2).u _).trans (KeepU.link Hown7.out hgrow8))
            have HP8 := Lib.hid hP8
            have HRs8 := Lib.hid hRs8
            have Hown8 := Lib.hid hown8
            have Hb8 := Lib.hid hb8
            refine hK1.out _ _ (hR8) (fun hHeld => ?_)
            clear hK1 K1
            try simp only [Act.put, List.getElem_toArray, List.getElem_cons_succ, List.getElem_cons_zero, List.setIfInBounds_toArray, List.set_cons_zero, List.set_cons_succ]
            clear hP8 hRs8 hown8 hb8 hgrow8 hR8 hne8
            refine wpAnyH_take (i := 8) (v := .pointer (some ⟨P, 0, none⟩)) rfl (by kernel_rfl) (by kernel_rfl) (by kernel_rfl) (fun _ _ _ h => h) (Or.inl ⟨by rfl, fun w' hSw => by go_simp⟩) hHeld ?_
            try simp only [Act.put, List.getElem_toArray, List.getElem_cons_succ, List.getElem_cons_zero, List.setIfInBounds_toArray, List.set_cons_zero, List.set_cons_succ]
            refine wpAnyH_take (i := 9) (v := .pointer (some ⟨P, 2, none⟩)) rfl (by kernel_rfl) (by kernel_rfl) (by kernel_rfl) (fun _ _ _ h => h) (Or.inl ⟨by rfl, fun w' hSw => by go_simp⟩) hHeld ?_
            try simp only [Act.put, List.getElem_toArray, List.getElem_cons_succ, List.getElem_cons_zero, List.setIfInBounds_toArray, List.set_cons_zero, List.set_cons_succ]
            refine wpAnyH_ready (rs := [10]) (by kernel_rfl) (by simp) (AllReadyH.cons rfl (fun K1 hK1 => ?_) AllReadyH.nil)
            try simp only [Act.put, List.getElem_toArray, List.getElem_cons_succ, List.getElem_cons_zero, List.setIfInBounds_toArray, List.set_cons_zero, List.set_cons_succ]
            have d2 := HP8.out.cell 2 (by simp)
            have f2 := HP8.out.free 2
            simp only [List.getElem_cons_zero, List.getElem_cons_succ] at d2
            go_simp
            have hgs := grownBy_set w8 P 2 (.slice (some ⟨g9, 0, none⟩) (n + 1) cp9)
            have hP9 := HP8.out.set 2 (.slice (some ⟨g9, 0, none⟩) (n + 1) cp9) (by simp)
            have HP9 := Lib.hid hP9
            have HRs9 := Lib.hid (HRs8.out.kept hgs (row_diff HRs8.out HP8.out (by decide)))
            have hR9 := hHeld.kept hgs (row_diff hHeld HP8.out (by decide))
            have HR9 := Lib.hid hR9
            have HO9 := Lib.hid (HO8.out.kept hgs (.inr (row_ne_own HP8.out HO8.out (by decide))))
            have HOwn9 := Lib.hid (Hown8.out.kept hgs (.inr (row_ne_own HP8.out Hown8.out (by decide))))
            have HIts9 : Hid (∀ y ∈ ls, y.Fits ∧ OwnIts (w8.setCell ⟨P, 2, none⟩ (.slice (some ⟨g9, 0, none⟩) (n + 1) cp9)) base y) := Lib.hid (fun y hy => ⟨(HIts8.out y hy).1, (HIts8.out y hy).2.kept hgs (.inr (row_ne_own HP8.out (HIts8.out y hy).2.1 (by decide)))⟩)
            have HbS9 := Lib.hid (Hb8.out.grown hgs (Nat.le_trans HWb.out Hb8.out.size) (fun k hk => by cases hk; exact HHin.out))
            have HK9 : Hid (KeepU w.heap.size w (w8.setCell ⟨P, 2, none⟩ (.slice (some ⟨g9, 0, none⟩) (n + 1) cp9))) := Lib.hid (HK8.out.trans (KeepU.row HP8.out (.inl rfl) hgs))
            refine hK1.out _ _ (hR9) (fun hHeld => ?_)
            clear hK1 K1
            try simp only [Act.put, List.getElem_toArray, List.getElem_cons_succ, List.getElem_cons_zero, List.setIfInBounds_toArray, List.set_cons_zero, List.set_cons_succ]
            clear hgs hP9 hR9 d2 f2
            refine wpAnyH_done (by kernel_rfl) ?_ _
            clear hHeld
            go_wp2_with (first
            | ((with_reducible show wpList _ _ _ (⟨_, .load 42 _, _, _, _, _⟩ :: _) _ _); refine wpList_load_tx rfl 42 (.tmp 46) rfl g8 35 rfl (bRow q.1.hash).toList _ (HAt2.out _ _ HR9.out) Tryd.underlying42 rfl (by rw [hash_info, HKh32.out]) ?_)
            | (with_reducible show wpList _ _ _ (⟨_, .store 42 _ _, _, _, _, _⟩ :: _) _ _
               refine wpList_store_at rfl 42 (.tmp 6) (.tmp 47) rfl w.heap.size 0 (bRow q.1.hash).toList (bRow Tx.zero).toList _ rfl rfl HRs9.out (by have := HZ32.out; have := HKh32.out; omega) (by rw [hash_info, HKh32.out]) HKh1.out ?_
               intro wz hrz hgz
               rw [splice_all (HKh32.out.trans HZ32.out.symm)] at hrz
               have HRz := Lib.hid hrz
               have HGz := Lib.hid hgz
               clear hrz hgz))
            have hch9 : ChAt (w8.setCell ⟨P, 2, none⟩ (.slice (some ⟨g9, 0, none⟩) (n + 1) cp9)) base P dp de (ls ++ [⟨q.1, A1, c1⟩]) := by
              refine ⟨HHin.out, _, HP9.out, ?_, fun y hy => ?_⟩
              · rw [HFl.out, List.length_append, List.length_singleton, ← HN.out]
                exact HOwn9.out
              · rcases List.mem_append.1 hy with hy | hy
                · exact HIts9.out y hy
                · rw [List.mem_singleton.1 hy]
                  refine ⟨HNF.out A1 c1, own_lower HO9.out HWb.out, ?_⟩
                  show q.1.b.items.length ≤ _
                  exact HIl.out
            exact bodyPost_ret (results_rowL rfl _ _ w.heap.size 42 _ _ rfl HRz.out Tryd.underlying42 rfl (by rw [hash_info, List.size_toArray, HKh32.out]) _ rfl) rfl ⟨by rw [show q.2 = 0 from HQ0.out]; rfl, HbS9.out.grown HGz.out (Nat.le_trans HWb.out HbS9.out.size) (fun k hk => by cases hk; exact HWb.out), (HK9.out.trans (KeepU.new HGz.out (fun g e => by cases e; exact Nat.le_refl _))).keep, .inr ⟨HQ0.out, ⟨q.1, A1, c1⟩, rfl, hch9.put HRs9.out (by decide) (by decide) (by decide) HGz.out⟩⟩
        · have dq : (q.2 != 0) = true := by simpa using hq0
          have hz0 := HErr.out hq0
          have HZ0 := Lib.hid hz0
          have HQ0 := Lib.hid hq0
          clear hz0 hq0
          go_wp2_with (first
          | ((with_reducible show wpList _ _ _ (⟨_, .build 42 _, _, _, _, _⟩ :: _) _ _); refine wpList_buildL rfl 42 [] rfl (some 34) rfl [] rfl (bRow Tx.zero) hash_built ?_)
          | (with_reducible show wpList _ _ _ (⟨_, .store 42 _ _, _, _, _, _⟩ :: _) _ _
             refine wpList_store_at rfl 42 (.tmp 6) (.tmp 34) rfl w.heap.size 0 (bRow Tx.zero).toList (bRow Tx.zero).toList _ rfl rfl H5.out.2.2.1 (by have := HZ32.out; omega) (by rw [hash_info, HZ32.out]) HZ1.out ?_
             intro wz hrz hgz
             rw [splice_all rfl] at hrz
             have HRz := Lib.hid hrz
             have HGz := Lib.hid hgz
             have Hbz := Lib.hid (below_own H5.out.2.2.2 hgz (fun k hk => by cases hk; exact Nat.le_refl _))
             clear hrz hgz))
          have hch := H5.out.ch HHin.out
          exact bodyPost_ret (results_rowL rfl _ _ w.heap.size 42 _ _ rfl HRz.out Tryd.underlying42 rfl (by rw [hash_info, List.size_toArray, HZ32.out]) _ rfl) rfl ⟨by rw [HZ0.out]; rfl, Hbz.out.mono HWb.out, Keep.of_below Hbz.out, .inl ⟨HQ0.out, hch.put H5.out.2.2.1 (by decide) (by decide) (by decide) HGz.out⟩⟩
    · skip
      try simp only [Act.put, List.getElem_toArray, List.getElem_cons_succ, List.getElem_cons_zero, List.setIfInBounds_toArray, List.set_cons_zero, List.set_cons_succ]
      go_simp
      have hbk := (Below.refl wq.heap.size wq).alloc (Nat.le_refl _) (.cells Lv.zero.cells.toArray 86)
      have hnw := Row.new wq 86 Lv.zero.cells
      have hHeld2 := hHeld.step hbk
      have hg8 : w.heap.size < wq.heap.size := hHeld.2.2.1.lt
      have HLs := Lib.hid (fun x hx => ownBlock_lt (hHeld.2.1.2 x hx).2.1 (Nat.le_refl _))
      have HLv := Lib.hid (ownBlock_lt hHeld.2.1.1 (Nat.le_refl _))
      generalize wq.alloc (.cells Lv.zero.cells.toArray 86) = wm at *
      generalize wq.heap.size = g8 at *
      have HNew := Lib.hid hnw
      clear hnw hbk
      refine hK1.out _ _ (hHeld2) (fun hHeld => ?_)
      clear hK1 K1
      try simp only [Act.put, List.getElem_toArray, List.getElem_cons_succ, List.getElem_cons_zero, List.setIfInBounds_toArray, List.set_cons_zero, List.set_cons_succ]
      clear hHeld2
      refine wpAnyH_ready (rs := [5]) (by kernel_rfl) (by simp) (AllReadyH.cons rfl (fun K1 hK1 => ?_) AllReadyH.nil)
      try simp only [Act.put, List.getElem_toArray, List.getElem_cons_succ, List.getElem_cons_zero, List.setIfInBounds_toArray, List.set_cons_zero, List.set_cons_succ]
      go_simp
      refine Calls.mono (HB.out _ (hHeld.ch HHin.out)) ?_
      rintro e w2 ⟨rfl, rfl⟩
      refine hK1.out _ _ (hHeld) (fun hHeld => ?_)
      clear hK1 K1
      try simp only [Act.put, List.getElem_toArray, List.getElem_cons_succ, List.getElem_cons_zero, List.setIfInBounds_toArray, List.set_cons_zero, List.set_cons_succ]
      refine wpAnyH_take (i := 6) (v := .pointer (some ⟨gl, k * 67, none⟩)) rfl (by kernel_rfl) (by kernel_rfl) (by kernel_rfl) (fun _ _ _ h => h) (Or.inl ⟨by rfl, fun w' hSw => by go_simp⟩) hHeld ?_
      try simp only [Act.put, List.getElem_toArray, List.getElem_cons_succ, List.getElem_cons_zero, List.setIfInBounds_toArray, List.set_cons_zero, List.set_cons_succ]
      refine' wpAnyH_take (i := 7) (v := _) rfl (by kernel_rfl) (by kernel_rfl) (by kernel_rfl) (fun _ _ _ h => h) (yieldsIf_load_mid (by rfl) _ _ rfl gl (k * 67) rfl LC _ (fun w' hSw => HAt.out _ hSw) hu86 rfl hi86) hHeld ?_
      try simp only [Act.put, List.getElem_toArray, List.getElem_cons_succ, List.getElem_cons_zero, List.setIfInBounds_toArray, List.set_cons_zero, List.set_cons_succ]
      refine wpAnyH_ready (rs := [11]) (by kernel_rfl) (by simp) (AllReadyH.cons rfl (fun K1 hK1 => ?_) AllReadyH.nil)
      try simp only [Act.put, List.getElem_toArray, List.getElem_cons_succ, List.getElem_cons_zero, List.setIfInBounds_toArray, List.set_cons_zero, List.set_cons_succ]
      go_simp
      refine Calls.mono (BH.out _ hHeld.2.2.2) ?_
      rintro e wb ⟨⟨A1, c1, rfl, ho1⟩, hb1⟩
      have HO1 := Lib.hid (own_lower ho1 hHeld.2.2.2.size)
      clear ho1
      have HNew := Lib.hid (HNew.out.kept (grownBy_of_below hb1 none) (by simp))
      refine hK1.out _ _ (hHeld.step hb1) (fun hHeld => ?_)
      clear hK1 K1
      try simp only [Act.put, List.getElem_toArray, List.getElem_cons_succ, List.getElem_cons_zero, List.setIfInBounds_toArray, List.set_cons_zero, List.set_cons_succ]
      clear hb1
      refine wpAnyH_take (i := 12) (v := .tuple #[.agg (Lv.cells ⟨q.1, A1, c1⟩).toArray, .int .i64 q.2]) rfl (by kernel_rfl) (by kernel_rfl) (by kernel_rfl) (fun _ _ _ h => h) (Or.inl ⟨by rfl, fun w' hSw => by go_simp⟩) hHeld ?_
      try simp only [Act.put, List.getElem_toArray, List.getElem_cons_succ, List.getElem_cons_zero, List.setIfInBounds_toArray, List.set_cons_zero, List.set_cons_succ]
      refine wpAnyH_take (i := 13) (v := .agg (Lv.cells ⟨q.1, A1, c1⟩).toArray) rfl (by kernel_rfl) (by kernel_rfl) (by kernel_rfl) (fun _ _ _ h => h) (Or.inl ⟨by rfl, fun w' hSw => by go_simp⟩) hHeld ?_
      try simp only [Act.put, List.getElem_toArray, List.getElem_cons_succ, List.getElem_cons_zero, List.setIfInBounds_toArray, List.set_cons_zero, List.set_cons_succ]
      refine wpAnyH_take (i := 14) (v := .int .i64 q.2) rfl (by kernel_rfl) (by kernel_rfl) (by kernel_rfl) (fun _ _ _ h => h) (Or.inl ⟨by rfl, fun w' hSw => by go_simp⟩) hHeld ?_
      try simp only [Act.put, List.getElem_toArray, List.getElem_cons_succ, List.getElem_cons_zero, List.setIfInBounds_toArray, List.set_cons_zero, List.set_cons_succ]
      refine wpAnyH_ready (rs := [16]) (by kernel_rfl) (by simp) (AllReadyH.cons rfl (fun K1 hK1 => ?_) AllReadyH.nil)
      try simp only [Act.put, List.getElem_toArray, List.getElem_cons_succ, List.getElem_cons_zero, List.setIfInBounds_toArray, List.set_cons_zero, List.set_cons_succ]
      have HQL := Lib.hid (Lv.cells_len (HNF.out A1 c1))
      have HQ1 := Lib.hid (Lv.cells_one (HNF.out A1 c1))
      rw [if_pos (by rfl)]
      refine wp_store_at 86 (.tmp 8) (.tmp 30) rfl g8 0 (Lv.cells ⟨q.1, A1, c1⟩) _ _ rfl rfl HNew.out (by rw [HQL.out, HZL.out]; decide) (by rw [link_size, HQL.out]) HQ1.out ?_
      intro w5 hr5 hg5
      rw [splice_all (HQL.out.trans HZL.out.symm)] at hr5
      have HR5 := Lib.hid hr5
      have HO5 := Lib.hid (HO1.out.kept hg5 (.inr (row_ne_own HNew.out HO1.out (by decide))))
      have hM5 : MnIn w w5 base P dp de (some ⟨gl, 0, none⟩) c ls := ⟨hHeld.1.kept hg5 (row_diff hHeld.1 HNew.out (by decide)), hHeld.2.1.fresh hg5 HLv.out HLs.out, hHeld.2.2.1.kept hg5 (row_diff hHeld.2.2.1 HNew.out (by decide)), below_own hHeld.2.2.2 hg5 (fun k hk => by cases hk; omega)⟩
      refine hK1.out _ _ (hM5) (fun hHeld => ?_)
      clear hK1 K1
      try simp only [Act.put, List.getElem_toArray, List.getElem_cons_succ, List.getElem_cons_zero, List.setIfInBounds_toArray, List.set_cons_zero, List.set_cons_succ]
      clear hr5 hg5 hM5
      refine wpAnyH_take (i := 17) (v := .int .i64 q.2) rfl (by kernel_rfl) (by kernel_rfl) (by kernel_rfl) (fun _ _ _ h => h) (Or.inl ⟨by rfl, fun w' hSw => by go_simp⟩) hHeld ?_
      try simp only [Act.put, List.getElem_toArray, List.getElem_cons_succ, List.getElem_cons_zero, List.setIfInBounds_toArray, List.set_cons_zero, List.set_cons_succ]
      refine wpAnyH_done (by kernel_rfl) ?_ _
      have H5 := Lib.hid hHeld
      clear hHeld HNew HO1
      have HWb : Hid (base ≤ w.heap.size) := Lib.hid (Nat.le_trans HHin.out (Nat.le_of_lt hPb))
      by_cases hq0 : q.2 = 0
      · have dq : (q.2 != 0) = false := by simp [hq0]
        have HQ0 := Lib.hid hq0
        have HKh : Hid (q.1.hash.length = 32) := Lib.hid (HNF.out A1 c1).2.1
        have HKh32 := Lib.hid (Tx.bRow_len _ (HNF.out A1 c1).2.1)
        have HKh1 := Lib.hid (hash_one _ (HNF.out A1 c1).2.1)
        have HAt2 : Hid (∀ W g, Row W g 86 (Lv.cells ⟨q.1, A1, c1⟩) → W.rangeAt g 35 (bRow q.1.hash).toList) := Lib.hid (fun W g h => by
          have := (Lv.at_ (HNF.out A1 c1) (row_range h)).2.2.2.2.1
          rwa [Nat.zero_add] at this)
        clear hq0
        go_wp2_with fail
        clear dq
        have HQL := Lib.hid (Lv.cells_len (HNF.out A1 c1))
        have HQ1 := Lib.hid (Lv.cells_one (HNF.out A1 c1))
        have HFl : Hid (Lv.flat (ls ++ [⟨q.1, A1, c1⟩]) = Lv.flat ls ++ Lv.cells ⟨q.1, A1, c1⟩) := Lib.hid (by rw [Lv.flat_append]; simp [Lv.flat])
        have hk63 : n + 1 ≤ maxLen := by unfold maxLen; omega
        have hk48 : ((n + 1) + (n + 1) / 4 + 192) * 104 ≤ 281474976710656 := by omega
        generalize hQC : Lv.cells ⟨q.1, A1, c1⟩ = QC at *
        clear hQC
        have hi8 : (Tryd.prog.info? 86).map (·.size) = some QC.length := by rw [link_size, HQL.out]
        have HM6 : Hid (MnIn w w5.drew base P dp de (some ⟨gl, 0, none⟩) c ls) := Lib.hid (H5.out.step ((Below.refl _ _).drew))
        have HR6 := Lib.hid (HR5.out.kept (grownBy_drew w5 none) (by simp))
        have HO6 := Lib.hid (HO5.out.kept (grownBy_drew w5 none) (by cases A1 <;> simp [Value.ownBlock]))
        refine wp_region_held_drew (S := fun w' => Row w' g8 86 QC) (by kernel_rfl) (HR6.out) (fun hHeld => ?_)
        generalize w5.drew = wr at *
        refine wpAnyH_take (i := 0) (v := .pointer (some ⟨P, 0, none⟩)) rfl (by kernel_rfl) (by kernel_rfl) (by kernel_rfl) (fun _ _ _ h => h) (Or.inl ⟨by rfl, fun w' hSw => by go_simp⟩) hHeld ?_
        try simp only [Act.put, List.getElem_toArray, List.getElem_cons_succ, List.getElem_cons_zero, List.setIfInBounds_toArray, List.set_cons_zero, List.set_cons_succ]
        refine wpAnyH_take (i := 1) (v := .pointer (some ⟨P, 0, none⟩)) rfl (by kernel_rfl) (by kernel_rfl) (by kernel_rfl) (fun _ _ _ h => h) (Or.inl ⟨by rfl, fun w' hSw => by go_simp⟩) hHeld ?_
        try simp only [Act.put, List.getElem_toArray, List.getElem_cons_succ, List.getElem_cons_zero, List.setIfInBounds_toArray, List.set_cons_zero, List.set_cons_succ]
        refine wpAnyH_take (i := 2) (v := .pointer (some ⟨P, 0, none⟩)) rfl (by kernel_rfl) (by kernel_rfl) (by kernel_rfl) (fun _ _ _ h => h) (Or.inl ⟨by rfl, fun w' hSw => by go_simp⟩) hHeld ?_
        try simp only [Act.put, List.getElem_toArray, List.getElem_cons_succ, List.getElem_cons_zero, List.setIfInBounds_toArray, List.set_cons_zero, List.set_cons_succ]
        refine wpAnyH_take (i := 3) (v := .pointer (some ⟨P, 2, none⟩)) rfl (by kernel_rfl) (by kernel_rfl) (by kernel_rfl) (fun _ _ _ h => h) (Or.inl ⟨by rfl, fun w' hSw => by go_simp⟩) hHeld ?_
        try simp only [Act.put, List.getElem_toArray, List.getElem_cons_succ, List.getElem_cons_zero, List.setIfInBounds_toArray, List.set_cons_zero, List.set_cons_succ]
        refine' wpAnyH_take (i := 5) (v := _) rfl (by kernel_rfl) (by kernel_rfl) (by kernel_rfl) (fun _ _ _ h => h) (yieldsIf_load_mid (by rfl) _ _ rfl g8 0 rfl QC _ (fun w' hSw => row_range hSw) Tryd.underlying86 rfl hi8) hHeld ?_
        try simp only [Act.put, List.getElem_toArray, List.getElem_cons_succ, List.getElem_cons_zero, List.setIfInBounds_toArray, List.set_cons_zero, List.set_cons_succ]
        refine wpAnyH_ready (rs := [4, 6]) (by kernel_rfl) (by simp) (AllReadyH.cons rfl (fun K1 hK1 => ?_) (AllReadyH.cons rfl (fun K1 hK1 => ?_) AllReadyH.nil))
        · skip
          try simp only [Act.put, List.getElem_toArray, List.getElem_cons_succ, List.getElem_cons_zero, List.setIfInBounds_toArray, List.set_cons_zero, List.set_cons_succ]
          have c4 := HM6.out.1.cell 2 (by simp)
          simp only [List.getElem_cons_zero, List.getElem_cons_succ] at c4
          rw [← HN.out] at c4
          go_simp
          refine hK1.out _ _ (hHeld) (fun hHeld => ?_)
          clear hK1 K1
          try simp only [Act.put, List.getElem_toArray, List.getElem_cons_succ, List.getElem_cons_zero, List.setIfInBounds_toArray, List.set_cons_zero, List.set_cons_succ]
          clear c4
          refine wpAnyH_ready (rs := [6]) (by kernel_rfl) (by simp) (AllReadyH.cons rfl (fun K1 hK1 => ?_) AllReadyH.nil)
          try simp only [Act.put, List.getElem_toArray, List.getElem_cons_succ, List.getElem_cons_zero, List.setIfInBounds_toArray, List.set_cons_zero, List.set_cons_succ]
          rw [if_pos (by rfl)]
          refine wp_buildSlice 89 86 1 _ rfl QC.toArray i0 (.agg Lv.zero.cells.toArray) Tryd.underlying89 Hi.out Hz.out (by rw [Hsz.out]; decide) (by rw [Hsz.out]; decide) (by rw [Hsz.out, Array.toList_map]; exact fill_one 67 (.agg Lv.zero.cells.toArray) QC HQL.out) ?_
          have hM7 := HM6.out.step ((Below.refl wr.heap.size wr).alloc (Nat.le_refl _) (.cells QC.toArray 86))
          have hown7 := hM7.2.1.1
          rw [← HN.out] at hown7
          have Hown7 := Lib.hid hown7
          have HM7 := Lib.hid hM7
          have HO7 := Lib.hid (HO6.out.alloc (.cells QC.toArray 86))
          have Hnew7 := Lib.hid (row_news (Row.new wr 86 QC))
          have hz7 : base ≤ (wr.alloc (.cells QC.toArray 86)).heap.size := Nat.le_trans HWb.out hM7.2.2.2.size
          have hHeld2 := hHeld.kept (grownBy_alloc wr (.cells QC.toArray 86) none) (by simp)
          refine hK1.out _ _ (hHeld2) (fun hHeld => ?_)
          clear hK1 K1
          try simp only [Act.put, List.getElem_toArray, List.getElem_cons_succ, List.getElem_cons_zero, List.setIfInBounds_toArray, List.set_cons_zero, List.set_cons_succ]
          clear hM7 hown7 hHeld2
          refine wpAnyH_ready (rs := [7]) (by kernel_rfl) (by simp) (AllReadyH.cons rfl (fun K1 hK1 => ?_) AllReadyH.nil)
          try simp only [Act.put, List.getElem_toArray, List.getElem_cons_succ, List.getElem_cons_zero, List.setIfInBounds_toArray, List.set_cons_zero, List.set_cons_succ]
          rw [if_pos (by rfl)]
          refine wp_append_own_wide _ _ _ 89 rfl base 86 i0 (.agg Lv.zero.cells.toArray) 67 104 Tryd.underlying89 Hi.out Hz.out Hsz.out Hby.out (by rw [← HZL.out]; rfl) (by decide) (.slice (some ⟨gl, 0, none⟩) n c) n (Lv.flat ls) rfl Hown7.out ⟨wr.heap.size, 0, none⟩ 1 1 QC rfl (by rw [HQL.out]) Hnew7.out HQ1.out hk63 hk48 hz7 ?_
          intro v' w8 hown8 hgrow8 _
          obtain ⟨g9, cp9, rfl⟩ := ownsRow_succ hown8
          have hP8 := HM7.out.1.kept hgrow8 (row_ne_own HM7.out.1 Hown7.out (by decide)).symm
          have hRs8 := HM7.out.2.2.1.kept hgrow8 (row_ne_own HM7.out.2.2.1 Hown7.out (by decide)).symm
          have hne8 : some g8 ≠ (Value.slice (some ⟨gl, 0, none⟩) n c).ownBlock := fun e => HLv.out (by rw [← HN.out]; exact e.symm)
          have hR8 := hHeld.kept hgrow8 hne8
          have HO8 := Lib.hid (HO7.out.kept hgrow8 (own_ne_own HO7.out Hown7.out (by decide)))
          have HIts8 : Hid (∀ y ∈ ls, y.Fits ∧ OwnIts w8 base y) := Lib.hid (fun y hy => ⟨(HM7.out.2.1.2 y hy).1, (HM7.out.2.1.2 y hy).2.kept hgrow8 (own_ne_own (HM7.out.2.1.2 y hy).2.1 Hown7.out (by decide))⟩)
          have hb8 : Below base w w8 := below_row (HM7.out.2.2.2.mono HWb.out) hz7 Hown7.out hgrow8
          have HK8 : Hid (KeepU w.heap.size w w8) := Lib.hid (((Keep.of_below HM7.out.2.2.2).u _).trans (KeepU.link Hown7.out hgrow8))
          have HP8 := Lib.hid hP8
          have HRs8 := Lib.hid hRs8
          have Hown8 := Lib.hid hown8
          have Hb8 := Lib.hid hb8
          refine hK1.out _ _ (hR8) (fun hHeld => ?_)
          clear hK1 K1
          try simp only [Act.put, List.getElem_toArray, List.getElem_cons_succ, List.getElem_cons_zero, List.setIfInBounds_toArray, List.set_cons_zero, List.set_cons_succ]
          clear hP8 hRs8 hown8 hb8 hgrow8 hR8 hne8
          refine wpAnyH_take (i := 8) (v := .pointer (some ⟨P, 0, none⟩)) rfl (by kernel_rfl) (by kernel_rfl) (by kernel_rfl) (fun _ _ _ h => h) (Or.inl ⟨by rfl, fun w' hSw => by go_simp⟩) hHeld ?_
          try simp only [Act.put, List.getElem_toArray, List.getElem_cons_succ, List.getElem_cons_zero, List.setIfInBounds_toArray, List.set_cons_zero, List.set_cons_succ]
          refine wpAnyH_take (i := 9) (v := .pointer (some ⟨P, 2, none⟩)) rfl (by kernel_rfl) (by kernel_rfl) (by kernel_rfl) (fun _ _ _ h => h) (Or.inl ⟨by rfl, fun w' hSw => by go_simp⟩) hHeld ?_
          try simp only [Act.put, List.getElem_toArray, List.getElem_cons_succ, List.getElem_cons_zero, List.setIfInBounds_toArray, List.set_cons_zero, List.set_cons_succ]
          refine wpAnyH_ready (rs := [10]) (by kernel_rfl) (by simp) (AllReadyH.cons rfl (fun K1 hK1 => ?_) AllReadyH.nil)
          try simp only [Act.put, List.getElem_toArray, List.getElem_cons_succ, List.getElem_cons_zero, List.setIfInBounds_toArray, List.set_cons_zero, List.set_cons_succ]
          have d2 := HP8.out.cell 2 (by simp)
          have f2 := HP8.out.free 2
          simp only [List.getElem_cons_zero, List.getElem_cons_succ] at d2
          go_simp
          have hgs := grownBy_set w8 P 2 (.slice (some ⟨g9, 0, none⟩) (n + 1) cp9)
          have hP9 := HP8.out.set 2 (.slice (some ⟨g9, 0, none⟩) (n + 1) cp9) (by simp)
          have HP9 := Lib.hid hP9
          have HRs9 := Lib.hid (HRs8.out.kept hgs (row_diff HRs8.out HP8.out (by decide)))
          have hR9 := hHeld.kept hgs (row_diff hHeld HP8.out (by decide))
          have HR9 := Lib.hid hR9
          have HO9 := Lib.hid (HO8.out.kept hgs (.inr (row_ne_own HP8.out HO8.out (by decide))))
          have HOwn9 := Lib.hid (Hown8.out.kept hgs (.inr (row_ne_own HP8.out Hown8.out (by decide))))
          have HIts9 : Hid (∀ y ∈ ls, y.Fits ∧ OwnIts (w8.setCell ⟨P, 2, none⟩ (.slice (some ⟨g9, 0, none⟩) (n + 1) cp9)) base y) := Lib.hid (fun y hy => ⟨(HIts8.out y hy).1, (HIts8.out y hy).2.kept hgs (.inr (row_ne_own HP8.out (HIts8.out y hy).2.1 (by decide)))⟩)
          have HbS9 := Lib.hid (Hb8.out.grown hgs (Nat.le_trans HWb.out Hb8.out.size) (fun k hk => by cases hk; exact HHin.out))
          have HK9 : Hid (KeepU w.heap.size w (w8.setCell ⟨P, 2, none⟩ (.slice (some ⟨g9, 0, none⟩) (n + 1) cp9))) := Lib.hid (HK8.out.trans (KeepU.row HP8.out (.inl rfl) hgs))
          refine hK1.out _ _ (hR9) (fun hHeld => ?_)
          clear hK1 K1
          try simp only [Act.put, List.getElem_toArray, List.getElem_cons_succ, List.getElem_cons_zero, List.setIfInBounds_toArray, List.set_cons_zero, List.set_cons_succ]
          clear hgs hP9 hR9 d2 f2
          refine wpAnyH_done (by kernel_rfl) ?_ _
          clear hHeld
          go_wp2_with (first
          | ((with_reducible show wpList _ _ _ (⟨_, .load 42 _, _, _, _, _⟩ :: _) _ _); refine wpList_load_tx rfl 42 (.tmp 46) rfl g8 35 rfl (bRow q.1.hash).toList _ (HAt2.out _ _ HR9.out) Tryd.underlying42 rfl (by rw [hash_info, HKh32.out]) ?_)
          | (with_reducible show wpList _ _ _ (⟨_, .store 42 _ _, _, _, _, _⟩ :: _) _ _
             refine wpList_store_at rfl 42 (.tmp 6) (.tmp 47) rfl w.heap.size 0 (bRow q.1.hash).toList (bRow Tx.zero).toList _ rfl rfl HRs9.out (by have := HZ32.out; have := HKh32.out; omega) (by rw [hash_info, HKh32.out]) HKh1.out ?_
             intro wz hrz hgz
             rw [splice_all (HKh32.out.trans HZ32.out.symm)] at hrz
             have HRz := Lib.hid hrz
             have HGz := Lib.hid hgz
             clear hrz hgz))
          have hch9 : ChAt (w8.setCell ⟨P, 2, none⟩ (.slice (some ⟨g9, 0, none⟩) (n + 1) cp9)) base P dp de (ls ++ [⟨q.1, A1, c1⟩]) := by
            refine ⟨HHin.out, _, HP9.out, ?_, fun y hy => ?_⟩
            · rw [HFl.out, List.length_append, List.length_singleton, ← HN.out]
              exact HOwn9.out
            · rcases List.mem_append.1 hy with hy | hy
              · exact HIts9.out y hy
              · rw [List.mem_singleton.1 hy]
                refine ⟨HNF.out A1 c1, own_lower HO9.out HWb.out, ?_⟩
                show q.1.b.items.length ≤ _
                exact HIl.out
          exact bodyPost_ret (results_rowL rfl _ _ w.heap.size 42 _ _ rfl HRz.out Tryd.underlying42 rfl (by rw [hash_info, List.size_toArray, HKh32.out]) _ rfl) rfl ⟨by rw [show q.2 = 0 from HQ0.out]; rfl, HbS9.out.grown HGz.out (Nat.le_trans HWb.out HbS9.out.size) (fun k hk => by cases hk; exact HWb.out), (HK9.out.trans (KeepU.new HGz.out (fun g e => by cases e; exact Nat.le_refl _))).keep, .inr ⟨HQ0.out, ⟨q.1, A1, c1⟩, rfl, hch9.put HRs9.out (by decide) (by decide) (by decide) HGz.out⟩⟩
        · skip
          try simp only [Act.put, List.getElem_toArray, List.getElem_cons_succ, List.getElem_cons_zero, List.setIfInBounds_toArray, List.set_cons_zero, List.set_cons_succ]
          rw [if_pos (by rfl)]
          refine wp_buildSlice 89 86 1 _ rfl QC.toArray i0 (.agg Lv.zero.cells.toArray) Tryd.underlying89 Hi.out Hz.out (by rw [Hsz.out]; decide) (by rw [Hsz.out]; decide) (by rw [Hsz.out, Array.toList_map]; exact fill_one 67 (.agg Lv.zero.cells.toArray) QC HQL.out) ?_
          have hM7 := HM6.out.step ((Below.refl wr.heap.size wr).alloc (Nat.le_refl _) (.cells QC.toArray 86))
          have hown7 := hM7.2.1.1
          rw [← HN.out] at hown7
          have Hown7 := Lib.hid hown7
          have HM7 := Lib.hid hM7
          have HO7 := Lib.hid (HO6.out.alloc (.cells QC.toArray 86))
          have Hnew7 := Lib.hid (row_news (Row.new wr 86 QC))
          have hz7 : base ≤ (wr.alloc (.cells QC.toArray 86)).heap.size := Nat.le_trans HWb.out hM7.2.2.2.size
          have hHeld2 := hHeld.kept (grownBy_alloc wr (.cells QC.toArray 86) none) (by simp)
          refine hK1.out _ _ (hHeld2) (fun hHeld => ?_)
          clear hK1 K1
          try simp only [Act.put, List.getElem_toArray, List.getElem_cons_succ, List.getElem_cons_zero, List.setIfInBounds_toArray, List.set_cons_zero, List.set_cons_succ]
          clear hM7 hown7 hHeld2
          refine wpAnyH_ready (rs := [4]) (by kernel_rfl) (by simp) (AllReadyH.cons rfl (fun K1 hK1 => ?_) AllReadyH.nil)
          try simp only [Act.put, List.getElem_toArray, List.getElem_cons_succ, List.getElem_cons_zero, List.setIfInBounds_toArray, List.set_cons_zero, List.set_cons_succ]
          have c4 := HM7.out.1.cell 2 (by simp)
          simp only [List.getElem_cons_zero, List.getElem_cons_succ] at c4
          rw [← HN.out] at c4
          go_simp
          refine hK1.out _ _ (hHeld) (fun hHeld => ?_)
          clear hK1 K1
          try simp only [Act.put, List.getElem_toArray, List.getElem_cons_succ, List.getElem_cons_zero, List.setIfInBounds_toArray, List.set_cons_zero, List.set_cons_succ]
          clear c4
          refine wpAnyH_ready (rs := [7]) (by kernel_rfl) (by simp) (AllReadyH.cons rfl (fun K1 hK1 => ?_) AllReadyH.nil)
          try simp only [Act.put, List.getElem_toArray, List.getElem_cons_succ, List.getElem_cons_zero, List.setIfInBounds_toArray, List.set_cons_zero, List.set_cons_succ]
          rw [if_pos (by rfl)]
          refine wp_append_own_wide _ _ _ 89 rfl base 86 i0 (.agg Lv.zero.cells.toArray) 67 104 Tryd.underlying89 Hi.out Hz.out Hsz.out Hby.out (by rw [← HZL.out]; rfl) (by decide) (.slice (some ⟨gl, 0, none⟩) n c) n (Lv.flat ls) rfl Hown7.out ⟨wr.heap.size, 0, none⟩ 1 1 QC rfl (by rw [HQL.out]) Hnew7.out HQ1.out hk63 hk48 hz7 ?_
          intro v' w8 hown8 hgrow8 _
          obtain ⟨g9, cp9, rfl⟩ := ownsRow_succ hown8
          have hP8 := HM7.out.1.kept hgrow8 (row_ne_own HM7.out.1 Hown7.out (by decide)).symm
          have hRs8 := HM7.out.2.2.1.kept hgrow8 (row_ne_own HM7.out.2.2.1 Hown7.out (by decide)).symm
          have hne8 : some g8 ≠ (Value.slice (some ⟨gl, 0, none⟩) n c).ownBlock := fun e => HLv.out (by rw [← HN.out]; exact e.symm)
          have hR8 := hHeld.kept hgrow8 hne8
          have HO8 := Lib.hid (HO7.out.kept hgrow8 (own_ne_own HO7.out Hown7.out (by decide)))
          have HIts8 : Hid (∀ y ∈ ls, y.Fits ∧ OwnIts w8 base y) := Lib.hid (fun y hy => ⟨(HM7.out.2.1.2 y hy).1, (HM7.out.2.1.2 y hy).2.kept hgrow8 (own_ne_own (HM7.out.2.1.2 y hy).2.1 Hown7.out (by decide))⟩)
          have hb8 : Below base w w8 := below_row (HM7.out.2.2.2.mono HWb.out) hz7 Hown7.out hgrow8
          have HK8 : Hid (KeepU w.heap.size w w8) := Lib.hid (((Keep.of_below HM7.out.2.2.2).u _).trans (KeepU.link Hown7.out hgrow8))
          have HP8 := Lib.hid hP8
          have HRs8 := Lib.hid hRs8
          have Hown8 := Lib.hid hown8
          have Hb8 := Lib.hid hb8
          refine hK1.out _ _ (hR8) (fun hHeld => ?_)
          clear hK1 K1
          try simp only [Act.put, List.getElem_toArray, List.getElem_cons_succ, List.getElem_cons_zero, List.setIfInBounds_toArray, List.set_cons_zero, List.set_cons_succ]
          clear hP8 hRs8 hown8 hb8 hgrow8 hR8 hne8
          refine wpAnyH_take (i := 8) (v := .pointer (some ⟨P, 0, none⟩)) rfl (by kernel_rfl) (by kernel_rfl) (by kernel_rfl) (fun _ _ _ h => h) (Or.inl ⟨by rfl, fun w' hSw => by go_simp⟩) hHeld ?_
          try simp only [Act.put, List.getElem_toArray, List.getElem_cons_succ, List.getElem_cons_zero, List.setIfInBounds_toArray, List.set_cons_zero, List.set_cons_succ]
          refine wpAnyH_take (i := 9) (v := .pointer (some ⟨P, 2, none⟩)) rfl (by kernel_rfl) (by kernel_rfl) (by kernel_rfl) (fun _ _ _ h => h) (Or.inl ⟨by rfl, fun w' hSw => by go_simp⟩) hHeld ?_
          try simp only [Act.put, List.getElem_toArray, List.getElem_cons_succ, List.getElem_cons_zero, List.setIfInBounds_toArray, List.set_cons_zero, List.set_cons_succ]
          refine wpAnyH_ready (rs := [10]) (by kernel_rfl) (by simp) (AllReadyH.cons rfl (fun K1 hK1 => ?_) AllReadyH.nil)
          try simp only [Act.put, List.getElem_toArray, List.getElem_cons_succ, List.getElem_cons_zero, List.setIfInBounds_toArray, List.set_cons_zero, List.set_cons_succ]
          have d2 := HP8.out.cell 2 (by simp)
          have f2 := HP8.out.free 2
          simp only [List.getElem_cons_zero, List.getElem_cons_succ] at d2
          go_simp
          have hgs := grownBy_set w8 P 2 (.slice (some ⟨g9, 0, none⟩) (n + 1) cp9)
          have hP9 := HP8.out.set 2 (.slice (some ⟨g9, 0, none⟩) (n + 1) cp9) (by simp)
          have HP9 := Lib.hid hP9
          have HRs9 := Lib.hid (HRs8.out.kept hgs (row_diff HRs8.out HP8.out (by decide)))
          have hR9 := hHeld.kept hgs (row_diff hHeld HP8.out (by decide))
          have HR9 := Lib.hid hR9
          have HO9 := Lib.hid (HO8.out.kept hgs (.inr (row_ne_own HP8.out HO8.out (by decide))))
          have HOwn9 := Lib.hid (Hown8.out.kept hgs (.inr (row_ne_own HP8.out Hown8.out (by decide))))
          have HIts9 : Hid (∀ y ∈ ls, y.Fits ∧ OwnIts (w8.setCell ⟨P, 2, none⟩ (.slice (some ⟨g9, 0, none⟩) (n + 1) cp9)) base y) := Lib.hid (fun y hy => ⟨(HIts8.out y hy).1, (HIts8.out y hy).2.kept hgs (.inr (row_ne_own HP8.out (HIts8.out y hy).2.1 (by decide)))⟩)
          have HbS9 := Lib.hid (Hb8.out.grown hgs (Nat.le_trans HWb.out Hb8.out.size) (fun k hk => by cases hk; exact HHin.out))
          have HK9 : Hid (KeepU w.heap.size w (w8.setCell ⟨P, 2, none⟩ (.slice (some ⟨g9, 0, none⟩) (n + 1) cp9))) := Lib.hid (HK8.out.trans (KeepU.row HP8.out (.inl rfl) hgs))
          refine hK1.out _ _ (hR9) (fun hHeld => ?_)
          clear hK1 K1
          try simp only [Act.put, List.getElem_toArray, List.getElem_cons_succ, List.getElem_cons_zero, List.setIfInBounds_toArray, List.set_cons_zero, List.set_cons_succ]
          clear hgs hP9 hR9 d2 f2
          refine wpAnyH_done (by kernel_rfl) ?_ _
          clear hHeld
          go_wp2_with (first
          | ((with_reducible show wpList _ _ _ (⟨_, .load 42 _, _, _, _, _⟩ :: _) _ _); refine wpList_load_tx rfl 42 (.tmp 46) rfl g8 35 rfl (bRow q.1.hash).toList _ (HAt2.out _ _ HR9.out) Tryd.underlying42 rfl (by rw [hash_info, HKh32.out]) ?_)
          | (with_reducible show wpList _ _ _ (⟨_, .store 42 _ _, _, _, _, _⟩ :: _) _ _
             refine wpList_store_at rfl 42 (.tmp 6) (.tmp 47) rfl w.heap.size 0 (bRow q.1.hash).toList (bRow Tx.zero).toList _ rfl rfl HRs9.out (by have := HZ32.out; have := HKh32.out; omega) (by rw [hash_info, HKh32.out]) HKh1.out ?_
             intro wz hrz hgz
             rw [splice_all (HKh32.out.trans HZ32.out.symm)] at hrz
             have HRz := Lib.hid hrz
             have HGz := Lib.hid hgz
             clear hrz hgz))
          have hch9 : ChAt (w8.setCell ⟨P, 2, none⟩ (.slice (some ⟨g9, 0, none⟩) (n + 1) cp9)) base P dp de (ls ++ [⟨q.1, A1, c1⟩]) := by
            refine ⟨HHin.out, _, HP9.out, ?_, fun y hy => ?_⟩
            · rw [HFl.out, List.length_append, List.length_singleton, ← HN.out]
              exact HOwn9.out
            · rcases List.mem_append.1 hy with hy | hy
              · exact HIts9.out y hy
              · rw [List.mem_singleton.1 hy]
                refine ⟨HNF.out A1 c1, own_lower HO9.out HWb.out, ?_⟩
                show q.1.b.items.length ≤ _
                exact HIl.out
          exact bodyPost_ret (results_rowL rfl _ _ w.heap.size 42 _ _ rfl HRz.out Tryd.underlying42 rfl (by rw [hash_info, List.size_toArray, HKh32.out]) _ rfl) rfl ⟨by rw [show q.2 = 0 from HQ0.out]; rfl, HbS9.out.grown HGz.out (Nat.le_trans HWb.out HbS9.out.size) (fun k hk => by cases hk; exact HWb.out), (HK9.out.trans (KeepU.new HGz.out (fun g e => by cases e; exact Nat.le_refl _))).keep, .inr ⟨HQ0.out, ⟨q.1, A1, c1⟩, rfl, hch9.put HRs9.out (by decide) (by decide) (by decide) HGz.out⟩⟩
      · have dq : (q.2 != 0) = true := by simpa using hq0
        have hz0 := HErr.out hq0
        have HZ0 := Lib.hid hz0
        have HQ0 := Lib.hid hq0
        clear hz0 hq0
        go_wp2_with (first
        | ((with_reducible show wpList _ _ _ (⟨_, .build 42 _, _, _, _, _⟩ :: _) _ _); refine wpList_buildL rfl 42 [] rfl (some 34) rfl [] rfl (bRow Tx.zero) hash_built ?_)
        | (with_reducible show wpList _ _ _ (⟨_, .store 42 _ _, _, _, _, _⟩ :: _) _ _
           refine wpList_store_at rfl 42 (.tmp 6) (.tmp 34) rfl w.heap.size 0 (bRow Tx.zero).toList (bRow Tx.zero).toList _ rfl rfl H5.out.2.2.1 (by have := HZ32.out; omega) (by rw [hash_info, HZ32.out]) HZ1.out ?_
           intro wz hrz hgz
           rw [splice_all rfl] at hrz
           have HRz := Lib.hid hrz
           have HGz := Lib.hid hgz
           have Hbz := Lib.hid (below_own H5.out.2.2.2 hgz (fun k hk => by cases hk; exact Nat.le_refl _))
           clear hrz hgz))
        have hch := H5.out.ch HHin.out
        exact bodyPost_ret (results_rowL rfl _ _ w.heap.size 42 _ _ rfl HRz.out Tryd.underlying42 rfl (by rw [hash_info, List.size_toArray, HZ32.out]) _ rfl) rfl ⟨by rw [HZ0.out]; rfl, Hbz.out.mono HWb.out, Keep.of_below Hbz.out, .inl ⟨HQ0.out, hch.put H5.out.2.2.1 (by decide) (by decide) (by decide) HGz.out⟩⟩
end Go.Proofs.YtjeooegkfjlejaaDoor
