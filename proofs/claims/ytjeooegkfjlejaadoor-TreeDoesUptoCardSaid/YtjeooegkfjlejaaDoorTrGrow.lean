/- What later texts need of the earlier layers. -/
import Derived.Test.YtjeooegkfjlejaaDoorEarO
import Derived.Test.YtjeooegkfjlejaaDoorEarS
import Derived.Test.YtjeooegkfjlejaaDoorEarT
import Derived.Test.YtjeooegkfjlejaaDoorEarC
import Derived.Test.YtjeooegkfjlejaaDoorEarA
import Derived.Test.YtjeooegkfjlejaaDoorEarB
import Derived.Test.YtjeooegkfjlejaaDoorIbA
import Derived.Test.YtjeooegkfjlejaaDoorTrMath
import Derived.Test.YtjeooegkfjlejaaDoorTrTm
import Derived.Test.YtjeooegkfjlejaaDoorTrHash
import Derived.Test.YtjeooegkfjlejaaDoorTrMem
import Derived.Test.YtjeooegkfjlejaaDoorTrLv
import Derived.Test.YtjeooegkfjlejaaDoorTrLink
import Derived.Test.YtjeooegkfjlejaaDoorTrBeh
import Derived.Test.YtjeooegkfjlejaaDoorTrCh
import Derived.Test.YtjeooegkfjlejaaDoorTrAt
import Derived.Test.YtjeooegkfjlejaaDoorTrNew
import Derived.Test.YtjeooegkfjlejaaDoorTrMine
import Derived.Test.YtjeooegkfjlejaaDoorTrAll
import Derived.Test.YtjeooegkfjlejaaDoorTrFind
import Derived.Test.YtjeooegkfjlejaaDoorTrAwk
import Derived.Test.YtjeooegkfjlejaaDoorTrLaw2
import Derived.Test.YtjeooegkfjlejaaDoorTrRch
import Derived.Test.YtjeooegkfjlejaaDoorTrRnew
import Derived.Test.YtjeooegkfjlejaaDoorTrFew
import Derived.Test.YtjeooegkfjlejaaDoorTrUpd
import Derived.Test.YtjeooegkfjlejaaDoorTrUpto
import Derived.Test.YtjeooegkfjlejaaDoorTrTurn
import Derived.Test.YtjeooegkfjlejaaDoorTrSame
import Derived.Test.YtjeooegkfjlejaaDoorTrSt
import Derived.Test.YtjeooegkfjlejaaDoorTrRHash
/- ---- TrGrow ---- -/
/- cavalcaderef11.grow: what it returns. -/
namespace Go.Proofs.YtjeooegkfjlejaaDoor
open Go.RowKit
set_option linter.unusedVariables false
set_option linter.unusedSimpArgs false

theorem results_slot_row_slot {P : Program} {fn : Func} {q p u : Tmp} {ty : TypeId} (h : fn.results = #[.tmp q, .cell p ty, .tmp u]) (tmps : Array Value) (w : World) (g : Nat) (T : TypeId) (xs : List Value) (d : TypeDesc) (y : Value)
    (hp : tmps.getD p undef = .pointer (some ⟨g, 0, none⟩)) (hg : Row w g T xs)
    (hu : P.underlying ty = some d) (hd : (match d with | .struct _ | .array _ _ => true | _ => false) = true) (hi : (P.info? ty).map (·.size) = some xs.toArray.size) {x : Value} (hx : tmps.getD u undef = x) (hy : tmps.getD q undef = y) :
    (results fn tmps).run P w = .ok (.tuple #[y, .agg xs.toArray, x]) w := by
  have e : (results fn tmps).run P w = ((asAddr (tmps.getD p undef)).run P w).andThen fun a w₁ => ((loadVar ty a).run P w₁).andThen fun v w₂ => .ok (.tuple #[tmps.getD q undef, v, tmps.getD u undef]) w₂ := by
    simp only [results, h]
    simp [Sem.run_bind, Result.andThen]
  rw [e, hp]
  have hl := run_loadVar_row w g T ty xs.toArray (0, 0) d hg hu hd hi
  have ha : (asAddr (.pointer (some ⟨g, 0, none⟩))).run P w = .ok ⟨g, 0, none⟩ w := rfl
  rw [ha]
  simp only [Result.andThen, hl, hx, hy]
/-- what grow comes to -/
def GrowOut (w w' : World) (bs : List Bv) (b : Bk) (A0 : Option Addr) (c0 : Nat) (e : Ending) : Prop :=
  ((Tr.hashE b).2 ≠ 0 ∧ e = .returned (.tuple #[.slice none 0 0, .agg (bRow Tx.zero), .int .i64 (Tr.hashE b).2])) ∨
    ((Tr.hashE b).2 = 0 ∧ ∃ A c, e = .returned (.tuple #[.slice A (bs.length + 1) c, .agg (bRow (Tr.hashE b).1), .int .i64 0]) ∧ w'.ownsRow w.heap.size 45 35 (.slice A (bs.length + 1) c) (bs.length + 1) (Bv.flat (bs ++ [⟨b, A0, c0⟩])))
set_option maxRecDepth 20000 in
set_option maxHeartbeats 6400000 in
theorem grow_any (hRS : RefSum) (L : List Tr.Lk) (hG : Tr.Good L) (bs : List Bv) (hbs : bks bs = L.map Tr.Lk.b) (hf : ∀ x ∈ bs, x.Fits) (A : Option Addr) (c : Nat) (its : List It) (A0 : Option Addr) (c0 : Nat) (salt : Int) (w : World) (hin : BvIn w w.heap.size A c bs) (hits : BkItems w w.heap.size A0 its) :
    Calls Tryd.prog 68 #[.slice A bs.length c, .slice A0 its.length c0, .int .i64 salt] w fun e w' => GrowOut w w' bs (Tr.next (Tr.lastOf Tr.zeroL L) its salt) A0 c0 e ∧ Below w.heap.size w w' := by
  have hzh := hash_zv
  have hz45 := block_zv
  have HZ32 := Lib.hid (Tx.bRow_len Tx.zero rfl)
  have HZ1 : Hid (∀ v ∈ (bRow Tx.zero).toList, v.oneCell' = true) := Lib.hid (hash_one _ rfl)
  obtain ⟨i0, hi0, hz0⟩ := Option.map_eq_some_iff.1 bk_info11
  simp only [Prod.mk.injEq] at hz0
  have Hi := Lib.hid hi0
  have Hz := Lib.hid hz0.1
  have Hsz := Lib.hid hz0.2.1
  have Hby := Lib.hid hz0.2.2
  have hlen : bs.length = L.length := by have := congrArg List.length hbs; simpa [bks] using this
  have hp := hG.pos
  have hl := hG.2.2
  have hlast : (bs[bs.length - 1]'(by omega)).b = (Tr.lastOf Tr.zeroL L).b := by
    rw [Tr.lastOf_get hG.2.1]
    have := congrArg (fun l : List Bk => l[bs.length - 1]?) hbs
    simp only [bks, List.getElem?_map] at this
    rw [List.getElem?_eq_getElem (by omega), List.getElem?_eq_getElem (by omega)] at this
    simp only [Option.map_some, Option.some.injEq] at this
    rw [this]
    congr 2
    omega
  have hfl := hf _ (List.getElem_mem (show bs.length - 1 < bs.length by omega))
  have hle : Tr.hashE (Tr.lastOf Tr.zeroL L).b = ((Tr.lastOf Tr.zeroL L).hash, 0) := by
    rw [Tr.lastOf_get hG.2.1]
    exact (hG.num (by omega)).2
  have hln : (Tr.lastOf Tr.zeroL L).b.number + 1 = (bs.length : Int) := by rw [hG.last, hlen]; omega
  have hlh : (Tr.lastOf Tr.zeroL L).hash.length = 32 := by have := Tr.hashE_len (Tr.lastOf Tr.zeroL L).b; rw [hle] at this; exact this
  obtain ⟨ga, oa, rfl, hga, hca⟩ := hin.1 (by intro e; rw [e] at hlen; simp at hlen; omega)
  obtain ⟨hra, hia, hi3⟩ := hca (bs.length - 1) (by omega)
  clear hi3
  have HH1 : Hid (∀ W, Below w.heap.size w W → Calls Tryd.prog 28 #[.agg (bs[bs.length - 1]'(by omega)).cells.toArray] W fun e w' => e = .returned (hashV (Tr.lastOf Tr.zeroL L).hash 0) ∧ Below W.heap.size W w') := Lib.hid (fun W hW => by
    have := rhash11_any hRS (bs[bs.length - 1]'(by omega)).b (bs[bs.length - 1]'(by omega)).A (bs[bs.length - 1]'(by omega)).cap hfl.1 W ((hia.below hW).mono hW.size)
    rw [hlast, hle] at this
    rw [← hlast] at this
    exact this)
  have HH2 : Hid (∀ W, Below w.heap.size w W → Calls Tryd.prog 28 #[.agg (Bk.cells (Tr.next (Tr.lastOf Tr.zeroL L) its salt) A0 c0).toArray] W fun e w' => e = .returned (hashV (Tr.hashE (Tr.next (Tr.lastOf Tr.zeroL L) its salt)).1 (Tr.hashE (Tr.next (Tr.lastOf Tr.zeroL L) its salt)).2) ∧ Below W.heap.size W w') := Lib.hid (fun W hW =>
    rhash11_any hRS (Tr.next (Tr.lastOf Tr.zeroL L) its salt) A0 c0 hlh W ((hits.below hW).mono hW.size))
  unfold hashV at HH1 HH2
  have HBA : Hid (Tryd.prog.built 45 [(0, .int .i64 (bs.length : Int)), (1, .int .i64 salt), (2, .agg (bRow (Tr.lastOf Tr.zeroL L).hash)), (3, .slice A0 its.length c0)] = some (Bk.cells (Tr.next (Tr.lastOf Tr.zeroL L) its salt) A0 c0).toArray) := Lib.hid (by
    have := bk_all (bs.length : Int) salt (Tr.lastOf Tr.zeroL L).hash hlh A0 c0 its
    rw [← hln] at this ⊢
    exact this)
  have HBC : Hid ((Bk.cells (Tr.next (Tr.lastOf Tr.zeroL L) its salt) A0 c0).length = 35) := Lib.hid (Bk.cells_len hlh)
  have HBC1 : Hid (∀ v ∈ Bk.cells (Tr.next (Tr.lastOf Tr.zeroL L) its salt) A0 c0, v.oneCell' = true) := Lib.hid (Bk.cells_one hlh)
  have HBF : Hid (Bv.flat bs ++ Bk.cells (Tr.next (Tr.lastOf Tr.zeroL L) its salt) A0 c0 = Bv.flat (bs ++ [⟨Tr.next (Tr.lastOf Tr.zeroL L) its salt, A0, c0⟩])) := Lib.hid (by rw [Bv.flat_append]; simp [Bv.flat, Bv.cells])
  have hKl := Tr.hashE_len (Tr.next (Tr.lastOf Tr.zeroL L) its salt)
  have HK32 := Lib.hid (Tx.bRow_len _ hKl)
  have HK1 := Lib.hid (hash_one _ hKl)
  have HL32 := Lib.hid (Tx.bRow_len _ hlh)
  have HL1 := Lib.hid (hash_one _ hlh)
  have HR : Hid (∀ W, Below w.heap.size w W → W.rangeAt ga (oa + (bs.length - 1) * 35) (bs[bs.length - 1]'(by omega)).cells) := Lib.hid (fun W hW => range_below hra hW hga)
  have HXL := Lib.hid (Bv.cells_len hfl)
  have HBs : Hid (∀ W, Below w.heap.size w W → BvIn W w.heap.size (some ⟨ga, oa, none⟩) c bs) := Lib.hid (fun W hW => hin.below hW)
  have HF := Lib.hid hf
  unfold GrowOut
  generalize (bs[bs.length - 1]'(by omega)).cells = XC at *
  generalize Bk.cells (Tr.next (Tr.lastOf Tr.zeroL L) its salt) A0 c0 = BC at *
  generalize hhe : Tr.hashE (Tr.next (Tr.lastOf Tr.zeroL L) its salt) = he at *
  obtain ⟨KH, code⟩ := he
  simp only at HH2 HK32 HK1 ⊢
  generalize Tr.next (Tr.lastOf Tr.zeroL L) its salt = b at *
  generalize (Tr.lastOf Tr.zeroL L).hash = LH at *
  obtain ⟨n, hn⟩ : ∃ n, n = bs.length := ⟨_, rfl⟩
  have HN := Lib.hid hn
  rw [← hn] at HR HBA
  have hn0 : 0 < n := by omega
  have hn1 : n ≤ 4097 := by omega
  have hw1 : IntKind.i64.wrap ((n : Int) - 1) = ((n - 1 : Nat) : Int) := by rw [IntWalk.i64_in _ (by omega)]; omega
  have hni : ((n - 1 : Nat) : Int) < (n : Int) := by omega
  have hnn : n - 1 < n := by omega
  rw [← hn]
  have hNE : ∀ X : Prop, (∀ h : bs.length = n, X) → X := fun X h => h hn.symm
  generalize hcap : its.length = m at *
  clear hG hbs hf hin hits hi0 hz0 hlen hp hl hlast hfl hle hln hlh hga hca hra hia hhe hKl hn hcap hNE
  obtain ⟨A, hA⟩ : ∃ A : Option Addr, A = some ⟨ga, oa, none⟩ := ⟨_, rfl⟩
  rw [← hA] at HBs
  have HNew0 := Lib.hid (Row.new w 42 (bRow Tx.zero).toList)
  rw [Array.toArray_toList] at HNew0
  have HB0 := Lib.hid ((Below.refl w.heap.size w).alloc (Nat.le_refl _) (.cells (bRow Tx.zero) 42))
  subst hA
  go_enter Tryd.func68, Tryd.ntmps68
  go_wp2_with ((with_reducible show wpList _ _ _ (⟨_, .load 45 _, _, _, _, _⟩ :: _) _ _); refine wpList_load_tx rfl 45 (.tmp 19) rfl ga (oa + (n - 1) * 35) rfl XC _ (HR.out _ HB0.out) Tryd.underlying45 rfl (by rw [block_size, HXL.out]) ?_)
  refine (HH1.out _ HB0.out).mono ?_
  rintro _ w1 ⟨rfl, hb1⟩
  have HB1 := Lib.hid (two_below' HB0.out hb1)
  have HZ1r := Lib.hid (HNew0.out.below hb1)
  have HN1 := Lib.hid (Row.new w1 42 (bRow Tx.zero).toList)
  rw [Array.toArray_toList] at HN1
  clear hb1
  go_wp2_with (first
  | (with_reducible show wpList _ _ _ (⟨_, .store 42 _ _, _, _, _, _⟩ :: _) _ _
     refine wpList_store_at rfl 42 (.tmp 9) (.tmp 22) rfl w1.heap.size 0 (bRow LH).toList (bRow Tx.zero).toList _ rfl rfl HN1.out (by have := HZ32.out; have := HL32.out; omega) (by rw [hash_info, HL32.out]) HL1.out ?_
     intro w2 hr2 hg2
     rw [splice_all (HL32.out.trans HZ32.out.symm)] at hr2
     have hb2 := below_own ((Below.refl w1.heap.size w1).alloc (Nat.le_refl _) (.cells (bRow Tx.zero) 42)) hg2 (fun k hk => by cases hk; exact Nat.le_refl _)
     have HR2 := Lib.hid hr2
     have HZ2 := Lib.hid (HZ1r.out.below hb2)
     have HB2 := Lib.hid (two_below' HB1.out hb2)
     have HN2 := Lib.hid (Row.new w2 45 Bk.zeroC)
     clear hr2 hg2 hb2)
  | ((with_reducible show wpList _ _ _ (⟨_, .load 42 (.tmp 9), _, _, _, _⟩ :: _) _ _); refine wpList_load_tx rfl 42 (.tmp 9) rfl w1.heap.size 0 rfl (bRow LH).toList _ (row_range HR2.out) Tryd.underlying42 rfl (by rw [hash_info, HL32.out]) ?_)
  | ((with_reducible show wpList _ _ _ (⟨_, .build 45 _, _, _, _, _⟩ :: _) _ _); refine wpList_buildL rfl 45 [(0, .tmp 25), (1, .tmp 26), (2, .tmp 27), (3, .tmp 28)] rfl (some 29) rfl [(0, .int .i64 (n : Int)), (1, .int .i64 salt), (2, .agg (bRow LH)), (3, .slice A0 m c0)] rfl BC.toArray HBA.out ?_)
  | (with_reducible show wpList _ _ _ (⟨_, .store 45 _ _, _, _, _, _⟩ :: _) _ _
     refine wpList_store_at rfl 45 (.tmp 11) (.tmp 29) rfl w2.heap.size 0 BC _ _ rfl rfl HN2.out (by have := Bk.zeroC_len; have := HBC.out; omega) (by rw [block_size, HBC.out]) HBC1.out ?_
     intro w3 hr3 hg3
     rw [splice_all (HBC.out.trans Bk.zeroC_len.symm)] at hr3
     have hb3 := below_own ((Below.refl w2.heap.size w2).alloc (Nat.le_refl _) (.cells Bk.zeroC.toArray 45)) hg3 (fun k hk => by cases hk; exact Nat.le_refl _)
     have HR3 := Lib.hid hr3
     have HZ3 := Lib.hid (HZ2.out.below hb3)
     have HB3 := Lib.hid (two_below' HB2.out hb3)
     clear hr3 hg3 hb3)
  | ((with_reducible show wpList _ _ _ (⟨_, .load 45 (.tmp 11), _, _, _, _⟩ :: _) _ _); refine wpList_load_tx rfl 45 (.tmp 11) rfl w2.heap.size 0 rfl BC _ (row_range HR3.out) Tryd.underlying45 rfl (by rw [block_size, HBC.out]) ?_))
  refine (HH2.out _ HB3.out).mono ?_
  rintro _ w4 ⟨rfl, hb4⟩
  have HR4 := Lib.hid (HR3.out.below hb4)
  have HZ4 := Lib.hid (HZ3.out.below hb4)
  have HB4 := Lib.hid (two_below' HB3.out hb4)
  have HN4 := Lib.hid (Row.new w4 42 (bRow Tx.zero).toList)
  rw [Array.toArray_toList] at HN4
  clear hb4
  obtain ⟨gB, hgBe⟩ : ∃ gB, gB = w2.heap.size := ⟨_, rfl⟩
  rw [← hgBe] at HR4 ⊢
  clear hgBe
  by_cases hc0 : code = 0
  · have dq : (code != 0) = false := by simp [hc0]
    have HC0 := Lib.hid hc0
    go_wp2_with (with_reducible show wpList _ _ _ (⟨_, .store 42 _ _, _, _, _, _⟩ :: _) _ _
                 refine wpList_store_at rfl 42 (.tmp 12) (.tmp 33) rfl w4.heap.size 0 (bRow KH).toList (bRow Tx.zero).toList _ rfl rfl HN4.out (by have := HZ32.out; have := HK32.out; omega) (by rw [hash_info, HK32.out]) HK1.out ?_
                 intro w5 hr5 hg5
                 rw [splice_all (HK32.out.trans HZ32.out.symm)] at hr5
                 have hb5 := below_own ((Below.refl w4.heap.size w4).alloc (Nat.le_refl _) (.cells (bRow Tx.zero) 42)) hg5 (fun k hk => by cases hk; exact Nat.le_refl _)
                 have HR5k := Lib.hid hr5
                 have HR5b := Lib.hid (HR4.out.below hb5)
                 have HR5z := Lib.hid (HZ4.out.below hb5)
                 have HB5 := Lib.hid (two_below' HB4.out hb5)
                 have HgK : Hid (w.heap.size < w4.heap.size) := Lib.hid HZ4.out.lt
                 clear hr5 hg5 hb5)
    obtain ⟨gK, hgKe⟩ : ∃ gK, gK = w4.heap.size := ⟨_, rfl⟩
    rw [← hgKe] at HR5k HgK ⊢
    clear hgKe dq hc0
    obtain ⟨A, hA⟩ : ∃ A : Option Addr, A = some ⟨ga, oa, none⟩ := ⟨_, rfl⟩
    rw [← hA] at HBs ⊢
    clear hA
    refine wp_region_held_drew (S := fun w' => Row w' gB 45 BC ∧ Row w' gK 42 (bRow KH).toList) (by kernel_rfl) (⟨HR5b.out.below ((Below.refl _ _).drew), HR5k.out.below ((Below.refl _ _).drew)⟩) (fun hHeld => ?_)
    have rZ := HR5z.out.below ((Below.refl w5.heap.size w5).drew)
    have hB := two_below' HB5.out ((Below.refl w5.heap.size w5).drew)
    have hgB : gB < w5.drew.heap.size := (HR5b.out.below ((Below.refl w5.heap.size w5).drew)).lt
    have hgK : w.heap.size < gK := HgK.out
    have HWq := Lib.hid hB.size
    generalize w5.drew = wq at *
    have hS : wq.heap.size ≤ wq.heap.size := Nat.le_refl _
    refine wpAnyH_take (i := 1) (v := .slice A n c) rfl (by kernel_rfl) (by kernel_rfl) (by kernel_rfl) (fun _ _ _ h => h) (Or.inl ⟨by rfl, fun w' hSw => by go_simp⟩) hHeld ?_
    try simp only [Act.put, List.getElem_toArray, List.getElem_cons_succ, List.getElem_cons_zero, List.setIfInBounds_toArray, List.set_cons_zero, List.set_cons_succ]
    refine' wpAnyH_take (i := 3) (v := _) rfl (by kernel_rfl) (by kernel_rfl) (by kernel_rfl) (fun _ _ _ h => h) (yieldsIf_load_mid (by rfl) _ _ rfl gB 0 rfl BC _ (fun w' hSw => row_range hSw.1) Tryd.underlying45 rfl (by rw [block_size, HBC.out])) hHeld ?_
    try simp only [Act.put, List.getElem_toArray, List.getElem_cons_succ, List.getElem_cons_zero, List.setIfInBounds_toArray, List.set_cons_zero, List.set_cons_succ]
    refine' wpAnyH_take (i := 6) (v := _) rfl (by kernel_rfl) (by kernel_rfl) (by kernel_rfl) (fun _ _ _ h => h) (yieldsIf_load_mid (by rfl) _ _ rfl gK 0 rfl (bRow KH).toList _ (fun w' hSw => row_range hSw.2) Tryd.underlying42 rfl (by rw [hash_info, HK32.out])) hHeld ?_
    try simp only [Act.put, List.getElem_toArray, List.getElem_cons_succ, List.getElem_cons_zero, List.setIfInBounds_toArray, List.set_cons_zero, List.set_cons_succ]
    refine wpAnyH_ready (rs := [0, 4]) (by kernel_rfl) (by simp) (AllReadyH.cons rfl (fun K1 hK1 => ?_) (AllReadyH.cons rfl (fun K1 hK1 => ?_) AllReadyH.nil))
    · skip
      try simp only [Act.put, List.getElem_toArray, List.getElem_cons_succ, List.getElem_cons_zero, List.setIfInBounds_toArray, List.set_cons_zero, List.set_cons_succ]
      go_simp
      have hal := (Below.refl wq.heap.size wq).alloc (Nat.le_refl _) (.cells #[] 45)
      have hO : (wq.alloc (.cells #[] 45)).ownsRow wq.heap.size 45 35 (.slice (some ⟨wq.heap.size, 0, none⟩) 0 0) 0 [] := ⟨rfl, .inr ⟨wq.heap.size, 0, #[], rfl, by simp, by have := heap_alloc_new wq (.cells #[] 45); simpa using this, Nat.le_refl _, Nat.zero_le _, rfl, rfl⟩⟩
      have hGA : wq.heap.size ≤ wq.heap.size := by simp
      replace rZ := rZ.below hal
      replace hB := two_below' hB hal
      replace hS : wq.heap.size ≤ (wq.alloc (.cells #[] 45)).heap.size := Nat.le_trans hS hal.size
      replace hHeld : Row (wq.alloc (.cells #[] 45)) gB 45 BC ∧ Row (wq.alloc (.cells #[] 45)) gK 42 (bRow KH).toList := ⟨hHeld.1.below hal, hHeld.2.below hal⟩
      clear hal
      refine hK1.out _ _ hHeld (fun hHeld => ?_)
      clear hK1 K1
      try simp only [Act.put, List.getElem_toArray, List.getElem_cons_succ, List.getElem_cons_zero, List.setIfInBounds_toArray, List.set_cons_zero, List.set_cons_succ]
      refine wpAnyH_ready (rs := [2, 4]) (by kernel_rfl) (by simp) (AllReadyH.cons rfl (fun K1 hK1 => ?_) (AllReadyH.cons rfl (fun K1 hK1 => ?_) AllReadyH.nil))
      · skip
        try simp only [Act.put, List.getElem_toArray, List.getElem_cons_succ, List.getElem_cons_zero, List.setIfInBounds_toArray, List.set_cons_zero, List.set_cons_succ]
        rw [if_pos (by rfl)]
        refine wp_append_blocks _ _ rfl wq.heap.size (.slice (some ⟨wq.heap.size, 0, none⟩) 0 0) 0 [] rfl hO w.heap.size A c bs n HN.out rfl (HBs.out _ hB) HF.out (by omega) hS ?_
        intro v2 W2 ho2 hg2
        replace rZ := rZ.kept hg2 (row_ne_own rZ hO (by decide)).symm
        replace hHeld : Row W2 gB 45 BC ∧ Row W2 gK 42 (bRow KH).toList := ⟨hHeld.1.kept hg2 (fun e => by have := (hO.lt gB e.symm).1; omega), hHeld.2.kept hg2 (row_ne_own hHeld.2 hO (by decide)).symm⟩
        replace hB : Below w.heap.size w W2 := below_row hB hB.size (own_lower hO HWq.out) hg2
        replace hS : wq.heap.size ≤ W2.heap.size := Nat.le_trans hS hg2.size
        replace hO := ho2
        clear ho2 hg2
        refine hK1.out _ _ hHeld (fun hHeld => ?_)
        clear hK1 K1
        try simp only [Act.put, List.getElem_toArray, List.getElem_cons_succ, List.getElem_cons_zero, List.setIfInBounds_toArray, List.set_cons_zero, List.set_cons_succ]
        refine wpAnyH_ready (rs := [4]) (by kernel_rfl) (by simp) (AllReadyH.cons rfl (fun K1 hK1 => ?_) AllReadyH.nil)
        try simp only [Act.put, List.getElem_toArray, List.getElem_cons_succ, List.getElem_cons_zero, List.setIfInBounds_toArray, List.set_cons_zero, List.set_cons_succ]
        rw [if_pos (by rfl)]
        refine wp_buildSlice 36 45 1 _ rfl BC.toArray i0 (.agg Bk.zeroC.toArray) Tryd.underlying36 Hi.out Hz.out (by rw [Hsz.out]; decide) (by rw [Hsz.out]; decide) (by rw [Hsz.out, Array.toList_map]; exact fill_one 35 (.agg Bk.zeroC.toArray) BC HBC.out) ?_
        have hal := (Below.refl W2.heap.size W2).alloc (Nat.le_refl _) (.cells BC.toArray 45)
        have rN := Row.new W2 45 BC
        replace hO := own_below hO hal
        replace rZ := rZ.below hal
        replace hB := two_below' hB hal
        replace hS : wq.heap.size ≤ (W2.alloc (.cells BC.toArray 45)).heap.size := Nat.le_trans hS hal.size
        replace hHeld : Row (W2.alloc (.cells BC.toArray 45)) gB 45 BC ∧ Row (W2.alloc (.cells BC.toArray 45)) gK 42 (bRow KH).toList := ⟨hHeld.1.below hal, hHeld.2.below hal⟩
        clear hal
        refine hK1.out _ _ hHeld (fun hHeld => ?_)
        clear hK1 K1
        try simp only [Act.put, List.getElem_toArray, List.getElem_cons_succ, List.getElem_cons_zero, List.setIfInBounds_toArray, List.set_cons_zero, List.set_cons_succ]
        refine wpAnyH_ready (rs := [5]) (by kernel_rfl) (by simp) (AllReadyH.cons rfl (fun K1 hK1 => ?_) AllReadyH.nil)
        try simp only [Act.put, List.getElem_toArray, List.getElem_cons_succ, List.getElem_cons_zero, List.setIfInBounds_toArray, List.set_cons_zero, List.set_cons_succ]
        rw [if_pos (by rfl)]
        refine wp_append_own_wide _ _ _ 36 rfl wq.heap.size 45 i0 (.agg Bk.zeroC.toArray) 35 72 Tryd.underlying36 Hi.out Hz.out Hsz.out Hby.out (by rw [← Bk.zeroC_len]; rfl) (by decide) v2 (0 + n) ([] ++ Bv.flat bs) rfl hO ⟨W2.heap.size, 0, none⟩ 1 1 BC rfl (by rw [HBC.out]) (row_news rN) HBC1.out (by unfold maxLen; omega) (by omega) hS ?_
        intro v5 W5 ho5 hg5 _
        obtain ⟨A5, c5, rfl⟩ := own_form12 ho5
        replace rZ := rZ.kept hg5 (row_ne_own rZ hO (by decide)).symm
        replace hHeld : Row W5 gB 45 BC ∧ Row W5 gK 42 (bRow KH).toList := ⟨hHeld.1.kept hg5 (fun e => by have := (hO.lt gB e.symm).1; omega), hHeld.2.kept hg5 (row_ne_own hHeld.2 hO (by decide)).symm⟩
        replace hB : Below w.heap.size w W5 := below_row hB hB.size (own_lower hO HWq.out) hg5
        replace hO := ho5
        clear ho5 hg5 hS rN
        refine hK1.out _ _ hHeld (fun hHeld => ?_)
        clear hK1 K1
        try simp only [Act.put, List.getElem_toArray, List.getElem_cons_succ, List.getElem_cons_zero, List.setIfInBounds_toArray, List.set_cons_zero, List.set_cons_succ]
        refine wpAnyH_take (i := 7) (v := .slice A5 (0 + n + 1) c5) rfl (by kernel_rfl) (by kernel_rfl) (by kernel_rfl) (fun _ _ _ h => h) (Or.inl ⟨by rfl, fun w' hSw => by go_simp⟩) hHeld ?_
        try simp only [Act.put, List.getElem_toArray, List.getElem_cons_succ, List.getElem_cons_zero, List.setIfInBounds_toArray, List.set_cons_zero, List.set_cons_succ]
        refine wpAnyH_ready (rs := [8]) (by kernel_rfl) (by simp) (AllReadyH.cons rfl (fun K1 hK1 => ?_) AllReadyH.nil)
        try simp only [Act.put, List.getElem_toArray, List.getElem_cons_succ, List.getElem_cons_zero, List.setIfInBounds_toArray, List.set_cons_zero, List.set_cons_succ]
        rw [if_pos (by rfl)]
        refine wp_store_at 42 (.tmp 7) (.tmp 45) rfl w.heap.size 0 (bRow KH).toList (bRow Tx.zero).toList _ rfl rfl rZ (by have := HZ32.out; have := HK32.out; omega) (by rw [hash_info, HK32.out]) HK1.out ?_
        intro w9 hr9 hg9
        rw [splice_all (HK32.out.trans HZ32.out.symm)] at hr9
        have hO9 := hO.kept hg9 (.inr (row_ne_own rZ hO (by decide)))
        have hB9 := below_own hB hg9 (fun k hk => by cases hk; exact Nat.le_refl _)
        refine hK1.out _ _ (⟨hHeld.1.kept hg9 (row_diff hHeld.1 rZ (by decide)), hHeld.2.kept hg9 (by simp; omega)⟩) (fun hHeld => ?_)
        clear hK1 K1
        try simp only [Act.put, List.getElem_toArray, List.getElem_cons_succ, List.getElem_cons_zero, List.setIfInBounds_toArray, List.set_cons_zero, List.set_cons_succ]
        refine wpAnyH_take (i := 9) (v := .int .i64 0) rfl (by kernel_rfl) (by kernel_rfl) (by kernel_rfl) (fun _ _ _ h => h) (Or.inl ⟨by rfl, fun w' hSw => by go_simp⟩) hHeld ?_
        try simp only [Act.put, List.getElem_toArray, List.getElem_cons_succ, List.getElem_cons_zero, List.setIfInBounds_toArray, List.set_cons_zero, List.set_cons_succ]
        refine wpAnyH_done (by kernel_rfl) ?_ _
        have HR9 := Lib.hid hr9
        have HO9 := Lib.hid hO9
        have HB9 := Lib.hid hB9
        clear hr9 hg9 hO9 hB9 hO hB rZ hHeld
        go_wp2_with fail
        refine bodyPost_ret (results_slot_row_slot rfl _ _ w.heap.size 42 _ _ _ rfl HR9.out Tryd.underlying42 rfl (by rw [hash_info, List.size_toArray, HK32.out]) rfl rfl) rfl ⟨.inr ⟨HC0.out, A5, c5, ?_, ?_⟩, HB9.out⟩
        · rw [Nat.zero_add]
          simp only [Array.toArray_toList]
          rw [HN.out]
          rfl
        · have ho := own_lower HO9.out (Nat.le_trans HWq.out (Nat.le_refl _))
          rw [List.nil_append, HBF.out, Nat.zero_add] at ho
          exact ho
      · skip
        try simp only [Act.put, List.getElem_toArray, List.getElem_cons_succ, List.getElem_cons_zero, List.setIfInBounds_toArray, List.set_cons_zero, List.set_cons_succ]
        rw [if_pos (by rfl)]
        refine wp_buildSlice 36 45 1 _ rfl BC.toArray i0 (.agg Bk.zeroC.toArray) Tryd.underlying36 Hi.out Hz.out (by rw [Hsz.out]; decide) (by rw [Hsz.out]; decide) (by rw [Hsz.out, Array.toList_map]; exact fill_one 35 (.agg Bk.zeroC.toArray) BC HBC.out) ?_
        have hal := (Below.refl (wq.alloc (.cells #[] 45)).heap.size (wq.alloc (.cells #[] 45))).alloc (Nat.le_refl _) (.cells BC.toArray 45)
        have rN := Row.new (wq.alloc (.cells #[] 45)) 45 BC
        have hGNA : wq.heap.size < (wq.alloc (.cells #[] 45)).heap.size := by simp
        replace hO := own_below hO hal
        replace rZ := rZ.below hal
        replace hB := two_below' hB hal
        replace hS : wq.heap.size ≤ ((wq.alloc (.cells #[] 45)).alloc (.cells BC.toArray 45)).heap.size := Nat.le_trans hS hal.size
        replace hHeld : Row ((wq.alloc (.cells #[] 45)).alloc (.cells BC.toArray 45)) gB 45 BC ∧ Row ((wq.alloc (.cells #[] 45)).alloc (.cells BC.toArray 45)) gK 42 (bRow KH).toList := ⟨hHeld.1.below hal, hHeld.2.below hal⟩
        clear hal
        refine hK1.out _ _ hHeld (fun hHeld => ?_)
        clear hK1 K1
        try simp only [Act.put, List.getElem_toArray, List.getElem_cons_succ, List.getElem_cons_zero, List.setIfInBounds_toArray, List.set_cons_zero, List.set_cons_succ]
        refine wpAnyH_ready (rs := [2]) (by kernel_rfl) (by simp) (AllReadyH.cons rfl (fun K1 hK1 => ?_) AllReadyH.nil)
        try simp only [Act.put, List.getElem_toArray, List.getElem_cons_succ, List.getElem_cons_zero, List.setIfInBounds_toArray, List.set_cons_zero, List.set_cons_succ]
        rw [if_pos (by rfl)]
        refine wp_append_blocks _ _ rfl wq.heap.size (.slice (some ⟨wq.heap.size, 0, none⟩) 0 0) 0 [] rfl hO w.heap.size A c bs n HN.out rfl (HBs.out _ hB) HF.out (by omega) hS ?_
        intro v2 W2 ho2 hg2
        replace rZ := rZ.kept hg2 (row_ne_own rZ hO (by decide)).symm
        replace hHeld : Row W2 gB 45 BC ∧ Row W2 gK 42 (bRow KH).toList := ⟨hHeld.1.kept hg2 (fun e => by have := (hO.lt gB e.symm).1; omega), hHeld.2.kept hg2 (row_ne_own hHeld.2 hO (by decide)).symm⟩
        replace rN := rN.kept hg2 (fun e => by simp [Value.ownBlock] at e; try omega)
        replace hB : Below w.heap.size w W2 := below_row hB hB.size (own_lower hO HWq.out) hg2
        replace hS : wq.heap.size ≤ W2.heap.size := Nat.le_trans hS hg2.size
        replace hO := ho2
        clear ho2 hg2
        refine hK1.out _ _ hHeld (fun hHeld => ?_)
        clear hK1 K1
        try simp only [Act.put, List.getElem_toArray, List.getElem_cons_succ, List.getElem_cons_zero, List.setIfInBounds_toArray, List.set_cons_zero, List.set_cons_succ]
        refine wpAnyH_ready (rs := [5]) (by kernel_rfl) (by simp) (AllReadyH.cons rfl (fun K1 hK1 => ?_) AllReadyH.nil)
        try simp only [Act.put, List.getElem_toArray, List.getElem_cons_succ, List.getElem_cons_zero, List.setIfInBounds_toArray, List.set_cons_zero, List.set_cons_succ]
        rw [if_pos (by rfl)]
        refine wp_append_own_wide _ _ _ 36 rfl wq.heap.size 45 i0 (.agg Bk.zeroC.toArray) 35 72 Tryd.underlying36 Hi.out Hz.out Hsz.out Hby.out (by rw [← Bk.zeroC_len]; rfl) (by decide) v2 (0 + n) ([] ++ Bv.flat bs) rfl hO ⟨(wq.alloc (.cells #[] 45)).heap.size, 0, none⟩ 1 1 BC rfl (by rw [HBC.out]) (row_news rN) HBC1.out (by unfold maxLen; omega) (by omega) hS ?_
        intro v5 W5 ho5 hg5 _
        obtain ⟨A5, c5, rfl⟩ := own_form12 ho5
        replace rZ := rZ.kept hg5 (row_ne_own rZ hO (by decide)).symm
        replace hHeld : Row W5 gB 45 BC ∧ Row W5 gK 42 (bRow KH).toList := ⟨hHeld.1.kept hg5 (fun e => by have := (hO.lt gB e.symm).1; omega), hHeld.2.kept hg5 (row_ne_own hHeld.2 hO (by decide)).symm⟩
        replace hB : Below w.heap.size w W5 := below_row hB hB.size (own_lower hO HWq.out) hg5
        replace hO := ho5
        clear ho5 hg5 hS rN
        refine hK1.out _ _ hHeld (fun hHeld => ?_)
        clear hK1 K1
        try simp only [Act.put, List.getElem_toArray, List.getElem_cons_succ, List.getElem_cons_zero, List.setIfInBounds_toArray, List.set_cons_zero, List.set_cons_succ]
        refine wpAnyH_take (i := 7) (v := .slice A5 (0 + n + 1) c5) rfl (by kernel_rfl) (by kernel_rfl) (by kernel_rfl) (fun _ _ _ h => h) (Or.inl ⟨by rfl, fun w' hSw => by go_simp⟩) hHeld ?_
        try simp only [Act.put, List.getElem_toArray, List.getElem_cons_succ, List.getElem_cons_zero, List.setIfInBounds_toArray, List.set_cons_zero, List.set_cons_succ]
        refine wpAnyH_ready (rs := [8]) (by kernel_rfl) (by simp) (AllReadyH.cons rfl (fun K1 hK1 => ?_) AllReadyH.nil)
        try simp only [Act.put, List.getElem_toArray, List.getElem_cons_succ, List.getElem_cons_zero, List.setIfInBounds_toArray, List.set_cons_zero, List.set_cons_succ]
        rw [if_pos (by rfl)]
        refine wp_store_at 42 (.tmp 7) (.tmp 45) rfl w.heap.size 0 (bRow KH).toList (bRow Tx.zero).toList _ rfl rfl rZ (by have := HZ32.out; have := HK32.out; omega) (by rw [hash_info, HK32.out]) HK1.out ?_
        intro w9 hr9 hg9
        rw [splice_all (HK32.out.trans HZ32.out.symm)] at hr9
        have hO9 := hO.kept hg9 (.inr (row_ne_own rZ hO (by decide)))
        have hB9 := below_own hB hg9 (fun k hk => by cases hk; exact Nat.le_refl _)
        refine hK1.out _ _ (⟨hHeld.1.kept hg9 (row_diff hHeld.1 rZ (by decide)), hHeld.2.kept hg9 (by simp; omega)⟩) (fun hHeld => ?_)
        clear hK1 K1
        try simp only [Act.put, List.getElem_toArray, List.getElem_cons_succ, List.getElem_cons_zero, List.setIfInBounds_toArray, List.set_cons_zero, List.set_cons_succ]
        refine wpAnyH_take (i := 9) (v := .int .i64 0) rfl (by kernel_rfl) (by kernel_rfl) (by kernel_rfl) (fun _ _ _ h => h) (Or.inl ⟨by rfl, fun w' hSw => by go_simp⟩) hHeld ?_
        try simp only [Act.put, List.getElem_toArray, List.getElem_cons_succ, List.getElem_cons_zero, List.setIfInBounds_toArray, List.set_cons_zero, List.set_cons_succ]
        refine wpAnyH_done (by kernel_rfl) ?_ _
        have HR9 := Lib.hid hr9
        have HO9 := Lib.hid hO9
        have HB9 := Lib.hid hB9
        clear hr9 hg9 hO9 hB9 hO hB rZ hHeld
        go_wp2_with fail
        refine bodyPost_ret (results_slot_row_slot rfl _ _ w.heap.size 42 _ _ _ rfl HR9.out Tryd.underlying42 rfl (by rw [hash_info, List.size_toArray, HK32.out]) rfl rfl) rfl ⟨.inr ⟨HC0.out, A5, c5, ?_, ?_⟩, HB9.out⟩
        · rw [Nat.zero_add]
          simp only [Array.toArray_toList]
          rw [HN.out]
          rfl
        · have ho := own_lower HO9.out (Nat.le_trans HWq.out (Nat.le_refl _))
          rw [List.nil_append, HBF.out, Nat.zero_add] at ho
          exact ho
    · skip
      try simp only [Act.put, List.getElem_toArray, List.getElem_cons_succ, List.getElem_cons_zero, List.setIfInBounds_toArray, List.set_cons_zero, List.set_cons_succ]
      rw [if_pos (by rfl)]
      refine wp_buildSlice 36 45 1 _ rfl BC.toArray i0 (.agg Bk.zeroC.toArray) Tryd.underlying36 Hi.out Hz.out (by rw [Hsz.out]; decide) (by rw [Hsz.out]; decide) (by rw [Hsz.out, Array.toList_map]; exact fill_one 35 (.agg Bk.zeroC.toArray) BC HBC.out) ?_
      have hal := (Below.refl wq.heap.size wq).alloc (Nat.le_refl _) (.cells BC.toArray 45)
      have rN := Row.new wq 45 BC
      replace rZ := rZ.below hal
      replace hB := two_below' hB hal
      replace hS : wq.heap.size ≤ (wq.alloc (.cells BC.toArray 45)).heap.size := Nat.le_trans hS hal.size
      replace hHeld : Row (wq.alloc (.cells BC.toArray 45)) gB 45 BC ∧ Row (wq.alloc (.cells BC.toArray 45)) gK 42 (bRow KH).toList := ⟨hHeld.1.below hal, hHeld.2.below hal⟩
      clear hal
      refine hK1.out _ _ hHeld (fun hHeld => ?_)
      clear hK1 K1
      try simp only [Act.put, List.getElem_toArray, List.getElem_cons_succ, List.getElem_cons_zero, List.setIfInBounds_toArray, List.set_cons_zero, List.set_cons_succ]
      refine wpAnyH_ready (rs := [0]) (by kernel_rfl) (by simp) (AllReadyH.cons rfl (fun K1 hK1 => ?_) AllReadyH.nil)
      try simp only [Act.put, List.getElem_toArray, List.getElem_cons_succ, List.getElem_cons_zero, List.setIfInBounds_toArray, List.set_cons_zero, List.set_cons_succ]
      go_simp
      have hal := (Below.refl (wq.alloc (.cells BC.toArray 45)).heap.size (wq.alloc (.cells BC.toArray 45))).alloc (Nat.le_refl _) (.cells #[] 45)
      have hO : ((wq.alloc (.cells BC.toArray 45)).alloc (.cells #[] 45)).ownsRow wq.heap.size 45 35 (.slice (some ⟨(wq.heap.size + 1), 0, none⟩) 0 0) 0 [] := ⟨rfl, .inr ⟨(wq.heap.size + 1), 0, #[], rfl, by simp, by have := heap_alloc_new (wq.alloc (.cells BC.toArray 45)) (.cells #[] 45); simpa using this, Nat.le_refl _, Nat.zero_le _, rfl, rfl⟩⟩
      have hGN := rN.lt
      replace rN := rN.below hal
      have hGA : wq.heap.size ≤ (wq.heap.size + 1) := by simp
      replace rZ := rZ.below hal
      replace hB := two_below' hB hal
      replace hS : wq.heap.size ≤ ((wq.alloc (.cells BC.toArray 45)).alloc (.cells #[] 45)).heap.size := Nat.le_trans hS hal.size
      replace hHeld : Row ((wq.alloc (.cells BC.toArray 45)).alloc (.cells #[] 45)) gB 45 BC ∧ Row ((wq.alloc (.cells BC.toArray 45)).alloc (.cells #[] 45)) gK 42 (bRow KH).toList := ⟨hHeld.1.below hal, hHeld.2.below hal⟩
      clear hal
      refine hK1.out _ _ hHeld (fun hHeld => ?_)
      clear hK1 K1
      try simp only [Act.put, List.getElem_toArray, List.getElem_cons_succ, List.getElem_cons_zero, List.setIfInBounds_toArray, List.set_cons_zero, List.set_cons_succ]
      refine wpAnyH_ready (rs := [2]) (by kernel_rfl) (by simp) (AllReadyH.cons rfl (fun K1 hK1 => ?_) AllReadyH.nil)
      try simp only [Act.put, List.getElem_toArray, List.getElem_cons_succ, List.getElem_cons_zero, List.setIfInBounds_toArray, List.set_cons_zero, List.set_cons_succ]
      rw [if_pos (by rfl)]
      refine wp_append_blocks _ _ rfl wq.heap.size (.slice (some ⟨(wq.heap.size + 1), 0, none⟩) 0 0) 0 [] rfl hO w.heap.size A c bs n HN.out rfl (HBs.out _ hB) HF.out (by omega) hS ?_
      intro v2 W2 ho2 hg2
      replace rZ := rZ.kept hg2 (row_ne_own rZ hO (by decide)).symm
      replace hHeld : Row W2 gB 45 BC ∧ Row W2 gK 42 (bRow KH).toList := ⟨hHeld.1.kept hg2 (fun e => by have := (hO.lt gB e.symm).1; omega), hHeld.2.kept hg2 (row_ne_own hHeld.2 hO (by decide)).symm⟩
      replace rN := rN.kept hg2 (fun e => by simp [Value.ownBlock] at e; try omega)
      replace hB : Below w.heap.size w W2 := below_row hB hB.size (own_lower hO HWq.out) hg2
      replace hS : wq.heap.size ≤ W2.heap.size := Nat.le_trans hS hg2.size
      replace hO := ho2
      clear ho2 hg2
      refine hK1.out _ _ hHeld (fun hHeld => ?_)
      clear hK1 K1
      try simp only [Act.put, List.getElem_toArray, List.getElem_cons_succ, List.getElem_cons_zero, List.setIfInBounds_toArray, List.set_cons_zero, List.set_cons_succ]
      refine wpAnyH_ready (rs := [5]) (by kernel_rfl) (by simp) (AllReadyH.cons rfl (fun K1 hK1 => ?_) AllReadyH.nil)
      try simp only [Act.put, List.getElem_toArray, List.getElem_cons_succ, List.getElem_cons_zero, List.setIfInBounds_toArray, List.set_cons_zero, List.set_cons_succ]
      rw [if_pos (by rfl)]
      refine wp_append_own_wide _ _ _ 36 rfl wq.heap.size 45 i0 (.agg Bk.zeroC.toArray) 35 72 Tryd.underlying36 Hi.out Hz.out Hsz.out Hby.out (by rw [← Bk.zeroC_len]; rfl) (by decide) v2 (0 + n) ([] ++ Bv.flat bs) rfl hO ⟨wq.heap.size, 0, none⟩ 1 1 BC rfl (by rw [HBC.out]) (row_news rN) HBC1.out (by unfold maxLen; omega) (by omega) hS ?_
      intro v5 W5 ho5 hg5 _
      obtain ⟨A5, c5, rfl⟩ := own_form12 ho5
      replace rZ := rZ.kept hg5 (row_ne_own rZ hO (by decide)).symm
      replace hHeld : Row W5 gB 45 BC ∧ Row W5 gK 42 (bRow KH).toList := ⟨hHeld.1.kept hg5 (fun e => by have := (hO.lt gB e.symm).1; omega), hHeld.2.kept hg5 (row_ne_own hHeld.2 hO (by decide)).symm⟩
      replace hB : Below w.heap.size w W5 := below_row hB hB.size (own_lower hO HWq.out) hg5
      replace hO := ho5
      clear ho5 hg5 hS rN
      refine hK1.out _ _ hHeld (fun hHeld => ?_)
      clear hK1 K1
      try simp only [Act.put, List.getElem_toArray, List.getElem_cons_succ, List.getElem_cons_zero, List.setIfInBounds_toArray, List.set_cons_zero, List.set_cons_succ]
      refine wpAnyH_take (i := 7) (v := .slice A5 (0 + n + 1) c5) rfl (by kernel_rfl) (by kernel_rfl) (by kernel_rfl) (fun _ _ _ h => h) (Or.inl ⟨by rfl, fun w' hSw => by go_simp⟩) hHeld ?_
      try simp only [Act.put, List.getElem_toArray, List.getElem_cons_succ, List.getElem_cons_zero, List.setIfInBounds_toArray, List.set_cons_zero, List.set_cons_succ]
      refine wpAnyH_ready (rs := [8]) (by kernel_rfl) (by simp) (AllReadyH.cons rfl (fun K1 hK1 => ?_) AllReadyH.nil)
      try simp only [Act.put, List.getElem_toArray, List.getElem_cons_succ, List.getElem_cons_zero, List.setIfInBounds_toArray, List.set_cons_zero, List.set_cons_succ]
      rw [if_pos (by rfl)]
      refine wp_store_at 42 (.tmp 7) (.tmp 45) rfl w.heap.size 0 (bRow KH).toList (bRow Tx.zero).toList _ rfl rfl rZ (by have := HZ32.out; have := HK32.out; omega) (by rw [hash_info, HK32.out]) HK1.out ?_
      intro w9 hr9 hg9
      rw [splice_all (HK32.out.trans HZ32.out.symm)] at hr9
      have hO9 := hO.kept hg9 (.inr (row_ne_own rZ hO (by decide)))
      have hB9 := below_own hB hg9 (fun k hk => by cases hk; exact Nat.le_refl _)
      refine hK1.out _ _ (⟨hHeld.1.kept hg9 (row_diff hHeld.1 rZ (by decide)), hHeld.2.kept hg9 (by simp; omega)⟩) (fun hHeld => ?_)
      clear hK1 K1
      try simp only [Act.put, List.getElem_toArray, List.getElem_cons_succ, List.getElem_cons_zero, List.setIfInBounds_toArray, List.set_cons_zero, List.set_cons_succ]
      refine wpAnyH_take (i := 9) (v := .int .i64 0) rfl (by kernel_rfl) (by kernel_rfl) (by kernel_rfl) (fun _ _ _ h => h) (Or.inl ⟨by rfl, fun w' hSw => by go_simp⟩) hHeld ?_
      try simp only [Act.put, List.getElem_toArray, List.getElem_cons_succ, List.getElem_cons_zero, List.setIfInBounds_toArray, List.set_cons_zero, List.set_cons_succ]
      refine wpAnyH_done (by kernel_rfl) ?_ _
      have HR9 := Lib.hid hr9
      have HO9 := Lib.hid hO9
      have HB9 := Lib.hid hB9
      clear hr9 hg9 hO9 hB9 hO hB rZ hHeld
      go_wp2_with fail
      refine bodyPost_ret (results_slot_row_slot rfl _ _ w.heap.size 42 _ _ _ rfl HR9.out Tryd.underlying42 rfl (by rw [hash_info, List.size_toArray, HK32.out]) rfl rfl) rfl ⟨.inr ⟨HC0.out, A5, c5, ?_, ?_⟩, HB9.out⟩
      · rw [Nat.zero_add]
        simp only [Array.toArray_toList]
        rw [HN.out]
        rfl
      · have ho := own_lower HO9.out (Nat.le_trans HWq.out (Nat.le_refl _))
        rw [List.nil_append, HBF.out, Nat.zero_add] at ho
        exact ho
  · have dq : (code != 0) = true := by simpa using hc0
    have HC0 := Lib.hid hc0
    clear hc0
    go_wp2_with (first
    | (with_reducible show wpList _ _ _ (⟨_, .store 42 (.tmp 12) _, _, _, _, _⟩ :: _) _ _
       refine wpList_store_at rfl 42 (.tmp 12) (.tmp 33) rfl w4.heap.size 0 (bRow KH).toList (bRow Tx.zero).toList _ rfl rfl HN4.out (by have := HZ32.out; have := HK32.out; omega) (by rw [hash_info, HK32.out]) HK1.out ?_
       intro w5 hr5 hg5
       have hb5 := below_own ((Below.refl w4.heap.size w4).alloc (Nat.le_refl _) (.cells (bRow Tx.zero) 42)) hg5 (fun k hk => by cases hk; exact Nat.le_refl _)
       have HR5z := Lib.hid (HZ4.out.below hb5)
       have HB5 := Lib.hid (two_below' HB4.out hb5)
       clear hr5 hg5 hb5)
    | ((with_reducible show wpList _ _ _ (⟨_, .build 42 _, _, _, _, _⟩ :: _) _ _); refine wpList_buildL rfl 42 [] rfl (some 37) rfl [] rfl (bRow Tx.zero) hash_built ?_)
    | (with_reducible show wpList _ _ _ (⟨_, .store 42 (.tmp 7) _, _, _, _, _⟩ :: _) _ _
       refine wpList_store_at rfl 42 (.tmp 7) (.tmp 37) rfl w.heap.size 0 (bRow Tx.zero).toList (bRow Tx.zero).toList _ rfl rfl HR5z.out (by have := HZ32.out; omega) (by rw [hash_info, HZ32.out]) HZ1.out ?_
       intro w6 hr6 hg6
       rw [splice_all rfl] at hr6
       have HR6 := Lib.hid hr6
       have HB6 := Lib.hid (below_own HB5.out hg6 (fun k hk => by cases hk; exact Nat.le_refl _))
       clear hr6 hg6))
    exact bodyPost_ret (results_slot_row_slot rfl _ _ w.heap.size 42 _ _ _ rfl HR6.out Tryd.underlying42 rfl (by rw [hash_info, List.size_toArray, HZ32.out]) rfl rfl) rfl ⟨.inl ⟨HC0.out, by simp only [Array.toArray_toList]; rfl⟩, HB6.out⟩
end Go.Proofs.YtjeooegkfjlejaaDoor
