/- What later texts need of the earlier layers. -/
import Derived.Test.YtjeooegkfjlejaaDoorEarO
import Derived.Test.YtjeooegkfjlejaaDoorEarS
import Derived.Test.YtjeooegkfjlejaaDoorEarT
import Derived.Test.YtjeooegkfjlejaaDoorEarC
import Derived.Test.YtjeooegkfjlejaaDoorEarA
import Derived.Test.YtjeooegkfjlejaaDoorEarB
import Derived.Test.YtjeooegkfjlejaaDoorIbA
import Derived.Test.YtjeooegkfjlejaaDoorTrMath
import Derived.Test.YtjeooegkfjlejaaDoorTrHash
import Derived.Test.YtjeooegkfjlejaaDoorTrMem
import Derived.Test.YtjeooegkfjlejaaDoorTrLv
import Derived.Test.YtjeooegkfjlejaaDoorTrLink
import Derived.Test.YtjeooegkfjlejaaDoorTrBeh
import Derived.Test.YtjeooegkfjlejaaDoorTrCh
import Derived.Test.YtjeooegkfjlejaaDoorTrAt
import Derived.Test.YtjeooegkfjlejaaDoorTrNew
import Derived.Test.YtjeooegkfjlejaaDoorTrMine
import Derived.Test.YtjeooegkfjlejaaDoorTrAll
/- ---- TrFind ---- -/
/- (*tree.Chain).Find: what it does. -/
namespace Go.Proofs.YtjeooegkfjlejaaDoor
open Go.RowKit Go.Shelf
set_option linter.unusedVariables false
set_option linter.unusedSimpArgs false
attribute [local go_sem] Oper.semAt_some

namespace Tr
/-- the first block that has a hash -/
def find (ls : List Lv) (h : T8) : Int × Bool := match ls.find? (fun x => decide (x.k.hash = h)) with
  | some x => (x.k.b.number, true)
  | none => (0, false)
theorem find_none {ls : List Lv} {h : T8} (hn : ∀ x ∈ ls, x.k.hash ≠ h) : find ls h = (0, false) := by
  unfold find
  rw [List.find?_eq_none.2 (fun x hx => by simp [hn x hx])]
theorem find_some {pre post : List Lv} {x : Lv} {h : T8} (hn : ∀ y ∈ pre, y.k.hash ≠ h) (hx : x.k.hash = h) : find (pre ++ x :: post) h = (x.k.b.number, true) := by
  unfold find
  rw [List.find?_append, List.find?_eq_none.2 (fun y hy => by simp [hn y hy]), Option.none_or, List.find?_cons_of_pos (by simpa using hx)]
end Tr
theorem row_own {β : Type} (B : Nat) (t : TypeId) (f : β → List Value) : Own (fun s W => Row W B t (f s)) := fun s X Y row hs hg hrow =>
  hs.kept hg (fun e' => by obtain ⟨o, ho, hc⟩ := hrow B e'.symm; rw [show X.heap[B]? = _ from hs] at ho; cases ho; cases hc)
theorem Row.boxed {w : World} {B : Nat} {t : TypeId} {v : Value} (h : Row w B t [v]) : w.cell? ⟨B, 0, none⟩ = some v ∧ w.frozen? ⟨B, 0, none⟩ = false := ⟨h.cell 0 (by simp), h.free 0⟩
set_option maxRecDepth 100000 in
set_option maxHeartbeats 3200000 in
theorem find_in (F : Fence) (n : Nat) (hf : F.fn 29) (hfa : F.fn 50) (hf1 : F.fn 69) (hro : F.round = none) (hn : 3 ≤ n) (w : World) (base P : Nat) (dp de : Int) (ls : List Lv) (hch : ChAt w base P dp de ls) (hne : ls ≠ []) (hl2 : ls.length ≤ 100000) (h : Tr.T8) (h32 : h.length = 32) :
    CallsIn F n Tryd.prog 29 #[.pointer (some ⟨P, 0, none⟩), .agg (bRow h)] w fun e W' => e = .returned (.tuple #[.int .i64 (Tr.find ls h).1, .bool (Tr.find ls h).2]) ∧ Below w.heap.size w W' := by
  have h1 : 1 ≤ n := by omega
  have hz86 := lk_zv
  have HZL := Lib.hid (Lv.cells_len Lv.zero_fits)
  have HHL := Lib.hid (Tx.bRow_len h h32)
  have hgl : ∀ A c, w.cell? ⟨P, 2, none⟩ = some (.slice (some A) ls.length c) → A.block < w.heap.size := fun A c e => by
    obtain ⟨A0, c0, _, _, p2, _, _, p5, _⟩ := hch.cells
    obtain ⟨gl, rfl, _, hlt, _⟩ := p5.at_ hne rfl
    rw [p2] at e
    simp only [Option.some.injEq, Value.slice.injEq] at e
    obtain ⟨e, _⟩ := e
    subst e
    exact hlt
  have HG := Lib.hid hgl
  have HC := Lib.hid hch
  have HF : Hid (∀ x ∈ ls, x.Fits) := Lib.hid (by obtain ⟨_, v, _, q⟩ := hch; exact fun x hx => (q.2 x hx).1)
  have hPl : P < w.heap.size := by obtain ⟨_, v, hr, _⟩ := hch; exact hr.lt
  clear hch hgl
  refine callsIn_of_wp_marks Tryd.func29 rfl hf ?_ hro
  simp only [Tryd.ntmps29, List.size_toArray, List.length_cons, List.length_nil, Nat.reduceAdd, Nat.reduceSub, Array.replicate_succ, Array.replicate_zero, List.push_toArray, List.append_toArray, List.nil_append, List.cons_append]
  gi_wp2_with (gi_at_call 50; refine (all_in F (n - 1) hfa hro _ _).mono ?_; rintro e w' ⟨rfl, rfl⟩)
  have rH := ((Row.new w 42 (bRow h).toList).kept (grownBy_alloc _ (.cells #[.int .i64 0] 3) none) (by simp)).kept (grownBy_alloc _ (.cells #[.bool false] 4) none) (by simp)
  have rN := (Row.new (w.alloc (.cells (bRow h).toList.toArray 42)) 3 [.int .i64 0]).kept (grownBy_alloc _ (.cells #[.bool false] 4) none) (by simp)
  have rB := Row.new ((w.alloc (.cells (bRow h).toList.toArray 42)).alloc (.cells #[.int .i64 0] 3)) 4 [.bool false]
  have rP := Row.new (((w.alloc (.cells (bRow h).toList.toArray 42)).alloc (.cells #[.int .i64 0] 3)).alloc (.cells #[.bool false] 4)) 23 [.pointer (some ⟨P, 0, none⟩)]
  have hB0 : Below w.heap.size w ((((w.alloc (.cells (bRow h).toList.toArray 42)).alloc (.cells #[.int .i64 0] 3)).alloc (.cells #[.bool false] 4)).alloc (.cells #[.pointer (some ⟨P, 0, none⟩)] 23)) := ((((Below.refl _ w).alloc (Nat.le_refl _) _).alloc (by simp) _).alloc (by simp; omega) _).alloc (by simp; omega) _
  have hsz : ((((w.alloc (.cells (bRow h) 42)).alloc (.cells #[.int .i64 0] 3)).alloc (.cells #[.bool false] 4)).alloc (.cells #[.pointer (some ⟨P, 0, none⟩)] 23)).heap.size = w.heap.size + 4 := by simp
  have rH2 := rH.kept (grownBy_alloc _ (.cells #[.pointer (some ⟨P, 0, none⟩)] 23) none) (by simp)
  have rN2 := rN.kept (grownBy_alloc _ (.cells #[.pointer (some ⟨P, 0, none⟩)] 23) none) (by simp)
  have rB2 := rB.kept (grownBy_alloc _ (.cells #[.pointer (some ⟨P, 0, none⟩)] 23) none) (by simp)
  clear rH rN rB
  simp only [Array.toArray_toList, List.size_toArray, World.size_alloc] at rH2 rN2 rB2 rP hB0
  obtain ⟨W0, hW0⟩ : ∃ W0, ((((w.alloc (.cells (bRow h) 42)).alloc (.cells #[.int .i64 0] 3)).alloc (.cells #[.bool false] 4)).alloc (.cells #[.pointer (some ⟨P, 0, none⟩)] 23)) = W0 := ⟨_, rfl⟩
  rw [hW0] at rH2 rN2 rB2 rP hB0 hsz ⊢
  clear hW0
  have rP2 : Row W0 (w.heap.size + 1 + 1 + 1) 23 [.pointer (some ⟨P, 0, none⟩)] := rP
  refine wpIn_rangeFunc_ownH hro h1 (gf := 69) (lb := #[.pointer (some ⟨w.heap.size + 1 + 1 + 1, 0, none⟩)]) rfl hf1 (enters_of Tryd.func69 (by kernel_rfl) rfl)
    (all_stops F (n - 1) hf1 hro (by omega) (w.heap.size + 1 + 1 + 1) base P dp de ls hl2 W0 w.heap.size (by omega) (by omega) (rP2.boxed).1 (HC.out.below hB0) hne (fun A c e => HG.out A c ((hB0.cell (p := ⟨P, 2, none⟩) hPl).symm.trans e))) belowK_t (belowK_b (by omega)) (Below.refl _ _) (fun _ => rfl)
    (fun pre W => ((∀ y ∈ pre, y.1.k.hash ≠ h) ∧ Row W w.heap.size 42 (bRow h).toList ∧ Row W (w.heap.size + 1) 3 [.int .i64 0] ∧ Row W (w.heap.size + 1 + 1) 4 [.bool false]) ∧ Below w.heap.size w W)
    (fun c pre W => ((c = .ret ∧ ∃ pre' x, pre = pre' ++ [x] ∧ (∀ y ∈ pre', y.1.k.hash ≠ h) ∧ x.1.k.hash = h ∧ Row W (w.heap.size + 1) 3 [.int .i64 x.1.k.b.number]) ∧ Row W (w.heap.size + 1 + 1) 4 [.bool true]) ∧ Below w.heap.size w W)
    (OwnFrom.and (Own.from (fun s A B row hs hg hr => ⟨hs.1, row_own (β := Unit) _ _ (fun _ => _) () A B row hs.2.1 hg hr, row_own (β := Unit) _ _ (fun _ => _) () A B row hs.2.2.1 hg hr, row_own (β := Unit) _ _ (fun _ => _) () A B row hs.2.2.2 hg hr⟩) _) (ownFrom_below (Nat.le_refl _) (by omega)))
    (fun c => OwnFrom.and (Own.from (fun s A B row hs hg hr => by
      obtain ⟨⟨h1, p', x, h2, h3, h4, h5⟩, h6⟩ := hs
      exact ⟨⟨h1, p', x, h2, h3, h4, row_own (β := Unit) _ _ (fun _ => _) () A B row h5 hg hr⟩, row_own (β := Unit) _ _ (fun _ => _) () A B row h6 hg hr⟩) _) (ownFrom_below (Nat.le_refl _) (by omega)))
    ⟨⟨by simp, rH2, rN2, rB2⟩, hB0⟩
    (fun x a' W => ∃ Bx, w.heap.size + 1 + 1 < Bx ∧ Row W Bx 86 x.1.cells ∧ a' = { tmps := #[.pointer (some ⟨P, 0, none⟩), .agg (bRow h), undef, .pointer (some ⟨w.heap.size, 0, none⟩), .pointer (some ⟨w.heap.size + 1, 0, none⟩), .pointer (some ⟨w.heap.size + 1 + 1, 0, none⟩), .pointer (some ⟨Bx, 0, none⟩), .pointer (some ⟨P, 0, none⟩), .func (.func 69) #[] #[.pointer (some ⟨w.heap.size + 1 + 1 + 1, 0, none⟩)], .agg x.1.cells.toArray, undef, undef, undef, undef, undef, undef, undef], defers := [] })
    (fun x a' _ X Y row hs hg hr => by obtain ⟨Bx, h1, h2, h3⟩ := hs; exact ⟨Bx, h1, row_own (β := Unit) Bx _ (fun _ => x.1.cells) () X Y row h2 hg (fun r e => (hr r e).2), h3⟩)
    ?assign ?body ?done ?stop
  case assign =>
    rintro l pre x W K ⟨⟨hp, rH1, rN1, rB1⟩, hB1⟩ hK
    have HL := Lib.hid (Lv.cells_len (HF.out _ x.2))
    have H1 := Lib.hid (Lv.cells_one (HF.out _ x.2))
    have HNew := Lib.hid (Row.new W 86 Lv.zero.cells)
    have hKH := Lib.hid hK
    have HI := Lib.hid (show (_ ∧ _ ∧ _ ∧ _) ∧ _ from ⟨⟨hp, rH1, rN1, rB1⟩, hB1⟩)
    clear hK hp rH1 rN1
    generalize hC : x.1.cells = C at *
    gi_wp2_with (with_reducible show wpListIn _ _ _ _ _ (⟨_, .store 86 _ _, _, _, _, _⟩ :: _) _ _
                 refine wpListIn_store_row rfl 86 (.tmp 6) (.tmp 9) rfl W.heap.size 0 C _ _ rfl rfl HNew.out (by have := HL.out; have := HZL.out; omega) (by rw [link_size, HL.out]) H1.out ?_
                 intro w2 hr2 hg2
                 rw [splice_all (HL.out.trans HZL.out.symm)] at hr2
                 have Hb2 := Lib.hid (below_own ((Below.refl W.heap.size W).alloc (Nat.le_refl _) _) hg2 (fun k hk => by cases hk; exact Nat.le_refl _))
                 have HR2 := Lib.hid hr2
                 clear hr2 hg2)
    have hg := grownBy_of_below Hb2.out none
    obtain ⟨⟨hp, rH1, rN1, _⟩, _⟩ := HI.out
    exact hKH.out _ _ (KeepsFrom.of_grownBy hg (by simp)) (Hb2.out.mono hB1.size) ⟨⟨hp, rH1.kept hg (by simp), rN1.kept hg (by simp), rB1.kept hg (by simp)⟩, hB1.trans (Hb2.out.mono hB1.size)⟩ ⟨W.heap.size, rB1.lt, HR2.out, rfl⟩
  case body =>
    rintro l pre x a' W hl ⟨r, hr⟩ ⟨⟨hp, rH1, rN1, rB1⟩, hB1⟩ ⟨Bx, hBx, rX, rfl⟩ hlt
    have hfx := HF.out _ x.2
    have HXL := Lib.hid (Tx.bRow_len x.1.k.hash hfx.2.1)
    have hat := Lv.at_ hfx (row_range rX)
    have hnum := hat.1
    have HHash : Hid (W.rangeAt Bx 35 (bRow x.1.k.hash).toList) := Lib.hid (by have := hat.2.2.2.2.1; rwa [Nat.zero_add] at this)
    have HRH := Lib.hid rH1
    have hx32 := hfx.2.1
    clear hat
    have cN := rN1.boxed
    have cB := rB1.boxed
    obtain ⟨cN1, cN2⟩ := cN
    obtain ⟨cB1, cB2⟩ := cB
    have HP := Lib.hid hp
    have HrN := Lib.hid rN1
    have HrB := Lib.hid rB1
    have HB1 := Lib.hid hB1
    clear hp rH1 rN1 rB1 hB1 rX hr hfx
    by_cases he : x.1.k.hash = h
    · have heq : ∀ W : World, (Op.equalIn 10000 42 (.agg (bRow x.1.k.hash)) (.agg (bRow h))).run Tryd.prog W = .ok true W := fun W => (hash_eq W _ _ hx32 h32).trans (by simp [he])
      have HE := Lib.hid he
      clear he hx32
      gi_wp2_with (first
      | ((with_reducible show wpListIn _ _ _ _ _ (⟨_, .load 42 (.tmp 10), _, _, _, _⟩ :: _) _ _); refine wpListIn_load_row rfl 42 (.tmp 10) rfl Bx 35 rfl (bRow x.1.k.hash).toList _ HHash.out Tryd.underlying42 rfl (by rw [hash_info, HXL.out]) ?_)
      | ((with_reducible show wpListIn _ _ _ _ _ (⟨_, .load 42 (.tmp 3), _, _, _, _⟩ :: _) _ _); refine wpListIn_load_row rfl 42 (.tmp 3) rfl w.heap.size 0 rfl (bRow h).toList _ (row_range HRH.out) Tryd.underlying42 rfl (by rw [hash_info, HHL.out]) ?_))
      have g1 := grownBy_set W (w.heap.size + 1) 0 (.int .i64 x.1.k.b.number)
      have g2 := grownBy_set (W.setCell ⟨w.heap.size + 1, 0, none⟩ (.int .i64 x.1.k.b.number)) (w.heap.size + 1 + 1) 0 (.bool true)
      exact ⟨((KeepsOthers.setCell _ _ _).trans (KeepsOthers.setCell _ _ _)).from _, ⟨⟨rfl, pre, x, rfl, HP.out, HE.out, (HrN.out.set 0 _ (by simp)).kept g2 (by simp)⟩, (HrB.out.kept g1 (by simp)).set 0 _ (by simp)⟩, (HB1.out.setCell (p := ⟨w.heap.size + 1, 0, none⟩) (by simp) _).setCell (p := ⟨w.heap.size + 1 + 1, 0, none⟩) (by simp; omega) _⟩
    · have heq : ∀ W : World, (Op.equalIn 10000 42 (.agg (bRow x.1.k.hash)) (.agg (bRow h))).run Tryd.prog W = .ok false W := fun W => (hash_eq W _ _ hx32 h32).trans (by simp [he])
      have HE := Lib.hid he
      clear he hx32
      gi_wp2_with (first
      | ((with_reducible show wpListIn _ _ _ _ _ (⟨_, .load 42 (.tmp 10), _, _, _, _⟩ :: _) _ _); refine wpListIn_load_row rfl 42 (.tmp 10) rfl Bx 35 rfl (bRow x.1.k.hash).toList _ HHash.out Tryd.underlying42 rfl (by rw [hash_info, HXL.out]) ?_)
      | ((with_reducible show wpListIn _ _ _ _ _ (⟨_, .load 42 (.tmp 3), _, _, _, _⟩ :: _) _ _); refine wpListIn_load_row rfl 42 (.tmp 3) rfl w.heap.size 0 rfl (bRow h).toList _ (row_range HRH.out) Tryd.underlying42 rfl (by rw [hash_info, HHL.out]) ?_))
      exact ⟨(KeepsOthers.refl _).from _, Below.refl _ _, ⟨fun y hy => (List.mem_append.1 hy).elim (HP.out y) (fun e => by rw [List.mem_singleton.1 e]; exact HE.out), HRH.out, HrN.out, HrB.out⟩, HB1.out⟩
  case done =>
    rintro D ys W hD rfl ⟨⟨hp, rH1, rN1, rB1⟩, hB1⟩ hK
    obtain ⟨cN1, cN2⟩ := rN1.boxed
    obtain ⟨cB1, cB2⟩ := rB1.boxed
    have HrN := Lib.hid rN1
    have HrB := Lib.hid rB1
    have HKd := Lib.hid hK
    clear rN1 rB1 hK rH1
    gi_wp2
    have g1 := grownBy_set W (w.heap.size + 1) 0 (.int .i64 0)
    have g2 := grownBy_set (W.setCell ⟨w.heap.size + 1, 0, none⟩ (.int .i64 0)) (w.heap.size + 1 + 1) 0 (.bool false)
    have hr1 := (HrN.out.set 0 (.int .i64 0) (by simp)).kept g2 (by simp)
    have hr2 := (HrB.out.kept g1 (by simp)).set 0 (.bool false) (by simp)
    have hK' := ((KeepsOthers.setCell W ⟨w.heap.size + 1, 0, none⟩ (.int .i64 0)).trans (KeepsOthers.setCell _ ⟨w.heap.size + 1 + 1, 0, none⟩ (.bool false))).same D _ HKd.out rfl
    refine ⟨by simp, .inl ⟨_, _, rfl, run_takeDeferred hK', ?_⟩⟩
    have k1 := cell_kept hr1.boxed.1 (grownBy_putObj' _ D (.deferred none)) (fun r e => by cases e; exact ⟨_, hK', rfl⟩)
    have k2 := cell_kept hr2.boxed.1 (grownBy_putObj' _ D (.deferred none)) (fun r e => by cases e; exact ⟨_, hK', rfl⟩)
    have hfd : Tr.find ls h = (0, false) := Tr.find_none (fun x hx => hp ⟨x, hx⟩ (List.mem_attach _ _))
    refine ⟨.tuple #[.int .i64 0, .bool false], ?_, by rw [hfd], ((hB1.setCell (p := ⟨w.heap.size + 1, 0, none⟩) (by simp) _).setCell (p := ⟨w.heap.size + 1 + 1, 0, none⟩) (by simp; omega) _).trans (belowK_b (w := w) (Nat.le_refl _) _ D _ _ (by omega) hK' rfl rfl)⟩
    simp [results, Tryd.f29, go_sem, k1, k2]
  case stop =>
    rintro D c pre W hD hpre ⟨⟨⟨rfl, pre', x, rfl, hp, hxh, rN1⟩, rB1⟩, hB1⟩ hK
    gi_wp2
    refine ⟨by simp, .inl ⟨_, _, rfl, run_takeDeferred hK, ?_⟩⟩
    have k1 := cell_kept rN1.boxed.1 (grownBy_putObj' _ D (.deferred none)) (fun r e => by cases e; exact ⟨_, hK, rfl⟩)
    have k2 := cell_kept rB1.boxed.1 (grownBy_putObj' _ D (.deferred none)) (fun r e => by cases e; exact ⟨_, hK, rfl⟩)
    have hfd : Tr.find ls h = (x.1.k.b.number, true) := by
      obtain ⟨post, hq⟩ := hpre
      have e := congrArg (List.map Subtype.val) hq
      rw [List.attach_map_subtype_val] at e
      have key : ∀ L : List Lv, L = pre'.map Subtype.val ++ x.1 :: post.map Subtype.val → Tr.find L h = (x.1.k.b.number, true) := by
        rintro _ rfl
        exact Tr.find_some (fun y hy => by
          obtain ⟨z, hz, rfl⟩ := List.mem_map.1 hy
          exact hp z hz) hxh
      exact key ls (e.symm.trans (by simp))
    refine ⟨.tuple #[.int .i64 x.1.k.b.number, .bool true], ?_, by rw [hfd], hB1.trans (belowK_b (w := w) (Nat.le_refl _) W D _ _ (by omega) hK rfl rfl)⟩
    simp [results, Tryd.f29, go_sem, k1, k2]
theorem find_any (w : World) (base P : Nat) (dp de : Int) (ls : List Lv) (hch : ChAt w base P dp de ls) (hne : ls ≠ []) (hl2 : ls.length ≤ 100000) (h : Tr.T8) (h32 : h.length = 32) :
    Calls Tryd.prog 29 #[.pointer (some ⟨P, 0, none⟩), .agg (bRow h)] w fun e W' => e = .returned (.tuple #[.int .i64 (Tr.find ls h).1, .bool (Tr.find ls h).2]) ∧ Below w.heap.size w W' :=
  (callsIn_wide (n := 3)).1 (find_in Fence.wide 3 trivial trivial trivial rfl (Nat.le_refl _) w base P dp de ls hch hne hl2 h h32)
end Go.Proofs.YtjeooegkfjlejaaDoor
