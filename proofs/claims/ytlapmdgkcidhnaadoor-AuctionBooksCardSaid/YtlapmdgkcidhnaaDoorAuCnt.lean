/- counting: which bids count. -/
import Derived.Test.YtlapmdgkcidhnaaDoorAuDel
import Derived.Great.BuildSlice
namespace Go.Proofs.YtlapmdgkcidhnaaDoor
open Go.RowKit
set_option linter.unusedVariables false
set_option linter.unusedSimpArgs false
set_option maxRecDepth 100000

namespace Au
/-- what an account has -/
def has (F : List Int) (a : Int) : Int := if a < (F.length : Int) then F.getD a.toNat 0 else 0
def okB (F : List Int) (r fl : Int) (b : Bd) : Bool := decide (b.check = 0 ∧ b.round = r ∧ fl ≤ b.amount ∧ b.amount ≤ has F b.who)
def cnt (F : List Int) (r fl : Int) (L : List Bd) : List Bd := counts (okB F r fl) Bd.who L
def met (out : List Bd) (j : Int) : Bool := out.any fun x => x.who == j
def metRow (out : List Bd) : List Value := (List.range 64).map fun j : Nat => .bool (met out j)
theorem metRow_len (out : List Bd) : (metRow out).length = 64 := by simp [metRow]
theorem metRow_at (out : List Bd) (j : Nat) (h : j < 64) : (metRow out)[j]? = some (.bool (met out j)) := by
  unfold metRow
  rw [List.getElem?_map, List.getElem?_range h]; rfl
theorem metRow_push (out : List Bd) (b : Bd) (j : Nat) (hb : b.who = (j : Int)) (hj : j < 64) : (metRow out).set j (.bool true) = metRow (out ++ [b]) := by
  apply List.ext_getElem?
  intro i
  by_cases hi : i < 64
  · rw [metRow_at _ i hi, List.getElem?_set, metRow_len]
    unfold met
    rw [List.any_append]
    by_cases e : j = i
    · subst e
      rw [if_pos rfl, if_pos hj]
      simp [hb]
    · rw [if_neg e]
      have := metRow_at out i hi
      rw [this]
      unfold met
      simp [hb]
      intro hji
      exact absurd (by omega) e
  · rw [List.getElem?_eq_none (by rw [List.length_set, metRow_len]; omega), List.getElem?_eq_none (by rw [metRow_len]; omega)]
theorem ok_of_check {b : Bd} (h : b.check = 0) : b.ok = true := by
  unfold Bd.check at h
  by_cases hk : b.ok = true
  · exact hk
  · rw [if_neg hk] at h; cases h
theorem cstep_no {ok : Bd → Bool} {out : List Bd} {b : Bd} (h : ok b = false) : cstep ok Bd.who out b = out := by unfold cstep; rw [h]; rfl
theorem cstep_met {ok : Bd → Bool} {out : List Bd} {b : Bd} (h : met out b.who = true) : cstep ok Bd.who out b = out := by
  unfold cstep; unfold met at h; rw [h]; simp
theorem cstep_yes {ok : Bd → Bool} {out : List Bd} {b : Bd} (h : ok b = true) (hm : met out b.who = false) : cstep ok Bd.who out b = out ++ [b] := by
  unfold cstep; unfold met at hm; rw [h, hm]; rfl
theorem okB_check {F : List Int} {r fl : Int} {b : Bd} (h : b.check ≠ 0) : okB F r fl b = false := decide_eq_false (fun ⟨h1, _⟩ => h h1)
theorem okB_round {F : List Int} {r fl : Int} {b : Bd} (h : b.round ≠ r) : okB F r fl b = false := decide_eq_false (fun ⟨_, h1, _⟩ => h h1)
theorem okB_floor {F : List Int} {r fl : Int} {b : Bd} (h : b.amount < fl) : okB F r fl b = false := decide_eq_false (fun ⟨_, _, h1, _⟩ => by omega)
theorem okB_has {F : List Int} {r fl : Int} {b : Bd} (h : has F b.who < b.amount) : okB F r fl b = false := decide_eq_false (fun ⟨_, _, _, h1⟩ => by omega)
theorem okB_yes {F : List Int} {r fl : Int} {b : Bd} (h0 : b.check = 0) (h1 : b.round = r) (h2 : fl ≤ b.amount) (h3 : b.amount ≤ has F b.who) : okB F r fl b = true := decide_eq_true ⟨h0, h1, h2, h3⟩
end Au
theorem en_info : (Tryd.prog.info? 97).map (fun i => (i.zero, i.size, i.bytes)) = some (some (.agg Au.enZ.toArray), 69, 112) := by kernel_rfl
theorem en_places : (Tryd.prog.underlying 97).map (fun d => match d with | .struct fields => fields.toList.mapM (fun f => (Tryd.prog.info? f.type).map fun i => (f.offset, i.size)) | _ => Option.none) = some (some [(0, 36), (36, 32), (68, 1)]) := by kernel_rfl
theorem en_zero : (Tryd.prog.info? 97).map (·.zero) = some (some (.agg Au.enZ.toArray)) := by kernel_rfl
theorem en_built (b : Bd) (hb : b.tag.length = 32) : Tryd.prog.built 97 [(0, .agg b.cells.toArray), (1, .agg (bRow (Au.sum b))), (2, S (Au.txt b))] = some (Au.en b).toArray := by
  have hE : ∀ parts, Tryd.prog.built 97 parts = Instr.fill (#[(0, 36), (36, 32), (68, 1)][·]?) Au.enZ.toArray parts := by
    intro parts
    obtain ⟨i0, hi, hz⟩ := Option.map_eq_some_iff.1 en_zero
    have hp := en_places
    rw [Tryd.underlying97] at hp
    simp only [Option.map_some, Option.some.injEq] at hp
    unfold Program.built
    rw [hi, Tryd.underlying97]
    simp only [hz, hp]
    rfl
  have hL := Au.enZ_len
  have hc := Bd.cells_len hb
  have hr := Tx.bRow_len _ (Au.sum_len b)
  rw [hE]
  rw [fill_step _ _ 0 _ b.cells _ 0 36 rfl (by simp [Value.cells]) hc (by rw [hL]; omega)]
  rw [fill_step _ _ 1 _ (bRow (Au.sum b)).toList _ 36 32 rfl (by simp [Value.cells]) hr (by simp only [List.length_append, List.length_take, List.length_drop, hL, hc]; omega)]
  rw [fill_step _ _ 2 _ [S (Au.txt b)] _ 68 1 rfl (by simp [Value.cells]) rfl (by simp only [List.length_append, List.length_take, List.length_drop, List.length_cons, List.length_nil, hL, hc, hr]; omega)]
  rw [fill_end]
  congr 1
  congr 1
  unfold Au.en
  rw [List.take_zero, List.nil_append, List.take_left' hc]
  have e1 : (b.cells ++ ((bRow (Au.sum b)).toList ++ (b.cells ++ Au.enZ.drop (0 + 36)).drop (36 + 32))).take 68 = b.cells ++ (bRow (Au.sum b)).toList := by
    rw [← List.append_assoc]
    exact List.take_left' (by rw [List.length_append, hc, hr])
  rw [e1, List.drop_of_length_le (by simp only [List.length_append, List.length_drop, hL, hc, hr]; omega), List.append_nil, List.append_assoc]
/-- bids in memory -/
def BdsIn (w : World) (B : Nat) (A : Option Addr) (l : List Bd) : Prop := l ≠ [] → ∃ g off, A = some ⟨g, off, none⟩ ∧ g < B ∧ ∀ i (h : i < l.length), w.rangeAt g (off + i * 36) l[i].cells
theorem BdsIn.below {w w' : World} {B : Nat} {A : Option Addr} {l : List Bd} (h : BdsIn w B A l) (hb : Below B w w') : BdsIn w' B A l := fun hne => by
  obtain ⟨g, off, e, hg, ha⟩ := h hne
  exact ⟨g, off, e, hg, fun i hi j v hv => (hb.cell (p := ⟨g, off + i * 36 + j, none⟩) hg).trans (ha i hi j v hv)⟩
theorem BdsIn.mono {w : World} {B B' : Nat} {A : Option Addr} {l : List Bd} (h : BdsIn w B A l) (hB : B ≤ B') : BdsIn w B' A l := fun hne => by
  obtain ⟨g, off, e, hg, ha⟩ := h hne
  exact ⟨g, off, e, by omega, ha⟩
theorem LsAt.bds {w : World} {B : Nat} {A : Option Addr} {l : List Bd} (h : LsAt Bd.cells 36 w B A l) : BdsIn w B A l := fun hne => by
  obtain ⟨g, e, hg, ha⟩ := h hne
  exact ⟨g, 0, e, hg, fun i hi => by rw [Nat.zero_add]; exact ha i hi⟩
/-- numbers in memory -/
def FnIn (w : World) (B : Nat) (A : Option Addr) (F : List Int) : Prop := F ≠ [] → ∃ g off, A = some ⟨g, off, none⟩ ∧ g < B ∧ ∀ i, i < F.length → w.cell? ⟨g, off + i, none⟩ = some (.int .i64 (F.getD i 0))
theorem FnIn.below {w w' : World} {B : Nat} {A : Option Addr} {l : List Int} (h : FnIn w B A l) (hb : Below B w w') : FnIn w' B A l := fun hne => by
  obtain ⟨g, off, e, hg, ha⟩ := h hne
  exact ⟨g, off, e, hg, fun i hi => (hb.cell (p := ⟨g, off + i, none⟩) hg).trans (ha i hi)⟩
theorem FnIn.mono {w : World} {B B' : Nat} {A : Option Addr} {l : List Int} (h : FnIn w B A l) (hB : B ≤ B') : FnIn w B' A l := fun hne => by
  obtain ⟨g, off, e, hg, ha⟩ := h hne
  exact ⟨g, off, e, by omega, ha⟩
/-- where counting stands -/
structure CtAt (w wr : World) (v : Value) (out mt : List Bd) : Prop where
  below : Below w.heap.size w wr
  met : Row wr w.heap.size 125 (Au.metRow mt)
  own : OwnL wr w.heap.size 97 69 Au.en v out
theorem CtAt.step {w wr w' : World} {v : Value} {out mt : List Bd} (h : CtAt w wr v out mt) (hb : Below wr.heap.size wr w') : CtAt w w' v out mt :=
  ⟨two_below' h.below hb, h.met.kept (grownBy_of_below hb none) (by simp), h.own.below hb⟩
theorem CtAt.put {w wr w' : World} {v : Value} {out mt : List Bd} {g : Nat} {T : TypeId} {xs : List Value} (h : CtAt w wr v out mt) (hr : Row wr g T xs) (h1 : T ≠ 125) (h2 : T ≠ 97) (hg : wr.grownBy w' (some g)) (hle : w.heap.size ≤ g) : CtAt w w' v out mt :=
  ⟨below_own h.below hg (fun k hk => by cases hk; exact hle), h.met.kept hg (fun e => row_ne_row hr h.met h1 (by injection e with e; exact e.symm)), h.own.kept hg (.inr (h.own.ne_block hr h2))⟩
theorem CtAt.mark {w wr : World} {v : Value} {out mt : List Bd} (b : Bd) (j : Nat) (hb : b.who = (j : Int)) (hj : j < 64) (h : CtAt w wr v out mt) : CtAt w (wr.setCell ⟨w.heap.size, j, none⟩ (.bool true)) v out (mt ++ [b]) := by
  have h1 := h.met.set j (.bool true) (by rw [Au.metRow_len]; exact hj)
  rw [Au.metRow_push mt b j hb hj] at h1
  exact ⟨below_own h.below (grownBy_set _ _ _ _) (fun k hk => by cases hk; exact Nat.le_refl _), h1, h.own.kept (grownBy_set _ _ _ _) (.inr (h.own.ne_block h.met (by decide)))⟩
theorem CtAt.metCell {w wr : World} {v : Value} {out mt : List Bd} (h : CtAt w wr v out mt) (j : Nat) (hj : j < 64) : wr.cell? ⟨w.heap.size, j, none⟩ = some (.bool (Au.met mt j)) := by
  have h1 := h.met.cell j (by rw [Au.metRow_len]; exact hj)
  rw [h1]
  have h2 := Au.metRow_at mt j hj
  rw [List.getElem?_eq_getElem (by rw [Au.metRow_len]; exact hj)] at h2
  exact h2
theorem fill_one15 (n : Nat) (z : Value) (C : List Value) (hC : C.length = n) : Instr.fill (fun i => some (i * n, n)) ((Array.range (1 * n)).map (z.cells[· % z.cells.size]!)) [(0, .agg C.toArray)] = some C.toArray := by
  have hl : ((Array.range (1 * n)).map (z.cells[· % z.cells.size]!)).toList.length = n := by simp
  have e : (Array.range (1 * n)).map (z.cells[· % z.cells.size]!) = ((Array.range (1 * n)).map (z.cells[· % z.cells.size]!)).toList.toArray := Array.toArray_toList.symm
  rw [e, fill_step _ _ 0 _ C _ 0 n (by simp) (by simp [Value.cells]) hC (by omega), fill_end]
  rw [List.take_zero, List.nil_append, List.drop_of_length_le (by omega), List.append_nil]
theorem bd_zv (W : World) : (zeroValue 30).run Tryd.prog W = .ok (.agg Bd.zero.cells.toArray) W := by kernel_rfl
theorem mt_zv (W : World) : (zeroValue 125).run Tryd.prog W = .ok (.agg (Au.metRow []).toArray) W := by kernel_rfl
set_option maxHeartbeats 6400000 in
theorem counting_any (l : List Bd) (hl : ∀ b ∈ l, b.tag.length = 32) (A : Option Addr) (c : Nat) (F : List Int) (A2 : Option Addr) (c2 : Nat) (r fl : Int) (w : World) (hA : BdsIn w w.heap.size A l) (hn0 : l.length ≤ 1000000) (hF : FnIn w w.heap.size A2 F) (hF0 : F.length ≤ 9223372036854775807) (hT : Tab w) :
    Calls Tryd.prog 46 #[.slice A l.length c, .slice A2 F.length c2, .int .i64 r, .int .i64 fl] w fun e w' => ∃ v, e = .returned v ∧ OwnL w' w.heap.size 97 69 Au.en v (Au.cnt F r fl l) ∧ Below w.heap.size w w' := by
  obtain ⟨i0, hi, h2⟩ := Option.map_eq_some_iff.1 en_info
  simp only [Prod.mk.injEq] at h2
  have Hi := Lib.hid hi
  have Hz := Lib.hid h2.1
  have Hsz := Lib.hid h2.2.1
  have Hby := Lib.hid h2.2.2
  clear hi h2
  obtain ⟨n, hn⟩ : ∃ n, n = l.length := ⟨_, rfl⟩
  have hL : ∀ k, k < n → (l.getD k Bd.zero).tag.length = 32 := fun k hk => hl _ (Au.getD_mem (by omega))
  have hA2 : ∀ k, k < n → ∃ g off, A = some ⟨g, off, none⟩ ∧ g < w.heap.size ∧ w.rangeAt g (off + k * 36) (l.getD k Bd.zero).cells := fun k hk => by
    obtain ⟨g, off, e, hg, ha⟩ := hA (by intro e; rw [e] at hn; simp at hn; omega)
    refine ⟨g, off, e, hg, ?_⟩
    rw [List.getD_eq_getElem?_getD, List.getElem?_eq_getElem (by omega)]
    exact ha k (by omega)
  obtain ⟨T, hTT⟩ : ∃ T, T = Au.countsTo (Au.okB F r fl) Bd.who l := ⟨_, rfl⟩
  obtain ⟨X, hX⟩ : ∃ X : Nat → Bd, X = fun k => l.getD k Bd.zero := ⟨_, rfl⟩
  have hX2 : ∀ k, l.getD k Bd.zero = X k := fun k => by rw [hX]
  have hs : ∀ k, k < n → T (k + 1) = Au.cstep (Au.okB F r fl) Bd.who (T k) (X k) := fun k hk => by
    rw [hTT, Au.countsTo_succ _ _ l k (by omega), ← hX2, List.getD_eq_getElem?_getD, List.getElem?_eq_getElem (by omega)]; rfl
  have hT0 : T 0 = [] := by rw [hTT]; rfl
  have hTl : ∀ k, (T k).length ≤ k := fun k => by rw [hTT]; exact Au.countsTo_len _ _ _ _
  have hTn : Au.cnt F r fl l = T n := by rw [hTT, hn]; exact (Au.countsTo_all _ _ _).symm
  rw [hTn, ← hn]
  rw [← hn] at hn0
  simp only [hX2] at hL hA2
  have HL := Lib.hid hL
  have HA := Lib.hid hA2
  have HSS := Lib.hid hs
  have HT0 := Lib.hid hT0
  have HTL := Lib.hid hTl
  have HT := Lib.hid hT
  have HP := Lib.hid hT.pos
  have hFA : ∀ j : Nat, j < F.length → ∃ g off, A2 = some ⟨g, off, none⟩ ∧ g < w.heap.size ∧ w.cell? ⟨g, off + j, none⟩ = some (.int .i64 (F.getD j 0)) := fun j hj => by
    obtain ⟨g, off, e, hg, ha⟩ := hF (by intro e; rw [e] at hj; simp at hj)
    exact ⟨g, off, e, hg, ha j hj⟩
  have HFA := Lib.hid hFA
  obtain ⟨q, hq⟩ : ∃ q, q = F.length := ⟨_, rfl⟩
  rw [← hq] at hF0 HFA ⊢
  have HQ := Lib.hid hq
  have HZ36 := Lib.hid (Bd.cells_len (b := Bd.zero) rfl)
  have HZE := Lib.hid Au.enZ_len
  have hzb := bd_zv
  have hzm := mt_zv
  have HC0 : Hid (CtAt w (w.alloc (.cells (Au.metRow []).toArray 125)) (.slice none 0 0) [] []) := Lib.hid ⟨(Below.refl _ _).alloc (Nat.le_refl _) _, Row.new w _ _, OwnL.nil _ _ _ _ _⟩
  clear hL hA2 hs hT0 hTl hTn hTT hX hX2 hA hl hn hT hF hFA hq
  generalize Bd.zero.cells = ZB at *
  generalize Au.enZ = ZE at *
  generalize Au.metRow [] = ZM at *
  go_enter Tryd.func46, Tryd.ntmps46
  go_wp2_with fail
  go_loopw [9, 18] (fun s9 s18 wr => ∃ (v : Value) (k : Nat), k ≤ n ∧ v = s9 ∧ s18 = .int .i64 k ∧ CtAt w wr v (T k) (T k)) (fun _ i _ => n - (intOf i).toNat)
  case atStart => exact ⟨_, 0, Nat.zero_le _, rfl, rfl, by rw [HT0.out]; exact HC0.out⟩
  case round =>
    clear HC0
    obtain ⟨v, k, hk, rfl, rfl, hC⟩ := hrel
    have HC := Lib.hid hC
    clear hC
    by_cases hkn : k < n
    · have hki : (k : Int) < (n : Int) := by omega
      have hk0 : (0 : Int) ≤ (k : Int) := by omega
      obtain ⟨g, off, rfl, hg, hat⟩ := HA.out k hkn
      have HRr : Hid (wr.rangeAt g (off + k * 36) (X k).cells) := Lib.hid (fun j u hu => (HC.out.below.cell (p := ⟨g, off + k * 36 + j, none⟩) hg).trans (hat j u hu))
      have HTk := Lib.hid (HL.out k hkn)
      have HK36 := Lib.hid (Bd.cells_len HTk.out)
      have HK1 := Lib.hid (Bd.cells_one HTk.out)
      have Hnew := Lib.hid (Row.new wr 30 ZB)
      have CB : Hid (∀ W, Tab W → Calls Tryd.prog 53 #[.agg (X k).cells.toArray] W fun e w' => e = .returned (.int .i64 (X k).check) ∧ Below W.heap.size W w') := Lib.hid (fun W hW => checkBid_any (X k) HTk.out W hW)
      have CW : Hid (∀ W, Calls Tryd.prog 70 #[.agg (X k).cells.toArray] W fun e w' => e = .returned (.tuple #[S (X k).textE.1, .int .i64 (X k).textE.2]) ∧ Below W.heap.size W w') := Lib.hid (fun W => writeBid_any (X k) HTk.out W)
      have SU : Hid (∀ W, Tab W → Calls Tryd.prog 71 #[S (Au.txt (X k))] W fun e w' => e = .returned (.agg (bRow (Au.sum (X k)))) ∧ Below W.heap.size W w') := Lib.hid (fun W hW => sum_any ⟨(Au.txt (X k)).toArray⟩ W hW (by
        have := Bd.text_len (X k)
        show (Au.txt (X k)).length ≤ _
        unfold Au.txt
        omega))
      have HCell : Hid (∀ W g, Row W g 30 (X k).cells → W.cell? ⟨g, 0, none⟩ = some (.int .i64 (X k).round) ∧ W.cell? ⟨g, 1, none⟩ = some (.int .i64 (X k).who) ∧ W.cell? ⟨g, 2, none⟩ = some (.int .i64 (X k).amount)) := Lib.hid (fun W g h => ⟨h.cell 0 (by rw [HK36.out]; omega), h.cell 1 (by rw [HK36.out]; omega), h.cell 2 (by rw [HK36.out]; omega)⟩)
      have HBU := Lib.hid (en_built (X k) HTk.out)
      have HEC := Lib.hid (Au.en_len HTk.out)
      have HE1 := Lib.hid (Au.en_one HTk.out)
      have HS := Lib.hid (HSS.out k hkn)
      have HTLk := Lib.hid (HTL.out k)
      obtain ⟨CK, hCK⟩ : ∃ CK, (X k).cells = CK := ⟨_, rfl⟩
      rw [hCK] at HRr HK36 HK1 CB CW HCell HBU
      clear hCK hat HA HSS HTL HL
      by_cases q0 : (X k).check = 0
      rotate_left
      · have e0 : ((X k).check != 0) = true := by simpa using q0
        have HNO := Lib.hid (Au.cstep_no (out := T k) (Au.okB_check (F := F) (r := r) (fl := fl) q0))
        clear q0
        generalize (X k).check = ck at *
        go_wp2_with (first
          | ((with_reducible show wpList _ _ _ (⟨_, .load 30 (.tmp 20), _, _, _, _⟩ :: _) _ _); refine wpList_load_tx rfl 30 (.tmp 20) rfl g (off + k * 36) (by first | rfl | simp) CK _ (HRr.out) Tryd.underlying30 rfl (by rw [bid_info, HK36.out]) ?_)
          | (
             with_reducible show wpList _ _ _ (⟨_, .store 30 (.tmp 12) _, _, _, _, _⟩ :: _) _ _
             refine wpList_store_at rfl 30 (.tmp 12) (.tmp 21) rfl wr.heap.size 0 CK ZB _ rfl rfl (Hnew.out) (by have := HZ36.out; have := HK36.out; omega) (by rw [bid_info, HK36.out]) HK1.out ?_
             intro w4 hr hg
             rw [splice_all (HK36.out.trans HZ36.out.symm)] at hr
             have Hr4 := Lib.hid hr
             have HC4 := Lib.hid ((HC.out.step ((Below.refl _ _).alloc (Nat.le_refl _) (.cells ZB.toArray 30))).put (Row.new wr 30 ZB) (by decide) (by decide) hg HC.out.below.size)
             clear hr hg)
          | ((with_reducible show wpList _ _ _ (⟨_, .load 30 (.tmp 12), _, _, _, _⟩ :: _) _ _); refine wpList_load_tx rfl 30 (.tmp 12) rfl wr.heap.size 0 (rfl) CK _ (row_range Hr4.out) Tryd.underlying30 rfl (by rw [bid_info, HK36.out]) ?_))
        refine (CB.out w4 (HT.out.below HC4.out.below HP.out)).mono ?_
        rintro _ w5 ⟨rfl, hb5⟩
        have hr5 := Hr4.out.kept (grownBy_of_below hb5 none) (by simp)
        obtain ⟨c0, c1, c2⟩ := HCell.out _ _ hr5
        have Hr5 := Lib.hid hr5
        have HC5 := Lib.hid (HC4.out.step hb5)
        clear hb5 hr5
        go_wp2_with fail
        exact ⟨⟨_, k + 1, by omega, rfl, by go_num, by rw [HS.out, HNO.out]; exact HC5.out⟩, by simp [intOf]; omega⟩
      have hok := Au.ok_of_check q0
      rw [q0] at CB
      by_cases q1 : (X k).round = r
      rotate_left
      · have e0 : ((X k).round != r) = true := by simpa using q1
        have HNO := Lib.hid (Au.cstep_no (out := T k) (Au.okB_round (F := F) (r := r) (fl := fl) q1))
        clear q1 q0 hok
        generalize (X k).round = xr at *
        go_wp2_with (first
          | ((with_reducible show wpList _ _ _ (⟨_, .load 30 (.tmp 20), _, _, _, _⟩ :: _) _ _); refine wpList_load_tx rfl 30 (.tmp 20) rfl g (off + k * 36) (by first | rfl | simp) CK _ (HRr.out) Tryd.underlying30 rfl (by rw [bid_info, HK36.out]) ?_)
          | (
             with_reducible show wpList _ _ _ (⟨_, .store 30 (.tmp 12) _, _, _, _, _⟩ :: _) _ _
             refine wpList_store_at rfl 30 (.tmp 12) (.tmp 21) rfl wr.heap.size 0 CK ZB _ rfl rfl (Hnew.out) (by have := HZ36.out; have := HK36.out; omega) (by rw [bid_info, HK36.out]) HK1.out ?_
             intro w4 hr hg
             rw [splice_all (HK36.out.trans HZ36.out.symm)] at hr
             have Hr4 := Lib.hid hr
             have HC4 := Lib.hid ((HC.out.step ((Below.refl _ _).alloc (Nat.le_refl _) (.cells ZB.toArray 30))).put (Row.new wr 30 ZB) (by decide) (by decide) hg HC.out.below.size)
             clear hr hg)
          | ((with_reducible show wpList _ _ _ (⟨_, .load 30 (.tmp 12), _, _, _, _⟩ :: _) _ _); refine wpList_load_tx rfl 30 (.tmp 12) rfl wr.heap.size 0 (rfl) CK _ (row_range Hr4.out) Tryd.underlying30 rfl (by rw [bid_info, HK36.out]) ?_))
        refine (CB.out w4 (HT.out.below HC4.out.below HP.out)).mono ?_
        rintro _ w5 ⟨rfl, hb5⟩
        have hr5 := Hr4.out.kept (grownBy_of_below hb5 none) (by simp)
        obtain ⟨c0, c1, c2⟩ := HCell.out _ _ hr5
        have Hr5 := Lib.hid hr5
        have HC5 := Lib.hid (HC4.out.step hb5)
        clear hb5 hr5
        go_wp2_with fail
        exact ⟨⟨_, k + 1, by omega, rfl, by go_num, by rw [HS.out, HNO.out]; exact HC5.out⟩, by simp [intOf]; omega⟩
      have e1 : ((X k).round != r) = false := by simpa using q1
      by_cases q2 : (X k).amount < fl
      · have e2 : decide ((X k).amount < fl) = true := by simpa using q2
        have HNO := Lib.hid (Au.cstep_no (out := T k) (Au.okB_floor (F := F) (r := r) q2))
        clear q1 q0 q2 hok
        generalize (X k).round = xr at *
        generalize (X k).amount = xa at *
        go_wp2_with (first
          | ((with_reducible show wpList _ _ _ (⟨_, .load 30 (.tmp 20), _, _, _, _⟩ :: _) _ _); refine wpList_load_tx rfl 30 (.tmp 20) rfl g (off + k * 36) (by first | rfl | simp) CK _ (HRr.out) Tryd.underlying30 rfl (by rw [bid_info, HK36.out]) ?_)
          | (
             with_reducible show wpList _ _ _ (⟨_, .store 30 (.tmp 12) _, _, _, _, _⟩ :: _) _ _
             refine wpList_store_at rfl 30 (.tmp 12) (.tmp 21) rfl wr.heap.size 0 CK ZB _ rfl rfl (Hnew.out) (by have := HZ36.out; have := HK36.out; omega) (by rw [bid_info, HK36.out]) HK1.out ?_
             intro w4 hr hg
             rw [splice_all (HK36.out.trans HZ36.out.symm)] at hr
             have Hr4 := Lib.hid hr
             have HC4 := Lib.hid ((HC.out.step ((Below.refl _ _).alloc (Nat.le_refl _) (.cells ZB.toArray 30))).put (Row.new wr 30 ZB) (by decide) (by decide) hg HC.out.below.size)
             clear hr hg)
          | ((with_reducible show wpList _ _ _ (⟨_, .load 30 (.tmp 12), _, _, _, _⟩ :: _) _ _); refine wpList_load_tx rfl 30 (.tmp 12) rfl wr.heap.size 0 (rfl) CK _ (row_range Hr4.out) Tryd.underlying30 rfl (by rw [bid_info, HK36.out]) ?_))
        refine (CB.out w4 (HT.out.below HC4.out.below HP.out)).mono ?_
        rintro _ w5 ⟨rfl, hb5⟩
        have hr5 := Hr4.out.kept (grownBy_of_below hb5 none) (by simp)
        obtain ⟨c0, c1, c2⟩ := HCell.out _ _ hr5
        have Hr5 := Lib.hid hr5
        have HC5 := Lib.hid (HC4.out.step hb5)
        clear hb5 hr5
        go_wp2_with fail
        exact ⟨⟨_, k + 1, by omega, rfl, by go_num, by rw [HS.out, HNO.out]; exact HC5.out⟩, by simp [intOf]; omega⟩
      have e2 : decide ((X k).amount < fl) = false := by simpa using q2
      have hw := (Bd.ok_iff (X k)).1 hok
      obtain ⟨j, hj⟩ : ∃ j : Nat, (X k).who = (j : Int) := ⟨(X k).who.toNat, by omega⟩
      have hj64 : j < 64 := by omega
      have hji : (j : Int) < 64 := by omega
      have hj0 : (0 : Int) ≤ (j : Int) := by omega
      have Hj := Lib.hid hj
      rw [hj] at HCell
      cases q3 : Au.met (T k) (j : Int) with
      | true =>
        have HNO := Lib.hid (Au.cstep_met (ok := Au.okB F r fl) (b := X k) (out := T k) (by rw [hj]; exact q3))
        have HM3 := Lib.hid q3
        clear q1 q0 q2 hok hw hj q3
        generalize (X k).round = xr at *
        generalize (X k).amount = xa at *
        go_wp2_with (first
          | ((with_reducible show wpList _ _ _ (⟨_, .load 30 (.tmp 20), _, _, _, _⟩ :: _) _ _); refine wpList_load_tx rfl 30 (.tmp 20) rfl g (off + k * 36) (by first | rfl | simp) CK _ (HRr.out) Tryd.underlying30 rfl (by rw [bid_info, HK36.out]) ?_)
          | (
             with_reducible show wpList _ _ _ (⟨_, .store 30 (.tmp 12) _, _, _, _, _⟩ :: _) _ _
             refine wpList_store_at rfl 30 (.tmp 12) (.tmp 21) rfl wr.heap.size 0 CK ZB _ rfl rfl (Hnew.out) (by have := HZ36.out; have := HK36.out; omega) (by rw [bid_info, HK36.out]) HK1.out ?_
             intro w4 hr hg
             rw [splice_all (HK36.out.trans HZ36.out.symm)] at hr
             have Hr4 := Lib.hid hr
             have HC4 := Lib.hid ((HC.out.step ((Below.refl _ _).alloc (Nat.le_refl _) (.cells ZB.toArray 30))).put (Row.new wr 30 ZB) (by decide) (by decide) hg HC.out.below.size)
             clear hr hg)
          | ((with_reducible show wpList _ _ _ (⟨_, .load 30 (.tmp 12), _, _, _, _⟩ :: _) _ _); refine wpList_load_tx rfl 30 (.tmp 12) rfl wr.heap.size 0 (rfl) CK _ (row_range Hr4.out) Tryd.underlying30 rfl (by rw [bid_info, HK36.out]) ?_))
        refine (CB.out w4 (HT.out.below HC4.out.below HP.out)).mono ?_
        rintro _ w5 ⟨rfl, hb5⟩
        have hr5 := Hr4.out.kept (grownBy_of_below hb5 none) (by simp)
        obtain ⟨c0, c1, c2⟩ := HCell.out _ _ hr5
        have Hr5 := Lib.hid hr5
        have HC5 := Lib.hid (HC4.out.step hb5)
        clear hb5 hr5
        have c3 := HC5.out.metCell j hj64
        rw [HM3.out] at c3
        go_wp2_with fail
        exact ⟨⟨_, k + 1, by omega, rfl, by go_num, by rw [HS.out, HNO.out]; exact HC5.out⟩, by simp [intOf]; omega⟩
      | false =>
        have HM3 := Lib.hid q3
        obtain ⟨hv, hhv⟩ : ∃ hv, hv = Au.has F (j : Int) := ⟨_, rfl⟩
        have HHV := Lib.hid hhv
        clear hhv
        have hcase : (j < q ∧ ∃ g off, A2 = some ⟨g, off, none⟩ ∧ g < w.heap.size ∧ w.cell? ⟨g, off + j, none⟩ = some (.int .i64 hv)) ∨ (¬ j < q ∧ hv = 0) := by
          by_cases h : j < q
          · obtain ⟨g2, off2, e, h1, h2⟩ := HFA.out j h
            refine .inl ⟨h, g2, off2, e, h1, ?_⟩
            rw [HHV.out, h2]
            unfold Au.has
            rw [if_pos (by rw [← HQ.out]; omega)]
            rfl
          · refine .inr ⟨h, ?_⟩
            rw [HHV.out]
            unfold Au.has
            rw [if_neg (by rw [← HQ.out]; omega)]
        by_cases q4 : hv < (X k).amount
        · have e4 : decide (hv < (X k).amount) = true := by simpa using q4
          have HNO := Lib.hid (Au.cstep_no (out := T k) (Au.okB_has (F := F) (r := r) (fl := fl) (b := X k) (by rw [hj, ← HHV.out]; exact q4)))
          clear q1 q0 q2 hok hw hj q3 q4 HHV HFA
          generalize (X k).round = xr at *
          generalize (X k).amount = xa at *
          rcases hcase with ⟨hjq, g2, off2, rfl, hg2, hc2⟩ | ⟨hjq, rfl⟩
          · have hjqi : (j : Int) < (q : Int) := by omega
            have Hc2 := Lib.hid hc2
            clear hc2
            go_wp2_with (first
              | ((with_reducible show wpList _ _ _ (⟨_, .load 30 (.tmp 20), _, _, _, _⟩ :: _) _ _); refine wpList_load_tx rfl 30 (.tmp 20) rfl g (off + k * 36) (by first | rfl | simp) CK _ (HRr.out) Tryd.underlying30 rfl (by rw [bid_info, HK36.out]) ?_)
              | (
                 with_reducible show wpList _ _ _ (⟨_, .store 30 (.tmp 12) _, _, _, _, _⟩ :: _) _ _
                 refine wpList_store_at rfl 30 (.tmp 12) (.tmp 21) rfl wr.heap.size 0 CK ZB _ rfl rfl (Hnew.out) (by have := HZ36.out; have := HK36.out; omega) (by rw [bid_info, HK36.out]) HK1.out ?_
                 intro w4 hr hg
                 rw [splice_all (HK36.out.trans HZ36.out.symm)] at hr
                 have Hr4 := Lib.hid hr
                 have HC4 := Lib.hid ((HC.out.step ((Below.refl _ _).alloc (Nat.le_refl _) (.cells ZB.toArray 30))).put (Row.new wr 30 ZB) (by decide) (by decide) hg HC.out.below.size)
                 clear hr hg)
              | ((with_reducible show wpList _ _ _ (⟨_, .load 30 (.tmp 12), _, _, _, _⟩ :: _) _ _); refine wpList_load_tx rfl 30 (.tmp 12) rfl wr.heap.size 0 (rfl) CK _ (row_range Hr4.out) Tryd.underlying30 rfl (by rw [bid_info, HK36.out]) ?_))
            refine (CB.out w4 (HT.out.below HC4.out.below HP.out)).mono ?_
            rintro _ w5 ⟨rfl, hb5⟩
            have hr5 := Hr4.out.kept (grownBy_of_below hb5 none) (by simp)
            obtain ⟨c0, c1, c2⟩ := HCell.out _ _ hr5
            have Hr5 := Lib.hid hr5
            have HC5 := Lib.hid (HC4.out.step hb5)
            clear hb5 hr5
            have c3 := HC5.out.metCell j hj64
            rw [HM3.out] at c3
            have c4 := (HC5.out.below.cell (p := ⟨g2, off2 + j, none⟩) hg2).trans Hc2.out
            go_wp2_with fail
            exact ⟨⟨_, k + 1, by omega, rfl, by go_num, by rw [HS.out, HNO.out]; exact HC5.out⟩, by simp [intOf]; omega⟩
          · have hjqi : ¬ (j : Int) < (q : Int) := by omega
            go_wp2_with (first
              | ((with_reducible show wpList _ _ _ (⟨_, .load 30 (.tmp 20), _, _, _, _⟩ :: _) _ _); refine wpList_load_tx rfl 30 (.tmp 20) rfl g (off + k * 36) (by first | rfl | simp) CK _ (HRr.out) Tryd.underlying30 rfl (by rw [bid_info, HK36.out]) ?_)
              | (
                 with_reducible show wpList _ _ _ (⟨_, .store 30 (.tmp 12) _, _, _, _, _⟩ :: _) _ _
                 refine wpList_store_at rfl 30 (.tmp 12) (.tmp 21) rfl wr.heap.size 0 CK ZB _ rfl rfl (Hnew.out) (by have := HZ36.out; have := HK36.out; omega) (by rw [bid_info, HK36.out]) HK1.out ?_
                 intro w4 hr hg
                 rw [splice_all (HK36.out.trans HZ36.out.symm)] at hr
                 have Hr4 := Lib.hid hr
                 have HC4 := Lib.hid ((HC.out.step ((Below.refl _ _).alloc (Nat.le_refl _) (.cells ZB.toArray 30))).put (Row.new wr 30 ZB) (by decide) (by decide) hg HC.out.below.size)
                 clear hr hg)
              | ((with_reducible show wpList _ _ _ (⟨_, .load 30 (.tmp 12), _, _, _, _⟩ :: _) _ _); refine wpList_load_tx rfl 30 (.tmp 12) rfl wr.heap.size 0 (rfl) CK _ (row_range Hr4.out) Tryd.underlying30 rfl (by rw [bid_info, HK36.out]) ?_))
            refine (CB.out w4 (HT.out.below HC4.out.below HP.out)).mono ?_
            rintro _ w5 ⟨rfl, hb5⟩
            have hr5 := Hr4.out.kept (grownBy_of_below hb5 none) (by simp)
            obtain ⟨c0, c1, c2⟩ := HCell.out _ _ hr5
            have Hr5 := Lib.hid hr5
            have HC5 := Lib.hid (HC4.out.step hb5)
            clear hb5 hr5
            have c3 := HC5.out.metCell j hj64
            rw [HM3.out] at c3
            go_wp2_with fail
            exact ⟨⟨_, k + 1, by omega, rfl, by go_num, by rw [HS.out, HNO.out]; exact HC5.out⟩, by simp [intOf]; omega⟩
        · have e4 : decide (hv < (X k).amount) = false := by simpa using q4
          have HYES := Lib.hid (Au.cstep_yes (out := T k) (Au.okB_yes (F := F) (r := r) (fl := fl) (b := X k) q0 q1 (by omega) (by rw [hj, ← HHV.out]; omega)) (by rw [hj]; exact q3))
          clear q1 q0 q2 hok hw hj q3 q4 HHV HFA
          have hk63 : (T k).length + 1 ≤ maxLen := by have := HTLk.out; unfold maxLen; omega
          have hk48 : (((T k).length + 1) + ((T k).length + 1) / 4 + 192) * 112 ≤ 281474976710656 := by have := HTLk.out; omega
          obtain ⟨MR, hMR⟩ : ∃ MR, MR = Au.metRow (T k ++ [X k]) := ⟨_, rfl⟩
          obtain ⟨EC, hEC⟩ : ∃ EC, Au.en (X k) = EC := ⟨_, rfl⟩
          obtain ⟨SM, hSM⟩ : ∃ SM, Au.sum (X k) = SM := ⟨_, rfl⟩
          obtain ⟨TX, hTX⟩ : ∃ TX, Au.txt (X k) = TX := ⟨_, rfl⟩
          have hTX2 : (X k).textE.1 = TX := hTX
          rw [hEC, hSM, hTX] at HBU
          rw [hEC] at HEC HE1
          rw [hSM, hTX] at SU
          rw [hTX2] at CW
          have HMR := Lib.hid hMR.symm
          have HEX := Lib.hid hEC
          clear hMR hEC hSM hTX hTX2
          generalize (X k).round = xr at *
          generalize (X k).amount = xa at *
          generalize (X k).textE.2 = te at *
          rcases hcase with ⟨hjq, g2, off2, rfl, hg2, hc2⟩ | ⟨hjq, rfl⟩
          · have hjqi : (j : Int) < (q : Int) := by omega
            have Hc2 := Lib.hid hc2
            clear hc2
            go_wp2_with (first
              | ((with_reducible show wpList _ _ _ (⟨_, .load 30 (.tmp 20), _, _, _, _⟩ :: _) _ _); refine wpList_load_tx rfl 30 (.tmp 20) rfl g (off + k * 36) (by first | rfl | simp) CK _ (HRr.out) Tryd.underlying30 rfl (by rw [bid_info, HK36.out]) ?_)
              | (
                 with_reducible show wpList _ _ _ (⟨_, .store 30 (.tmp 12) _, _, _, _, _⟩ :: _) _ _
                 refine wpList_store_at rfl 30 (.tmp 12) (.tmp 21) rfl wr.heap.size 0 CK ZB _ rfl rfl (Hnew.out) (by have := HZ36.out; have := HK36.out; omega) (by rw [bid_info, HK36.out]) HK1.out ?_
                 intro w4 hr hg
                 rw [splice_all (HK36.out.trans HZ36.out.symm)] at hr
                 have Hr4 := Lib.hid hr
                 have HC4 := Lib.hid ((HC.out.step ((Below.refl _ _).alloc (Nat.le_refl _) (.cells ZB.toArray 30))).put (Row.new wr 30 ZB) (by decide) (by decide) hg HC.out.below.size)
                 clear hr hg)
              | ((with_reducible show wpList _ _ _ (⟨_, .load 30 (.tmp 12), _, _, _, _⟩ :: _) _ _); refine wpList_load_tx rfl 30 (.tmp 12) rfl wr.heap.size 0 (rfl) CK _ (row_range Hr4.out) Tryd.underlying30 rfl (by rw [bid_info, HK36.out]) ?_))
            refine (CB.out w4 (HT.out.below HC4.out.below HP.out)).mono ?_
            rintro _ w5 ⟨rfl, hb5⟩
            have hr5 := Hr4.out.kept (grownBy_of_below hb5 none) (by simp)
            obtain ⟨c0, c1, c2⟩ := HCell.out _ _ hr5
            have Hr5 := Lib.hid hr5
            have HC5 := Lib.hid (HC4.out.step hb5)
            clear hb5 hr5
            have c3 := HC5.out.metCell j hj64
            rw [HM3.out] at c3
            have c4 := (HC5.out.below.cell (p := ⟨g2, off2 + j, none⟩) hg2).trans Hc2.out
            have f3 := HC5.out.met.free j
            have HC6 := Lib.hid (HC5.out.mark (X k) j Hj.out hj64)
            have Hr6 := Lib.hid (Hr5.out.kept (grownBy_set w5 w.heap.size j (.bool true)) (fun e => row_ne_row Hr5.out HC5.out.met (by decide) (by injection e)))
            go_wp2_with ((with_reducible show wpList _ _ _ (⟨_, .load 30 (.tmp 12), _, _, _, _⟩ :: _) _ _); refine wpList_load_tx rfl 30 (.tmp 12) rfl wr.heap.size 0 (rfl) CK _ (row_range Hr6.out) Tryd.underlying30 rfl (by rw [bid_info, HK36.out]) ?_)
            refine (CW.out _).mono ?_
            rintro _ w8 ⟨rfl, hb8⟩
            have Hr8 := Lib.hid (Hr6.out.kept (grownBy_of_below hb8 none) (by simp))
            have HC8 := Lib.hid (HC6.out.step hb8)
            clear hb8 c0 c1 c2 c3 f3
            go_wp2_with fail
            have HMR2 := Lib.hid HC8.out.met
            rw [HMR.out] at HMR2
            generalize wr.heap.size = g12 at *
            refine wp_region_held_drew (S := fun w' => Row w' g12 30 CK ∧ Row w' w.heap.size 125 MR ∧ Below w.heap.size w w') (by kernel_rfl) (⟨Hr8.out.kept (grownBy_drew _ none) (by simp), HMR2.out.kept (grownBy_drew _ none) (by simp), HC8.out.below.drew⟩) (fun hHeld => ?_)
            have HOq := Lib.hid (HC8.out.own.kept (grownBy_drew w8 none) (by cases v.ownBlock <;> simp))
            generalize w8.drew = wq at *
            refine wpAnyH_take (i := 0) (v := v) rfl (by kernel_rfl) (by kernel_rfl) (by kernel_rfl) (fun _ _ _ h => h) (Or.inl ⟨by rfl, fun w' hSw => by go_simp⟩) hHeld ?_
            try simp only [Act.put, List.getElem_toArray, List.getElem_cons_succ, List.getElem_cons_zero, List.setIfInBounds_toArray, List.set_cons_zero, List.set_cons_succ]
            refine' wpAnyH_take (i := 1) (v := _) rfl (by kernel_rfl) (by kernel_rfl) (by kernel_rfl) (fun _ _ _ h => h) (yieldsIf_load_mid (by rfl) _ _ rfl g12 0 rfl CK _ (fun w' hSw => row_range hSw.1) Tryd.underlying30 rfl (by rw [bid_info, HK36.out])) hHeld ?_
            try simp only [Act.put, List.getElem_toArray, List.getElem_cons_succ, List.getElem_cons_zero, List.setIfInBounds_toArray, List.set_cons_zero, List.set_cons_succ]
            refine wpAnyH_take (i := 2) (v := S TX) rfl (by kernel_rfl) (by kernel_rfl) (by kernel_rfl) (fun _ _ _ h => h) (Or.inl ⟨by rfl, fun w' hSw => by go_simp⟩) hHeld ?_
            try simp only [Act.put, List.getElem_toArray, List.getElem_cons_succ, List.getElem_cons_zero, List.setIfInBounds_toArray, List.set_cons_zero, List.set_cons_succ]
            refine wpAnyH_take (i := 4) (v := S TX) rfl (by kernel_rfl) (by kernel_rfl) (by kernel_rfl) (fun _ _ _ h => h) (Or.inl ⟨by rfl, fun w' hSw => by go_simp⟩) hHeld ?_
            try simp only [Act.put, List.getElem_toArray, List.getElem_cons_succ, List.getElem_cons_zero, List.setIfInBounds_toArray, List.set_cons_zero, List.set_cons_succ]
            refine wpAnyH_ready (rs := [3]) (by kernel_rfl) (by simp) (AllReadyH.cons rfl (fun K1 hK1 => ?_) AllReadyH.nil)
            try simp only [Act.put, List.getElem_toArray, List.getElem_cons_succ, List.getElem_cons_zero, List.setIfInBounds_toArray, List.set_cons_zero, List.set_cons_succ]
            go_simp
            refine Calls.mono (SU.out _ (HT.out.below hHeld.2.2 HP.out)) ?_
            rintro e wa ⟨rfl, hba⟩
            have HOa := Lib.hid (HOq.out.below hba)
            refine hK1.out _ _ (⟨hHeld.1.kept (grownBy_of_below hba none) (by simp), hHeld.2.1.kept (grownBy_of_below hba none) (by simp), two_below' hHeld.2.2 hba⟩) (fun hHeld => ?_)
            clear hK1 K1
            try simp only [Act.put, List.getElem_toArray, List.getElem_cons_succ, List.getElem_cons_zero, List.setIfInBounds_toArray, List.set_cons_zero, List.set_cons_succ]
            clear hba
            refine' wpAnyH_take (i := 5) (v := .agg EC.toArray) rfl (by kernel_rfl) (by kernel_rfl) (by kernel_rfl) (fun _ _ _ h => h) (yieldsIf_buildL (by rfl) 97 [(0, .tmp 66), (1, .tmp 68), (2, .tmp 69)] rfl [(0, .agg CK.toArray), (1, .agg (bRow SM)), (2, S TX)] rfl EC.toArray HBU.out) hHeld ?_
            try simp only [Act.put, List.getElem_toArray, List.getElem_cons_succ, List.getElem_cons_zero, List.setIfInBounds_toArray, List.set_cons_zero, List.set_cons_succ]
            refine wpAnyH_ready (rs := [6]) (by kernel_rfl) (by simp) (AllReadyH.cons rfl (fun K1 hK1 => ?_) AllReadyH.nil)
            try simp only [Act.put, List.getElem_toArray, List.getElem_cons_succ, List.getElem_cons_zero, List.setIfInBounds_toArray, List.set_cons_zero, List.set_cons_succ]
            rw [if_pos (by rfl)]
            refine wp_buildSlice 93 97 1 _ rfl EC.toArray i0 (.agg ZE.toArray) Tryd.underlying93 Hi.out Hz.out (by rw [Hsz.out]; decide) (by rw [Hsz.out]; decide) (by rw [Hsz.out, Array.toList_map]; exact fill_one15 69 (.agg ZE.toArray) EC HEC.out) ?_
            have hbn := (Below.refl wa.heap.size wa).alloc (Nat.le_refl _) (.cells EC.toArray 97)
            have HNew := Lib.hid (row_news (Row.new wa 97 EC))
            have HOb := Lib.hid (HOa.out.own.alloc (.cells EC.toArray 97))
            have hHeld2 : Row (wa.alloc (.cells EC.toArray 97)) g12 30 CK ∧ Row (wa.alloc (.cells EC.toArray 97)) w.heap.size 125 MR ∧ Below w.heap.size w (wa.alloc (.cells EC.toArray 97)) := ⟨hHeld.1.kept (grownBy_of_below hbn none) (by simp), hHeld.2.1.kept (grownBy_of_below hbn none) (by simp), two_below' hHeld.2.2 hbn⟩
            have Hbb := Lib.hid hHeld2.2.2
            refine hK1.out _ _ (hHeld2) (fun hHeld => ?_)
            clear hK1 K1
            try simp only [Act.put, List.getElem_toArray, List.getElem_cons_succ, List.getElem_cons_zero, List.setIfInBounds_toArray, List.set_cons_zero, List.set_cons_succ]
            clear hHeld2 hbn
            refine wpAnyH_ready (rs := [7]) (by kernel_rfl) (by simp) (AllReadyH.cons rfl (fun K1 hK1 => ?_) AllReadyH.nil)
            try simp only [Act.put, List.getElem_toArray, List.getElem_cons_succ, List.getElem_cons_zero, List.setIfInBounds_toArray, List.set_cons_zero, List.set_cons_succ]
            rw [if_pos (by rfl)]
            refine wp_append_own_wide _ _ _ 93 rfl w.heap.size 97 i0 (.agg ZE.toArray) 69 112 Tryd.underlying93 Hi.out Hz.out Hsz.out Hby.out (by rw [← HZE.out]; rfl) (by decide) v _ _ rfl HOb.out ⟨wa.heap.size, 0, none⟩ 1 1 EC rfl (by rw [HEC.out]) HNew.out HE1.out hk63 hk48 Hbb.out.size ?_
            intro v' wc hownc hgrowc _
            obtain ⟨gc, cpc, rfl⟩ := ownsRow_succ hownc
            have hbc := below_row Hbb.out Hbb.out.size HOb.out hgrowc
            have hr1c := hHeld.1.kept hgrowc (fun e => (OwnL.mk HOb.out : OwnL _ _ 97 69 Au.en v (T k)).ne_block hHeld.1 (by decide) e.symm)
            have hr2c := hHeld.2.1.kept hgrowc (fun e => (OwnL.mk HOb.out : OwnL _ _ 97 69 Au.en v (T k)).ne_block hHeld.2.1 (by decide) e.symm)
            have HCn : Hid (CtAt w wc (.slice (some ⟨gc, 0, none⟩) ((T k).length + 1) cpc) (T k ++ [X k]) (T k ++ [X k])) := Lib.hid ⟨hbc, by rw [HMR.out]; exact hr2c, OwnL.pushed (by rw [HEX.out]; exact hownc)⟩
            clear hownc hgrowc
            refine hK1.out _ _ (⟨hr1c, hr2c, hbc⟩) (fun hHeld => ?_)
            clear hK1 K1
            try simp only [Act.put, List.getElem_toArray, List.getElem_cons_succ, List.getElem_cons_zero, List.setIfInBounds_toArray, List.set_cons_zero, List.set_cons_succ]
            clear hr1c hr2c hbc
            refine wpAnyH_take (i := 8) (v := .slice (some ⟨gc, 0, none⟩) ((T k).length + 1) cpc) rfl (by kernel_rfl) (by kernel_rfl) (by kernel_rfl) (fun _ _ _ h => h) (Or.inl ⟨by rfl, fun w' hSw => by go_simp⟩) hHeld ?_
            try simp only [Act.put, List.getElem_toArray, List.getElem_cons_succ, List.getElem_cons_zero, List.setIfInBounds_toArray, List.set_cons_zero, List.set_cons_succ]
            refine wpAnyH_done (by kernel_rfl) ?_ _
            clear hHeld
            go_wp2_with fail
            exact ⟨⟨_, k + 1, by omega, rfl, by go_num, by rw [HS.out, HYES.out]; exact HCn.out⟩, by simp [intOf]; omega⟩
          · have hjqi : ¬ (j : Int) < (q : Int) := by omega
            go_wp2_with (first
              | ((with_reducible show wpList _ _ _ (⟨_, .load 30 (.tmp 20), _, _, _, _⟩ :: _) _ _); refine wpList_load_tx rfl 30 (.tmp 20) rfl g (off + k * 36) (by first | rfl | simp) CK _ (HRr.out) Tryd.underlying30 rfl (by rw [bid_info, HK36.out]) ?_)
              | (
                 with_reducible show wpList _ _ _ (⟨_, .store 30 (.tmp 12) _, _, _, _, _⟩ :: _) _ _
                 refine wpList_store_at rfl 30 (.tmp 12) (.tmp 21) rfl wr.heap.size 0 CK ZB _ rfl rfl (Hnew.out) (by have := HZ36.out; have := HK36.out; omega) (by rw [bid_info, HK36.out]) HK1.out ?_
                 intro w4 hr hg
                 rw [splice_all (HK36.out.trans HZ36.out.symm)] at hr
                 have Hr4 := Lib.hid hr
                 have HC4 := Lib.hid ((HC.out.step ((Below.refl _ _).alloc (Nat.le_refl _) (.cells ZB.toArray 30))).put (Row.new wr 30 ZB) (by decide) (by decide) hg HC.out.below.size)
                 clear hr hg)
              | ((with_reducible show wpList _ _ _ (⟨_, .load 30 (.tmp 12), _, _, _, _⟩ :: _) _ _); refine wpList_load_tx rfl 30 (.tmp 12) rfl wr.heap.size 0 (rfl) CK _ (row_range Hr4.out) Tryd.underlying30 rfl (by rw [bid_info, HK36.out]) ?_))
            refine (CB.out w4 (HT.out.below HC4.out.below HP.out)).mono ?_
            rintro _ w5 ⟨rfl, hb5⟩
            have hr5 := Hr4.out.kept (grownBy_of_below hb5 none) (by simp)
            obtain ⟨c0, c1, c2⟩ := HCell.out _ _ hr5
            have Hr5 := Lib.hid hr5
            have HC5 := Lib.hid (HC4.out.step hb5)
            clear hb5 hr5
            have c3 := HC5.out.metCell j hj64
            rw [HM3.out] at c3
            have f3 := HC5.out.met.free j
            have HC6 := Lib.hid (HC5.out.mark (X k) j Hj.out hj64)
            have Hr6 := Lib.hid (Hr5.out.kept (grownBy_set w5 w.heap.size j (.bool true)) (fun e => row_ne_row Hr5.out HC5.out.met (by decide) (by injection e)))
            go_wp2_with ((with_reducible show wpList _ _ _ (⟨_, .load 30 (.tmp 12), _, _, _, _⟩ :: _) _ _); refine wpList_load_tx rfl 30 (.tmp 12) rfl wr.heap.size 0 (rfl) CK _ (row_range Hr6.out) Tryd.underlying30 rfl (by rw [bid_info, HK36.out]) ?_)
            refine (CW.out _).mono ?_
            rintro _ w8 ⟨rfl, hb8⟩
            have Hr8 := Lib.hid (Hr6.out.kept (grownBy_of_below hb8 none) (by simp))
            have HC8 := Lib.hid (HC6.out.step hb8)
            clear hb8 c0 c1 c2 c3 f3
            go_wp2_with fail
            have HMR2 := Lib.hid HC8.out.met
            rw [HMR.out] at HMR2
            generalize wr.heap.size = g12 at *
            refine wp_region_held_drew (S := fun w' => Row w' g12 30 CK ∧ Row w' w.heap.size 125 MR ∧ Below w.heap.size w w') (by kernel_rfl) (⟨Hr8.out.kept (grownBy_drew _ none) (by simp), HMR2.out.kept (grownBy_drew _ none) (by simp), HC8.out.below.drew⟩) (fun hHeld => ?_)
            have HOq := Lib.hid (HC8.out.own.kept (grownBy_drew w8 none) (by cases v.ownBlock <;> simp))
            generalize w8.drew = wq at *
            refine wpAnyH_take (i := 0) (v := v) rfl (by kernel_rfl) (by kernel_rfl) (by kernel_rfl) (fun _ _ _ h => h) (Or.inl ⟨by rfl, fun w' hSw => by go_simp⟩) hHeld ?_
            try simp only [Act.put, List.getElem_toArray, List.getElem_cons_succ, List.getElem_cons_zero, List.setIfInBounds_toArray, List.set_cons_zero, List.set_cons_succ]
            refine' wpAnyH_take (i := 1) (v := _) rfl (by kernel_rfl) (by kernel_rfl) (by kernel_rfl) (fun _ _ _ h => h) (yieldsIf_load_mid (by rfl) _ _ rfl g12 0 rfl CK _ (fun w' hSw => row_range hSw.1) Tryd.underlying30 rfl (by rw [bid_info, HK36.out])) hHeld ?_
            try simp only [Act.put, List.getElem_toArray, List.getElem_cons_succ, List.getElem_cons_zero, List.setIfInBounds_toArray, List.set_cons_zero, List.set_cons_succ]
            refine wpAnyH_take (i := 2) (v := S TX) rfl (by kernel_rfl) (by kernel_rfl) (by kernel_rfl) (fun _ _ _ h => h) (Or.inl ⟨by rfl, fun w' hSw => by go_simp⟩) hHeld ?_
            try simp only [Act.put, List.getElem_toArray, List.getElem_cons_succ, List.getElem_cons_zero, List.setIfInBounds_toArray, List.set_cons_zero, List.set_cons_succ]
            refine wpAnyH_take (i := 4) (v := S TX) rfl (by kernel_rfl) (by kernel_rfl) (by kernel_rfl) (fun _ _ _ h => h) (Or.inl ⟨by rfl, fun w' hSw => by go_simp⟩) hHeld ?_
            try simp only [Act.put, List.getElem_toArray, List.getElem_cons_succ, List.getElem_cons_zero, List.setIfInBounds_toArray, List.set_cons_zero, List.set_cons_succ]
            refine wpAnyH_ready (rs := [3]) (by kernel_rfl) (by simp) (AllReadyH.cons rfl (fun K1 hK1 => ?_) AllReadyH.nil)
            try simp only [Act.put, List.getElem_toArray, List.getElem_cons_succ, List.getElem_cons_zero, List.setIfInBounds_toArray, List.set_cons_zero, List.set_cons_succ]
            go_simp
            refine Calls.mono (SU.out _ (HT.out.below hHeld.2.2 HP.out)) ?_
            rintro e wa ⟨rfl, hba⟩
            have HOa := Lib.hid (HOq.out.below hba)
            refine hK1.out _ _ (⟨hHeld.1.kept (grownBy_of_below hba none) (by simp), hHeld.2.1.kept (grownBy_of_below hba none) (by simp), two_below' hHeld.2.2 hba⟩) (fun hHeld => ?_)
            clear hK1 K1
            try simp only [Act.put, List.getElem_toArray, List.getElem_cons_succ, List.getElem_cons_zero, List.setIfInBounds_toArray, List.set_cons_zero, List.set_cons_succ]
            clear hba
            refine' wpAnyH_take (i := 5) (v := .agg EC.toArray) rfl (by kernel_rfl) (by kernel_rfl) (by kernel_rfl) (fun _ _ _ h => h) (yieldsIf_buildL (by rfl) 97 [(0, .tmp 66), (1, .tmp 68), (2, .tmp 69)] rfl [(0, .agg CK.toArray), (1, .agg (bRow SM)), (2, S TX)] rfl EC.toArray HBU.out) hHeld ?_
            try simp only [Act.put, List.getElem_toArray, List.getElem_cons_succ, List.getElem_cons_zero, List.setIfInBounds_toArray, List.set_cons_zero, List.set_cons_succ]
            refine wpAnyH_ready (rs := [6]) (by kernel_rfl) (by simp) (AllReadyH.cons rfl (fun K1 hK1 => ?_) AllReadyH.nil)
            try simp only [Act.put, List.getElem_toArray, List.getElem_cons_succ, List.getElem_cons_zero, List.setIfInBounds_toArray, List.set_cons_zero, List.set_cons_succ]
            rw [if_pos (by rfl)]
            refine wp_buildSlice 93 97 1 _ rfl EC.toArray i0 (.agg ZE.toArray) Tryd.underlying93 Hi.out Hz.out (by rw [Hsz.out]; decide) (by rw [Hsz.out]; decide) (by rw [Hsz.out, Array.toList_map]; exact fill_one15 69 (.agg ZE.toArray) EC HEC.out) ?_
            have hbn := (Below.refl wa.heap.size wa).alloc (Nat.le_refl _) (.cells EC.toArray 97)
            have HNew := Lib.hid (row_news (Row.new wa 97 EC))
            have HOb := Lib.hid (HOa.out.own.alloc (.cells EC.toArray 97))
            have hHeld2 : Row (wa.alloc (.cells EC.toArray 97)) g12 30 CK ∧ Row (wa.alloc (.cells EC.toArray 97)) w.heap.size 125 MR ∧ Below w.heap.size w (wa.alloc (.cells EC.toArray 97)) := ⟨hHeld.1.kept (grownBy_of_below hbn none) (by simp), hHeld.2.1.kept (grownBy_of_below hbn none) (by simp), two_below' hHeld.2.2 hbn⟩
            have Hbb := Lib.hid hHeld2.2.2
            refine hK1.out _ _ (hHeld2) (fun hHeld => ?_)
            clear hK1 K1
            try simp only [Act.put, List.getElem_toArray, List.getElem_cons_succ, List.getElem_cons_zero, List.setIfInBounds_toArray, List.set_cons_zero, List.set_cons_succ]
            clear hHeld2 hbn
            refine wpAnyH_ready (rs := [7]) (by kernel_rfl) (by simp) (AllReadyH.cons rfl (fun K1 hK1 => ?_) AllReadyH.nil)
            try simp only [Act.put, List.getElem_toArray, List.getElem_cons_succ, List.getElem_cons_zero, List.setIfInBounds_toArray, List.set_cons_zero, List.set_cons_succ]
            rw [if_pos (by rfl)]
            refine wp_append_own_wide _ _ _ 93 rfl w.heap.size 97 i0 (.agg ZE.toArray) 69 112 Tryd.underlying93 Hi.out Hz.out Hsz.out Hby.out (by rw [← HZE.out]; rfl) (by decide) v _ _ rfl HOb.out ⟨wa.heap.size, 0, none⟩ 1 1 EC rfl (by rw [HEC.out]) HNew.out HE1.out hk63 hk48 Hbb.out.size ?_
            intro v' wc hownc hgrowc _
            obtain ⟨gc, cpc, rfl⟩ := ownsRow_succ hownc
            have hbc := below_row Hbb.out Hbb.out.size HOb.out hgrowc
            have hr1c := hHeld.1.kept hgrowc (fun e => (OwnL.mk HOb.out : OwnL _ _ 97 69 Au.en v (T k)).ne_block hHeld.1 (by decide) e.symm)
            have hr2c := hHeld.2.1.kept hgrowc (fun e => (OwnL.mk HOb.out : OwnL _ _ 97 69 Au.en v (T k)).ne_block hHeld.2.1 (by decide) e.symm)
            have HCn : Hid (CtAt w wc (.slice (some ⟨gc, 0, none⟩) ((T k).length + 1) cpc) (T k ++ [X k]) (T k ++ [X k])) := Lib.hid ⟨hbc, by rw [HMR.out]; exact hr2c, OwnL.pushed (by rw [HEX.out]; exact hownc)⟩
            clear hownc hgrowc
            refine hK1.out _ _ (⟨hr1c, hr2c, hbc⟩) (fun hHeld => ?_)
            clear hK1 K1
            try simp only [Act.put, List.getElem_toArray, List.getElem_cons_succ, List.getElem_cons_zero, List.setIfInBounds_toArray, List.set_cons_zero, List.set_cons_succ]
            clear hr1c hr2c hbc
            refine wpAnyH_take (i := 8) (v := .slice (some ⟨gc, 0, none⟩) ((T k).length + 1) cpc) rfl (by kernel_rfl) (by kernel_rfl) (by kernel_rfl) (fun _ _ _ h => h) (Or.inl ⟨by rfl, fun w' hSw => by go_simp⟩) hHeld ?_
            try simp only [Act.put, List.getElem_toArray, List.getElem_cons_succ, List.getElem_cons_zero, List.setIfInBounds_toArray, List.set_cons_zero, List.set_cons_succ]
            refine wpAnyH_done (by kernel_rfl) ?_ _
            clear hHeld
            go_wp2_with fail
            exact ⟨⟨_, k + 1, by omega, rfl, by go_num, by rw [HS.out, HYES.out]; exact HCn.out⟩, by simp [intOf]; omega⟩
    · have hki : ¬ (k : Int) < (n : Int) := by omega
      have e : k = n := by omega
      subst e
      go_wp2_with fail
      go_ret
      exact ⟨v, rfl, HC.out.own, HC.out.below⟩
end Go.Proofs.YtlapmdgkcidhnaaDoor
