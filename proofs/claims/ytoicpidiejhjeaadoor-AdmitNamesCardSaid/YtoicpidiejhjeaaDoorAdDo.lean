/- The law's do: a call of both gates. -/
import Derived.Test.YtoicpidiejhjeaaDoorAdCon
namespace Go.Proofs.YtoicpidiejhjeaaDoor
open Go.RowKit Go.Maps
set_option linter.unusedVariables false
set_option linter.unusedSimpArgs false
set_option maxRecDepth 100000

theorem act17_info : (Tryd.prog.info? 37).map (·.size) = some 74 := by kernel_rfl
/-- some bool -/
def RetB (e : Ending) : Prop := ∃ b : Bool, e = .returned (.bool b)
/-- both gates, whatever they hold -/
def AllE (w wr : World) (B M X K : Nat) (fl : Int) (n m : Nat) : Prop := ∃ g v N L, AllG w wr B M X K fl g n v N L m
theorem AllE.below {w wr W : World} {B M X K n m : Nat} {fl : Int} (h : AllE w wr B M X K fl n m) (hb : Below wr.heap.size wr W) : AllE w W B M X K fl n m := by
  obtain ⟨g, v, N, L, h⟩ := h
  exact ⟨g, v, N, L, h.below hb⟩
theorem AllE.mono {w wr : World} {B M X K n m n' m' : Nat} {fl : Int} (h : AllE w wr B M X K fl n m) (hn : n ≤ n') (hm : m ≤ m') : AllE w wr B M X K fl n' m' := by
  obtain ⟨g, v, N, L, h⟩ := h
  exact ⟨g, v, N, L, h.mono hn hm⟩
set_option maxHeartbeats 3200000 in
theorem do17_any (hRS : RefSum) {w wr : World} {B M X K n m : Nat} {fl : Int} {g : Ad.G} {v : Value} {N : List Int} {L : List Tx} (a : Act17) (ha : a.Fits) (h : AllG w wr B M X K fl g n v N L m) (hT : Tab w) (hn : n ≤ 900) (hm : m ≤ 890) :
    Calls Tryd.prog 9 #[.pointer (some ⟨B, 0, none⟩), .pointer (some ⟨X, 0, none⟩), .agg a.cells.toArray] wr fun e w' => RetB e ∧ AllE w w' B M X K fl (n + 2) (m + 1) := by
  have hb : Below wr.heap.size wr (wr.alloc (.cells a.cells.toArray 37)) := (Below.refl _ _).alloc (Nat.le_refl _) _
  have HT1 := Lib.hid (h.below hb)
  have HR0 := Lib.hid (Row.new wr 37 a.cells)
  have HNR : Hid (¬ RGS X K v wr.heap.size) := Lib.hid (fun hk => absurd (h.ref.lt _ hk).2 (Nat.lt_irrefl _))
  have HCa : Hid (∀ (W : World) (g : Nat), Row W g 37 a.cells → W.cell? ⟨g, 0, none⟩ = some (.int .i64 a.kind) ∧ W.cell? ⟨g, 1, none⟩ = some (.string a.s)) := Lib.hid (fun W g h => ⟨by have := row_range h 0 (.int .i64 a.kind) rfl; simpa using this, by have := row_range h 1 (.string a.s) rfl; simpa using this⟩)
  have hs := ha.s
  have hs9 : a.s.size ≤ 9223372036854775807 := by omega
  have HTab := Lib.hid hT
  have HOf := Lib.hid (fun W => of17_any a ha W)
  have HEn : Hid (∀ W, AllG w W B M X K fl g n v N L m → Calls Tryd.prog 12 #[.pointer (some ⟨B, 0, none⟩), .string a.s] W fun e w' => e = .returned (.tuple #[.agg (Ad.askT g a.s.data.toList).cells.toArray, .int .i64 (Ad.askE g a.s.data.toList)]) ∧ AllG w w' B M X K fl (Ad.enter g a.s.data.toList) (n + 1) v N L m ∧ KeepsG W w') := Lib.hid (fun W hW => hW.enterS hT a.s hs9 (by omega))
  have HAs : Hid (∀ W, AllG w W B M X K fl g n v N L m → Calls Tryd.prog 11 #[.pointer (some ⟨B, 0, none⟩), .string a.s] W fun e w' => e = .returned (.tuple #[.agg (Ad.askT g a.s.data.toList).cells.toArray, .int .i64 (Ad.askE g a.s.data.toList)]) ∧ AllG w w' B M X K fl g n v N L m ∧ Below W.heap.size W w') := Lib.hid (fun W hW => hW.askS hT a.s hs9)
  have HREn : Hid (∀ W, AllG w W B M X K fl (Ad.enter g a.s.data.toList) (n + 1) v N L m → Calls Tryd.prog 15 #[.pointer (some ⟨X, 0, none⟩), .string a.s] W fun e w' => (∃ (t : Tx) (i : Int), t.Ok ∧ e = .returned (.tuple #[.agg t.cells.toArray, .int .i64 i])) ∧ (∃ v' L', AllG w w' B M X K fl (Ad.enter g a.s.data.toList) (n + 1) v' N L' (m + 1)) ∧ StaysG X K v W w') := Lib.hid (fun W hW => hW.renterS hRS a.s hs (by omega))
  have HRAs : Hid (∀ W, AllG w W B M X K fl g n v N L m → Calls Tryd.prog 20 #[.pointer (some ⟨X, 0, none⟩), .string a.s] W fun e w' => (∃ (t : Tx) (i : Int), t.Ok ∧ e = .returned (.tuple #[.agg t.cells.toArray, .int .i64 i])) ∧ AllG w w' B M X K fl g n v N L m ∧ Below W.heap.size W w') := Lib.hid (fun W hW => hW.raskS hRS a.s hs (by omega))
  have HTk := Lib.hid (Ad.askT_ok g a.s.data.toList)
  have HA74 := Lib.hid (Act17.cells_len ha)
  have HZ72 := Lib.hid (Tx.cells_length Tx.none_ok)
  have hzv : ∀ W : World, (zeroValue 35).run Tryd.prog W = .ok (.agg Tx.none.cells.toArray) W := tx_zv
  clear hb h hs hs9 ha hT
  generalize Ad.askT g a.s.data.toList = T at *
  generalize Ad.askE g a.s.data.toList = E at *
  generalize Ad.enter g a.s.data.toList = G at *
  have HT72 := Lib.hid (Tx.cells_length HTk.out)
  have HT1c := Lib.hid (Tx.cells_one HTk.out)
  obtain ⟨CT, hCT⟩ : ∃ CT, T.cells = CT := ⟨_, rfl⟩
  rw [hCT] at HEn HAs HT72 HT1c
  have HCT := Lib.hid hCT
  clear hCT
  generalize Tx.none.cells = ZT at *
  generalize a.cells = C at *
  generalize a.s = s at *
  generalize a.kind = kd at *
  have k0 := (HCa.out _ _ HR0.out).1
  have c1 := (HCa.out _ _ HR0.out).2
  by_cases h0 : kd = 0
  · subst h0
    go_enter Tryd.func9, Tryd.ntmps9
    go_wp2_with fail
    clear k0
    refine (HEn.out _ HT1.out).mono ?_
    rintro _ w2 ⟨rfl, hT2, hk2⟩
    have HT2 := Lib.hid hT2
    have HR2 := Lib.hid (hk2 _ _ _ (by decide) HR0.out)
    clear hT2 hk2 c1
    have HN7 : Hid (¬ RGS X K v w2.heap.size) := Lib.hid (fun hk => absurd (HT2.out.ref.lt _ hk).2 (Nat.lt_irrefl _))
    go_wp2_with (
       with_reducible show wpList _ _ _ (⟨_, .store 35 (.tmp 7) _, _, _, _, _⟩ :: _) _ _
       refine wpList_store_at rfl 35 (.tmp 7) (.tmp 26) rfl w2.heap.size 0 CT ZT _ rfl rfl (Row.new w2 35 ZT) (by have := HZ72.out; have := HT72.out; omega) (by rw [tx_info, HT72.out]) HT1c.out ?_
       intro w3 hr hg
       rw [splice_all (HT72.out.trans HZ72.out.symm)] at hr
       have hbx := below_own ((Below.refl w2.heap.size w2).alloc (Nat.le_refl _) (.cells ZT.toArray 35)) hg (fun k hk => by cases hk; exact Nat.le_refl _)
       have HT3 := Lib.hid (HT2.out.below hbx)
       have HQ3 := Lib.hid hr
       have c3 := (HCa.out _ _ (HR2.out.below hbx)).2
       clear hbx
       clear hr hg)
    refine (HREn.out _ HT3.out).mono ?_
    rintro _ w4 ⟨⟨u, i, hu, rfl⟩, hE4, hs4⟩
    have HE4 : Hid (AllE w w4 B M X K fl (n + 1) (m + 1)) := by
      obtain ⟨v', L', h4⟩ := hE4
      exact Lib.hid ⟨_, _, _, _, h4⟩
    have HQ4 := Lib.hid (hs4 _ _ _ HN7.out HQ3.out)
    clear hE4 hs4 c3
    obtain ⟨r, heq⟩ : ∃ r : Bool, ∀ W : World, (Op.equalIn 10000 35 (.agg CT.toArray) (.agg u.cells.toArray)).run Tryd.prog W = .ok r W := by
      rw [← HCT.out]
      by_cases h : T = u
      · exact ⟨true, fun W => tx_eq_yes W HTk.out hu h⟩
      · exact ⟨false, fun W => tx_eq_no W HTk.out hu h⟩
    have HU72 := Lib.hid (Tx.cells_length hu)
    have HU1 := Lib.hid (Tx.cells_one hu)
    clear hu
    generalize u.cells = CU at *
    cases r with
    | false =>
      go_wp2_with (first
        | (
           with_reducible show wpList _ _ _ (⟨_, .store 35 (.tmp 9) _, _, _, _, _⟩ :: _) _ _
           refine wpList_store_at rfl 35 (.tmp 9) (.tmp 33) rfl w4.heap.size 0 CU ZT _ rfl rfl (Row.new w4 35 ZT) (by have := HZ72.out; have := HU72.out; omega) (by rw [tx_info, HU72.out]) HU1.out ?_
           intro w5 hr hg
           rw [splice_all (HU72.out.trans HZ72.out.symm)] at hr
           have hbx := below_own ((Below.refl w4.heap.size w4).alloc (Nat.le_refl _) (.cells ZT.toArray 35)) hg (fun k hk => by cases hk; exact Nat.le_refl _)
           have HE5 := Lib.hid (HE4.out.below hbx)
           have HQ5 := Lib.hid (HQ4.out.below hbx)
           have HP5 := Lib.hid hr
           clear hbx
           clear hr hg)
        | ((with_reducible show wpList _ _ _ (⟨_, .load 35 (.tmp 7), _, _, _, _⟩ :: _) _ _); refine wpList_load_tx rfl 35 (.tmp 7) rfl w2.heap.size 0 rfl CT _ (row_range (HQ5.out)) Tryd.underlying35 rfl (by rw [tx_info, HT72.out]) ?_)
        | ((with_reducible show wpList _ _ _ (⟨_, .load 35 (.tmp 9), _, _, _, _⟩ :: _) _ _); refine wpList_load_tx rfl 35 (.tmp 9) rfl w4.heap.size 0 rfl CU _ (row_range (HP5.out)) Tryd.underlying35 rfl (by rw [tx_info, HU72.out]) ?_))
      go_ret
      exact ⟨⟨_, rfl⟩, HE5.out.mono (by omega) (by omega)⟩
    | true =>
      go_wp2_with (first
        | (
           with_reducible show wpList _ _ _ (⟨_, .store 35 (.tmp 9) _, _, _, _, _⟩ :: _) _ _
           refine wpList_store_at rfl 35 (.tmp 9) (.tmp 33) rfl w4.heap.size 0 CU ZT _ rfl rfl (Row.new w4 35 ZT) (by have := HZ72.out; have := HU72.out; omega) (by rw [tx_info, HU72.out]) HU1.out ?_
           intro w5 hr hg
           rw [splice_all (HU72.out.trans HZ72.out.symm)] at hr
           have hbx := below_own ((Below.refl w4.heap.size w4).alloc (Nat.le_refl _) (.cells ZT.toArray 35)) hg (fun k hk => by cases hk; exact Nat.le_refl _)
           have HE5 := Lib.hid (HE4.out.below hbx)
           have HQ5 := Lib.hid (HQ4.out.below hbx)
           have HP5 := Lib.hid hr
           clear hbx
           clear hr hg)
        | ((with_reducible show wpList _ _ _ (⟨_, .load 35 (.tmp 7), _, _, _, _⟩ :: _) _ _); refine wpList_load_tx rfl 35 (.tmp 7) rfl w2.heap.size 0 rfl CT _ (row_range (HQ5.out)) Tryd.underlying35 rfl (by rw [tx_info, HT72.out]) ?_)
        | ((with_reducible show wpList _ _ _ (⟨_, .load 35 (.tmp 9), _, _, _, _⟩ :: _) _ _); refine wpList_load_tx rfl 35 (.tmp 9) rfl w4.heap.size 0 rfl CU _ (row_range (HP5.out)) Tryd.underlying35 rfl (by rw [tx_info, HU72.out]) ?_))
      go_ret
      exact ⟨⟨_, rfl⟩, HE5.out.mono (by omega) (by omega)⟩
  have b0 : (kd == 0) = false := by simpa using h0
  by_cases h1 : kd = 1
  · subst h1
    clear b0 h0
    go_enter Tryd.func9, Tryd.ntmps9
    go_wp2_with fail
    clear k0
    refine (HEn.out _ HT1.out).mono ?_
    rintro _ w2 ⟨rfl, hT2, hk2⟩
    have HT2 := Lib.hid hT2
    have HR2 := Lib.hid (hk2 _ _ _ (by decide) HR0.out)
    clear hT2 hk2 c1
    have HN7 : Hid (¬ RGS X K v w2.heap.size) := Lib.hid (fun hk => absurd (HT2.out.ref.lt _ hk).2 (Nat.lt_irrefl _))
    go_wp2_with (
       with_reducible show wpList _ _ _ (⟨_, .store 35 (.tmp 7) _, _, _, _, _⟩ :: _) _ _
       refine wpList_store_at rfl 35 (.tmp 7) (.tmp 26) rfl w2.heap.size 0 CT ZT _ rfl rfl (Row.new w2 35 ZT) (by have := HZ72.out; have := HT72.out; omega) (by rw [tx_info, HT72.out]) HT1c.out ?_
       intro w3 hr hg
       rw [splice_all (HT72.out.trans HZ72.out.symm)] at hr
       have hbx := below_own ((Below.refl w2.heap.size w2).alloc (Nat.le_refl _) (.cells ZT.toArray 35)) hg (fun k hk => by cases hk; exact Nat.le_refl _)
       have HT3 := Lib.hid (HT2.out.below hbx)
       have HQ3 := Lib.hid hr
       have c3 := (HCa.out _ _ (HR2.out.below hbx)).2
       clear hbx
       clear hr hg)
    refine (HREn.out _ HT3.out).mono ?_
    rintro _ w4 ⟨⟨u, i, hu, rfl⟩, hE4, hs4⟩
    have HE4 : Hid (AllE w w4 B M X K fl (n + 1) (m + 1)) := by
      obtain ⟨v', L', h4⟩ := hE4
      exact Lib.hid ⟨_, _, _, _, h4⟩
    have HQ4 := Lib.hid (hs4 _ _ _ HN7.out HQ3.out)
    clear hE4 hs4 c3
    obtain ⟨r, heq⟩ : ∃ r : Bool, ∀ W : World, (Op.equalIn 10000 35 (.agg CT.toArray) (.agg u.cells.toArray)).run Tryd.prog W = .ok r W := by
      rw [← HCT.out]
      by_cases h : T = u
      · exact ⟨true, fun W => tx_eq_yes W HTk.out hu h⟩
      · exact ⟨false, fun W => tx_eq_no W HTk.out hu h⟩
    have HU72 := Lib.hid (Tx.cells_length hu)
    have HU1 := Lib.hid (Tx.cells_one hu)
    clear hu
    generalize u.cells = CU at *
    cases r with
    | false =>
      go_wp2_with (first
        | (
           with_reducible show wpList _ _ _ (⟨_, .store 35 (.tmp 9) _, _, _, _, _⟩ :: _) _ _
           refine wpList_store_at rfl 35 (.tmp 9) (.tmp 33) rfl w4.heap.size 0 CU ZT _ rfl rfl (Row.new w4 35 ZT) (by have := HZ72.out; have := HU72.out; omega) (by rw [tx_info, HU72.out]) HU1.out ?_
           intro w5 hr hg
           rw [splice_all (HU72.out.trans HZ72.out.symm)] at hr
           have hbx := below_own ((Below.refl w4.heap.size w4).alloc (Nat.le_refl _) (.cells ZT.toArray 35)) hg (fun k hk => by cases hk; exact Nat.le_refl _)
           have HE5 := Lib.hid (HE4.out.below hbx)
           have HQ5 := Lib.hid (HQ4.out.below hbx)
           have HP5 := Lib.hid hr
           clear hbx
           clear hr hg)
        | ((with_reducible show wpList _ _ _ (⟨_, .load 35 (.tmp 7), _, _, _, _⟩ :: _) _ _); refine wpList_load_tx rfl 35 (.tmp 7) rfl w2.heap.size 0 rfl CT _ (row_range (HQ5.out)) Tryd.underlying35 rfl (by rw [tx_info, HT72.out]) ?_)
        | ((with_reducible show wpList _ _ _ (⟨_, .load 35 (.tmp 9), _, _, _, _⟩ :: _) _ _); refine wpList_load_tx rfl 35 (.tmp 9) rfl w4.heap.size 0 rfl CU _ (row_range (HP5.out)) Tryd.underlying35 rfl (by rw [tx_info, HU72.out]) ?_))
      go_ret
      exact ⟨⟨_, rfl⟩, HE5.out.mono (by omega) (by omega)⟩
    | true =>
      go_wp2_with (first
        | (
           with_reducible show wpList _ _ _ (⟨_, .store 35 (.tmp 9) _, _, _, _, _⟩ :: _) _ _
           refine wpList_store_at rfl 35 (.tmp 9) (.tmp 33) rfl w4.heap.size 0 CU ZT _ rfl rfl (Row.new w4 35 ZT) (by have := HZ72.out; have := HU72.out; omega) (by rw [tx_info, HU72.out]) HU1.out ?_
           intro w5 hr hg
           rw [splice_all (HU72.out.trans HZ72.out.symm)] at hr
           have hbx := below_own ((Below.refl w4.heap.size w4).alloc (Nat.le_refl _) (.cells ZT.toArray 35)) hg (fun k hk => by cases hk; exact Nat.le_refl _)
           have HE5 := Lib.hid (HE4.out.below hbx)
           have HQ5 := Lib.hid (HQ4.out.below hbx)
           have HP5 := Lib.hid hr
           clear hbx
           clear hr hg)
        | ((with_reducible show wpList _ _ _ (⟨_, .load 35 (.tmp 7), _, _, _, _⟩ :: _) _ _); refine wpList_load_tx rfl 35 (.tmp 7) rfl w2.heap.size 0 rfl CT _ (row_range (HQ5.out)) Tryd.underlying35 rfl (by rw [tx_info, HT72.out]) ?_)
        | ((with_reducible show wpList _ _ _ (⟨_, .load 35 (.tmp 9), _, _, _, _⟩ :: _) _ _); refine wpList_load_tx rfl 35 (.tmp 9) rfl w4.heap.size 0 rfl CU _ (row_range (HP5.out)) Tryd.underlying35 rfl (by rw [tx_info, HU72.out]) ?_))
      go_ret
      exact ⟨⟨_, rfl⟩, HE5.out.mono (by omega) (by omega)⟩
  have b1 : (kd == 1) = false := by simpa using h1
  by_cases h2 : kd = 2
  · subst h2
    clear b0 h0 b1 h1
    go_enter Tryd.func9, Tryd.ntmps9
    go_wp2_with fail
    clear k0
    refine (HEn.out _ HT1.out).mono ?_
    rintro _ w2 ⟨rfl, hT2, hk2⟩
    have HT2 := Lib.hid hT2
    have HR2 := Lib.hid (hk2 _ _ _ (by decide) HR0.out)
    clear hT2 hk2 c1
    have HN7 : Hid (¬ RGS X K v w2.heap.size) := Lib.hid (fun hk => absurd (HT2.out.ref.lt _ hk).2 (Nat.lt_irrefl _))
    go_wp2_with (
       with_reducible show wpList _ _ _ (⟨_, .store 35 (.tmp 7) _, _, _, _, _⟩ :: _) _ _
       refine wpList_store_at rfl 35 (.tmp 7) (.tmp 26) rfl w2.heap.size 0 CT ZT _ rfl rfl (Row.new w2 35 ZT) (by have := HZ72.out; have := HT72.out; omega) (by rw [tx_info, HT72.out]) HT1c.out ?_
       intro w3 hr hg
       rw [splice_all (HT72.out.trans HZ72.out.symm)] at hr
       have hbx := below_own ((Below.refl w2.heap.size w2).alloc (Nat.le_refl _) (.cells ZT.toArray 35)) hg (fun k hk => by cases hk; exact Nat.le_refl _)
       have HT3 := Lib.hid (HT2.out.below hbx)
       have HQ3 := Lib.hid hr
       have c3 := (HCa.out _ _ (HR2.out.below hbx)).2
       clear hbx
       clear hr hg)
    refine (HREn.out _ HT3.out).mono ?_
    rintro _ w4 ⟨⟨u, i, hu, rfl⟩, hE4, hs4⟩
    have HE4 : Hid (AllE w w4 B M X K fl (n + 1) (m + 1)) := by
      obtain ⟨v', L', h4⟩ := hE4
      exact Lib.hid ⟨_, _, _, _, h4⟩
    have HQ4 := Lib.hid (hs4 _ _ _ HN7.out HQ3.out)
    clear hE4 hs4 c3
    obtain ⟨r, heq⟩ : ∃ r : Bool, ∀ W : World, (Op.equalIn 10000 35 (.agg CT.toArray) (.agg u.cells.toArray)).run Tryd.prog W = .ok r W := by
      rw [← HCT.out]
      by_cases h : T = u
      · exact ⟨true, fun W => tx_eq_yes W HTk.out hu h⟩
      · exact ⟨false, fun W => tx_eq_no W HTk.out hu h⟩
    have HU72 := Lib.hid (Tx.cells_length hu)
    have HU1 := Lib.hid (Tx.cells_one hu)
    clear hu
    generalize u.cells = CU at *
    cases r with
    | false =>
      go_wp2_with (first
        | (
           with_reducible show wpList _ _ _ (⟨_, .store 35 (.tmp 9) _, _, _, _, _⟩ :: _) _ _
           refine wpList_store_at rfl 35 (.tmp 9) (.tmp 33) rfl w4.heap.size 0 CU ZT _ rfl rfl (Row.new w4 35 ZT) (by have := HZ72.out; have := HU72.out; omega) (by rw [tx_info, HU72.out]) HU1.out ?_
           intro w5 hr hg
           rw [splice_all (HU72.out.trans HZ72.out.symm)] at hr
           have hbx := below_own ((Below.refl w4.heap.size w4).alloc (Nat.le_refl _) (.cells ZT.toArray 35)) hg (fun k hk => by cases hk; exact Nat.le_refl _)
           have HE5 := Lib.hid (HE4.out.below hbx)
           have HQ5 := Lib.hid (HQ4.out.below hbx)
           have HP5 := Lib.hid hr
           clear hbx
           clear hr hg)
        | ((with_reducible show wpList _ _ _ (⟨_, .load 35 (.tmp 7), _, _, _, _⟩ :: _) _ _); refine wpList_load_tx rfl 35 (.tmp 7) rfl w2.heap.size 0 rfl CT _ (row_range (HQ5.out)) Tryd.underlying35 rfl (by rw [tx_info, HT72.out]) ?_)
        | ((with_reducible show wpList _ _ _ (⟨_, .load 35 (.tmp 9), _, _, _, _⟩ :: _) _ _); refine wpList_load_tx rfl 35 (.tmp 9) rfl w4.heap.size 0 rfl CU _ (row_range (HP5.out)) Tryd.underlying35 rfl (by rw [tx_info, HU72.out]) ?_))
      go_ret
      exact ⟨⟨_, rfl⟩, HE5.out.mono (by omega) (by omega)⟩
    | true =>
      go_wp2_with (first
        | (
           with_reducible show wpList _ _ _ (⟨_, .store 35 (.tmp 9) _, _, _, _, _⟩ :: _) _ _
           refine wpList_store_at rfl 35 (.tmp 9) (.tmp 33) rfl w4.heap.size 0 CU ZT _ rfl rfl (Row.new w4 35 ZT) (by have := HZ72.out; have := HU72.out; omega) (by rw [tx_info, HU72.out]) HU1.out ?_
           intro w5 hr hg
           rw [splice_all (HU72.out.trans HZ72.out.symm)] at hr
           have hbx := below_own ((Below.refl w4.heap.size w4).alloc (Nat.le_refl _) (.cells ZT.toArray 35)) hg (fun k hk => by cases hk; exact Nat.le_refl _)
           have HE5 := Lib.hid (HE4.out.below hbx)
           have HQ5 := Lib.hid (HQ4.out.below hbx)
           have HP5 := Lib.hid hr
           clear hbx
           clear hr hg)
        | ((with_reducible show wpList _ _ _ (⟨_, .load 35 (.tmp 7), _, _, _, _⟩ :: _) _ _); refine wpList_load_tx rfl 35 (.tmp 7) rfl w2.heap.size 0 rfl CT _ (row_range (HQ5.out)) Tryd.underlying35 rfl (by rw [tx_info, HT72.out]) ?_)
        | ((with_reducible show wpList _ _ _ (⟨_, .load 35 (.tmp 9), _, _, _, _⟩ :: _) _ _); refine wpList_load_tx rfl 35 (.tmp 9) rfl w4.heap.size 0 rfl CU _ (row_range (HP5.out)) Tryd.underlying35 rfl (by rw [tx_info, HU72.out]) ?_))
      go_ret
      exact ⟨⟨_, rfl⟩, HE5.out.mono (by omega) (by omega)⟩
  have b2 : (kd == 2) = false := by simpa using h2
  by_cases h3 : kd = 3
  · subst h3
    clear b0 h0 b1 h1 b2 h2
    go_enter Tryd.func9, Tryd.ntmps9
    go_wp2_with fail
    clear k0
    refine (HAs.out _ HT1.out).mono ?_
    rintro _ w2 ⟨rfl, hT2, hk2⟩
    have HT2 := Lib.hid hT2
    have HR2 := Lib.hid (HR0.out.below hk2)
    clear hT2 hk2 c1
    have HN7 : Hid (¬ RGS X K v w2.heap.size) := Lib.hid (fun hk => absurd (HT2.out.ref.lt _ hk).2 (Nat.lt_irrefl _))
    go_wp2_with (
       with_reducible show wpList _ _ _ (⟨_, .store 35 (.tmp 11) _, _, _, _, _⟩ :: _) _ _
       refine wpList_store_at rfl 35 (.tmp 11) (.tmp 50) rfl w2.heap.size 0 CT ZT _ rfl rfl (Row.new w2 35 ZT) (by have := HZ72.out; have := HT72.out; omega) (by rw [tx_info, HT72.out]) HT1c.out ?_
       intro w3 hr hg
       rw [splice_all (HT72.out.trans HZ72.out.symm)] at hr
       have hbx := below_own ((Below.refl w2.heap.size w2).alloc (Nat.le_refl _) (.cells ZT.toArray 35)) hg (fun k hk => by cases hk; exact Nat.le_refl _)
       have HT3 := Lib.hid (HT2.out.below hbx)
       have HQ3 := Lib.hid hr
       have c3 := (HCa.out _ _ (HR2.out.below hbx)).2
       clear hbx
       clear hr hg)
    refine (HRAs.out _ HT3.out).mono ?_
    rintro _ w4 ⟨⟨u, i, hu, rfl⟩, hE4, hs4⟩
    have HE4 : Hid (AllE w w4 B M X K fl n m) := Lib.hid ⟨_, _, _, _, hE4⟩
    have HQ4 := Lib.hid (HQ3.out.below hs4)
    clear hE4 hs4 c3
    obtain ⟨r, heq⟩ : ∃ r : Bool, ∀ W : World, (Op.equalIn 10000 35 (.agg CT.toArray) (.agg u.cells.toArray)).run Tryd.prog W = .ok r W := by
      rw [← HCT.out]
      by_cases h : T = u
      · exact ⟨true, fun W => tx_eq_yes W HTk.out hu h⟩
      · exact ⟨false, fun W => tx_eq_no W HTk.out hu h⟩
    have HU72 := Lib.hid (Tx.cells_length hu)
    have HU1 := Lib.hid (Tx.cells_one hu)
    clear hu
    generalize u.cells = CU at *
    cases r with
    | false =>
      go_wp2_with (first
        | (
           with_reducible show wpList _ _ _ (⟨_, .store 35 (.tmp 13) _, _, _, _, _⟩ :: _) _ _
           refine wpList_store_at rfl 35 (.tmp 13) (.tmp 57) rfl w4.heap.size 0 CU ZT _ rfl rfl (Row.new w4 35 ZT) (by have := HZ72.out; have := HU72.out; omega) (by rw [tx_info, HU72.out]) HU1.out ?_
           intro w5 hr hg
           rw [splice_all (HU72.out.trans HZ72.out.symm)] at hr
           have hbx := below_own ((Below.refl w4.heap.size w4).alloc (Nat.le_refl _) (.cells ZT.toArray 35)) hg (fun k hk => by cases hk; exact Nat.le_refl _)
           have HE5 := Lib.hid (HE4.out.below hbx)
           have HQ5 := Lib.hid (HQ4.out.below hbx)
           have HP5 := Lib.hid hr
           clear hbx
           clear hr hg)
        | ((with_reducible show wpList _ _ _ (⟨_, .load 35 (.tmp 11), _, _, _, _⟩ :: _) _ _); refine wpList_load_tx rfl 35 (.tmp 11) rfl w2.heap.size 0 rfl CT _ (row_range (HQ5.out)) Tryd.underlying35 rfl (by rw [tx_info, HT72.out]) ?_)
        | ((with_reducible show wpList _ _ _ (⟨_, .load 35 (.tmp 13), _, _, _, _⟩ :: _) _ _); refine wpList_load_tx rfl 35 (.tmp 13) rfl w4.heap.size 0 rfl CU _ (row_range (HP5.out)) Tryd.underlying35 rfl (by rw [tx_info, HU72.out]) ?_))
      go_ret
      exact ⟨⟨_, rfl⟩, HE5.out.mono (by omega) (by omega)⟩
    | true =>
      go_wp2_with (first
        | (
           with_reducible show wpList _ _ _ (⟨_, .store 35 (.tmp 13) _, _, _, _, _⟩ :: _) _ _
           refine wpList_store_at rfl 35 (.tmp 13) (.tmp 57) rfl w4.heap.size 0 CU ZT _ rfl rfl (Row.new w4 35 ZT) (by have := HZ72.out; have := HU72.out; omega) (by rw [tx_info, HU72.out]) HU1.out ?_
           intro w5 hr hg
           rw [splice_all (HU72.out.trans HZ72.out.symm)] at hr
           have hbx := below_own ((Below.refl w4.heap.size w4).alloc (Nat.le_refl _) (.cells ZT.toArray 35)) hg (fun k hk => by cases hk; exact Nat.le_refl _)
           have HE5 := Lib.hid (HE4.out.below hbx)
           have HQ5 := Lib.hid (HQ4.out.below hbx)
           have HP5 := Lib.hid hr
           clear hbx
           clear hr hg)
        | ((with_reducible show wpList _ _ _ (⟨_, .load 35 (.tmp 11), _, _, _, _⟩ :: _) _ _); refine wpList_load_tx rfl 35 (.tmp 11) rfl w2.heap.size 0 rfl CT _ (row_range (HQ5.out)) Tryd.underlying35 rfl (by rw [tx_info, HT72.out]) ?_)
        | ((with_reducible show wpList _ _ _ (⟨_, .load 35 (.tmp 13), _, _, _, _⟩ :: _) _ _); refine wpList_load_tx rfl 35 (.tmp 13) rfl w4.heap.size 0 rfl CU _ (row_range (HP5.out)) Tryd.underlying35 rfl (by rw [tx_info, HU72.out]) ?_))
      go_ret
      exact ⟨⟨_, rfl⟩, HE5.out.mono (by omega) (by omega)⟩
  have b3 : (kd == 3) = false := by simpa using h3
  by_cases h4 : kd = 4
  · subst h4
    clear b0 h0 b1 h1 b2 h2 b3 h3
    go_enter Tryd.func9, Tryd.ntmps9
    go_wp2_with fail
    clear k0 c1
    have hT := HT1.out.below (Below.refl _ _).drew
    refine wp_region_held_drew (S := fun w' => Row w' wr.heap.size 37 C) (by kernel_rfl) (HR0.out) (fun hHeld => ?_)
    generalize (wr.alloc (.cells C.toArray 37)).drew = wq at *
    refine wpAnyH_take (i := 0) (v := .pointer (some ⟨B, 0, none⟩)) rfl (by kernel_rfl) (by kernel_rfl) (by kernel_rfl) (fun _ _ _ h => h) (Or.inl ⟨by rfl, fun w' hSw => by go_simp⟩) hHeld ?_
    try simp only [Act.put, List.getElem_toArray, List.getElem_cons_succ, List.getElem_cons_zero, List.setIfInBounds_toArray, List.set_cons_zero, List.set_cons_succ]
    refine' wpAnyH_take (i := 1) (v := _) rfl (by kernel_rfl) (by kernel_rfl) (by kernel_rfl) (fun _ _ _ h => h) (yieldsIf_load_mid (by rfl) _ _ rfl wr.heap.size 0 rfl C _ (fun w' hSw => row_range hSw) Tryd.underlying37 rfl (by rw [act17_info, HA74.out])) hHeld ?_
    try simp only [Act.put, List.getElem_toArray, List.getElem_cons_succ, List.getElem_cons_zero, List.setIfInBounds_toArray, List.set_cons_zero, List.set_cons_succ]
    refine wpAnyH_take (i := 4) (v := .pointer (some ⟨X, 0, none⟩)) rfl (by kernel_rfl) (by kernel_rfl) (by kernel_rfl) (fun _ _ _ h => h) (Or.inl ⟨by rfl, fun w' hSw => by go_simp⟩) hHeld ?_
    try simp only [Act.put, List.getElem_toArray, List.getElem_cons_succ, List.getElem_cons_zero, List.setIfInBounds_toArray, List.set_cons_zero, List.set_cons_succ]
    refine' wpAnyH_take (i := 5) (v := _) rfl (by kernel_rfl) (by kernel_rfl) (by kernel_rfl) (fun _ _ _ h => h) (yieldsIf_load_mid (by rfl) _ _ rfl wr.heap.size 0 rfl C _ (fun w' hSw => row_range hSw) Tryd.underlying37 rfl (by rw [act17_info, HA74.out])) hHeld ?_
    try simp only [Act.put, List.getElem_toArray, List.getElem_cons_succ, List.getElem_cons_zero, List.setIfInBounds_toArray, List.set_cons_zero, List.set_cons_succ]
    refine wpAnyH_ready (rs := [2]) (by kernel_rfl) (by simp) (AllReadyH.cons rfl (fun K1 hK1 => ?_) AllReadyH.nil)
    try simp only [Act.put, List.getElem_toArray, List.getElem_cons_succ, List.getElem_cons_zero, List.setIfInBounds_toArray, List.set_cons_zero, List.set_cons_succ]
    go_simp
    refine Calls.mono (HOf.out _) ?_
    rintro e wc1 ⟨⟨t2, ht2, rfl⟩, hb3⟩
    replace hT := hT.below hb3
    refine hK1.out _ _ (hHeld.below hb3) (fun hHeld => ?_)
    clear hK1 K1
    try simp only [Act.put, List.getElem_toArray, List.getElem_cons_succ, List.getElem_cons_zero, List.setIfInBounds_toArray, List.set_cons_zero, List.set_cons_succ]
    refine wpAnyH_ready (rs := [3]) (by kernel_rfl) (by simp) (AllReadyH.cons rfl (fun K1 hK1 => ?_) AllReadyH.nil)
    try simp only [Act.put, List.getElem_toArray, List.getElem_cons_succ, List.getElem_cons_zero, List.setIfInBounds_toArray, List.set_cons_zero, List.set_cons_succ]
    go_simp
    refine Calls.mono (hT.leaveS HTab.out t2 ht2) ?_
    clear hT
    rintro e wc4 ⟨rfl, hT, hk5⟩
    refine hK1.out _ _ (hk5 _ _ _ (by decide) hHeld) (fun hHeld => ?_)
    clear hK1 K1
    try simp only [Act.put, List.getElem_toArray, List.getElem_cons_succ, List.getElem_cons_zero, List.setIfInBounds_toArray, List.set_cons_zero, List.set_cons_succ]
    refine wpAnyH_ready (rs := [6]) (by kernel_rfl) (by simp) (AllReadyH.cons rfl (fun K1 hK1 => ?_) AllReadyH.nil)
    try simp only [Act.put, List.getElem_toArray, List.getElem_cons_succ, List.getElem_cons_zero, List.setIfInBounds_toArray, List.set_cons_zero, List.set_cons_succ]
    go_simp
    refine Calls.mono (HOf.out _) ?_
    rintro e wc6 ⟨⟨t7, ht7, rfl⟩, hb8⟩
    replace hT := hT.below hb8
    refine hK1.out _ _ (hHeld.below hb8) (fun hHeld => ?_)
    clear hK1 K1
    try simp only [Act.put, List.getElem_toArray, List.getElem_cons_succ, List.getElem_cons_zero, List.setIfInBounds_toArray, List.set_cons_zero, List.set_cons_succ]
    refine wpAnyH_ready (rs := [7]) (by kernel_rfl) (by simp) (AllReadyH.cons rfl (fun K1 hK1 => ?_) AllReadyH.nil)
    try simp only [Act.put, List.getElem_toArray, List.getElem_cons_succ, List.getElem_cons_zero, List.setIfInBounds_toArray, List.set_cons_zero, List.set_cons_succ]
    go_simp
    refine Calls.mono (hT.rleaveS t7 ht7 false (by omega)) ?_
    clear hT
    rintro e wc9 ⟨⟨i11, rfl⟩, ⟨v3, N3, L3, hT⟩, hs10⟩
    refine hK1.out _ _ (hs10 _ _ _ HNR.out hHeld) (fun hHeld => ?_)
    clear hK1 K1
    try simp only [Act.put, List.getElem_toArray, List.getElem_cons_succ, List.getElem_cons_zero, List.setIfInBounds_toArray, List.set_cons_zero, List.set_cons_succ]
    refine wpAnyH_take (i := 8) (v := .bool ((Ad.namedE g t2) == i11)) rfl (by kernel_rfl) (by kernel_rfl) (by kernel_rfl) (fun _ _ _ h => h) (Or.inl ⟨by rfl, fun w' hSw => by go_simp⟩) hHeld ?_
    try simp only [Act.put, List.getElem_toArray, List.getElem_cons_succ, List.getElem_cons_zero, List.setIfInBounds_toArray, List.set_cons_zero, List.set_cons_succ]
    refine wpAnyH_take (i := 9) (v := .bool ((Ad.namedE g t2) == i11)) rfl (by kernel_rfl) (by kernel_rfl) (by kernel_rfl) (fun _ _ _ h => h) (Or.inl ⟨by rfl, fun w' hSw => by go_simp⟩) hHeld ?_
    try simp only [Act.put, List.getElem_toArray, List.getElem_cons_succ, List.getElem_cons_zero, List.setIfInBounds_toArray, List.set_cons_zero, List.set_cons_succ]
    refine wpAnyH_done (by kernel_rfl) ?_ _
    have HE : Hid (AllE w wc9 B M X K fl (n + 2) (m + 1)) := Lib.hid ⟨_, _, _, _, hT.mono (by omega) (by omega)⟩
    clear hHeld hT
    go_wp2_with fail
    go_ret
    exact ⟨⟨_, rfl⟩, HE.out⟩
  have b4 : (kd == 4) = false := by simpa using h4
  by_cases h6 : kd = 6
  · subst h6
    clear b0 h0 b1 h1 b2 h2 b3 h3 b4 h4
    go_enter Tryd.func9, Tryd.ntmps9
    go_wp2_with fail
    clear k0 c1
    have hT := HT1.out.below (Below.refl _ _).drew
    refine wp_region_held_drew (S := fun w' => Row w' wr.heap.size 37 C) (by kernel_rfl) (HR0.out) (fun hHeld => ?_)
    generalize (wr.alloc (.cells C.toArray 37)).drew = wq at *
    refine wpAnyH_take (i := 0) (v := .pointer (some ⟨B, 0, none⟩)) rfl (by kernel_rfl) (by kernel_rfl) (by kernel_rfl) (fun _ _ _ h => h) (Or.inl ⟨by rfl, fun w' hSw => by go_simp⟩) hHeld ?_
    try simp only [Act.put, List.getElem_toArray, List.getElem_cons_succ, List.getElem_cons_zero, List.setIfInBounds_toArray, List.set_cons_zero, List.set_cons_succ]
    refine' wpAnyH_take (i := 1) (v := _) rfl (by kernel_rfl) (by kernel_rfl) (by kernel_rfl) (fun _ _ _ h => h) (yieldsIf_load_mid (by rfl) _ _ rfl wr.heap.size 0 rfl C _ (fun w' hSw => row_range hSw) Tryd.underlying37 rfl (by rw [act17_info, HA74.out])) hHeld ?_
    try simp only [Act.put, List.getElem_toArray, List.getElem_cons_succ, List.getElem_cons_zero, List.setIfInBounds_toArray, List.set_cons_zero, List.set_cons_succ]
    refine wpAnyH_take (i := 4) (v := .pointer (some ⟨X, 0, none⟩)) rfl (by kernel_rfl) (by kernel_rfl) (by kernel_rfl) (fun _ _ _ h => h) (Or.inl ⟨by rfl, fun w' hSw => by go_simp⟩) hHeld ?_
    try simp only [Act.put, List.getElem_toArray, List.getElem_cons_succ, List.getElem_cons_zero, List.setIfInBounds_toArray, List.set_cons_zero, List.set_cons_succ]
    refine' wpAnyH_take (i := 5) (v := _) rfl (by kernel_rfl) (by kernel_rfl) (by kernel_rfl) (fun _ _ _ h => h) (yieldsIf_load_mid (by rfl) _ _ rfl wr.heap.size 0 rfl C _ (fun w' hSw => row_range hSw) Tryd.underlying37 rfl (by rw [act17_info, HA74.out])) hHeld ?_
    try simp only [Act.put, List.getElem_toArray, List.getElem_cons_succ, List.getElem_cons_zero, List.setIfInBounds_toArray, List.set_cons_zero, List.set_cons_succ]
    refine wpAnyH_ready (rs := [2]) (by kernel_rfl) (by simp) (AllReadyH.cons rfl (fun K1 hK1 => ?_) AllReadyH.nil)
    try simp only [Act.put, List.getElem_toArray, List.getElem_cons_succ, List.getElem_cons_zero, List.setIfInBounds_toArray, List.set_cons_zero, List.set_cons_succ]
    go_simp
    refine Calls.mono (HOf.out _) ?_
    rintro e wc1 ⟨⟨t2, ht2, rfl⟩, hb3⟩
    replace hT := hT.below hb3
    refine hK1.out _ _ (hHeld.below hb3) (fun hHeld => ?_)
    clear hK1 K1
    try simp only [Act.put, List.getElem_toArray, List.getElem_cons_succ, List.getElem_cons_zero, List.setIfInBounds_toArray, List.set_cons_zero, List.set_cons_succ]
    refine wpAnyH_ready (rs := [3]) (by kernel_rfl) (by simp) (AllReadyH.cons rfl (fun K1 hK1 => ?_) AllReadyH.nil)
    try simp only [Act.put, List.getElem_toArray, List.getElem_cons_succ, List.getElem_cons_zero, List.setIfInBounds_toArray, List.set_cons_zero, List.set_cons_succ]
    go_simp
    refine Calls.mono (hT.leaveS HTab.out t2 ht2) ?_
    clear hT
    rintro e wc4 ⟨rfl, hT, hk5⟩
    refine hK1.out _ _ (hk5 _ _ _ (by decide) hHeld) (fun hHeld => ?_)
    clear hK1 K1
    try simp only [Act.put, List.getElem_toArray, List.getElem_cons_succ, List.getElem_cons_zero, List.setIfInBounds_toArray, List.set_cons_zero, List.set_cons_succ]
    refine wpAnyH_ready (rs := [6]) (by kernel_rfl) (by simp) (AllReadyH.cons rfl (fun K1 hK1 => ?_) AllReadyH.nil)
    try simp only [Act.put, List.getElem_toArray, List.getElem_cons_succ, List.getElem_cons_zero, List.setIfInBounds_toArray, List.set_cons_zero, List.set_cons_succ]
    go_simp
    refine Calls.mono (HOf.out _) ?_
    rintro e wc6 ⟨⟨t7, ht7, rfl⟩, hb8⟩
    replace hT := hT.below hb8
    refine hK1.out _ _ (hHeld.below hb8) (fun hHeld => ?_)
    clear hK1 K1
    try simp only [Act.put, List.getElem_toArray, List.getElem_cons_succ, List.getElem_cons_zero, List.setIfInBounds_toArray, List.set_cons_zero, List.set_cons_succ]
    refine wpAnyH_ready (rs := [7]) (by kernel_rfl) (by simp) (AllReadyH.cons rfl (fun K1 hK1 => ?_) AllReadyH.nil)
    try simp only [Act.put, List.getElem_toArray, List.getElem_cons_succ, List.getElem_cons_zero, List.setIfInBounds_toArray, List.set_cons_zero, List.set_cons_succ]
    go_simp
    refine Calls.mono (hT.rleaveS t7 ht7 false (by omega)) ?_
    clear hT
    rintro e wc9 ⟨⟨i11, rfl⟩, ⟨v3, N3, L3, hT⟩, hs10⟩
    refine hK1.out _ _ (hs10 _ _ _ HNR.out hHeld) (fun hHeld => ?_)
    clear hK1 K1
    try simp only [Act.put, List.getElem_toArray, List.getElem_cons_succ, List.getElem_cons_zero, List.setIfInBounds_toArray, List.set_cons_zero, List.set_cons_succ]
    refine wpAnyH_take (i := 8) (v := .bool ((Ad.namedE g t2) == i11)) rfl (by kernel_rfl) (by kernel_rfl) (by kernel_rfl) (fun _ _ _ h => h) (Or.inl ⟨by rfl, fun w' hSw => by go_simp⟩) hHeld ?_
    try simp only [Act.put, List.getElem_toArray, List.getElem_cons_succ, List.getElem_cons_zero, List.setIfInBounds_toArray, List.set_cons_zero, List.set_cons_succ]
    refine wpAnyH_take (i := 9) (v := .bool ((Ad.namedE g t2) == i11)) rfl (by kernel_rfl) (by kernel_rfl) (by kernel_rfl) (fun _ _ _ h => h) (Or.inl ⟨by rfl, fun w' hSw => by go_simp⟩) hHeld ?_
    try simp only [Act.put, List.getElem_toArray, List.getElem_cons_succ, List.getElem_cons_zero, List.setIfInBounds_toArray, List.set_cons_zero, List.set_cons_succ]
    refine wpAnyH_done (by kernel_rfl) ?_ _
    have HE : Hid (AllE w wc9 B M X K fl (n + 2) (m + 1)) := Lib.hid ⟨_, _, _, _, hT.mono (by omega) (by omega)⟩
    clear hHeld hT
    go_wp2_with fail
    go_ret
    exact ⟨⟨_, rfl⟩, HE.out⟩
  have b6 : (kd == 6) = false := by simpa using h6
  clear h0 h1 h2 h3 h4 h6
  go_enter Tryd.func9, Tryd.ntmps9
  go_wp2_with fail
  clear k0 c1
  have hT := HT1.out.below (Below.refl _ _).drew
  refine wp_region_held_drew (S := fun w' => Row w' wr.heap.size 37 C) (by kernel_rfl) (HR0.out) (fun hHeld => ?_)
  generalize (wr.alloc (.cells C.toArray 37)).drew = wq at *
  refine wpAnyH_take (i := 0) (v := .pointer (some ⟨B, 0, none⟩)) rfl (by kernel_rfl) (by kernel_rfl) (by kernel_rfl) (fun _ _ _ h => h) (Or.inl ⟨by rfl, fun w' hSw => by go_simp⟩) hHeld ?_
  try simp only [Act.put, List.getElem_toArray, List.getElem_cons_succ, List.getElem_cons_zero, List.setIfInBounds_toArray, List.set_cons_zero, List.set_cons_succ]
  refine' wpAnyH_take (i := 1) (v := _) rfl (by kernel_rfl) (by kernel_rfl) (by kernel_rfl) (fun _ _ _ h => h) (yieldsIf_load_mid (by rfl) _ _ rfl wr.heap.size 0 rfl C _ (fun w' hSw => row_range hSw) Tryd.underlying37 rfl (by rw [act17_info, HA74.out])) hHeld ?_
  try simp only [Act.put, List.getElem_toArray, List.getElem_cons_succ, List.getElem_cons_zero, List.setIfInBounds_toArray, List.set_cons_zero, List.set_cons_succ]
  refine wpAnyH_take (i := 4) (v := .pointer (some ⟨X, 0, none⟩)) rfl (by kernel_rfl) (by kernel_rfl) (by kernel_rfl) (fun _ _ _ h => h) (Or.inl ⟨by rfl, fun w' hSw => by go_simp⟩) hHeld ?_
  try simp only [Act.put, List.getElem_toArray, List.getElem_cons_succ, List.getElem_cons_zero, List.setIfInBounds_toArray, List.set_cons_zero, List.set_cons_succ]
  refine' wpAnyH_take (i := 5) (v := _) rfl (by kernel_rfl) (by kernel_rfl) (by kernel_rfl) (fun _ _ _ h => h) (yieldsIf_load_mid (by rfl) _ _ rfl wr.heap.size 0 rfl C _ (fun w' hSw => row_range hSw) Tryd.underlying37 rfl (by rw [act17_info, HA74.out])) hHeld ?_
  try simp only [Act.put, List.getElem_toArray, List.getElem_cons_succ, List.getElem_cons_zero, List.setIfInBounds_toArray, List.set_cons_zero, List.set_cons_succ]
  refine wpAnyH_ready (rs := [2]) (by kernel_rfl) (by simp) (AllReadyH.cons rfl (fun K1 hK1 => ?_) AllReadyH.nil)
  try simp only [Act.put, List.getElem_toArray, List.getElem_cons_succ, List.getElem_cons_zero, List.setIfInBounds_toArray, List.set_cons_zero, List.set_cons_succ]
  go_simp
  refine Calls.mono (HOf.out _) ?_
  rintro e wc1 ⟨⟨t2, ht2, rfl⟩, hb3⟩
  replace hT := hT.below hb3
  refine hK1.out _ _ (hHeld.below hb3) (fun hHeld => ?_)
  clear hK1 K1
  try simp only [Act.put, List.getElem_toArray, List.getElem_cons_succ, List.getElem_cons_zero, List.setIfInBounds_toArray, List.set_cons_zero, List.set_cons_succ]
  refine wpAnyH_ready (rs := [3]) (by kernel_rfl) (by simp) (AllReadyH.cons rfl (fun K1 hK1 => ?_) AllReadyH.nil)
  try simp only [Act.put, List.getElem_toArray, List.getElem_cons_succ, List.getElem_cons_zero, List.setIfInBounds_toArray, List.set_cons_zero, List.set_cons_succ]
  go_simp
  refine Calls.mono (hT.doneS HTab.out t2 ht2 (by omega)) ?_
  clear hT
  rintro e wc4 ⟨rfl, hT, hk5⟩
  refine hK1.out _ _ (hk5 _ _ _ (by decide) hHeld) (fun hHeld => ?_)
  clear hK1 K1
  try simp only [Act.put, List.getElem_toArray, List.getElem_cons_succ, List.getElem_cons_zero, List.setIfInBounds_toArray, List.set_cons_zero, List.set_cons_succ]
  refine wpAnyH_ready (rs := [6]) (by kernel_rfl) (by simp) (AllReadyH.cons rfl (fun K1 hK1 => ?_) AllReadyH.nil)
  try simp only [Act.put, List.getElem_toArray, List.getElem_cons_succ, List.getElem_cons_zero, List.setIfInBounds_toArray, List.set_cons_zero, List.set_cons_succ]
  go_simp
  refine Calls.mono (HOf.out _) ?_
  rintro e wc6 ⟨⟨t7, ht7, rfl⟩, hb8⟩
  replace hT := hT.below hb8
  refine hK1.out _ _ (hHeld.below hb8) (fun hHeld => ?_)
  clear hK1 K1
  try simp only [Act.put, List.getElem_toArray, List.getElem_cons_succ, List.getElem_cons_zero, List.setIfInBounds_toArray, List.set_cons_zero, List.set_cons_succ]
  refine wpAnyH_ready (rs := [7]) (by kernel_rfl) (by simp) (AllReadyH.cons rfl (fun K1 hK1 => ?_) AllReadyH.nil)
  try simp only [Act.put, List.getElem_toArray, List.getElem_cons_succ, List.getElem_cons_zero, List.setIfInBounds_toArray, List.set_cons_zero, List.set_cons_succ]
  go_simp
  refine Calls.mono (hT.rleaveS t7 ht7 true (by omega)) ?_
  clear hT
  rintro e wc9 ⟨⟨i11, rfl⟩, ⟨v3, N3, L3, hT⟩, hs10⟩
  refine hK1.out _ _ (hs10 _ _ _ HNR.out hHeld) (fun hHeld => ?_)
  clear hK1 K1
  try simp only [Act.put, List.getElem_toArray, List.getElem_cons_succ, List.getElem_cons_zero, List.setIfInBounds_toArray, List.set_cons_zero, List.set_cons_succ]
  refine wpAnyH_take (i := 8) (v := .bool ((Ad.doneE g t2) == i11)) rfl (by kernel_rfl) (by kernel_rfl) (by kernel_rfl) (fun _ _ _ h => h) (Or.inl ⟨by rfl, fun w' hSw => by go_simp⟩) hHeld ?_
  try simp only [Act.put, List.getElem_toArray, List.getElem_cons_succ, List.getElem_cons_zero, List.setIfInBounds_toArray, List.set_cons_zero, List.set_cons_succ]
  refine wpAnyH_take (i := 9) (v := .bool ((Ad.doneE g t2) == i11)) rfl (by kernel_rfl) (by kernel_rfl) (by kernel_rfl) (fun _ _ _ h => h) (Or.inl ⟨by rfl, fun w' hSw => by go_simp⟩) hHeld ?_
  try simp only [Act.put, List.getElem_toArray, List.getElem_cons_succ, List.getElem_cons_zero, List.setIfInBounds_toArray, List.set_cons_zero, List.set_cons_succ]
  refine wpAnyH_done (by kernel_rfl) ?_ _
  have HE : Hid (AllE w wc9 B M X K fl (n + 2) (m + 1)) := Lib.hid ⟨_, _, _, _, hT.mono (by omega) (by omega)⟩
  clear hHeld hT
  go_wp2_with fail
  go_ret
  exact ⟨⟨_, rfl⟩, HE.out⟩
end Go.Proofs.YtoicpidiejhjeaaDoor
