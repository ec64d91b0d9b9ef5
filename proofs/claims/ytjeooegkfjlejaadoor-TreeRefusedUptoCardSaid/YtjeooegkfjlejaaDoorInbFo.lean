/- inbox.Forces and the reference's: what they return. -/
import Derived.Test.YtjeooegkfjlejaaDoorInbNum
import Derived.WalkMore
namespace Go.Proofs.YtjeooegkfjlejaaDoor
open Go.RowKit
set_option linter.unusedVariables false
set_option linter.unusedSimpArgs false

namespace Inb
def isForce (i : It) : Bool := decide (i.kind = 2) && i.ok
def forces (l : List It) : List Int := l.filterMap fun i => if isForce i = true then some i.n else none
theorem forces_yes {l : List It} {j : Nat} (hj : j < l.length) (h : isForce l[j] = true) : forces (l.take (j + 1)) = forces (l.take j) ++ [l[j].n] := by
  unfold forces
  rw [List.take_succ_eq_append_getElem hj, List.filterMap_append]
  simp [h]
theorem forces_no {l : List It} {j : Nat} (hj : j < l.length) (h : isForce l[j] = false) : forces (l.take (j + 1)) = forces (l.take j) := by
  unfold forces
  rw [List.take_succ_eq_append_getElem hj, List.filterMap_append]
  simp [h]
theorem forces_len (l : List It) : (forces l).length ≤ l.length := List.length_filterMap_le _ _
end Inb
theorem int12_info : (Tryd.prog.info? 3).map (fun i => (i.zero, i.size, i.bytes)) = some (some (.int .i64 0), 1, 8) := by kernel_rfl
theorem own_nums12 {w : World} {base : Nat} {e : TypeId} {v : Value} {L : List Int} (h : w.ownsRow base e 1 v L.length (Is L)) : NumsV w v L := by
  rcases h.2 with ⟨rfl, hn⟩ | ⟨g, cap, cur, rfl, hg, hh, _⟩
  · have : L = [] := List.length_eq_zero_iff.1 hn
    subst this
    exact NumsV.nil w
  · refine ⟨_, cap, rfl, fun hne => ⟨g, 0, rfl, lt_of_block hh, fun i hi => ?_⟩⟩
    rw [Nat.zero_add, h.cellAt i (by omega)]
    simp [List.getD, hi]
/-- where Forces stands -/
def FoAt (w wr : World) (C : List Value) (v : Value) (L : List Int) : Prop :=
  Row wr w.heap.size 45 C ∧ wr.ownsRow w.heap.size 3 1 v L.length (Is L) ∧ Below w.heap.size w wr
theorem FoAt.step {w wr w' : World} {C : List Value} {v : Value} {L : List Int} (h : FoAt w wr C v L) (hb : Below wr.heap.size wr w') : FoAt w w' C v L :=
  ⟨h.1.kept (grownBy_of_below hb none) (by simp), own_below h.2.1 hb, two_below' h.2.2 hb⟩
theorem FoAt.put {w wr w' : World} {g : Nat} {T : TypeId} {xs C : List Value} {v : Value} {L : List Int} (h : FoAt w wr C v L) (hr : Row wr g T xs) (h1 : T ≠ 45) (h3 : T ≠ 3)
    (hg : wr.grownBy w' (some g)) (hle : w.heap.size ≤ g) : FoAt w w' C v L :=
  ⟨h.1.kept hg (row_diff h.1 hr h1.symm), h.2.1.kept hg (.inr (row_ne_own hr h.2.1 h3)), below_own h.2.2 hg (fun k hk => by cases hk; exact hle)⟩
theorem FoAt.lt {w wr : World} {C : List Value} {v : Value} {L : List Int} (h : FoAt w wr C v L) : w.heap.size < wr.heap.size := h.1.lt
/-- one number more -/
theorem FoAt.grow {w wr w' : World} {C : List Value} {v v' : Value} {L : List Int} {x : Int} (h : FoAt w wr C v L) (ho : w'.ownsRow w.heap.size 3 1 v' (L.length + 1) (Is L ++ [.int .i64 x])) (hg : wr.grownBy w' v.ownBlock) : FoAt w w' C v' (L ++ [x]) :=
  ⟨h.1.kept hg (row_ne_own h.1 h.2.1 (by decide)).symm, by show w'.ownsRow _ _ _ _ (L ++ [x]).length ((L ++ [x]).map I); rw [List.length_append, List.map_append]; exact ho, below_row h.2.2 h.2.2.size h.2.1 hg⟩
def NumsOut (base : Nat) (L : List Int) (e : Ending) (w' : World) : Prop := ∃ v, e = .returned v ∧ w'.ownsRow base 3 1 v L.length (Is L)
theorem item_zv12 (W : World) : (zeroValue 98).run Tryd.prog W = .ok (.agg It.zero.cells.toArray) W := by kernel_rfl
set_option maxRecDepth 20000 in
set_option maxHeartbeats 1600000 in
theorem forces_any (b : Bk) (A : Option Addr) (cp : Nat) (hp : b.parent.length = 32) (w : World) (hits : BkItems w w.heap.size A b.items) (hlen : b.items.length ≤ 3000000) :
    Calls Tryd.prog 36 #[.agg (b.cells A cp).toArray] w fun e w' => NumsOut w.heap.size (Inb.forces b.items) e w' ∧ Below w.heap.size w w' := by
  obtain ⟨i0, hi0, h2⟩ := Option.map_eq_some_iff.1 int12_info
  simp only [Prod.mk.injEq] at h2
  have Hi := Lib.hid hi0
  have Hz := Lib.hid h2.1
  have Hsz := Lib.hid h2.2.1
  have Hby := Lib.hid h2.2.2
  clear hi0 h2
  have H34 := Lib.hid (Bk.cell34 (b := b) (A := A) (cap := cp) hp)
  have hb0 := (Below.refl w.heap.size w).alloc (Nat.le_refl _) (.cells (b.cells A cp).toArray 45)
  have hR0 := Row.new w 45 (b.cells A cp)
  have c34 := (row_range hR0) 34 _ H34.out
  rw [Nat.zero_add] at c34
  have HF0 : Hid (FoAt w (w.alloc (.cells (b.cells A cp).toArray 45)) (b.cells A cp) (.slice none 0 0) []) := Lib.hid ⟨hR0, ⟨by simp, .inl ⟨rfl, rfl⟩⟩, hb0⟩
  have Hits := Lib.hid hits.1
  have hml := hits.2
  generalize b.cells A cp = C at *
  obtain ⟨its, hit⟩ : ∃ its, its = b.items := ⟨_, rfl⟩
  rw [← hit] at Hits hml hlen H34 c34
  rw [← hit]
  obtain ⟨m, hm⟩ : ∃ m, m = its.length := ⟨_, rfl⟩
  rw [← hm] at hml hlen H34 c34
  have HMl := Lib.hid hm
  have hz98 := item_zv12
  clear hit hm hR0 hb0 hits hp
  go_enter Tryd.func36, Tryd.ntmps36
  go_wp2_with fail
  clear c34
  go_loopw [3, 9] (fun v3 i wr => ∃ (j : Nat) (v : Value), j ≤ m ∧ i = .int .i64 j ∧ v = v3 ∧ FoAt w wr C v (Inb.forces (its.take j))) (fun _ i _ => m - (intOf i).toNat)
  case atStart => exact ⟨0, _, Nat.zero_le _, rfl, rfl, HF0.out⟩
  case round =>
    obtain ⟨j, v, hj, rfl, rfl, hM2⟩ := hrel
    have HM2 := Lib.hid hM2
    clear hM2 HF0
    by_cases hjm : j < m
    · skip
      have hji : (j : Int) < (m : Int) := by omega
      have hjl : j < its.length := by rw [← HMl.out]; exact hjm
      obtain ⟨b2, off2, rfl, hb2, hat2⟩ := Hits.out (by intro e; rw [e] at hjl; simp at hjl)
      have hr2 := range_below (hat2 j hjl) HM2.out.2.2 hb2
      have HYes := Lib.hid (Inb.forces_yes hjl)
      have HNo := Lib.hid (Inb.forces_no hjl)
      have hcnt : (Inb.forces (its.take j)).length ≤ 4000000 := by
        have h1 := Inb.forces_len (its.take j)
        rw [List.length_take] at h1
        omega
      generalize Inb.forces (its.take j) = L1 at *
      generalize its[j] = it at *
      clear hat2
      obtain ⟨kd, who, nn, tx⟩ := it
      have HIL : Hid ((It.mk kd who nn tx).cells.length = 4) := Lib.hid rfl
      have HI1 := Lib.hid (item_one ⟨kd, who, nn, tx⟩)
      have HI00 : Hid ((It.mk kd who nn tx).cells[0]? = some (.int .i64 kd)) := Lib.hid rfl
      have HI02 : Hid ((It.mk kd who nn tx).cells[2]? = some (.int .i64 nn)) := Lib.hid rfl
      have HItD : Hid (Inb.isForce ⟨kd, who, nn, tx⟩ = (decide (kd = 2) && (It.mk kd who nn tx).ok)) := Lib.hid rfl
      have hk63 : L1.length + 1 ≤ maxLen := by unfold maxLen; omega
      have hk48 : ((L1.length + 1) + (L1.length + 1) / 4 + 192) * 8 ≤ 281474976710656 := by omega
      have Hr2 := Lib.hid hr2
      have HMB := Lib.hid (fun W => mayBe_any ⟨kd, who, nn, tx⟩ W)
      have HZI : Hid (It.zero.cells.length = 4) := Lib.hid rfl
      have Hnew := Lib.hid (Row.new wr 98 It.zero.cells)
      clear hr2
      generalize (It.mk kd who nn tx).cells = IC at *
      rcases Bool.eq_false_or_eq_true (kd == 2) with k1 | k1
      · have k1' : kd = 2 := by simpa using k1
        rcases Bool.eq_false_or_eq_true (It.mk kd who nn tx).ok with hok | hok
        · have HItem : Hid (Inb.isForce ⟨kd, who, nn, tx⟩ = true) := Lib.hid (by rw [HItD.out, hok]; simp [k1'])
          rw [hok] at HMB
          clear hok k1' HItD
          go_wp2_with (first
          | ((with_reducible show wpList _ _ _ (⟨_, .load 98 (.tmp 11), _, _, _, _⟩ :: _) _ _); refine wpList_load_tx rfl 98 (.tmp 11) rfl b2 (off2 + j * 4) rfl IC _ Hr2.out Tryd.underlying98 rfl (by rw [item_size, HIL.out]) ?_)
          | ((with_reducible show wpList _ _ _ (⟨_, .load 98 (.tmp 5), _, _, _, _⟩ :: _) _ _); refine wpList_load_tx rfl 98 (.tmp 5) rfl wr.heap.size 0 rfl IC _ (row_range HR7.out) Tryd.underlying98 rfl (by rw [item_size, HIL.out]) ?_)
          | (with_reducible show wpList _ _ _ (⟨_, .store 98 _ _, _, _, _, _⟩ :: _) _ _
             refine wpList_store_at rfl 98 (.tmp 5) (.tmp 12) rfl wr.heap.size 0 IC _ _ rfl rfl Hnew.out (by have := HIL.out; have := HZI.out; omega) (by rw [item_size, HIL.out]) HI1.out ?_
             intro w7 hr7 hg7
             rw [splice_all (HIL.out.trans HZI.out.symm)] at hr7
             have c0 := (row_range hr7) 0 _ HI00.out
             rw [Nat.zero_add] at c0
             have HM7 := Lib.hid ((HM2.out.step ((Below.refl wr.heap.size wr).alloc (Nat.le_refl _) (.cells It.zero.cells.toArray 98))).put Hnew.out (by decide) (by decide) hg7 (by have := HM2.out.lt; omega))
             have HR7 := Lib.hid hr7
             clear hr7 hg7))
          refine (HMB.out _).mono ?_
          rintro _ w8 ⟨rfl, hb8⟩
          have HM8 := Lib.hid (HM7.out.step hb8)
          have hR8 := HR7.out.kept (grownBy_of_below hb8 none) (by simp)
          have c2 := (row_range hR8) 2 _ HI02.out
          rw [Nat.zero_add] at c2
          clear hb8 c0 hR8
          have HMn := Lib.hid (HM8.out.step ((Below.refl w8.heap.size w8).alloc (Nat.le_refl _) (.cells #[.int .i64 nn] 3)))
          have Hnew2 := Lib.hid (row_news (Row.new w8 3 [.int .i64 nn]))
          have hzn : w.heap.size ≤ (w8.alloc (.cells #[.int .i64 nn] 3)).heap.size := HMn.out.2.2.size
          go_wp2_with (at_builtin; refine wpList_append_own_wide _ rfl (.tmp 20) (.tmp 23) 65 rfl w.heap.size 3 i0 (.int .i64 0) 1 8 Tryd.underlying65 Hi.out Hz.out Hsz.out Hby.out rfl (by decide) v _ _ rfl HMn.out.2.1 ⟨w8.heap.size, 0, none⟩ 1 1 [.int .i64 nn] rfl rfl Hnew2.out (by intro u hu; simp at hu; subst hu; rfl) hk63 hk48 hzn ?_
                       intro v' w9 hown9 hgrow9 _
                       obtain ⟨g9, cp9, rfl⟩ := ownsRow_succ hown9
                       have HM9 := Lib.hid (HMn.out.grow hown9 hgrow9)
                       clear hown9 hgrow9)
          exact ⟨⟨j + 1, _, hjm, by go_num, rfl, by rw [HYes.out HItem.out]; exact HM9.out⟩, by simp [intOf]; omega⟩
        · have HItem : Hid (Inb.isForce ⟨kd, who, nn, tx⟩ = false) := Lib.hid (by rw [HItD.out, hok]; simp)
          rw [hok] at HMB
          clear hok k1' HItD
          go_wp2_with (first
          | ((with_reducible show wpList _ _ _ (⟨_, .load 98 (.tmp 11), _, _, _, _⟩ :: _) _ _); refine wpList_load_tx rfl 98 (.tmp 11) rfl b2 (off2 + j * 4) rfl IC _ Hr2.out Tryd.underlying98 rfl (by rw [item_size, HIL.out]) ?_)
          | ((with_reducible show wpList _ _ _ (⟨_, .load 98 (.tmp 5), _, _, _, _⟩ :: _) _ _); refine wpList_load_tx rfl 98 (.tmp 5) rfl wr.heap.size 0 rfl IC _ (row_range HR7.out) Tryd.underlying98 rfl (by rw [item_size, HIL.out]) ?_)
          | (with_reducible show wpList _ _ _ (⟨_, .store 98 _ _, _, _, _, _⟩ :: _) _ _
             refine wpList_store_at rfl 98 (.tmp 5) (.tmp 12) rfl wr.heap.size 0 IC _ _ rfl rfl Hnew.out (by have := HIL.out; have := HZI.out; omega) (by rw [item_size, HIL.out]) HI1.out ?_
             intro w7 hr7 hg7
             rw [splice_all (HIL.out.trans HZI.out.symm)] at hr7
             have c0 := (row_range hr7) 0 _ HI00.out
             rw [Nat.zero_add] at c0
             have HM7 := Lib.hid ((HM2.out.step ((Below.refl wr.heap.size wr).alloc (Nat.le_refl _) (.cells It.zero.cells.toArray 98))).put Hnew.out (by decide) (by decide) hg7 (by have := HM2.out.lt; omega))
             have HR7 := Lib.hid hr7
             clear hr7 hg7))
          refine (HMB.out _).mono ?_
          rintro _ w8 ⟨rfl, hb8⟩
          have HM8 := Lib.hid (HM7.out.step hb8)
          have hR8 := HR7.out.kept (grownBy_of_below hb8 none) (by simp)
          have c2 := (row_range hR8) 2 _ HI02.out
          rw [Nat.zero_add] at c2
          clear hb8 c0 hR8
          go_wp2_with fail
          exact ⟨⟨j + 1, _, hjm, by go_num, rfl, by rw [HNo.out HItem.out]; exact HM8.out⟩, by simp [intOf]; omega⟩
      · have k2 : ¬ kd = 2 := by simpa using k1
        have HItem : Hid (Inb.isForce ⟨kd, who, nn, tx⟩ = false) := Lib.hid (by rw [HItD.out]; simp [k2])
        clear HItD k2
        go_wp2_with (first
        | ((with_reducible show wpList _ _ _ (⟨_, .load 98 (.tmp 11), _, _, _, _⟩ :: _) _ _); refine wpList_load_tx rfl 98 (.tmp 11) rfl b2 (off2 + j * 4) rfl IC _ Hr2.out Tryd.underlying98 rfl (by rw [item_size, HIL.out]) ?_)
        | ((with_reducible show wpList _ _ _ (⟨_, .load 98 (.tmp 5), _, _, _, _⟩ :: _) _ _); refine wpList_load_tx rfl 98 (.tmp 5) rfl wr.heap.size 0 rfl IC _ (row_range HR7.out) Tryd.underlying98 rfl (by rw [item_size, HIL.out]) ?_)
        | (with_reducible show wpList _ _ _ (⟨_, .store 98 _ _, _, _, _, _⟩ :: _) _ _
           refine wpList_store_at rfl 98 (.tmp 5) (.tmp 12) rfl wr.heap.size 0 IC _ _ rfl rfl Hnew.out (by have := HIL.out; have := HZI.out; omega) (by rw [item_size, HIL.out]) HI1.out ?_
           intro w7 hr7 hg7
           rw [splice_all (HIL.out.trans HZI.out.symm)] at hr7
           have c0 := (row_range hr7) 0 _ HI00.out
           rw [Nat.zero_add] at c0
           have HM7 := Lib.hid ((HM2.out.step ((Below.refl wr.heap.size wr).alloc (Nat.le_refl _) (.cells It.zero.cells.toArray 98))).put Hnew.out (by decide) (by decide) hg7 (by have := HM2.out.lt; omega))
           have HR7 := Lib.hid hr7
           clear hr7 hg7))
        exact ⟨⟨j + 1, _, hjm, by go_num, rfl, by rw [HNo.out HItem.out]; exact HM7.out⟩, by simp [intOf]; omega⟩
    · have hji : (m : Int) ≤ (j : Int) := by omega
      have hje : j = its.length := by rw [← HMl.out]; omega
      have hMe : FoAt w wr C v (Inb.forces its) := by
        have := HM2.out
        rw [hje, List.take_length] at this
        exact this
      have Ho := Lib.hid hMe.2.1
      have Hbe := Lib.hid hMe.2.2
      clear hje hMe
      go_wp2_with fail
      go_ret
      exact ⟨⟨_, rfl, Ho.out⟩, Hbe.out⟩
set_option maxRecDepth 20000 in
set_option maxHeartbeats 1600000 in
theorem rforces_any (b : Bk) (A : Option Addr) (cp : Nat) (hp : b.parent.length = 32) (w : World) (hits : BkItems w w.heap.size A b.items) (hlen : b.items.length ≤ 3000000) :
    Calls Tryd.prog 37 #[.agg (b.cells A cp).toArray] w fun e w' => NumsOut w.heap.size (Inb.forces b.items) e w' ∧ Below w.heap.size w w' := by
  obtain ⟨i0, hi0, h2⟩ := Option.map_eq_some_iff.1 int12_info
  simp only [Prod.mk.injEq] at h2
  have Hi := Lib.hid hi0
  have Hz := Lib.hid h2.1
  have Hsz := Lib.hid h2.2.1
  have Hby := Lib.hid h2.2.2
  clear hi0 h2
  have H34 := Lib.hid (Bk.cell34 (b := b) (A := A) (cap := cp) hp)
  have hb0 := (Below.refl w.heap.size w).alloc (Nat.le_refl _) (.cells (b.cells A cp).toArray 45)
  have hR0 := Row.new w 45 (b.cells A cp)
  have c34 := (row_range hR0) 34 _ H34.out
  rw [Nat.zero_add] at c34
  have HF0 : Hid (FoAt w (w.alloc (.cells (b.cells A cp).toArray 45)) (b.cells A cp) (.slice none 0 0) []) := Lib.hid ⟨hR0, ⟨by simp, .inl ⟨rfl, rfl⟩⟩, hb0⟩
  have Hits := Lib.hid hits.1
  have hml := hits.2
  generalize b.cells A cp = C at *
  obtain ⟨its, hit⟩ : ∃ its, its = b.items := ⟨_, rfl⟩
  rw [← hit] at Hits hml hlen H34 c34
  rw [← hit]
  obtain ⟨m, hm⟩ : ∃ m, m = its.length := ⟨_, rfl⟩
  rw [← hm] at hml hlen H34 c34
  have HMl := Lib.hid hm
  clear hit hm hR0 hb0 hits hp
  clear c34
  go_enter Tryd.func37, Tryd.ntmps37
  go_wp2_with fail
  go_loopw [3, 4] (fun v3 i wr => ∃ (j : Nat) (v : Value), j ≤ m ∧ i = .int .i64 j ∧ v = v3 ∧ FoAt w wr C v (Inb.forces (its.take j))) (fun _ i _ => m - (intOf i).toNat)
  case atStart => exact ⟨0, _, Nat.zero_le _, rfl, rfl, HF0.out⟩
  case round =>
    obtain ⟨j, v, hj, rfl, rfl, hM2⟩ := hrel
    have HM2 := Lib.hid hM2
    have c34 := (row_range hM2.1) 34 _ H34.out
    rw [Nat.zero_add] at c34
    clear hM2 HF0
    by_cases hjm : j < m
    · skip
      have hji : (j : Int) < (m : Int) := by omega
      have hjl : j < its.length := by rw [← HMl.out]; exact hjm
      obtain ⟨b2, off2, rfl, hb2, hat2⟩ := Hits.out (by intro e; rw [e] at hjl; simp at hjl)
      have hr2 := range_below (hat2 j hjl) HM2.out.2.2 hb2
      have HYes := Lib.hid (Inb.forces_yes hjl)
      have HNo := Lib.hid (Inb.forces_no hjl)
      have hcnt : (Inb.forces (its.take j)).length ≤ 4000000 := by
        have h1 := Inb.forces_len (its.take j)
        rw [List.length_take] at h1
        omega
      generalize Inb.forces (its.take j) = L1 at *
      generalize its[j] = it at *
      clear hat2
      obtain ⟨kd, who, nn, tx⟩ := it
      have HIL : Hid ((It.mk kd who nn tx).cells.length = 4) := Lib.hid rfl
      have HI1 := Lib.hid (item_one ⟨kd, who, nn, tx⟩)
      have HI00 : Hid ((It.mk kd who nn tx).cells[0]? = some (.int .i64 kd)) := Lib.hid rfl
      have HI02 : Hid ((It.mk kd who nn tx).cells[2]? = some (.int .i64 nn)) := Lib.hid rfl
      have HItD : Hid (Inb.isForce ⟨kd, who, nn, tx⟩ = (decide (kd = 2) && (It.mk kd who nn tx).ok)) := Lib.hid rfl
      have hk63 : L1.length + 1 ≤ maxLen := by unfold maxLen; omega
      have hk48 : ((L1.length + 1) + (L1.length + 1) / 4 + 192) * 8 ≤ 281474976710656 := by omega
      have Hr2 := Lib.hid hr2
      have R2 : Hid (∀ W, Below w.heap.size w W → W.cell? ⟨b2, off2 + j * 4 + 2, none⟩ = some (.int .i64 nn)) := Lib.hid (by
        intro W hW
        have h0 := hr2 2 _ HI02.out
        rw [HM2.out.2.2.cell (p := ⟨b2, off2 + j * 4 + 2, none⟩) hb2] at h0
        exact (hW.cell (p := ⟨b2, off2 + j * 4 + 2, none⟩) hb2).trans h0)
      have c0 := hr2 0 _ HI00.out
      rw [Nat.add_zero] at c0
      have HMB := Lib.hid (fun W => item5_any ⟨kd, who, nn, tx⟩ W)
      clear hr2
      generalize (It.mk kd who nn tx).cells = IC at *
      rcases Bool.eq_false_or_eq_true (kd == 2) with k1 | k1
      · have k1' : kd = 2 := by simpa using k1
        rcases Bool.eq_false_or_eq_true (It.mk kd who nn tx).ok with hok | hok
        · have HItem : Hid (Inb.isForce ⟨kd, who, nn, tx⟩ = true) := Lib.hid (by rw [HItD.out, hok]; simp [k1'])
          rw [hok] at HMB
          clear hok k1' HItD
          go_wp2_with ((with_reducible show wpList _ _ _ (⟨_, .load 98 (.tmp 23), _, _, _, _⟩ :: _) _ _); refine wpList_load_tx rfl 98 (.tmp 23) rfl b2 (off2 + j * 4) rfl IC _ Hr2.out Tryd.underlying98 rfl (by rw [item_size, HIL.out]) ?_)
          refine (HMB.out _).mono ?_
          rintro _ w8 ⟨rfl, hb8⟩
          have HM8 := Lib.hid (HM2.out.step hb8)
          have d34 := (row_range HM8.out.1) 34 _ H34.out
          have d2 := R2.out _ HM8.out.2.2
          rw [Nat.zero_add] at d34
          clear hb8 c34 c0
          have HMn := Lib.hid (HM8.out.step ((Below.refl w8.heap.size w8).alloc (Nat.le_refl _) (.cells #[.int .i64 nn] 3)))
          have Hnew2 := Lib.hid (row_news (Row.new w8 3 [.int .i64 nn]))
          have hzn : w.heap.size ≤ (w8.alloc (.cells #[.int .i64 nn] 3)).heap.size := HMn.out.2.2.size
          go_wp2_with (at_builtin; refine wpList_append_own_wide _ rfl (.tmp 27) (.tmp 34) 65 rfl w.heap.size 3 i0 (.int .i64 0) 1 8 Tryd.underlying65 Hi.out Hz.out Hsz.out Hby.out rfl (by decide) v _ _ rfl HMn.out.2.1 ⟨w8.heap.size, 0, none⟩ 1 1 [.int .i64 nn] rfl rfl Hnew2.out (by intro u hu; simp at hu; subst hu; rfl) hk63 hk48 hzn ?_
                       intro v' w9 hown9 hgrow9 _
                       obtain ⟨g9, cp9, rfl⟩ := ownsRow_succ hown9
                       have HM9 := Lib.hid (HMn.out.grow hown9 hgrow9)
                       clear hown9 hgrow9)
          exact ⟨⟨j + 1, _, hjm, by go_num, rfl, by rw [HYes.out HItem.out]; exact HM9.out⟩, by simp [intOf]; omega⟩
        · have HItem : Hid (Inb.isForce ⟨kd, who, nn, tx⟩ = false) := Lib.hid (by rw [HItD.out, hok]; simp)
          rw [hok] at HMB
          clear hok k1' HItD
          go_wp2_with ((with_reducible show wpList _ _ _ (⟨_, .load 98 (.tmp 23), _, _, _, _⟩ :: _) _ _); refine wpList_load_tx rfl 98 (.tmp 23) rfl b2 (off2 + j * 4) rfl IC _ Hr2.out Tryd.underlying98 rfl (by rw [item_size, HIL.out]) ?_)
          refine (HMB.out _).mono ?_
          rintro _ w8 ⟨rfl, hb8⟩
          have HM8 := Lib.hid (HM2.out.step hb8)
          have d34 := (row_range HM8.out.1) 34 _ H34.out
          have d2 := R2.out _ HM8.out.2.2
          rw [Nat.zero_add] at d34
          clear hb8 c34 c0
          go_wp2_with fail
          exact ⟨⟨j + 1, _, hjm, by go_num, rfl, by rw [HNo.out HItem.out]; exact HM8.out⟩, by simp [intOf]; omega⟩
      · have k2 : ¬ kd = 2 := by simpa using k1
        have HItem : Hid (Inb.isForce ⟨kd, who, nn, tx⟩ = false) := Lib.hid (by rw [HItD.out]; simp [k2])
        clear HItD k2
        go_wp2_with fail
        exact ⟨⟨j + 1, _, hjm, by go_num, rfl, by rw [HNo.out HItem.out]; exact HM2.out⟩, by simp [intOf]; omega⟩
    · have hji : (m : Int) ≤ (j : Int) := by omega
      have hje : j = its.length := by rw [← HMl.out]; omega
      have hMe : FoAt w wr C v (Inb.forces its) := by
        have := HM2.out
        rw [hje, List.take_length] at this
        exact this
      have Ho := Lib.hid hMe.2.1
      have Hbe := Lib.hid hMe.2.2
      clear hje hMe
      go_wp2_with fail
      go_ret
      exact ⟨⟨_, rfl, Ho.out⟩, Hbe.out⟩
end Go.Proofs.YtjeooegkfjlejaaDoor
