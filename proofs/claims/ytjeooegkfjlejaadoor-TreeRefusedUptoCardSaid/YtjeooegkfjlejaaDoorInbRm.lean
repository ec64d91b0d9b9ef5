/- cavalcaderef12.Messages: what it returns. -/
import Derived.Test.YtjeooegkfjlejaaDoorInbMsg
namespace Go.Proofs.YtjeooegkfjlejaaDoor
open Go.RowKit
set_option linter.unusedVariables false
set_option linter.unusedSimpArgs false

theorem rlist_2 (a b : List UInt8) (W : World) : Calls Tryd.prog 45 #[.slice (some ⟨W.heap.size, 0, none⟩) 2 2] (W.alloc (.cells #[S a, S b] 9)) fun e w' => e = .returned (.tuple #[S (Oct.listE [a, b]).1, .int .i64 (Oct.listE [a, b]).2]) ∧ Below (W.alloc (.cells #[S a, S b] 9)).heap.size (W.alloc (.cells #[S a, S b] 9)) w' :=
  refList_any _ 2 [a, b] _ (texts_new W 9 [a, b])
/-- where the reference's Messages stands -/
def RefAt (w wr : World) (v : Value) (s : List UInt8 × List En) : Prop :=
  s.1.length = 32 ∧ (∀ e ∈ s.2, e.acc.length = 32) ∧ Row wr w.heap.size 42 (bRow s.1).toList ∧ wr.ownsRow w.heap.size 78 35 v s.2.length (En.flat s.2) ∧ Below w.heap.size w wr
theorem RefAt.step {w wr w' : World} {v : Value} {s : List UInt8 × List En} (h : RefAt w wr v s) (hb : Below wr.heap.size wr w') : RefAt w w' v s :=
  ⟨h.1, h.2.1, h.2.2.1.kept (grownBy_of_below hb none) (by simp), own_below h.2.2.2.1 hb, two_below' h.2.2.2.2 hb⟩
theorem RefAt.put {w wr w' : World} {g : Nat} {T : TypeId} {xs : List Value} {v : Value} {s : List UInt8 × List En} (h : RefAt w wr v s) (hr : Row wr g T xs) (h1 : T ≠ 78) (h3 : T ≠ 42)
    (hg : wr.grownBy w' (some g)) (hle : w.heap.size ≤ g) : RefAt w w' v s :=
  ⟨h.1, h.2.1, h.2.2.1.kept hg (row_diff h.2.2.1 hr h3.symm), h.2.2.2.1.kept hg (.inr (row_ne_own hr h.2.2.2.1 h1)), below_of_store h.2.2.2.2 hg hle⟩
theorem RefAt.lt {w wr : World} {v : Value} {s : List UInt8 × List En} (h : RefAt w wr v s) : w.heap.size < wr.heap.size := h.2.2.1.lt
/-- what the drawn statement counts on -/
def RefIn (w W : World) (g : Nat) (K : List UInt8) (IC : List Value) : Prop := Row W w.heap.size 42 (bRow K).toList ∧ Row W g 98 IC ∧ Below w.heap.size w W
theorem RefIn.step {w W W' : World} {g : Nat} {K : List UInt8} {IC : List Value} (h : RefIn w W g K IC) (hb : Below W.heap.size W W') : RefIn w W' g K IC :=
  ⟨h.1.kept (grownBy_of_below hb none) (by simp), h.2.1.kept (grownBy_of_below hb none) (by simp), two_below' h.2.2 hb⟩
set_option maxRecDepth 20000 in
set_option maxHeartbeats 3200000 in
theorem rmessages_any (hRS : RefSum) (A : Option Addr) (c : Nat) (l : List Bk) (w : World) (hB : BksAt w w.heap.size A l) (hl : l.length ≤ 9223372036854775807) (htot : Inb.tot l ≤ 3000000) :
    Calls Tryd.prog 41 #[.slice A l.length c] w fun e w' => EnsOut w.heap.size (Inb.msgs l) e w' ∧ Below w.heap.size w w' := by
  obtain ⟨i0, hi0, h2⟩ := Option.map_eq_some_iff.1 en_info
  simp only [Prod.mk.injEq] at h2
  have Hi := Lib.hid hi0
  have Hz := Lib.hid h2.1
  have Hsz := Lib.hid h2.2.1
  have Hby := Lib.hid h2.2.2
  clear hi0 h2
  obtain ⟨n, hn⟩ : ∃ n, n = l.length := ⟨_, rfl⟩
  rw [← hn]
  have HN := Lib.hid hn
  have HB := Lib.hid hB
  have HRS := Lib.hid hRS
  have hz42 := hash_zv
  have hz98 := item_zv
  have Hrow0 := Lib.hid (Row.new w 42 (bRow Tx.zero).toList)
  have HZ32 := Lib.hid (Tx.bRow_len Tx.zero rfl)
  have HZ1 : Hid (∀ v ∈ (bRow Tx.zero).toList, v.oneCell' = true) := Lib.hid (hash_one _ rfl)
  rw [← hn] at hl
  clear hn hB hRS
  go_enter Tryd.func41, Tryd.ntmps41
  go_wp2_with (first
  | ((with_reducible show wpList _ _ _ (⟨_, .build 42 _, _, _, _, _⟩ :: _) _ _); refine wpList_buildL rfl 42 [] rfl (some 12) rfl [] rfl (bRow Tx.zero) hash_built ?_)
  | (with_reducible show wpList _ _ _ (⟨_, .store 42 _ _, _, _, _, _⟩ :: _) _ _
     refine wpList_store_at rfl 42 (.tmp 4) (.tmp 12) rfl w.heap.size 0 (bRow Tx.zero).toList _ _ rfl rfl Hrow0.out (by have := HZ32.out; omega) (by rw [hash_info, HZ32.out]) HZ1.out ?_
     intro w1 hr1 hg1
     rw [splice_all rfl] at hr1
     have HR0 : Hid (RefAt w w1 (.slice none 0 0) Inb.start) := Lib.hid ⟨rfl, by simp [Inb.start], hr1, ⟨by simp [En.flat, Inb.start], .inl ⟨rfl, rfl⟩⟩, below_own ((Below.refl w.heap.size w).alloc (Nat.le_refl _) _) hg1 (fun k hk => by cases hk; exact Nat.le_refl _)⟩
     clear hr1 hg1))
  clear hz42
  go_loopw [3, 5] (fun v3 i wr => ∃ (k : Nat) (v : Value), k ≤ n ∧ i = .int .i64 k ∧ v = v3 ∧ RefAt w wr v (Inb.run (l.take k))) (fun _ i _ => n - (intOf i).toNat)
  case atStart => exact ⟨0, _, Nat.zero_le _, rfl, rfl, HR0.out⟩
  case round =>
    obtain ⟨k, v, hk, rfl, rfl, hM⟩ := hrel
    have HM := Lib.hid hM
    clear hM HR0 Hrow0
    by_cases hlt : k < n
    · have hki : (k : Int) < (n : Int) := by omega
      have hkl : k < l.length := by rw [← HN.out]; exact hlt
      obtain ⟨bb, off, rfl, hbb, hat⟩ := HB.out (by intro e; rw [e] at hkl; simp at hkl)
      obtain ⟨A', cp, hrng, hits, hcap, hpl⟩ := hat k hkl
      have HRun := Lib.hid (Inb.run_take hkl)
      have HC0 := Lib.hid (Inb.run_count (l.take k))
      have htk : Inb.tot (l.take k) + l[k].items.length ≤ 3000000 := by have h1 := Inb.tot_take l k hkl; have h2 := Inb.tot_le l (k + 1); omega
      have C34 : Hid (∀ W, Below w.heap.size w W → W.cell? ⟨bb, off + k * 35 + 34, none⟩ = some (.slice A' l[k].items.length cp)) := Lib.hid (fun W hW => range_below hrng hW hbb 34 _ (Bk.cell34 hpl))
      have C00 : Hid (∀ W, Below w.heap.size w W → W.cell? ⟨bb, off + k * 35, none⟩ = some (.int .i64 l[k].number)) := Lib.hid (fun W hW => range_below hrng hW hbb 0 _ (Bk.cell0 l[k] A' cp))
      have Hits := Lib.hid hits.1
      have hml := hits.2
      have hbsz : Inb.block (Inb.run (l.take k)) l[k] = l[k].items.foldl (Inb.step l[k].number) (Inb.run (l.take k)) := rfl
      have HBlk := Lib.hid hbsz
      obtain ⟨s0, hs0⟩ : ∃ s0, s0 = Inb.run (l.take k) := ⟨_, rfl⟩
      rw [← hs0] at HRun HM HC0 HBlk
      have hs0c : s0.2.length + l[k].items.length ≤ 3000000 := by have := HC0.out; omega
      obtain ⟨its, hit⟩ : ∃ its, its = l[k].items := ⟨_, rfl⟩
      obtain ⟨num, hnum⟩ : ∃ num, num = l[k].number := ⟨_, rfl⟩
      rw [← hit] at HBlk Hits hml hs0c C34
      rw [← hnum] at HBlk C00
      obtain ⟨m, hm⟩ : ∃ m, m = its.length := ⟨_, rfl⟩
      rw [← hm] at hml hs0c C34
      have HMl := Lib.hid hm
      clear hit hnum hs0 hat hrng hits hcap hpl hbsz htk hm HC0
      go_wp2_with fail
      generalize wr = wo at *
      go_loopw [3, 6] (fun v3 i wr => ∃ (j : Nat) (v : Value), j ≤ m ∧ i = .int .i64 j ∧ v = v3 ∧ RefAt w wr v ((its.take j).foldl (Inb.step num) s0)) (fun _ i _ => m - (intOf i).toNat)
      case atStart => exact ⟨0, _, Nat.zero_le _, rfl, rfl, HM.out⟩
      case round =>
        obtain ⟨j, v, hj, rfl, rfl, hM2⟩ := hrel
        have HM2 := Lib.hid hM2
        have c34 := C34.out _ hM2.2.2.2.2
        clear hM2 HM
        by_cases hjm : j < m
        · have hji : (j : Int) < (m : Int) := by omega
          have hjl : j < its.length := by rw [← HMl.out]; exact hjm
          obtain ⟨b2, off2, rfl, hb2, hat2⟩ := Hits.out (by intro e; rw [e] at hjl; simp at hjl)
          have Hr2 := Lib.hid (range_below (hat2 j hjl) HM2.out.2.2.2.2 hb2)
          have HF := Lib.hid (Inb.fold_take hjl (Inb.step num) s0)
          have hcnt : ((its.take j).foldl (Inb.step num) s0).2.length ≤ 4000000 := by
            have h1 := Inb.fold_count num (its.take j) s0
            rw [List.length_take] at h1
            omega
          generalize (its.take j).foldl (Inb.step num) s0 = s1 at *
          generalize its[j] = it at *
          clear hat2
          obtain ⟨kd, who, nn, tx⟩ := it
          obtain ⟨t, rfl⟩ : ∃ t : List UInt8, tx = ⟨t.toArray⟩ := ⟨tx.data.toList, (bytes_back tx).symm⟩
          have HMB := Lib.hid (fun W => item5_any ⟨kd, who, nn, ⟨t.toArray⟩⟩ W)
          have HIL : Hid ((It.mk kd who nn ⟨t.toArray⟩).cells.length = 4) := Lib.hid rfl
          have HI1 := Lib.hid (item_one ⟨kd, who, nn, ⟨t.toArray⟩⟩)
          have HI00 : Hid ((It.mk kd who nn ⟨t.toArray⟩).cells[0]? = some (.int .i64 kd)) := Lib.hid rfl
          have HI01 : Hid ((It.mk kd who nn ⟨t.toArray⟩).cells[1]? = some (.int .i64 who)) := Lib.hid rfl
          have HI03 : Hid ((It.mk kd who nn ⟨t.toArray⟩).cells[3]? = some (S t)) := Lib.hid rfl
          have HZI : Hid (It.zero.cells.length = 4) := Lib.hid rfl
          have Hnew := Lib.hid (Row.new wr 98 It.zero.cells)
          have HItD : Hid (Inb.item ⟨kd, who, nn, ⟨t.toArray⟩⟩ = (decide (kd = 1) && (decide (t.length ≤ 640) && (It.mk kd who nn ⟨t.toArray⟩).ok))) := Lib.hid rfl
          have HWho : Hid ((It.mk kd who nn ⟨t.toArray⟩).ok = true → kd = 1 → 0 ≤ who ∧ who ≤ 64) := Lib.hid (fun h h1 => by
            have h4 := (It.ok_iff _).1 h
            simp only at h4
            omega)
          generalize (It.mk kd who nn ⟨t.toArray⟩).cells = IC at *
          rcases Bool.eq_false_or_eq_true (kd == 1) with k1 | k1
          · have k1' : kd = 1 := by simpa using k1
            have k1n : (kd != 1) = false := by simp [k1']
            rcases Bool.eq_false_or_eq_true (It.mk kd who nn ⟨t.toArray⟩).ok with hok | hok
            · by_cases hsz : t.length ≤ 640
              · have z1 : decide ((640 : Int) < (t.length : Int)) = false := by simp; omega
                have z2 : (t.length : Int) ≤ 640 := by omega
                have HItem : Hid (Inb.item ⟨kd, who, nn, ⟨t.toArray⟩⟩ = true) := Lib.hid (by rw [HItD.out, hok]; simp [k1', hsz])
                obtain ⟨w0, w1⟩ := HWho.out hok k1'
                rw [hok] at HMB
                clear hok k1' HItD HWho
                go_wp2_with (first
                | ((with_reducible show wpList _ _ _ (⟨_, .load 98 (.tmp 35), _, _, _, _⟩ :: _) _ _); refine wpList_load_tx rfl 98 (.tmp 35) rfl b2 (off2 + j * 4) rfl IC _ Hr2.out Tryd.underlying98 rfl (by rw [item_size, HIL.out]) ?_)
                | ((with_reducible show wpList _ _ _ (⟨_, .load 98 (.tmp 7), _, _, _, _⟩ :: _) _ _); refine wpList_load_tx rfl 98 (.tmp 7) rfl wr.heap.size 0 rfl IC _ (row_range HR7.out) Tryd.underlying98 rfl (by rw [item_size, HIL.out]) ?_)
                | (with_reducible show wpList _ _ _ (⟨_, .store 98 _ _, _, _, _, _⟩ :: _) _ _
                   refine wpList_store_at rfl 98 (.tmp 7) (.tmp 36) rfl wr.heap.size 0 IC _ _ rfl rfl Hnew.out (by have := HIL.out; have := HZI.out; omega) (by rw [item_size, HIL.out]) HI1.out ?_
                   intro w7 hr7 hg7
                   rw [splice_all (HIL.out.trans HZI.out.symm)] at hr7
                   have c0 := (row_range hr7) 0 _ HI00.out
                   rw [Nat.zero_add] at c0
                   have HM7 := Lib.hid ((HM2.out.step ((Below.refl wr.heap.size wr).alloc (Nat.le_refl _) (.cells It.zero.cells.toArray 98))).put Hnew.out (by decide) (by decide) hg7 (by have := HM2.out.lt; omega))
                   have HR7 := Lib.hid hr7
                   clear hr7 hg7))
                refine (HMB.out _).mono ?_
                rintro _ w8 ⟨rfl, hb8⟩
                have HM8 := Lib.hid (HM7.out.step hb8)
                have hR8 := HR7.out.kept (grownBy_of_below hb8 none) (by simp)
                have c1 := (row_range hR8) 1 _ HI01.out
                have c3 := (row_range hR8) 3 _ HI03.out
                rw [Nat.zero_add] at c1 c3
                have HR8 := Lib.hid hR8
                clear hb8 c0 hR8
                obtain ⟨nb, hnb⟩ : ∃ nb, nb = Oct.num who.toNat := ⟨_, rfl⟩
                have NB : Hid (∀ W, Calls Tryd.prog 44 #[.int .i64 who] W fun e w' => e = .returned (.tuple #[S nb, .int .i64 0]) ∧ Below W.heap.size W w') := Lib.hid (fun W => by
                  have := refNumber_any who W (by omega)
                  have e : Oct.numE who = (nb, 0) := by unfold Oct.numE; rw [if_neg (by omega), hnb]
                  rw [e] at this
                  exact this)
                have hnl : nb.length ≤ 9 := by rw [hnb]; exact Oct.num_length_le _
                obtain ⟨ms, hms⟩ : ∃ ms, Oct.listE [nb, t] = (ms, 0) := listE_small _ (by simp) (by simp only [total_cons]; have : Oct.total [] = 0 := rfl; omega)
                have LB : Hid (∀ W : World, Calls Tryd.prog 45 #[.slice (some ⟨W.heap.size, 0, none⟩) 2 2] (W.alloc (.cells #[S nb, S t] 9)) fun e w' => e = .returned (.tuple #[S ms, .int .i64 0]) ∧ Below (W.alloc (.cells #[S nb, S t] 9)).heap.size (W.alloc (.cells #[S nb, S t] 9)) w') := Lib.hid (fun W => by
                  have := rlist_2 nb t W
                  rw [hms] at this
                  exact this)
                have hml2 : ms.length ≤ 100000 := by have := listE_len [nb, t]; rw [hms] at this; exact this
                obtain ⟨K, hK⟩ : ∃ K, K = Inb.link s1.1 who ⟨t.toArray⟩ := ⟨_, rfl⟩
                have hKs : K = Sha.sum (s1.1 ++ ms) := by rw [hK]; unfold Inb.link Inb.msg; rw [← hnb]; show Sha.sum (s1.1 ++ (Oct.listE [nb, t]).1) = _; rw [hms]
                have hKl : K.length = 32 := by rw [hK]; exact Inb.link_len _ _ _
                have CB : Hid (∀ W : World, Calls Tryd.prog 46 #[.agg (bRow s1.1).toList.toArray, S ms] W fun e w' => e = .returned (.agg (bRow K)) ∧ Below W.heap.size W w') := Lib.hid (fun W => by
                  have := refChain_any HRS.out s1.1 ⟨ms.toArray⟩ W HM2.out.1 (by show ms.length ≤ _; omega)
                  rw [show (⟨ms.toArray⟩ : ByteArray).data.toList = ms from rfl, ← hKs] at this
                  simpa using this)
                have HStep : Hid (Inb.step num s1 ⟨kd, who, nn, ⟨t.toArray⟩⟩ = (K, s1.2 ++ [⟨who, ⟨t.toArray⟩, num, K⟩])) := Lib.hid (by rw [Inb.step_yes HItem.out, hK])
                have HA32 := Lib.hid (Tx.bRow_len s1.1 HM2.out.1)
                have HK32 := Lib.hid (Tx.bRow_len K hKl)
                have HK1 := Lib.hid (hash_one K hKl)
                have HBU := Lib.hid (en_four who num ⟨t.toArray⟩ K hKl)
                have HCL := Lib.hid (En.cells_len (e := ⟨who, ⟨t.toArray⟩, num, K⟩) hKl)
                have HC1 := Lib.hid (En.cells_one (e := ⟨who, ⟨t.toArray⟩, num, K⟩) hKl)
                have HKL := Lib.hid hKl
                have hk63 : s1.2.length + 1 ≤ maxLen := by unfold maxLen; omega
                have hk48 : ((s1.2.length + 1) + (s1.2.length + 1) / 4 + 192) * 64 ≤ 281474976710656 := by omega
                have HFS := Lib.hid (En.flat_snoc s1.2 ⟨who, ⟨t.toArray⟩, num, K⟩)
                have HLS : Hid ((s1.2 ++ [(⟨who, ⟨t.toArray⟩, num, K⟩ : En)]).length = s1.2.length + 1) := Lib.hid (by simp)
                obtain ⟨X, hX⟩ : ∃ X : En, X = ⟨who, ⟨t.toArray⟩, num, K⟩ := ⟨_, rfl⟩
                rw [← hX] at HBU HCL HC1 HFS HLS HStep
                have Hall : Hid (∀ e ∈ s1.2 ++ [X], e.acc.length = 32) := Lib.hid (fun e he => by
                  rcases List.mem_append.1 he with he | he
                  · exact HM2.out.2.1 e he
                  · rw [List.mem_singleton.1 he, hX]; exact hKl)
                clear hX hK hKs hms hnb hKl
                generalize X.cells = C at *
                have hu42 := Tryd.underlying42
                have hi42 : (Tryd.prog.info? 42).map (·.size) = some (bRow K).toList.length := by rw [hash_info, HK32.out]
                have hg9 : w.heap.size < wr.heap.size := HM2.out.lt
                go_wp2_with fail
                refine (NB.out _).mono ?_
                rintro _ w9 ⟨rfl, hb9⟩
                have HM9 := Lib.hid (HM8.out.step hb9)
                have hR9 := HR8.out.kept (grownBy_of_below hb9 none) (by simp)
                have d3 := (row_range hR9) 3 _ HI03.out
                rw [Nat.zero_add] at d3
                have HR9 := Lib.hid hR9
                clear hb9 c1 c3 hR9
                go_wp2_with fail
                refine (LB.out _).mono ?_
                rintro _ w10 ⟨rfl, hb10⟩
                have HM10 := Lib.hid ((HM9.out.step ((Below.refl w9.heap.size w9).alloc (Nat.le_refl _) _)).step hb10)
                have HR10 := Lib.hid ((HR9.out.kept (grownBy_alloc w9 (.cells #[S nb, S t] 9) none) (by simp)).kept (grownBy_of_below hb10 none) (by simp))
                clear hb10 d3
                go_wp2_with ((with_reducible show wpList _ _ _ (⟨_, .load 42 _, _, _, _, _⟩ :: _) _ _); refine wpList_load_tx rfl 42 (.tmp 4) rfl w.heap.size 0 rfl (bRow s1.1).toList _ (row_range HM10.out.2.2.1) Tryd.underlying42 rfl (by rw [hash_info, HA32.out]) ?_)
                refine (CB.out _).mono ?_
                rintro _ w11 ⟨rfl, hb11⟩
                have HM11 := Lib.hid (HM10.out.step hb11)
                have HR11 := Lib.hid (HR10.out.kept (grownBy_of_below hb11 none) (by simp))
                clear hb11
                go_wp2_with (with_reducible show wpList _ _ _ (⟨_, .store 42 _ _, _, _, _, _⟩ :: _) _ _
                             refine wpList_store_at rfl 42 (.tmp 4) (.tmp 67) rfl w.heap.size 0 (bRow K).toList _ _ rfl rfl HM11.out.2.2.1 (by have := HA32.out; have := HK32.out; omega) (by rw [hash_info, HK32.out]) HK1.out ?_
                             intro w12 hr12 hg12
                             rw [splice_all (HK32.out.trans HA32.out.symm)] at hr12
                             have HA12 := Lib.hid hr12
                             have HR12 := Lib.hid (HR11.out.kept hg12 (row_diff HR11.out HM11.out.2.2.1 (by decide)))
                             have Ho12 := Lib.hid (HM11.out.2.2.2.1.kept hg12 (.inr (row_ne_own HM11.out.2.2.1 HM11.out.2.2.2.1 (by decide))))
                             have Hb12 := Lib.hid (below_own HM11.out.2.2.2.2 hg12 (fun k hk => by cases hk; exact Nat.le_refl _))
                             clear hr12 hg12)
                clear hz98 c34
                have HHH : Hid (w.heap.size < wr.heap.size) := Lib.hid hg9
                generalize wr.heap.size = g9 at *
                refine wp_region_noPanic ?_
                refine wp_region_held_drew (S := fun w' => RefIn w w' g9 K IC) (by kernel_rfl) (⟨(HA12.out.kept (grownBy_drew _ none) (by simp)), (HR12.out.kept (grownBy_drew _ none) (by simp)), Hb12.out.drew⟩) (fun hHeld => ?_)
                have HOq := Lib.hid (Ho12.out.kept (grownBy_drew w12 none) (by cases v.ownBlock <;> simp))
                generalize w12.drew = wq at *
                refine wpAnyH_take (i := 0) (v := v) rfl (by kernel_rfl) (by kernel_rfl) (by kernel_rfl) (fun _ _ _ h => h) (Or.inl ⟨by rfl, fun w' hSw => by go_simp⟩) hHeld ?_
                try simp only [Act.put, List.getElem_toArray, List.getElem_cons_succ, List.getElem_cons_zero, List.setIfInBounds_toArray, List.set_cons_zero, List.set_cons_succ]
                refine wpAnyH_take (i := 1) (v := .pointer (some ⟨g9, 1, none⟩)) rfl (by kernel_rfl) (by kernel_rfl) (by kernel_rfl) (fun _ _ _ h => h) (Or.inl ⟨by rfl, fun w' hSw => by go_simp⟩) hHeld ?_
                try simp only [Act.put, List.getElem_toArray, List.getElem_cons_succ, List.getElem_cons_zero, List.setIfInBounds_toArray, List.set_cons_zero, List.set_cons_succ]
                refine wpAnyH_take (i := 2) (v := .int .i64 who) rfl (by kernel_rfl) (by kernel_rfl) (by kernel_rfl) (fun _ _ _ h => h) (Or.inl ⟨by rfl, fun w' hSw => by have hq := hSw; have q := (row_range hq.2.1) 1 _ HI01.out; rw [Nat.zero_add] at q; go_simp⟩) hHeld ?_
                try simp only [Act.put, List.getElem_toArray, List.getElem_cons_succ, List.getElem_cons_zero, List.setIfInBounds_toArray, List.set_cons_zero, List.set_cons_succ]
                refine wpAnyH_take (i := 3) (v := .pointer (some ⟨g9, 3, none⟩)) rfl (by kernel_rfl) (by kernel_rfl) (by kernel_rfl) (fun _ _ _ h => h) (Or.inl ⟨by rfl, fun w' hSw => by go_simp⟩) hHeld ?_
                try simp only [Act.put, List.getElem_toArray, List.getElem_cons_succ, List.getElem_cons_zero, List.setIfInBounds_toArray, List.set_cons_zero, List.set_cons_succ]
                refine wpAnyH_take (i := 4) (v := S t) rfl (by kernel_rfl) (by kernel_rfl) (by kernel_rfl) (fun _ _ _ h => h) (Or.inl ⟨by rfl, fun w' hSw => by have hq := hSw; have q := (row_range hq.2.1) 3 _ HI03.out; rw [Nat.zero_add] at q; go_simp⟩) hHeld ?_
                try simp only [Act.put, List.getElem_toArray, List.getElem_cons_succ, List.getElem_cons_zero, List.setIfInBounds_toArray, List.set_cons_zero, List.set_cons_succ]
                refine wpAnyH_take (i := 5) (v := .slice (some ⟨bb, off, none⟩) n c) rfl (by kernel_rfl) (by kernel_rfl) (by kernel_rfl) (fun _ _ _ h => h) (Or.inl ⟨by rfl, fun w' hSw => by go_simp⟩) hHeld ?_
                try simp only [Act.put, List.getElem_toArray, List.getElem_cons_succ, List.getElem_cons_zero, List.setIfInBounds_toArray, List.set_cons_zero, List.set_cons_succ]
                refine wpAnyH_take (i := 6) (v := .int .i64 k) rfl (by kernel_rfl) (by kernel_rfl) (by kernel_rfl) (fun _ _ _ h => h) (Or.inl ⟨by rfl, fun w' hSw => by go_simp⟩) hHeld ?_
                try simp only [Act.put, List.getElem_toArray, List.getElem_cons_succ, List.getElem_cons_zero, List.setIfInBounds_toArray, List.set_cons_zero, List.set_cons_succ]
                refine wpAnyH_take (i := 7) (v := .pointer (some ⟨bb, off + k * 35, none⟩)) rfl (by kernel_rfl) (by kernel_rfl) (by kernel_rfl) (fun _ _ _ h => h) (Or.inl ⟨by rfl, fun w' hSw => by go_simp⟩) hHeld ?_
                try simp only [Act.put, List.getElem_toArray, List.getElem_cons_succ, List.getElem_cons_zero, List.setIfInBounds_toArray, List.set_cons_zero, List.set_cons_succ]
                refine wpAnyH_take (i := 8) (v := .pointer (some ⟨bb, off + k * 35, none⟩)) rfl (by kernel_rfl) (by kernel_rfl) (by kernel_rfl) (fun _ _ _ h => h) (Or.inl ⟨by rfl, fun w' hSw => by go_simp⟩) hHeld ?_
                try simp only [Act.put, List.getElem_toArray, List.getElem_cons_succ, List.getElem_cons_zero, List.setIfInBounds_toArray, List.set_cons_zero, List.set_cons_succ]
                refine wpAnyH_take (i := 9) (v := .int .i64 num) rfl (by kernel_rfl) (by kernel_rfl) (by kernel_rfl) (fun _ _ _ h => h) (Or.inl ⟨by rfl, fun w' hSw => by have hq := hSw; have q := C00.out _ hq.2.2; go_simp⟩) hHeld ?_
                try simp only [Act.put, List.getElem_toArray, List.getElem_cons_succ, List.getElem_cons_zero, List.setIfInBounds_toArray, List.set_cons_zero, List.set_cons_succ]
                refine' wpAnyH_take (i := 10) (v := _) rfl (by kernel_rfl) (by kernel_rfl) (by kernel_rfl) (fun _ _ _ h => h) (yieldsIf_load_mid (by rfl) _ _ rfl w.heap.size 0 rfl (bRow K).toList _ (fun w' hSw => row_range hSw.1) hu42 rfl hi42) hHeld ?_
                try simp only [Act.put, List.getElem_toArray, List.getElem_cons_succ, List.getElem_cons_zero, List.setIfInBounds_toArray, List.set_cons_zero, List.set_cons_succ]
                refine' wpAnyH_take (i := 11) (v := .agg C.toArray) rfl (by kernel_rfl) (by kernel_rfl) (by kernel_rfl) (fun _ _ _ h => h) (yieldsIf_buildL (by rfl) 78 [(0, .tmp 70), (1, .tmp 72), (2, .tmp 77), (3, .tmp 78)] rfl [(0, .int .i64 who), (1, S t), (2, .int .i64 num), (3, .agg (bRow K))] rfl C.toArray HBU.out) hHeld ?_
                try simp only [Act.put, List.getElem_toArray, List.getElem_cons_succ, List.getElem_cons_zero, List.setIfInBounds_toArray, List.set_cons_zero, List.set_cons_succ]
                refine wpAnyH_ready (rs := [12]) (by kernel_rfl) (by simp) (AllReadyH.cons rfl (fun K1 hK1 => ?_) AllReadyH.nil)
                try simp only [Act.put, List.getElem_toArray, List.getElem_cons_succ, List.getElem_cons_zero, List.setIfInBounds_toArray, List.set_cons_zero, List.set_cons_succ]
                rw [if_pos (by rfl)]
                refine wp_buildSlice 68 78 1 _ rfl C.toArray i0 (.agg En.zero.cells.toArray) Tryd.underlying68 Hi.out Hz.out (by rw [Hsz.out]; decide) (by rw [Hsz.out]; decide) (by rw [Hsz.out, Array.toList_map]; exact fill_one 35 (.agg En.zero.cells.toArray) C HCL.out) ?_
                have hbn := (Below.refl wq.heap.size wq).alloc (Nat.le_refl _) (.cells C.toArray 78)
                have HNew := Lib.hid (row_news (Row.new wq 78 C))
                have HO13 := Lib.hid (HOq.out.alloc (.cells C.toArray 78))
                have hHeld2 := hHeld.step hbn
                have hz13 : w.heap.size ≤ (wq.alloc (.cells C.toArray 78)).heap.size := hHeld2.2.2.size
                have Hb13 := Lib.hid hHeld2.2.2
                refine hK1.out _ _ (hHeld2) (fun hHeld => ?_)
                clear hK1 K1
                try simp only [Act.put, List.getElem_toArray, List.getElem_cons_succ, List.getElem_cons_zero, List.setIfInBounds_toArray, List.set_cons_zero, List.set_cons_succ]
                clear hHeld2 hbn
                refine wpAnyH_ready (rs := [13]) (by kernel_rfl) (by simp) (AllReadyH.cons rfl (fun K1 hK1 => ?_) AllReadyH.nil)
                try simp only [Act.put, List.getElem_toArray, List.getElem_cons_succ, List.getElem_cons_zero, List.setIfInBounds_toArray, List.set_cons_zero, List.set_cons_succ]
                rw [if_pos (by rfl)]
                refine wp_append_own_wide _ _ _ 68 rfl w.heap.size 78 i0 (.agg En.zero.cells.toArray) 35 64 Tryd.underlying68 Hi.out Hz.out Hsz.out Hby.out (by rw [← En.cells_len (e := En.zero) rfl]; rfl) (by decide) v _ _ rfl HO13.out ⟨wq.heap.size, 0, none⟩ 1 1 C rfl (by rw [HCL.out]) HNew.out HC1.out hk63 hk48 hz13 ?_
                intro v' w14 hown14 hgrow14 _
                obtain ⟨g14, cp14, rfl⟩ := ownsRow_succ hown14
                have hb14 := below_row Hb13.out hz13 HO13.out hgrow14
                have hA14 := hHeld.1.kept hgrow14 (row_ne_own hHeld.1 HO13.out (by decide)).symm
                have hI14 := hHeld.2.1.kept hgrow14 (row_ne_own hHeld.2.1 HO13.out (by decide)).symm
                have HM14 : Hid (RefAt w w14 (.slice (some ⟨g14, 0, none⟩) (s1.2.length + 1) cp14) (Inb.step num s1 ⟨kd, who, nn, ⟨t.toArray⟩⟩)) := Lib.hid (by
                  rw [HStep.out]
                  exact ⟨HKL.out, Hall.out, hA14, by rw [HLS.out, HFS.out]; exact hown14, hb14⟩)
                clear hown14 hgrow14
                refine hK1.out _ _ (⟨hA14, hI14, hb14⟩) (fun hHeld => ?_)
                clear hK1 K1
                try simp only [Act.put, List.getElem_toArray, List.getElem_cons_succ, List.getElem_cons_zero, List.setIfInBounds_toArray, List.set_cons_zero, List.set_cons_succ]
                clear hA14 hI14 hb14
                refine wpAnyH_take (i := 14) (v := .slice (some ⟨g14, 0, none⟩) (s1.2.length + 1) cp14) rfl (by kernel_rfl) (by kernel_rfl) (by kernel_rfl) (fun _ _ _ h => h) (Or.inl ⟨by rfl, fun w' hSw => by go_simp⟩) hHeld ?_
                try simp only [Act.put, List.getElem_toArray, List.getElem_cons_succ, List.getElem_cons_zero, List.setIfInBounds_toArray, List.set_cons_zero, List.set_cons_succ]
                refine wpAnyH_done (by kernel_rfl) ?_ _
                refine NoPanic.normal ?_
                clear hHeld
                go_wp2_with fail
                exact ⟨⟨j + 1, _, hjm, by go_num, rfl, by rw [HF.out]; exact HM14.out⟩, by simp [intOf]; omega⟩
              · have z1 : decide ((640 : Int) < (t.length : Int)) = true := by simp; omega
                have z2 : ¬ (t.length : Int) ≤ 640 := by omega
                have HItem : Hid (Inb.item ⟨kd, who, nn, ⟨t.toArray⟩⟩ = false) := Lib.hid (by rw [HItD.out]; simp [hsz])
                rw [hok] at HMB
                clear hok k1' HItD HWho
                go_wp2_with (first
                | ((with_reducible show wpList _ _ _ (⟨_, .load 98 (.tmp 35), _, _, _, _⟩ :: _) _ _); refine wpList_load_tx rfl 98 (.tmp 35) rfl b2 (off2 + j * 4) rfl IC _ Hr2.out Tryd.underlying98 rfl (by rw [item_size, HIL.out]) ?_)
                | ((with_reducible show wpList _ _ _ (⟨_, .load 98 (.tmp 7), _, _, _, _⟩ :: _) _ _); refine wpList_load_tx rfl 98 (.tmp 7) rfl wr.heap.size 0 rfl IC _ (row_range HR7.out) Tryd.underlying98 rfl (by rw [item_size, HIL.out]) ?_)
                | (with_reducible show wpList _ _ _ (⟨_, .store 98 _ _, _, _, _, _⟩ :: _) _ _
                   refine wpList_store_at rfl 98 (.tmp 7) (.tmp 36) rfl wr.heap.size 0 IC _ _ rfl rfl Hnew.out (by have := HIL.out; have := HZI.out; omega) (by rw [item_size, HIL.out]) HI1.out ?_
                   intro w7 hr7 hg7
                   rw [splice_all (HIL.out.trans HZI.out.symm)] at hr7
                   have c0 := (row_range hr7) 0 _ HI00.out
                   rw [Nat.zero_add] at c0
                   have HM7 := Lib.hid ((HM2.out.step ((Below.refl wr.heap.size wr).alloc (Nat.le_refl _) (.cells It.zero.cells.toArray 98))).put Hnew.out (by decide) (by decide) hg7 (by have := HM2.out.lt; omega))
                   have HR7 := Lib.hid hr7
                   clear hr7 hg7))
                refine (HMB.out _).mono ?_
                rintro _ w8 ⟨rfl, hb8⟩
                have HM8 := Lib.hid (HM7.out.step hb8)
                have hR8 := HR7.out.kept (grownBy_of_below hb8 none) (by simp)
                have c1 := (row_range hR8) 1 _ HI01.out
                have c3 := (row_range hR8) 3 _ HI03.out
                rw [Nat.zero_add] at c1 c3
                have HR8 := Lib.hid hR8
                clear hb8 c0 hR8
                go_wp2_with fail
                exact ⟨⟨j + 1, _, hjm, by go_num, rfl, by rw [HF.out, Inb.step_no HItem.out]; exact HM8.out⟩, by simp [intOf]; omega⟩
            · have HItem : Hid (Inb.item ⟨kd, who, nn, ⟨t.toArray⟩⟩ = false) := Lib.hid (by rw [HItD.out, hok]; simp)
              rw [hok] at HMB
              clear hok k1' HItD HWho
              go_wp2_with (first
              | ((with_reducible show wpList _ _ _ (⟨_, .load 98 (.tmp 35), _, _, _, _⟩ :: _) _ _); refine wpList_load_tx rfl 98 (.tmp 35) rfl b2 (off2 + j * 4) rfl IC _ Hr2.out Tryd.underlying98 rfl (by rw [item_size, HIL.out]) ?_)
              | ((with_reducible show wpList _ _ _ (⟨_, .load 98 (.tmp 7), _, _, _, _⟩ :: _) _ _); refine wpList_load_tx rfl 98 (.tmp 7) rfl wr.heap.size 0 rfl IC _ (row_range HR7.out) Tryd.underlying98 rfl (by rw [item_size, HIL.out]) ?_)
              | (with_reducible show wpList _ _ _ (⟨_, .store 98 _ _, _, _, _, _⟩ :: _) _ _
                 refine wpList_store_at rfl 98 (.tmp 7) (.tmp 36) rfl wr.heap.size 0 IC _ _ rfl rfl Hnew.out (by have := HIL.out; have := HZI.out; omega) (by rw [item_size, HIL.out]) HI1.out ?_
                 intro w7 hr7 hg7
                 rw [splice_all (HIL.out.trans HZI.out.symm)] at hr7
                 have c0 := (row_range hr7) 0 _ HI00.out
                 rw [Nat.zero_add] at c0
                 have HM7 := Lib.hid ((HM2.out.step ((Below.refl wr.heap.size wr).alloc (Nat.le_refl _) (.cells It.zero.cells.toArray 98))).put Hnew.out (by decide) (by decide) hg7 (by have := HM2.out.lt; omega))
                 have HR7 := Lib.hid hr7
                 clear hr7 hg7))
              refine (HMB.out _).mono ?_
              rintro _ w8 ⟨rfl, hb8⟩
              have HM8 := Lib.hid (HM7.out.step hb8)
              have hR8 := HR7.out.kept (grownBy_of_below hb8 none) (by simp)
              have c1 := (row_range hR8) 1 _ HI01.out
              have c3 := (row_range hR8) 3 _ HI03.out
              rw [Nat.zero_add] at c1 c3
              have HR8 := Lib.hid hR8
              clear hb8 c0 hR8
              go_wp2_with fail
              exact ⟨⟨j + 1, _, hjm, by go_num, rfl, by rw [HF.out, Inb.step_no HItem.out]; exact HM8.out⟩, by simp [intOf]; omega⟩
          · have k1' : ¬ kd = 1 := by simpa using k1
            have k1n : (kd != 1) = true := by simp [k1']
            have HItem : Hid (Inb.item ⟨kd, who, nn, ⟨t.toArray⟩⟩ = false) := Lib.hid (by rw [HItD.out]; simp [k1'])
            clear HItD k1' HWho
            go_wp2_with (first
            | ((with_reducible show wpList _ _ _ (⟨_, .load 98 (.tmp 35), _, _, _, _⟩ :: _) _ _); refine wpList_load_tx rfl 98 (.tmp 35) rfl b2 (off2 + j * 4) rfl IC _ Hr2.out Tryd.underlying98 rfl (by rw [item_size, HIL.out]) ?_)
            | ((with_reducible show wpList _ _ _ (⟨_, .load 98 (.tmp 7), _, _, _, _⟩ :: _) _ _); refine wpList_load_tx rfl 98 (.tmp 7) rfl wr.heap.size 0 rfl IC _ (row_range HR7.out) Tryd.underlying98 rfl (by rw [item_size, HIL.out]) ?_)
            | (with_reducible show wpList _ _ _ (⟨_, .store 98 _ _, _, _, _, _⟩ :: _) _ _
               refine wpList_store_at rfl 98 (.tmp 7) (.tmp 36) rfl wr.heap.size 0 IC _ _ rfl rfl Hnew.out (by have := HIL.out; have := HZI.out; omega) (by rw [item_size, HIL.out]) HI1.out ?_
               intro w7 hr7 hg7
               rw [splice_all (HIL.out.trans HZI.out.symm)] at hr7
               have c0 := (row_range hr7) 0 _ HI00.out
               rw [Nat.zero_add] at c0
               have HM7 := Lib.hid ((HM2.out.step ((Below.refl wr.heap.size wr).alloc (Nat.le_refl _) (.cells It.zero.cells.toArray 98))).put Hnew.out (by decide) (by decide) hg7 (by have := HM2.out.lt; omega))
               have HR7 := Lib.hid hr7
               clear hr7 hg7))
            exact ⟨⟨j + 1, _, hjm, by go_num, rfl, by rw [HF.out, Inb.step_no HItem.out]; exact HM7.out⟩, by simp [intOf]; omega⟩
        · have hji : (m : Int) ≤ (j : Int) := by omega
          have hje : j = its.length := by rw [← HMl.out]; omega
          have HMe : Hid (RefAt w wr v (Inb.run (l.take (k + 1)))) := Lib.hid (by
            rw [HRun.out, HBlk.out]
            have := HM2.out
            rw [hje, List.take_length] at this
            exact this)
          clear hje
          go_wp2_with fail
          exact ⟨⟨k + 1, _, hlt, by go_num, rfl, HMe.out⟩, by simp [intOf]; omega⟩
    · have hki : (n : Int) ≤ (k : Int) := by omega
      have hke : k = l.length := by rw [← HN.out]; omega
      have hMe : RefAt w wr v (Inb.run l) := by
        have := HM.out
        rw [hke, List.take_length] at this
        exact this
      have Ho := Lib.hid hMe.2.2.2.1
      have Hbe := Lib.hid hMe.2.2.2.2
      clear hke hMe
      go_wp2_with fail
      go_ret
      exact ⟨⟨_, rfl, Ho.out⟩, Hbe.out⟩
end Go.Proofs.YtjeooegkfjlejaaDoor
