/- What later texts need of the earlier layers. -/
import Derived.Test.YtjeooegkfjlejaaDoorEarO
import Derived.Test.YtjeooegkfjlejaaDoorEarS
import Derived.Test.YtjeooegkfjlejaaDoorEarT
import Derived.Test.YtjeooegkfjlejaaDoorEarC
import Derived.Test.YtjeooegkfjlejaaDoorEarA
import Derived.Test.YtjeooegkfjlejaaDoorEarB
import Derived.Test.YtjeooegkfjlejaaDoorIbA
import Derived.Test.YtjeooegkfjlejaaDoorTrMath
import Derived.Test.YtjeooegkfjlejaaDoorTrHash
import Derived.WalkMore
/- ---- TrRHash ---- -/
/- cavalcaderef11.Hash: what it returns. -/
namespace Go.Proofs.YtjeooegkfjlejaaDoor
open Go.RowKit
set_option linter.unusedVariables false
set_option linter.unusedSimpArgs false

theorem num_no {n : Int} (h : Tx.num n = false) : n < 0 ∨ 1099511627776 < n := by
  rcases Decidable.em (0 ≤ n ∧ n ≤ 1099511627776) with q | q
  · rw [No.num_iff.2 q] at h; cases h
  · omega
theorem lit_own (w : World) (base k : Nat) (L : List (List UInt8)) (hk : k = L.length) (hb : base ≤ w.heap.size) (hl : k ≤ 1000) : (w.alloc (.cells (L.map S).toArray 9)).ownsRow base 9 1 (.slice (some ⟨w.heap.size, 0, none⟩) k k) k (L.map S) := by
  subst hk
  refine ⟨by simp, .inr ⟨w.heap.size, L.length, (L.map S).toArray, rfl, hb, heap_alloc_new w _, Nat.le_refl _, by unfold maxLen; omega, by simp, by simp [List.take_of_length_le]⟩⟩
set_option maxRecDepth 20000 in
set_option maxHeartbeats 3200000 in
theorem rhash11_any (hRS : RefSum) (b : Bk) (A : Option Addr) (cp : Nat) (hp : b.parent.length = 32) (w : World) (hits : BkItems w w.heap.size A b.items) :
    Calls Tryd.prog 28 #[.agg (b.cells A cp).toArray] w fun e w' => e = .returned (hashV (Tr.hashE b).1 (Tr.hashE b).2) ∧ Below w.heap.size w w' := by
  have HC0 := Lib.hid (Bk.cell0 b A cp)
  have HC1 : Hid ((b.cells A cp)[1]? = some (.int .i64 b.salt)) := Lib.hid rfl
  have H34 := Lib.hid (Bk.cell34 (b := b) (A := A) (cap := cp) hp)
  have HPar : Hid (∀ (W : World) (g : Nat) (T : TypeId), Row W g T (b.cells A cp) → W.rangeAt g 2 (bRow b.parent).toList) := Lib.hid (fun W g T h j v hv => by
    have := (row_range h) (2 + j) v (by
      unfold Bk.cells
      rw [List.getElem?_append_right (by simp), List.getElem?_append_left (by simpa using (List.getElem?_eq_some_iff.1 hv).1)]
      simpa using hv)
    rw [Nat.zero_add] at this
    exact this)
  obtain ⟨r1, r2, r3⟩ := row_two w (b.cells A cp).toArray (bRow Tx.zero) 45 42
  simp only [List.toList_toArray] at r3
  have H0 : Hid (HsAt w _ (b.cells A cp)) := Lib.hid ⟨r3, r1, r2⟩
  have c0 := (row_range r3) 0 _ HC0.out
  have c1 := (row_range r3) 1 _ HC1.out
  have c34 := (row_range r3) 34 _ H34.out
  rw [Nat.zero_add] at c0 c1 c34
  have Hits := Lib.hid hits.1
  have hml := hits.2
  have HZ32 := Lib.hid (Tx.bRow_len Tx.zero rfl)
  have HZ1 : Hid (∀ v ∈ (bRow Tx.zero).toList, v.oneCell' = true) := Lib.hid (hash_one _ rfl)
  have hzh := hash_zv
  obtain ⟨K, hK⟩ : ∃ K, K = (Tr.hashE b).1 := ⟨_, rfl⟩
  obtain ⟨E, hE⟩ : ∃ E, E = (Tr.hashE b).2 := ⟨_, rfl⟩
  rw [← hK, ← hE]
  have HKE : Hid (Tr.hashE b = (K, E)) := Lib.hid (by rw [hK, hE])
  clear hK hE r1 r2 r3
  generalize b.cells A cp = C at *
  obtain ⟨m, hm⟩ : ∃ m, m = b.items.length := ⟨_, rfl⟩
  rw [← hm] at hml H34 c34
  have HMl := Lib.hid hm
  clear hits
  have HRS := Lib.hid hRS
  clear hRS
  rcases Bool.eq_false_or_eq_true (Tx.num b.number) with a0 | a0
  rcases Bool.eq_false_or_eq_true (Tx.num b.salt) with a1 | a1
  by_cases hm32 : m ≤ 32
  · have d32 : decide ((32 : Int) < (m : Int)) = false := by simp; omega
    have b0 := No.num_iff.1 a0
    have b1 := No.num_iff.1 a1
    have NA : Hid (∀ W, Calls Tryd.prog 44 #[.int .i64 b.number] W fun e w' => e = .returned (.tuple #[S (Oct.num b.number.toNat), .int .i64 0]) ∧ Below W.heap.size W w') := Lib.hid (fun W => by
      have := refNumber_any b.number W (by omega)
      have e : Oct.numE b.number = (Oct.num b.number.toNat, 0) := by unfold Oct.numE; rw [if_neg (by omega)]
      rw [e] at this
      exact this)
    have NB : Hid (∀ W, Calls Tryd.prog 44 #[.int .i64 b.salt] W fun e w' => e = .returned (.tuple #[S (Oct.num b.salt.toNat), .int .i64 0]) ∧ Below W.heap.size W w') := Lib.hid (fun W => by
      have := refNumber_any b.salt W (by omega)
      have e : Oct.numE b.salt = (Oct.num b.salt.toNat, 0) := by unfold Oct.numE; rw [if_neg (by omega)]
      rw [e] at this
      exact this)
    have e0 : decide (b.number < 0) = false := by simp; omega
    have e1 : decide ((1099511627776 : Int) < b.number) = false := by simp; omega
    have e2 : decide (b.salt < 0) = false := by simp; omega
    have e3 : decide ((1099511627776 : Int) < b.salt) = false := by simp; omega
    obtain ⟨i0, hi0, hz0⟩ := str5
    have Hi := Lib.hid hi0
    have Hz := Lib.hid hz0.1
    have Hsz := Lib.hid hz0.2.1
    have Hby := Lib.hid hz0.2.2
    have HPl := Lib.hid hp
    have HA0 := Lib.hid a0
    have HA1 := Lib.hid a1
    have HU0 : Hid (Tr.upto b 0 = [Oct.num b.number.toNat, Oct.num b.salt.toNat, b.parent]) := Lib.hid rfl
    have HUL : Hid (∀ k, k ≤ m → (Tr.upto b k).length = k + 3) := Lib.hid (fun k hk => Tr.upto_len (by omega))
    have HUN : Hid (∀ k (hk : k < b.items.length), Tr.upto b (k + 1) = Tr.upto b k ++ [b.items[k].textE.1]) := Lib.hid (fun k hk => Tr.upto_next hk)
    obtain ⟨pr, hpr⟩ : ∃ x, x = b.parent := ⟨_, rfl⟩
    obtain ⟨n1, hn1⟩ : ∃ x, x = Oct.num b.number.toNat := ⟨_, rfl⟩
    obtain ⟨n2, hn2⟩ : ∃ x, x = Oct.num b.salt.toNat := ⟨_, rfl⟩
    rw [← hpr] at HPl HPar HU0
    rw [← hn1] at NA HU0
    rw [← hn2] at NB HU0
    have HItems : Hid (∀ i (hi : i < b.items.length), b.items[i].ok = false → Tr.hashE b = (Tx.zero, 2)) := Lib.hid (fun i hi h => Tr.hashE_no (Tr.may_bad hi h))
    have HMay : Hid ((∀ i (hi : i < b.items.length), b.items[i].ok = true) → Tr.may b = true) := Lib.hid (fun h => Tr.may_all a0 a1 (by omega) h)
    generalize hnum : b.number = num at *
    generalize hsalt : b.salt = salt at *
    clear hnum hsalt hpr hn1 hn2 a0 a1 b0 b1 hi0 hz0 hm hp
    go_enter Tryd.func28, Tryd.ntmps28
    go_wp2_with fail
    refine (NA.out _).mono ?_
    rintro _ w1 ⟨rfl, hb1⟩
    have hs1 := H0.out.step hb1
    have d1 := (row_range hs1.1) 1 _ HC1.out
    rw [Nat.zero_add] at d1
    have H1 := Lib.hid hs1
    clear hb1 hs1 c0 c1 c34
    go_wp2_with fail
    refine (NB.out _).mono ?_
    rintro _ w2 ⟨rfl, hb2⟩
    have H2 := Lib.hid (H1.out.step hb2)
    clear hb2 d1
    have PB := Lib.hid (fun W => bytes_any pr W HPl.out)
    have HP32 := Lib.hid (Tx.bRow_len pr HPl.out)
    clear e0 e1 e2 e3
    go_wp2_with ((with_reducible show wpList _ _ _ (⟨_, .load 42 _, _, _, _, _⟩ :: _) _ _); refine wpList_load_tx rfl 42 (.tmp 53) rfl w.heap.size 2 rfl (bRow pr).toList _ (HPar.out _ _ _ H2.out.1) Tryd.underlying42 rfl (by rw [hash_info, HP32.out]) ?_)
    refine (PB.out _).mono ?_
    rintro _ w3 ⟨rfl, hb3⟩
    have hs3 := H2.out.step hb3
    have hl3 := lit_own w3 w.heap.size 3 [n1, n2, pr] rfl hs3.2.2.size (by decide)
    have H5 := Lib.hid (hs3.step ((Below.refl w3.heap.size w3).alloc (Nat.le_refl _) (.cells #[S n1, S n2, S pr] 9)))
    have HO5 : Hid ((w3.alloc (.cells #[S n1, S n2, S pr] 9)).ownsRow w.heap.size 9 1 (.slice (some ⟨w3.heap.size, 0, none⟩) 3 3) (Tr.upto b 0).length ((Tr.upto b 0).map S)) := Lib.hid (by rw [HU0.out]; exact hl3)
    clear hb3 hs3 hl3
    go_wp2_with fail
    go_loopw [8, 9] (fun v8 i wr => ∃ (k : Nat) (v : Value), k ≤ m ∧ i = .int .i64 k ∧ v = v8 ∧ (∀ i (hi : i < b.items.length), i < k → b.items[i].ok = true) ∧ HsAt w wr C ∧ wr.ownsRow w.heap.size 9 1 v (Tr.upto b k).length ((Tr.upto b k).map S)) (fun _ i _ => m - (intOf i).toNat)
    case atStart => exact ⟨0, _, Nat.zero_le _, rfl, rfl, fun _ _ h => absurd h (Nat.not_lt_zero _), H5.out, HO5.out⟩
    case round =>
      obtain ⟨k, v, hk, rfl, rfl, hok, hs, ho⟩ := hrel
      have HS := Lib.hid hs
      have HO := Lib.hid ho
      have HOk := Lib.hid hok
      have c34 := (row_range HS.out.1) 34 _ H34.out
      rw [Nat.zero_add] at c34
      clear hs ho hok H5 HO5
      by_cases hlt : k < m
      · have hki : (k : Int) < (m : Int) := by omega
        have hkl : k < b.items.length := by rw [← HMl.out]; exact hlt
        obtain ⟨b2, off2, rfl, hb2, hat2⟩ := Hits.out (by intro e; rw [e] at hkl; simp at hkl)
        have Hr2 := Lib.hid (range_below (hat2 k hkl) HS.out.2.2 hb2)
        have HNo := Lib.hid (HItems.out k hkl)
        have HNx := Lib.hid (HUN.out k hkl)
        have HOkN : Hid (b.items[k].ok = true → ∀ i (hi : i < b.items.length), i < k + 1 → b.items[i].ok = true) := Lib.hid (fun h i hi hik => by
          by_cases e : i = k
          · subst e; exact h
          · exact HOk.out i hi (by omega))
        have hlen := HUL.out k (by omega)
        have WI : Hid (∀ W, Calls Tryd.prog 54 #[.agg b.items[k].cells.toArray] W fun e w' => e = .returned (two b.items[k].textE.1 b.items[k].textE.2) ∧ Below W.heap.size W w') := Lib.hid (fun W => rwriteItem_any b.items[k] W)
        have HCode : Hid (b.items[k].ok = true → b.items[k].textE.2 = 0) := Lib.hid (fun h => by obtain ⟨s, e⟩ := It.code_ok h; rw [e])
        have HCodeN : Hid (b.items[k].ok = false → b.items[k].textE.2 = 2) := Lib.hid (fun h => by rw [It.code_no h])
        generalize Tr.upto b k = T at *
        generalize b.items[k] = it at *
        clear hat2
        have HIL : Hid (it.cells.length = 4) := Lib.hid rfl
        have HI1 := Lib.hid (item_one it)
        have hk63 : T.length + 1 ≤ maxLen := by unfold maxLen; omega
        have hk48 : ((T.length + 1) + (T.length + 1) / 4 + 192) * 16 ≤ 281474976710656 := by omega
        clear hlen
        generalize it.cells = IC at *
        generalize it.textE.1 = s at *
        generalize it.textE.2 = cd at *
        unfold two at WI
        rcases Bool.eq_false_or_eq_true it.ok with iok | iok
        · have hcd := HCode.out iok
          subst hcd
          have HOkN := Lib.hid (HOkN.out iok)
          clear HCode HCodeN iok HNo
          go_wp2_with ((with_reducible show wpList _ _ _ (⟨_, .load 98 _, _, _, _, _⟩ :: _) _ _); refine wpList_load_tx rfl 98 (.tmp 68) rfl b2 (off2 + k * 4) rfl IC _ Hr2.out Tryd.underlying98 rfl (by rw [item_size, HIL.out]) ?_)
          refine (WI.out _).mono ?_
          rintro _ w8 ⟨rfl, hb8⟩
          have HS8 := Lib.hid (HS.out.step hb8)
          have HO8 := Lib.hid (own_below HO.out hb8)
          clear hb8 c34
          have Hnew2 := Lib.hid (row_news (Row.new w8 9 [S s]))
          have HO9 := Lib.hid (HO8.out.alloc (.cells #[S s] 9))
          have HS9 := Lib.hid (HS8.out.step ((Below.refl w8.heap.size w8).alloc (Nat.le_refl _) (.cells #[S s] 9)))
          have hz9 : w.heap.size ≤ (w8.alloc (.cells #[S s] 9)).heap.size := HS9.out.2.2.size
          go_wp2_with (at_builtin; refine wpList_append_own_wide _ rfl (.tmp 76) (.tmp 78) 80 rfl w.heap.size 9 i0 (.string ByteArray.empty) 1 16 Tryd.underlying80 Hi.out Hz.out Hsz.out Hby.out rfl (by decide) v _ _ rfl HO9.out ⟨w8.heap.size, 0, none⟩ 1 1 [S s] rfl rfl Hnew2.out (by intro u hu; simp at hu; subst hu; rfl) hk63 hk48 hz9 ?_
                       intro v' w10 hown10 hgrow10 _
                       obtain ⟨g10, cp10, rfl⟩ := ownsRow_succ hown10
                       have HS10 := Lib.hid (HS9.out.grow HO9.out hgrow10)
                       have HO10 := Lib.hid hown10
                       clear hown10 hgrow10)
          exact ⟨⟨k + 1, _, hlt, by go_num, rfl, HOkN.out, HS10.out, by rw [HNx.out, List.length_append, List.map_append]; exact HO10.out⟩, by simp [intOf]; omega⟩
        · have hcd := HCodeN.out iok
          subst hcd
          have hKE := HKE.out
          rw [HNo.out iok] at hKE
          obtain ⟨rfl, rfl⟩ : Tx.zero = K ∧ 2 = E := by simpa using hKE
          clear HCode HCodeN iok HNo hKE HOkN
          go_wp2_with ((with_reducible show wpList _ _ _ (⟨_, .load 98 _, _, _, _, _⟩ :: _) _ _); refine wpList_load_tx rfl 98 (.tmp 68) rfl b2 (off2 + k * 4) rfl IC _ Hr2.out Tryd.underlying98 rfl (by rw [item_size, HIL.out]) ?_)
          refine (WI.out _).mono ?_
          rintro _ w8 ⟨rfl, hb8⟩
          have HS8 := Lib.hid (HS.out.step hb8)
          have HO8 := Lib.hid (own_below HO.out hb8)
          clear hb8 c34
          go_wp2_with (first
          | ((with_reducible show wpList _ _ _ (⟨_, .build 42 _, _, _, _, _⟩ :: _) _ _); refine wpList_buildL rfl 42 [] rfl (some 75) rfl [] rfl (bRow Tx.zero) hash_built ?_)
          | (with_reducible show wpList _ _ _ (⟨_, .store 42 _ _, _, _, _, _⟩ :: _) _ _
             refine wpList_store_at rfl 42 (.tmp 2) (.tmp 75) rfl (w.heap.size + 1) 0 (bRow Tx.zero).toList _ _ rfl rfl HS8.out.2.1 (by have := HZ32.out; omega) (by rw [hash_info, HZ32.out]) HZ1.out ?_
             intro wz hrz hgz
             rw [splice_all rfl] at hrz
             have HRz := Lib.hid hrz
             have Hbz := Lib.hid (below_own HS8.out.2.2 hgz (fun k hk => by cases hk; omega))
             clear hrz hgz))
          exact bodyPost_ret (results_rowL rfl _ _ (w.heap.size + 1) 42 _ _ rfl HRz.out Tryd.underlying42 rfl (by rw [hash_info, List.size_toArray, HZ32.out]) _ rfl) rfl ⟨rfl, Hbz.out⟩
      · have hki : (m : Int) ≤ (k : Int) := by omega
        have hke : k = m := by omega
        subst hke
        have hlen := HUL.out k (by omega)
        have HMay2 := Lib.hid (HMay.out (fun i hi => HOk.out i hi (by rw [← HMl.out] at hi; exact hi)))
        have hub : Tr.upto b k = Tr.texts b := by rw [HMl.out]; exact Tr.upto_all b
        rw [hub] at HO hlen
        obtain ⟨gl, cl, rfl⟩ := ownsRow_succ (k := k + 2) (by rw [hlen] at HO; exact HO.out)
        have LO := Lib.hid (rlist_own (Tr.texts b) w.heap.size gl (k + 2 + 1) cl wr (by rw [hlen] at HO; exact HO.out) hlen.symm)
        have hcode := Tr.listE_code (Tr.texts b)
        have hll := listE_len (Tr.texts b)
        have HBig : Hid ((Oct.listE (Tr.texts b)).2 = 3 → Tr.hashE b = (Tx.zero, 3)) := Lib.hid (fun h => Tr.hashE_big HMay2.out h (by decide))
        have HFine : Hid ((Oct.listE (Tr.texts b)).2 = 0 → Tr.hashE b = (Sha.sum (Oct.listE (Tr.texts b)).1, 0)) := Lib.hid (fun h => Tr.hashE_ok HMay2.out (by rw [← h]))
        generalize (Oct.listE (Tr.texts b)).1 = s at *
        generalize (Oct.listE (Tr.texts b)).2 = cd at *
        clear hub hlen hlt hk
        rcases hcode with rfl | rfl
        · have hKE := HKE.out
          rw [HFine.out rfl] at hKE
          obtain ⟨hKs, rfl⟩ : Sha.sum s = K ∧ 0 = E := by simpa using hKE
          have hKl : K.length = 32 := by rw [← hKs]; exact Sha.sum_len _
          have SM : Hid (∀ W : World, Calls Tryd.prog 55 #[S s] W fun e w' => e = .returned (.agg (bRow K)) ∧ Below W.heap.size W w') := Lib.hid (fun W => by
            have := HRS.out ⟨s.toArray⟩ W (by show s.length ≤ _; omega)
            rw [show (⟨s.toArray⟩ : ByteArray).data.toList = s from rfl, hKs] at this
            exact this)
          have HK32 := Lib.hid (Tx.bRow_len K hKl)
          have HK1 := Lib.hid (hash_one K hKl)
          clear hKE hKs hKl HBig HFine
          go_wp2_with fail
          refine LO.out.mono ?_
          rintro _ w9 ⟨rfl, hb9⟩
          have HS9 := Lib.hid (HS.out.step hb9)
          clear hb9
          go_wp2_with fail
          refine (SM.out _).mono ?_
          rintro _ w10 ⟨rfl, hb10⟩
          have HS10 := Lib.hid (HS9.out.step hb10)
          clear hb10
          go_wp2_with (with_reducible show wpList _ _ _ (⟨_, .store 42 _ _, _, _, _, _⟩ :: _) _ _
                       refine wpList_store_at rfl 42 (.tmp 2) (.tmp 89) rfl (w.heap.size + 1) 0 (bRow K).toList _ _ rfl rfl HS10.out.2.1 (by have := HK32.out; have := HZ32.out; omega) (by rw [hash_info, HK32.out]) HK1.out ?_
                       intro wz hrz hgz
                       rw [splice_all (HK32.out.trans HZ32.out.symm)] at hrz
                       have HRz := Lib.hid hrz
                       have Hbz := Lib.hid (below_own HS10.out.2.2 hgz (fun k hk => by cases hk; omega))
                       clear hrz hgz)
          exact bodyPost_ret (results_rowL rfl _ _ (w.heap.size + 1) 42 _ _ rfl HRz.out Tryd.underlying42 rfl (by rw [hash_info, List.size_toArray, HK32.out]) _ rfl) rfl ⟨rfl, Hbz.out⟩
        · have hKE := HKE.out
          rw [HBig.out rfl] at hKE
          obtain ⟨rfl, rfl⟩ : Tx.zero = K ∧ 3 = E := by simpa using hKE
          clear hKE HBig HFine
          go_wp2_with fail
          refine LO.out.mono ?_
          rintro _ w9 ⟨rfl, hb9⟩
          have HS9 := Lib.hid (HS.out.step hb9)
          clear hb9
          go_wp2_with (first
          | ((with_reducible show wpList _ _ _ (⟨_, .build 42 _, _, _, _, _⟩ :: _) _ _); refine wpList_buildL rfl 42 [] rfl (some 87) rfl [] rfl (bRow Tx.zero) hash_built ?_)
          | (with_reducible show wpList _ _ _ (⟨_, .store 42 _ _, _, _, _, _⟩ :: _) _ _
             refine wpList_store_at rfl 42 (.tmp 2) (.tmp 87) rfl (w.heap.size + 1) 0 (bRow Tx.zero).toList _ _ rfl rfl HS9.out.2.1 (by have := HZ32.out; omega) (by rw [hash_info, HZ32.out]) HZ1.out ?_
             intro wz hrz hgz
             rw [splice_all rfl] at hrz
             have HRz := Lib.hid hrz
             have Hbz := Lib.hid (below_own HS9.out.2.2 hgz (fun k hk => by cases hk; omega))
             clear hrz hgz))
          exact bodyPost_ret (results_rowL rfl _ _ (w.heap.size + 1) 42 _ _ rfl HRz.out Tryd.underlying42 rfl (by rw [hash_info, List.size_toArray, HZ32.out]) _ rfl) rfl ⟨rfl, Hbz.out⟩
  · have hno : Tr.may b = false := by rw [Bool.eq_false_iff]; intro h; have := ((Tr.may_iff b).1 h).2.2.1; omega
    have hKE := HKE.out
    rw [Tr.hashE_no hno] at hKE
    obtain ⟨rfl, rfl⟩ : Tx.zero = K ∧ 2 = E := by simpa using hKE
    obtain ⟨b0, b1⟩ := No.num_iff.1 a0
    obtain ⟨b2, b3⟩ := No.num_iff.1 a1
    have e0 : decide (b.number < 0) = false := by simp; omega
    have e1 : decide ((1099511627776 : Int) < b.number) = false := by simp; omega
    have e2 : decide (b.salt < 0) = false := by simp; omega
    have e3 : decide ((1099511627776 : Int) < b.salt) = false := by simp; omega
    have d32 : decide ((32 : Int) < (m : Int)) = true := by simp; omega
    generalize b.number = num at *
    generalize b.salt = salt at *
    clear hno hKE a0 a1 hm
    go_enter Tryd.func28, Tryd.ntmps28
    go_wp2_with (first
    | ((with_reducible show wpList _ _ _ (⟨_, .build 42 _, _, _, _, _⟩ :: _) _ _); refine wpList_buildL rfl 42 [] rfl (some 38) rfl [] rfl (bRow Tx.zero) hash_built ?_)
    | (with_reducible show wpList _ _ _ (⟨_, .store 42 _ _, _, _, _, _⟩ :: _) _ _
       refine wpList_store_at rfl 42 (.tmp 2) (.tmp 38) rfl (w.heap.size + 1) 0 (bRow Tx.zero).toList _ _ rfl rfl H0.out.2.1 (by have := HZ32.out; omega) (by rw [hash_info, HZ32.out]) HZ1.out ?_
       intro wz hrz hgz
       rw [splice_all rfl] at hrz
       have HRz := Lib.hid hrz
       have Hbz := Lib.hid (below_own H0.out.2.2 hgz (fun k hk => by cases hk; omega))
       clear hrz hgz))
    exact bodyPost_ret (results_rowL rfl _ _ (w.heap.size + 1) 42 _ _ rfl HRz.out Tryd.underlying42 rfl (by rw [hash_info, List.size_toArray, HZ32.out]) _ rfl) rfl ⟨rfl, Hbz.out⟩
  · have hno : Tr.may b = false := by rw [Bool.eq_false_iff]; intro h; rw [Tr.may_iff, ← No.num_iff, ← No.num_iff] at h; rw [a1] at h; simp at h
    have hKE := HKE.out
    rw [Tr.hashE_no hno] at hKE
    obtain ⟨rfl, rfl⟩ : Tx.zero = K ∧ 2 = E := by simpa using hKE
    obtain ⟨b0, b1⟩ := No.num_iff.1 a0
    have e0 : decide (b.number < 0) = false := by simp; omega
    have e1 : decide ((1099511627776 : Int) < b.number) = false := by simp; omega
    have hs := num_no a1
    generalize b.number = num at *
    generalize b.salt = salt at *
    clear hno hKE a0 a1 hm
    by_cases q : salt < 0
    · have e2 : decide (salt < 0) = true := by simpa using q
      clear hs
      go_enter Tryd.func28, Tryd.ntmps28
      go_wp2_with (first
      | ((with_reducible show wpList _ _ _ (⟨_, .build 42 _, _, _, _, _⟩ :: _) _ _); refine wpList_buildL rfl 42 [] rfl (some 38) rfl [] rfl (bRow Tx.zero) hash_built ?_)
      | (with_reducible show wpList _ _ _ (⟨_, .store 42 _ _, _, _, _, _⟩ :: _) _ _
         refine wpList_store_at rfl 42 (.tmp 2) (.tmp 38) rfl (w.heap.size + 1) 0 (bRow Tx.zero).toList _ _ rfl rfl H0.out.2.1 (by have := HZ32.out; omega) (by rw [hash_info, HZ32.out]) HZ1.out ?_
         intro wz hrz hgz
         rw [splice_all rfl] at hrz
         have HRz := Lib.hid hrz
         have Hbz := Lib.hid (below_own H0.out.2.2 hgz (fun k hk => by cases hk; omega))
         clear hrz hgz))
      exact bodyPost_ret (results_rowL rfl _ _ (w.heap.size + 1) 42 _ _ rfl HRz.out Tryd.underlying42 rfl (by rw [hash_info, List.size_toArray, HZ32.out]) _ rfl) rfl ⟨rfl, Hbz.out⟩
    · have e2 : decide (salt < 0) = false := by simpa using q
      have e3 : decide ((1099511627776 : Int) < salt) = true := by simp; omega
      clear hs
      go_enter Tryd.func28, Tryd.ntmps28
      go_wp2_with (first
      | ((with_reducible show wpList _ _ _ (⟨_, .build 42 _, _, _, _, _⟩ :: _) _ _); refine wpList_buildL rfl 42 [] rfl (some 38) rfl [] rfl (bRow Tx.zero) hash_built ?_)
      | (with_reducible show wpList _ _ _ (⟨_, .store 42 _ _, _, _, _, _⟩ :: _) _ _
         refine wpList_store_at rfl 42 (.tmp 2) (.tmp 38) rfl (w.heap.size + 1) 0 (bRow Tx.zero).toList _ _ rfl rfl H0.out.2.1 (by have := HZ32.out; omega) (by rw [hash_info, HZ32.out]) HZ1.out ?_
         intro wz hrz hgz
         rw [splice_all rfl] at hrz
         have HRz := Lib.hid hrz
         have Hbz := Lib.hid (below_own H0.out.2.2 hgz (fun k hk => by cases hk; omega))
         clear hrz hgz))
      exact bodyPost_ret (results_rowL rfl _ _ (w.heap.size + 1) 42 _ _ rfl HRz.out Tryd.underlying42 rfl (by rw [hash_info, List.size_toArray, HZ32.out]) _ rfl) rfl ⟨rfl, Hbz.out⟩
  · have hno : Tr.may b = false := by rw [Bool.eq_false_iff]; intro h; rw [Tr.may_iff, ← No.num_iff, ← No.num_iff] at h; rw [a0] at h; simp at h
    have hKE := HKE.out
    rw [Tr.hashE_no hno] at hKE
    obtain ⟨rfl, rfl⟩ : Tx.zero = K ∧ 2 = E := by simpa using hKE
    have hs := num_no a0
    generalize b.number = num at *
    generalize b.salt = salt at *
    clear hno hKE a0 hm
    by_cases q : num < 0
    · have e2 : decide (num < 0) = true := by simpa using q
      clear hs
      go_enter Tryd.func28, Tryd.ntmps28
      go_wp2_with (first
      | ((with_reducible show wpList _ _ _ (⟨_, .build 42 _, _, _, _, _⟩ :: _) _ _); refine wpList_buildL rfl 42 [] rfl (some 38) rfl [] rfl (bRow Tx.zero) hash_built ?_)
      | (with_reducible show wpList _ _ _ (⟨_, .store 42 _ _, _, _, _, _⟩ :: _) _ _
         refine wpList_store_at rfl 42 (.tmp 2) (.tmp 38) rfl (w.heap.size + 1) 0 (bRow Tx.zero).toList _ _ rfl rfl H0.out.2.1 (by have := HZ32.out; omega) (by rw [hash_info, HZ32.out]) HZ1.out ?_
         intro wz hrz hgz
         rw [splice_all rfl] at hrz
         have HRz := Lib.hid hrz
         have Hbz := Lib.hid (below_own H0.out.2.2 hgz (fun k hk => by cases hk; omega))
         clear hrz hgz))
      exact bodyPost_ret (results_rowL rfl _ _ (w.heap.size + 1) 42 _ _ rfl HRz.out Tryd.underlying42 rfl (by rw [hash_info, List.size_toArray, HZ32.out]) _ rfl) rfl ⟨rfl, Hbz.out⟩
    · have e2 : decide (num < 0) = false := by simpa using q
      have e3 : decide ((1099511627776 : Int) < num) = true := by simp; omega
      clear hs
      go_enter Tryd.func28, Tryd.ntmps28
      go_wp2_with (first
      | ((with_reducible show wpList _ _ _ (⟨_, .build 42 _, _, _, _, _⟩ :: _) _ _); refine wpList_buildL rfl 42 [] rfl (some 38) rfl [] rfl (bRow Tx.zero) hash_built ?_)
      | (with_reducible show wpList _ _ _ (⟨_, .store 42 _ _, _, _, _, _⟩ :: _) _ _
         refine wpList_store_at rfl 42 (.tmp 2) (.tmp 38) rfl (w.heap.size + 1) 0 (bRow Tx.zero).toList _ _ rfl rfl H0.out.2.1 (by have := HZ32.out; omega) (by rw [hash_info, HZ32.out]) HZ1.out ?_
         intro wz hrz hgz
         rw [splice_all rfl] at hrz
         have HRz := Lib.hid hrz
         have Hbz := Lib.hid (below_own H0.out.2.2 hgz (fun k hk => by cases hk; omega))
         clear hrz hgz))
      exact bodyPost_ret (results_rowL rfl _ _ (w.heap.size + 1) 42 _ _ rfl HRz.out Tryd.underlying42 rfl (by rw [hash_info, List.size_toArray, HZ32.out]) _ rfl) rfl ⟨rfl, Hbz.out⟩
end Go.Proofs.YtjeooegkfjlejaaDoor
