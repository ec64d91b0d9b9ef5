/- What later texts need of the earlier layers. -/
import Derived.Test.YtjeooegkfjlejaaDoorEarO
import Derived.Test.YtjeooegkfjlejaaDoorEarS
import Derived.Test.YtjeooegkfjlejaaDoorEarT
import Derived.Test.YtjeooegkfjlejaaDoorEarC
import Derived.Test.YtjeooegkfjlejaaDoorEarA
import Derived.Test.YtjeooegkfjlejaaDoorEarB
import Derived.Test.YtjeooegkfjlejaaDoorIbA
import Derived.Test.YtjeooegkfjlejaaDoorTrMath
import Derived.Test.YtjeooegkfjlejaaDoorTrTm
import Derived.Test.YtjeooegkfjlejaaDoorTrHash
import Derived.Test.YtjeooegkfjlejaaDoorTrMem
import Derived.Test.YtjeooegkfjlejaaDoorTrLv
import Derived.Test.YtjeooegkfjlejaaDoorTrLink
import Derived.Test.YtjeooegkfjlejaaDoorTrBeh
import Derived.Test.YtjeooegkfjlejaaDoorTrCh
import Derived.Test.YtjeooegkfjlejaaDoorTrAt
import Derived.Test.YtjeooegkfjlejaaDoorTrNew
import Derived.Test.YtjeooegkfjlejaaDoorTrMine
import Derived.Test.YtjeooegkfjlejaaDoorTrAll
import Derived.Test.YtjeooegkfjlejaaDoorTrFind
import Derived.Test.YtjeooegkfjlejaaDoorTrAwk
import Derived.Test.YtjeooegkfjlejaaDoorTrLaw2
import Derived.Test.YtjeooegkfjlejaaDoorTrRch
import Derived.Test.YtjeooegkfjlejaaDoorTrRnew
import Derived.Test.YtjeooegkfjlejaaDoorTrFew
import Derived.Test.YtjeooegkfjlejaaDoorTrUpd
import Derived.Test.YtjeooegkfjlejaaDoorTrUpto
import Derived.Test.YtjeooegkfjlejaaDoorTrTurn
import Derived.Test.YtjeooegkfjlejaaDoorTrSame
import Derived.Test.YtjeooegkfjlejaaDoorTrSt
import Derived.Test.YtjeooegkfjlejaaDoorTrRHash
import Derived.Test.YtjeooegkfjlejaaDoorTrGrow
/- ---- TrRmine ---- -/
/- The reference's chain as a law holds it; its Mine. -/
namespace Go.Proofs.YtjeooegkfjlejaaDoor
open Go.RowKit
set_option linter.unusedVariables false
set_option linter.unusedSimpArgs false

/-- all blocks but those of the reference's chains stay -/
def KeepR (w w' : World) : Prop := w.heap.size ≤ w'.heap.size ∧ ∀ (g : Nat) (cs : Array Value) (T : TypeId) (fz : Nat × Nat), w.heap[g]? = some (.cells cs T fz) → T ≠ 38 → w'.heap[g]? = some (.cells cs T fz)
theorem below_of_row {B g : Nat} {w w' : World} (hg : w.grownBy w' (some g)) (hB : B ≤ g) (hs : B ≤ w.heap.size) : Below B w w' := (Below.refl B w).grown hg hs (fun k hk => by cases hk; exact hB)
theorem KeepR.refl (w : World) : KeepR w w := ⟨Nat.le_refl _, fun _ _ _ _ h _ => h⟩
theorem KeepR.trans {a b c : World} (h : KeepR a b) (k : KeepR b c) : KeepR a c := ⟨Nat.le_trans h.1 k.1, fun g cs T fz hh h1 => k.2 g cs T fz (h.2 g cs T fz hh h1) h1⟩
theorem KeepR.of_below {w w' : World} (hb : Below w.heap.size w w') : KeepR w w' := ⟨hb.size, fun g cs T fz hh _ => (hb.block g (lt_of_block hh)).trans hh⟩
theorem KeepR.of_row {w w' : World} {P : Nat} {xs : List Value} (hr : Row w P 38 xs) (hg : w.grownBy w' (some P)) : KeepR w w' :=
  ⟨hg.size, fun g cs T fz hh h1 => (hg.block g (lt_of_block hh) (fun e => by
    cases e
    rw [show w.heap[P]? = _ from hr] at hh
    simp at hh
    exact h1 hh.2.1.symm)).trans hh⟩
theorem KeepR.row {w w' : World} {g : Nat} {T : TypeId} {xs : List Value} (hk : KeepR w w') (h : Row w g T xs) (h1 : T ≠ 38) : Row w' g T xs := hk.2 g _ T _ h h1
theorem KeepR.own {w w' : World} {base n size : Nat} {e : TypeId} {v : Value} {xs : List Value} (hk : KeepR w w') (h : w.ownsRow base e size v n xs) (h1 : e ≠ 38) : w'.ownsRow base e size v n xs := by
  obtain ⟨q1, q2⟩ := h
  refine ⟨q1, ?_⟩
  rcases q2 with q2 | ⟨g, cap, cur, e1, e2, e3, e4⟩
  · exact .inl q2
  · exact .inr ⟨g, cap, cur, e1, e2, hk.2 g _ _ _ e3 h1, e4⟩
theorem StAt.keepR {w W W' : World} {P : Nat} {dp de : Int} {L : List Tr.Lk} (h : StAt w W P dp de L) (hk : KeepR W W') (hb : Below w.heap.size w W') : StAt w W' P dp de L := by
  obtain ⟨h1, h2, ls, h3, h4, v, h5, h6⟩ := h
  exact ⟨hb, h2, ls, h3, h4, v, hk.row h5 (by decide), hk.own h6.1 (by decide), fun x hx => ⟨(h6.2 x hx).1, hk.own (h6.2 x hx).2.1 (by decide), (h6.2 x hx).2.2⟩⟩
/-- the reference's chain in a world that came of w -/
def RStAt (w W : World) (P : Nat) (dp de : Int) (L : List Tr.Lk) : Prop :=
  Below w.heap.size w W ∧ Tr.Good L ∧ ∃ bs : List Bv, bks bs = L.map Tr.Lk.b ∧ RchAt W w.heap.size w.heap.size P dp de bs
theorem RStAt.below {w W W' : World} {P : Nat} {dp de : Int} {L : List Tr.Lk} (h : RStAt w W P dp de L) (hb : Below W.heap.size W W') : RStAt w W' P dp de L := by
  obtain ⟨h1, h2, bs, h3, h4⟩ := h
  exact ⟨two_below' h1 hb, h2, bs, h3, h4.below hb⟩
theorem RStAt.keep {w W W' : World} {P : Nat} {dp de : Int} {L : List Tr.Lk} (h : RStAt w W P dp de L) (hk : Keep W W') (hb : Below w.heap.size w W') : RStAt w W' P dp de L := by
  obtain ⟨h1, h2, bs, h3, h4, h5, A, c, h6, h7⟩ := h
  have hlt := h6.lt
  refine ⟨hb, h2, bs, h3, h4, h5, A, c, hk.row h6 (by decide) (by decide), hk.own h7.1 (by decide) (by decide), fun x hx => ⟨(h7.2 x hx).1, ?_, (h7.2 x hx).2.2⟩⟩
  obtain ⟨q1, q2⟩ := (h7.2 x hx).2.1
  refine ⟨fun hne => ?_, q2⟩
  obtain ⟨b, off, e, hb1, hr⟩ := q1 hne
  refine ⟨b, off, e, hb1, fun i hi j v hv => ?_⟩
  have h0 := hr i hi j v hv
  have e1 := h1.cell (p := ⟨b, off + i * 4 + j, none⟩) hb1
  have e2 := hb.cell (p := ⟨b, off + i * 4 + j, none⟩) hb1
  exact e2.trans (e1.symm.trans h0)
theorem OwnBs.inn {w : World} {base B : Nat} {A : Option Addr} {c : Nat} {bs : List Bv} (h : OwnBs w base B (.slice A bs.length c) bs) (hB : B ≤ w.heap.size) : BvIn w w.heap.size A c bs ∧ ∀ x ∈ bs, x.Fits := by
  refine ⟨⟨bvs_own h.1 (fun x hx => (h.2 x hx).1) rfl rfl (fun x hx => ⟨(h.2 x hx).2.1.mono hB, (h.2 x hx).2.2⟩), fun e => ?_, ?_⟩, fun x hx => (h.2 x hx).1⟩
  · subst e
    rcases h.1.2 with ⟨e, hn⟩ | ⟨g, cap, cur, e, _⟩
    · injection e with e1 e2 e3
      exact ⟨List.length_eq_zero_iff.1 hn, e3⟩
    · injection e with e1 e2 e3
      cases e1
  · rcases h.1.2 with ⟨e, hn⟩ | ⟨g, cap, cur, e, _, _, h1, _⟩
    · omega
    · injection e with e1 e2 e3
      omega
theorem RStAt.start {w W W' : World} {P : Nat} {dp : Int} (hW : Below w.heap.size w W) (hb : Below W.heap.size W W') (h : RchAt W' W.heap.size W.heap.size P dp 0 [⟨Tr.zeroB, none, 0⟩]) : RStAt w W' P dp 0 [Tr.first] := by
  obtain ⟨h1, h2, A, c, h3, h4⟩ := h
  have hs := hW.size
  refine ⟨two_below' hW hb, Tr.good_first, [⟨Tr.zeroB, none, 0⟩], rfl, by omega, Nat.le_refl _, A, c, h3, own_lower h4.1 hs, fun x hx => ?_⟩
  rw [List.mem_singleton.1 hx]
  exact ⟨zeroB_fits, ⟨fun h => absurd rfl h, by show (0 : Nat) ≤ _; omega⟩, Nat.le_refl _⟩
theorem rheightS {w W : World} {P : Nat} {dp de : Int} {L : List Tr.Lk} (h : RStAt w W P dp de L) :
    Calls Tryd.prog 19 #[.pointer (some ⟨P, 0, none⟩)] W fun e w' => e = .returned (.int .i64 ((L.length : Int) - 1)) ∧ W = w' := by
  obtain ⟨h1, h2, bs, h3, h4⟩ := h
  have hl : bs.length = L.length := by have := congrArg List.length h3; simpa [bks] using this
  have := rheight_any W w.heap.size w.heap.size P dp de bs h4 (by have := h2.pos; omega) (by have := h2.2.2; omega)
  rwa [hl] at this
theorem rfinalS {w W : World} {P : Nat} {dp de : Int} {L : List Tr.Lk} (h : RStAt w W P dp de L) (hd : 0 ≤ dp) (hd2 : dp ≤ 1000000) :
    Calls Tryd.prog 21 #[.pointer (some ⟨P, 0, none⟩)] W fun e w' => e = .returned (.int .i64 (max ((L.length : Int) - 1 - dp) 0)) ∧ Below W.heap.size W w' := by
  obtain ⟨h1, h2, bs, h3, h4⟩ := h
  have hl : bs.length = L.length := by have := congrArg List.length h3; simpa [bks] using this
  have := rfinal_any W w.heap.size w.heap.size P dp de bs h4 (by have := h2.pos; omega) (by have := h2.2.2; omega) hd hd2
  rwa [hl] at this
set_option maxRecDepth 20000 in
set_option maxHeartbeats 3200000 in
theorem rmineS (hRS : RefSum) {w W : World} {P : Nat} {dp de : Int} {L : List Tr.Lk} (h : RStAt w W P dp de L) (A0 : Option Addr) (c0 : Nat) (items : List It) (salt : Int) (hs : Tx.fits salt) (hin : SlIn w w.heap.size A0 c0 items) :
    Calls Tryd.prog 48 #[.pointer (some ⟨P, 0, none⟩), .slice A0 items.length c0, .int .i64 salt] W fun e w' =>
      e = .returned (hashV (Tr.mineE (Tr.lastOf Tr.zeroL L) (L.length - 1) items salt).1 (Tr.mineE (Tr.lastOf Tr.zeroL L) (L.length - 1) items salt).2) ∧ RStAt w w' P dp de (Tr.mineL L items salt) ∧ KeepR W w' := by
  have hzh := hash_zv
  have HZ32 := Lib.hid (Tx.bRow_len Tx.zero rfl)
  have HZ1 : Hid (∀ v ∈ (bRow Tx.zero).toList, v.oneCell' = true) := Lib.hid (hash_one _ rfl)
  have HHt := Lib.hid (fun W' (hW : Below W.heap.size W W') => rheightS (h.below hW))
  have HSt := Lib.hid (fun W' (hW : Below W.heap.size W W') => h.below hW)
  obtain ⟨h1, h2, bs, h3, h4, h5, A, c, h6, h7⟩ := h
  have hl : bs.length = L.length := by have := congrArg List.length h3; simpa [bks] using this
  have hp := h2.pos
  have hl2 := h2.2.2
  have HGr : Hid (∀ W', Below W.heap.size W W' → Calls Tryd.prog 68 #[.slice A bs.length c, .slice A0 items.length c0, .int .i64 salt] W' fun e w' => GrowOut W' w' bs (Tr.next (Tr.lastOf Tr.zeroL L) items salt) A0 c0 e ∧ Below W'.heap.size W' w') := Lib.hid (fun W' hW => by
    obtain ⟨q1, q2⟩ := (h7.below h1.size hW).inn (Nat.le_trans h1.size hW.size)
    exact grow_any hRS L h2 bs h3 q2 A c items A0 c0 salt W' q1 (((hin.1.below h1).mono h1.size).below hW |>.mono hW.size))
  have hc0 := h6.cell 0 (by simp)
  have hf0 := h6.free 0
  simp only [List.getElem_cons_zero] at hc0
  have HRow : Hid (∀ W', Below W.heap.size W W' → Row W' P 38 [.slice A bs.length c, .int .i64 dp, .int .i64 de] ∧ W'.cell? ⟨P, 0, none⟩ = some (.slice A bs.length c)) := Lib.hid (fun W' hW => by
    have := h6.below hW
    refine ⟨this, ?_⟩
    have := this.cell 0 (by simp)
    simpa using this)
  have HOw : Hid (∀ W', Below W.heap.size W W' → ∀ x ∈ bs, x.Fits ∧ BkItems W' w.heap.size x.A x.b.items ∧ x.b.items.length ≤ x.cap) := Lib.hid (fun W' hW x hx => ⟨(h7.2 x hx).1, (h7.2 x hx).2.1.below (hW.mono h1.size), (h7.2 x hx).2.2⟩)
  have HIt : Hid (∀ W', Below W.heap.size W W' → BkItems W' w.heap.size A0 items ∧ items.length ≤ c0) := Lib.hid (fun W' hW => ⟨hin.1.below (h1.trans (hW.mono h1.size)), hin.2.2.1⟩)
  have Hb3 := Lib.hid h3
  have HG2 := Lib.hid h2
  have H1 := Lib.hid h1
  have HPl := Lib.hid (show w.heap.size ≤ P ∧ P < W.heap.size from ⟨h4, h6.lt⟩)
  have hlh : (Tr.lastOf Tr.zeroL L).hash.length = 32 := by
    have := Tr.hashE_len (Tr.lastOf Tr.zeroL L).b
    rw [Tr.lastOf_get h2.2.1] at this ⊢
    rw [(h2.num (by omega)).2] at this
    exact this
  have HNf : Hid (Bv.Fits ⟨Tr.next (Tr.lastOf Tr.zeroL L) items salt, A0, c0⟩) := Lib.hid ⟨hlh, by
    have := h2.last
    show -9223372036854775808 ≤ (Tr.lastOf Tr.zeroL L).b.number + 1 ∧ (Tr.lastOf Tr.zeroL L).b.number + 1 ≤ 9223372036854775807
    omega⟩
  have HMC : Hid (L.length - 1 < 4096 → Tr.mineE (Tr.lastOf Tr.zeroL L) (L.length - 1) items salt = Tr.hashE (Tr.next (Tr.lastOf Tr.zeroL L) items salt) ∧ Tr.mineC L items salt = (Tr.hashE (Tr.next (Tr.lastOf Tr.zeroL L) items salt)).2) := Lib.hid (fun h => by
    unfold Tr.mineE Tr.mineC
    rw [if_neg (by omega), if_neg (by omega)]
    exact ⟨rfl, rfl⟩)
  have HMF : Hid (4096 ≤ L.length - 1 → Tr.mineE (Tr.lastOf Tr.zeroL L) (L.length - 1) items salt = (Tx.zero, 25) ∧ Tr.mineL L items salt = L) := Lib.hid (fun h => by
    unfold Tr.mineE Tr.mineL Tr.mineC
    rw [if_pos h, if_pos h]
    exact ⟨rfl, rfl⟩)
  have HML : Hid (Tr.mineC L items salt = 0 → (Tr.mineL L items salt).map Tr.Lk.b = L.map Tr.Lk.b ++ [Tr.next (Tr.lastOf Tr.zeroL L) items salt] ∧ Tr.Good (Tr.mineL L items salt)) := Lib.hid (fun h => by
    refine ⟨?_, h2.mine items salt⟩
    unfold Tr.mineL
    rw [if_pos h, List.map_append]
    rfl)
  have HMN : Hid (Tr.mineC L items salt ≠ 0 → Tr.mineL L items salt = L) := Lib.hid (fun h => by unfold Tr.mineL; rw [if_neg h])
  have HErr : Hid ((Tr.hashE (Tr.next (Tr.lastOf Tr.zeroL L) items salt)).2 ≠ 0 → (Tr.hashE (Tr.next (Tr.lastOf Tr.zeroL L) items salt)).1 = Tx.zero) := Lib.hid (fun h => hashE_err h)
  have hKl := Tr.hashE_len (Tr.next (Tr.lastOf Tr.zeroL L) items salt)
  have HK32 := Lib.hid (Tx.bRow_len _ hKl)
  have HK1 := Lib.hid (hash_one _ hKl)
  obtain ⟨n, hn⟩ : ∃ n, n = bs.length := ⟨_, rfl⟩
  have HN := Lib.hid hn
  have HNL : Hid (L.length = n) := Lib.hid (by omega)
  have hn1 : n ≤ 4097 := by omega
  rw [← hn] at HGr
  have HNew0 := Lib.hid (Row.new W 42 (bRow Tx.zero).toList)
  rw [Array.toArray_toList] at HNew0
  have HB0 := Lib.hid ((Below.refl W.heap.size W).alloc (Nat.le_refl _) (.cells (bRow Tx.zero) 42))
  have HcP : Hid (∀ W', Below W.heap.size W W' → W'.cell? ⟨P, 0, none⟩ = some (.slice A n c)) := Lib.hid (fun W' hW => by rw [hn]; exact (HRow.out W' hW).2)
  have hcP := HcP.out _ HB0.out
  unfold GrowOut at HGr
  generalize hb : Tr.next (Tr.lastOf Tr.zeroL L) items salt = b at *
  have HBi : Hid (b.items = items) := Lib.hid (by rw [← hb]; rfl)
  generalize hhe : Tr.hashE b = he at *
  obtain ⟨KH, code⟩ := he
  simp only at HGr HMC HErr HK32 HK1
  generalize hml : items.length = m at *
  have HMl := Lib.hid hml
  clear hml
  clear h1 h2 h3 h4 h5 h6 h7 hl hp hl2 hc0 hf0 hlh hKl hn hb hhe hin hs
  by_cases hfull : 4096 < n
  · have d1 : decide ((4096 : Int) ≤ (n : Int) - 1) = true := by simp; omega
    have hF := HMF.out (by rw [HNL.out]; omega)
    rw [hF.1, hF.2]
    clear hF hcP hfull
    have HHn := Lib.hid (HHt.out _ HB0.out)
    rw [HNL.out] at HHn
    go_enter Tryd.func48, Tryd.ntmps48
    go_wp2_with fail
    refine HHn.out.mono ?_
    rintro _ w1 ⟨rfl, rfl⟩
    go_wp2_with (first
    | ((with_reducible show wpList _ _ _ (⟨_, .build 42 _, _, _, _, _⟩ :: _) _ _); refine wpList_buildL rfl 42 [] rfl (some 14) rfl [] rfl (bRow Tx.zero) hash_built ?_)
    | (with_reducible show wpList _ _ _ (⟨_, .store 42 _ _, _, _, _, _⟩ :: _) _ _
       refine wpList_store_at rfl 42 (.tmp 6) (.tmp 14) rfl W.heap.size 0 (bRow Tx.zero).toList (bRow Tx.zero).toList _ rfl rfl HNew0.out (by have := HZ32.out; omega) (by rw [hash_info, HZ32.out]) HZ1.out ?_
       intro w2 hr2 hg2
       rw [splice_all rfl] at hr2
       have HR2 := Lib.hid hr2
       have HB2 := Lib.hid (below_own HB0.out hg2 (fun k hk => by cases hk; exact Nat.le_refl _))
       clear hr2 hg2))
    exact bodyPost_ret (results_rowL rfl _ _ W.heap.size 42 _ _ rfl HR2.out Tryd.underlying42 rfl (by rw [hash_info, List.size_toArray, HZ32.out]) _ rfl) rfl ⟨by simp only [Array.toArray_toList]; rfl, HSt.out _ HB2.out, KeepR.of_below HB2.out⟩
  · have d1 : decide ((4096 : Int) ≤ (n : Int) - 1) = false := by simp; omega
    obtain ⟨hM1, hM2⟩ := HMC.out (by rw [HNL.out]; omega)
    rw [hM1]
    have HM2 := Lib.hid hM2
    have HHn := Lib.hid (HHt.out _ HB0.out)
    rw [HNL.out] at HHn
    clear hM1 hM2 hfull
    go_enter Tryd.func48, Tryd.ntmps48
    go_wp2_with fail
    refine HHn.out.mono ?_
    rintro _ w1 ⟨rfl, rfl⟩
    go_wp2_with fail
    refine (HGr.out _ HB0.out).mono ?_
    rintro _ w2 ⟨hgo, hb2⟩
    have HB2 := Lib.hid (two_below' HB0.out hb2)
    have HZ2 := Lib.hid (HNew0.out.below hb2)
    have HN2 := Lib.hid (Row.new w2 42 (bRow Tx.zero).toList)
    rw [Array.toArray_toList] at HN2
    clear hb2 hcP
    rcases hgo with ⟨hc, rfl⟩ | ⟨hc, A2, c2, rfl, ho⟩
    · have dq : (code != 0) = true := by simpa using hc
      have HC := Lib.hid hc
      clear hc
      go_wp2_with (first
      | (with_reducible show wpList _ _ _ (⟨_, .store 42 (.tmp 9) _, _, _, _, _⟩ :: _) _ _
         refine wpList_store_at rfl 42 (.tmp 9) (.tmp 24) rfl w2.heap.size 0 (bRow Tx.zero).toList (bRow Tx.zero).toList _ rfl rfl HN2.out (by have := HZ32.out; omega) (by rw [hash_info, HZ32.out]) HZ1.out ?_
         intro w3 hr3 hg3
         have hb3 := below_own ((Below.refl w2.heap.size w2).alloc (Nat.le_refl _) (.cells (bRow Tx.zero) 42)) hg3 (fun k hk => by cases hk; exact Nat.le_refl _)
         have HZ3 := Lib.hid (HZ2.out.below hb3)
         have HB3 := Lib.hid (two_below' HB2.out hb3)
         clear hr3 hg3 hb3)
      | ((with_reducible show wpList _ _ _ (⟨_, .build 42 _, _, _, _, _⟩ :: _) _ _); refine wpList_buildL rfl 42 [] rfl (some 28) rfl [] rfl (bRow Tx.zero) hash_built ?_)
      | (with_reducible show wpList _ _ _ (⟨_, .store 42 (.tmp 6) _, _, _, _, _⟩ :: _) _ _
         refine wpList_store_at rfl 42 (.tmp 6) (.tmp 28) rfl W.heap.size 0 (bRow Tx.zero).toList (bRow Tx.zero).toList _ rfl rfl HZ3.out (by have := HZ32.out; omega) (by rw [hash_info, HZ32.out]) HZ1.out ?_
         intro w4 hr4 hg4
         rw [splice_all rfl] at hr4
         have HR4 := Lib.hid hr4
         have HB4 := Lib.hid (below_own HB3.out hg4 (fun k hk => by cases hk; exact Nat.le_refl _))
         clear hr4 hg4))
      have hL := HMN.out (by rw [HM2.out]; exact HC.out)
      rw [hL, HErr.out HC.out]
      exact bodyPost_ret (results_rowL rfl _ _ W.heap.size 42 _ _ rfl HR4.out Tryd.underlying42 rfl (by rw [hash_info, List.size_toArray, HZ32.out]) _ rfl) rfl ⟨by simp only [Array.toArray_toList]; rfl, HSt.out _ HB4.out, KeepR.of_below HB4.out⟩
    · have dq : (code != 0) = false := by simp [hc]
      have HC := Lib.hid hc
      rw [← HN.out] at ho ⊢
      have HO := Lib.hid ho
      clear hc ho
      go_wp2_with (first
      | (with_reducible show wpList _ _ _ (⟨_, .store 42 (.tmp 9) _, _, _, _, _⟩ :: _) _ _
         refine wpList_store_at rfl 42 (.tmp 9) (.tmp 24) rfl w2.heap.size 0 (bRow KH).toList (bRow Tx.zero).toList _ rfl rfl HN2.out (by have := HZ32.out; have := HK32.out; omega) (by rw [hash_info, HK32.out]) HK1.out ?_
         intro w3 hr3 hg3
         rw [splice_all (HK32.out.trans HZ32.out.symm)] at hr3
         have hb3 := below_own ((Below.refl w2.heap.size w2).alloc (Nat.le_refl _) (.cells (bRow Tx.zero) 42)) hg3 (fun k hk => by cases hk; exact Nat.le_refl _)
         have hB3 := two_below' HB2.out hb3
         have hrw := (HRow.out _ hB3).1
         rw [← HN.out] at hrw
         have hf3 := hrw.free 0
         have hc3 := hrw.cell 0 (by simp)
         simp only [List.getElem_cons_zero] at hc3
         have hgs := grownBy_set w3 P 0 (.slice A2 (n + 1) c2)
         have hset := hrw.set 0 (.slice A2 (n + 1) c2) (by simp)
         simp only [List.set_cons_zero] at hset
         have HR4 := Lib.hid (hr3.kept hgs (by have := HPl.out; have := HB2.out.size; simp; omega))
         have HZ4 := Lib.hid ((HZ2.out.below hb3).kept hgs (by have := HPl.out; simp; omega))
         have HP4 := Lib.hid hset
         have HO4 := Lib.hid ((own_below HO.out hb3).kept hgs (.inr (row_ne_own hrw (own_below HO.out hb3) (by decide))))
         have HK4 : Hid (KeepR W (w3.setCell ⟨P, 0, none⟩ (.slice A2 (n + 1) c2))) := Lib.hid ((KeepR.of_below hB3).trans (KeepR.of_row hrw hgs))
         have HB4 : Hid (Below w.heap.size w (w3.setCell ⟨P, 0, none⟩ (.slice A2 (n + 1) c2))) := Lib.hid ((H1.out.trans (hB3.mono H1.out.size)).grown hgs (Nat.le_trans H1.out.size hB3.size) (fun k hk => by cases hk; exact HPl.out.1))
         have HI4 : Hid (∀ x ∈ bs, x.Fits ∧ BkItems (w3.setCell ⟨P, 0, none⟩ (.slice A2 (n + 1) c2)) w.heap.size x.A x.b.items ∧ x.b.items.length ≤ x.cap) := Lib.hid (fun x hx => by
           obtain ⟨q1, q2, q3⟩ := HOw.out _ hB3 x hx
           exact ⟨q1, q2.below (below_of_row hgs HPl.out.1 (Nat.le_trans H1.out.size hB3.size)), q3⟩)
         have HJ4 : Hid (BkItems (w3.setCell ⟨P, 0, none⟩ (.slice A2 (n + 1) c2)) w.heap.size A0 items) := Lib.hid ((HIt.out _ hB3).1.below (below_of_row hgs HPl.out.1 (Nat.le_trans H1.out.size hB3.size)))
         clear hr3 hg3 hb3 hB3 hrw hset hgs)
      | ((with_reducible show wpList _ _ _ (⟨_, .load 42 (.tmp 9), _, _, _, _⟩ :: _) _ _); refine wpList_load_tx rfl 42 (.tmp 9) rfl w2.heap.size 0 rfl (bRow KH).toList _ (row_range HR4.out) Tryd.underlying42 rfl (by rw [hash_info, HK32.out]) ?_)
      | (with_reducible show wpList _ _ _ (⟨_, .store 42 (.tmp 6) _, _, _, _, _⟩ :: _) _ _
         refine wpList_store_at rfl 42 (.tmp 6) (.tmp 34) rfl W.heap.size 0 (bRow KH).toList (bRow Tx.zero).toList _ rfl rfl HZ4.out (by have := HZ32.out; have := HK32.out; omega) (by rw [hash_info, HK32.out]) HK1.out ?_
         intro w5 hr5 hg5
         rw [splice_all (HK32.out.trans HZ32.out.symm)] at hr5
         have HR5 := Lib.hid hr5
         have HG5 := Lib.hid hg5
         clear hr5 hg5))
      obtain ⟨q1, q2⟩ := HML.out (by rw [HM2.out]; exact HC.out)
      have hw5 := HG5.out
      have hwW := H1.out.size
      have hbel := below_of_row hw5 hwW HB4.out.size
      refine bodyPost_ret (results_rowL rfl _ _ W.heap.size 42 _ _ rfl HR5.out Tryd.underlying42 rfl (by rw [hash_info, List.size_toArray, HK32.out]) _ rfl) rfl ⟨by simp only [Array.toArray_toList]; rw [HC.out]; rfl, ⟨HB4.out.trans hbel, q2, bs ++ [⟨b, A0, c0⟩], ?_, HPl.out.1, Nat.le_refl _, A2, c2, ?_, ?_, fun x hx => ?_⟩, ⟨Nat.le_trans HK4.out.1 hw5.size, fun g cs T fz hh h1 => (hw5.block g (lt_of_block (HK4.out.2 g cs T fz hh h1)) (fun e => by have := lt_of_block hh; cases e; omega)).trans (HK4.out.2 g cs T fz hh h1)⟩⟩
      · rw [q1]
        have := Hb3.out
        unfold bks at this ⊢
        rw [List.map_append, this]; rfl
      · rw [List.length_append, List.length_singleton, ← HN.out]
        exact HP4.out.kept hw5 (by have := HPl.out; simp; omega)
      · rw [List.length_append, List.length_singleton, ← HN.out]
        exact own_lower (HO4.out.kept hw5 (.inr (row_ne_own HZ4.out HO4.out (by decide)))) (Nat.le_trans hwW HB0.out.size)
      · rcases List.mem_append.1 hx with hx | hx
        · obtain ⟨p1, p2, p3⟩ := HI4.out x hx
          exact ⟨p1, p2.below hbel, p3⟩
        · rw [List.mem_singleton.1 hx]
          refine ⟨HNf.out, ?_, ?_⟩
          · rw [HBi.out]; exact HJ4.out.below hbel
          · rw [HBi.out, HMl.out]; exact (HIt.out _ (Below.refl _ _)).2
end Go.Proofs.YtjeooegkfjlejaaDoor
