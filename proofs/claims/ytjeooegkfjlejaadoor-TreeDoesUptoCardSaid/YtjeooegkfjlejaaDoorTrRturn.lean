/- What later texts need of the earlier layers. -/
import Derived.Test.YtjeooegkfjlejaaDoorEarO
import Derived.Test.YtjeooegkfjlejaaDoorEarS
import Derived.Test.YtjeooegkfjlejaaDoorEarT
import Derived.Test.YtjeooegkfjlejaaDoorEarC
import Derived.Test.YtjeooegkfjlejaaDoorEarA
import Derived.Test.YtjeooegkfjlejaaDoorEarB
import Derived.Test.YtjeooegkfjlejaaDoorIbA
import Derived.Test.YtjeooegkfjlejaaDoorTrMath
import Derived.Test.YtjeooegkfjlejaaDoorTrTm
import Derived.Test.YtjeooegkfjlejaaDoorTrHash
import Derived.Test.YtjeooegkfjlejaaDoorTrMem
import Derived.Test.YtjeooegkfjlejaaDoorTrLv
import Derived.Test.YtjeooegkfjlejaaDoorTrLink
import Derived.Test.YtjeooegkfjlejaaDoorTrBeh
import Derived.Test.YtjeooegkfjlejaaDoorTrCh
import Derived.Test.YtjeooegkfjlejaaDoorTrAt
import Derived.Test.YtjeooegkfjlejaaDoorTrNew
import Derived.Test.YtjeooegkfjlejaaDoorTrMine
import Derived.Test.YtjeooegkfjlejaaDoorTrAll
import Derived.Test.YtjeooegkfjlejaaDoorTrFind
import Derived.Test.YtjeooegkfjlejaaDoorTrAwk
import Derived.Test.YtjeooegkfjlejaaDoorTrLaw2
import Derived.Test.YtjeooegkfjlejaaDoorTrRch
import Derived.Test.YtjeooegkfjlejaaDoorTrRnew
import Derived.Test.YtjeooegkfjlejaaDoorTrFew
import Derived.Test.YtjeooegkfjlejaaDoorTrUpd
import Derived.Test.YtjeooegkfjlejaaDoorTrUpto
import Derived.Test.YtjeooegkfjlejaaDoorTrTurn
import Derived.Test.YtjeooegkfjlejaaDoorTrSame
import Derived.Test.YtjeooegkfjlejaaDoorTrSt
import Derived.Test.YtjeooegkfjlejaaDoorTrRHash
import Derived.Test.YtjeooegkfjlejaaDoorTrGrow
import Derived.Test.YtjeooegkfjlejaaDoorTrRmine
import Derived.Test.YtjeooegkfjlejaaDoorTrSmall
/- ---- TrRturn ---- -/
/- The reference's Turn. -/
namespace Go.Proofs.YtjeooegkfjlejaaDoor
open Go.RowKit
set_option linter.unusedVariables false
set_option linter.unusedSimpArgs false

namespace Tr
end Tr
set_option maxRecDepth 20000 in
set_option maxHeartbeats 1600000 in
theorem rturn_bad {w W : World} {P : Nat} {dp de : Int} {L : List Tr.Lk} (h : RStAt w W P dp de L) (under salt : Int) (A : Option Addr) (c m : Nat) (hm : m ≤ 1000000) (hc : Tr.tcode L.length under m ≠ 0) :
    Calls Tryd.prog 49 #[.pointer (some ⟨P, 0, none⟩), .int .i64 under, .slice A m c, .int .i64 salt] W fun e w' => e = .returned (.int .i64 (Tr.tcode L.length under m)) ∧ W = w' := by
  have HB := Lib.hid (rheightS h)
  have hl1 := h.2.1.2.2
  unfold Tr.tcode at hc ⊢
  clear h
  generalize L.length = n at *
  by_cases q0 : under < 0
  · rw [if_pos q0]
    have d0 : decide (under < 0) = true := by simpa using q0
    clear q0 hc
    go_enter Tryd.func49, Tryd.ntmps49
    go_wp2_with fail
    go_ret
    exact ⟨rfl, rfl⟩
  rw [if_neg q0] at hc ⊢
  have d0 : decide (under < 0) = false := by simpa using q0
  by_cases q1 : (n : Int) - 1 < under
  · rw [if_pos q1]
    have d1 : decide ((n : Int) - 1 < under) = true := by simpa using q1
    clear q0 q1 hc
    go_enter Tryd.func49, Tryd.ntmps49
    go_wp2_with fail
    refine HB.out.mono ?_
    rintro _ w1 ⟨rfl, rfl⟩
    go_wp2_with fail
    go_ret
    exact ⟨rfl, rfl⟩
  rw [if_neg q1] at hc ⊢
  have d1 : decide ((n : Int) - 1 < under) = false := by simpa using q1
  by_cases q2 : (m : Int) ≤ under
  · rw [if_pos q2]
    have d2 : decide ((m : Int) ≤ under) = true := by simpa using q2
    clear q0 q1 q2 hc
    go_enter Tryd.func49, Tryd.ntmps49
    go_wp2_with fail
    refine HB.out.mono ?_
    rintro _ w1 ⟨rfl, rfl⟩
    go_wp2_with fail
    go_ret
    exact ⟨rfl, rfl⟩
  rw [if_neg q2] at hc ⊢
  have d2 : decide ((m : Int) ≤ under) = false := by simpa using q2
  by_cases q3 : 4096 < (n : Int) - 1 - under + m
  · rw [if_pos q3]
    have hw1 : IntKind.i64.wrap ((n : Int) - 1 - under) = (n : Int) - 1 - under := IntWalk.i64_in _ (by omega)
    have hw2 : IntKind.i64.wrap ((n : Int) - 1 - under + (m : Int)) = (n : Int) - 1 - under + (m : Int) := IntWalk.i64_in _ (by omega)
    have d3 : decide ((4096 : Int) < (n : Int) - 1 - under + (m : Int)) = true := by simpa using q3
    clear q0 q1 q2 q3 hc
    go_enter Tryd.func49, Tryd.ntmps49
    go_wp2_with fail
    refine HB.out.mono ?_
    rintro _ w1 ⟨rfl, rfl⟩
    go_wp2_with fail
    refine HB.out.mono ?_
    rintro _ w1 ⟨rfl, rfl⟩
    go_wp2_with fail
    go_ret
    exact ⟨rfl, rfl⟩
  · rw [if_neg q3] at hc
    exact absurd rfl hc
/-- the loop of the reference's Turn -/
def RtIn (w W wr : World) (L1 : List Tr.Lk) (bl : List (List It)) (salt : Int) (k : Nat) (bs : List Bv) (v : Value) : Prop :=
  ∃ F : List Tr.Lk, F.length = k ∧ bks bs = (L1 ++ F).map Tr.Lk.b ∧ Tr.Good (L1 ++ F) ∧ OwnBs wr w.heap.size w.heap.size v bs ∧
    Tr.freshE salt (Tr.lastOf Tr.zeroL L1) bl = (F ++ (Tr.freshE salt (Tr.lastOf Tr.zeroL (L1 ++ F)) (bl.drop k)).1, (Tr.freshE salt (Tr.lastOf Tr.zeroL (L1 ++ F)) (bl.drop k)).2) ∧ Below W.heap.size W wr
theorem Bv.flat_take : ∀ (ls : List Bv) (hf : ∀ x ∈ ls, x.Fits) (k : Nat), (Bv.flat ls).take (k * 35) = Bv.flat (ls.take k)
  | [], _, k => by simp [Bv.flat]
  | x :: r, hf, 0 => by simp [Bv.flat]
  | x :: r, hf, k + 1 => by
    show (x.cells ++ Bv.flat r).take _ = _
    have hc := Bv.cells_len (hf x (by simp))
    rw [show (k + 1) * 35 = 35 + k * 35 by omega, List.take_append, hc, Nat.add_sub_cancel_left, List.take_of_length_le (by omega), Bv.flat_take r (fun y hy => hf y (by simp [hy])) k]
    rfl
theorem OwnBs.take {w : World} {base B n c g : Nat} {bs : List Bv} (h : OwnBs w base B (.slice (some ⟨g, 0, none⟩) n c) bs) (hn : n = bs.length) {k : Nat} (hk : k ≤ n) : OwnBs w base B (.slice (some ⟨g, 0, none⟩) k c) (bs.take k) := by
  subst hn
  refine ⟨?_, fun x hx => h.2 x (List.mem_of_mem_take hx)⟩
  have := own_take h.1 hk
  rw [Bv.flat_take bs (fun x hx => (h.2 x hx).1)] at this
  rwa [List.length_take, Nat.min_eq_left hk]
set_option maxRecDepth 20000 in
set_option maxHeartbeats 6400000 in
theorem rturn_go (hRS : RefSum) {w W : World} {P : Nat} {dp de : Int} {L : List Tr.Lk} (h : RStAt w W P dp de L) (under salt : Int) (hs : Tx.fits salt) (A0 : Option Addr) (c0 : Nat) (B : List Sv) (hB : LsIn w w.heap.size A0 c0 B) (hm : B.length ≤ 1000000) (hc : Tr.tcode L.length under B.length = 0) :
    Calls Tryd.prog 49 #[.pointer (some ⟨P, 0, none⟩), .int .i64 under, .slice A0 B.length c0, .int .i64 salt] W fun e w' =>
      e = .returned (.int .i64 (Tr.turnC L under (B.map Sv.its) salt)) ∧ RStAt w w' P dp (Tr.turnD de L under (B.map Sv.its) salt) (Tr.turnL L under (B.map Sv.its) salt) ∧ KeepR W w' := by
  have HB := Lib.hid (rheightS h)
  have HSt := Lib.hid (fun W' (hW : Below W.heap.size W W') => h.below hW)
  obtain ⟨u0, u1, u2, u3⟩ := Tr.tcode_zero hc
  obtain ⟨s1, s2, s3, s4, s5⟩ := Tr.stay_pos hc
  obtain ⟨h1, h2, bs, h3, h4, h5, A, c, h6, h7⟩ := h
  have hl : bs.length = L.length := by have := congrArg List.length h3; simpa [bks] using this
  have hp := h2.pos
  have hl2 := h2.2.2
  have hBne : B ≠ [] := fun e => by rw [e] at u2; simp at u2; omega
  obtain ⟨gb, off, rfl, hgb, hcb⟩ := hB.1 hBne
  obtain ⟨g, rfl⟩ : ∃ g, A = some ⟨g, 0, none⟩ := by
    obtain ⟨q, hq⟩ : ∃ q, bs.length = q + 1 := ⟨bs.length - 1, by omega⟩
    have := h7.1
    rw [hq] at this
    obtain ⟨g, cap, e⟩ := ownsRow_succ this
    injection e with e1 e2 e3
    exact ⟨g, e1⟩
  have HRow : Hid (∀ W', Below W.heap.size W W' → Row W' P 38 [.slice (some ⟨g, 0, none⟩) bs.length c, .int .i64 dp, .int .i64 de]) := Lib.hid (fun W' hW => h6.below hW)
  have HCB : Hid (∀ W', Below W.heap.size W W' → ∀ k (hk : k < B.length), W'.cell? ⟨gb, off + k, none⟩ = some (.slice B[k].A B[k].its.length B[k].cap)) := Lib.hid (fun W' hW k hk => ((h1.trans (hW.mono h1.size)).cell (p := ⟨gb, off + k, none⟩) hgb).trans (hcb k hk))
  obtain ⟨st, hst⟩ : ∃ st, st = Tr.stay L.length under := ⟨_, rfl⟩
  rw [← hst] at s1 s2 s3 s4 s5
  obtain ⟨L1, hL1⟩ : ∃ L1, L1 = L.take st := ⟨_, rfl⟩
  have hL1l : L1.length = st := by rw [hL1, List.length_take]; omega
  have hG1 : Tr.Good L1 := by rw [hL1]; exact h2.take s1
  have HTF : Hid (Tr.turnF L under (B.map Sv.its) salt = Tr.freshE salt (Tr.lastOf Tr.zeroL L1) (B.map Sv.its)) := Lib.hid (by unfold Tr.turnF; rw [← hst, hL1])
  have HTC : Hid (Tr.turnC L under (B.map Sv.its) salt = (Tr.freshE salt (Tr.lastOf Tr.zeroL L1) (B.map Sv.its)).2) := Lib.hid (by unfold Tr.turnC; rw [List.length_map, if_pos hc, HTF.out])
  have HI0 : Hid (∀ wr, Below W.heap.size W wr → RtIn w W wr L1 (B.map Sv.its) salt 0 (bs.take st) (.slice (some ⟨g, 0, none⟩) st c)) := Lib.hid (fun wr hb => by
    refine ⟨[], rfl, ?_, by rw [List.append_nil]; exact hG1, ?_, by simp, hb⟩
    · unfold bks at h3 ⊢
      rw [List.append_nil, List.map_take, h3, hL1, List.map_take]
    · exact (h7.below h1.size hb).take rfl (by omega))
  have HBs : Hid (∀ k (hk : k < B.length), SlIn w w.heap.size B[k].A B[k].cap B[k].its) := Lib.hid (fun k hk => hB.2.2.2 _ (List.getElem_mem hk))
  have H1 := Lib.hid h1
  have HG2 := Lib.hid h2
  have HPl := Lib.hid (show w.heap.size ≤ P ∧ P < W.heap.size from ⟨h4, h6.lt⟩)
  have HL1 := Lib.hid hL1
  have HL1l := Lib.hid hL1l
  have HTc := Lib.hid hc
  have HSt1 := Lib.hid hst
  obtain ⟨n, hn⟩ : ∃ n, n = L.length := ⟨_, rfl⟩
  obtain ⟨m, hmm⟩ : ∃ m, m = B.length := ⟨_, rfl⟩
  have HN := Lib.hid hn
  have HM := Lib.hid hmm
  have HNb : Hid (bs.length = n) := Lib.hid (by omega)
  rw [← hn] at HB s2 s3 s4 u1 u3
  rw [← hmm] at s4 s5 u2 u3 hm ⊢
  have hn2 : n ≤ 4097 := by omega
  have hcap : st ≤ c := by
    have := (h7.inn h1.size).1.2.2
    omega
  have hsl := fun W' => sliceBlocks (some ⟨g, 0, none⟩) n st c hcap W'
  have d0 : decide (under < 0) = false := by simpa using u0
  have d1 : decide ((n : Int) - 1 < under) = false := by simpa using u1
  have d2 : decide ((m : Int) ≤ under) = false := by simpa using u2
  have d3 : decide ((4096 : Int) < (n : Int) - 1 - under + (m : Int)) = false := by simpa using u3
  have hw1 : IntKind.i64.wrap ((n : Int) - 1 - under) = (n : Int) - 1 - under := IntWalk.i64_in _ (by omega)
  have hw2 : IntKind.i64.wrap ((n : Int) - 1 - under + (m : Int)) = (n : Int) - 1 - under + (m : Int) := IntWalk.i64_in _ (by omega)
  have hw3 : IntKind.i64.wrap ((n : Int) - under) = (st : Int) := by rw [IntWalk.i64_in _ (by omega)]; omega
  have HcP : Hid (∀ W', Below W.heap.size W W' → W'.cell? ⟨P, 0, none⟩ = some (.slice (some ⟨g, 0, none⟩) n c)) := Lib.hid (fun W' hW => by
    have := (h6.below hW).cell 0 (by simp)
    rw [hl, ← hn] at this
    simpa using this)
  have HS := Lib.hid (show 0 < st ∧ st ≤ n ∧ n < st + m ∧ st + m ≤ 4097 from ⟨s1, s2, s4, s5⟩)
  have hcP := HcP.out _ ((Below.refl W.heap.size W).drew)
  have HSf := Lib.hid hs
  clear h1 h2 h3 h4 h5 h6 h7 hl hp hl2 hBne hgb hcb hst hL1 hL1l hG1 hn hmm hc u0 u1 u2 u3 s1 s2 s3 s4 s5 hcap hB hs
  go_enter Tryd.func49, Tryd.ntmps49
  go_wp2_with fail
  refine HB.out.mono ?_
  rintro _ w1 ⟨rfl, rfl⟩
  go_wp2_with fail
  refine HB.out.mono ?_
  rintro _ w1 ⟨rfl, rfl⟩
  go_wp2_with fail
  have hcPn : ∀ nq, (W.drewN nq).cell? ⟨P, 0, none⟩ = some (.slice (some ⟨g, 0, none⟩) n c) := fun nq => HcP.out _ (below_drewN' (Below.refl _ _) nq)
  clear hcP
  have hcP := HcP.out _ (Below.refl _ _)
  go_quiet (fail)
  have HI1 := Lib.hid (HI0.out _ (below_drewN' (Below.refl _ _) nq))
  clear hcP hcPn hw1 hw2 hw3 hsl HI0 d0 d1 d2 d3
  have HWr := Lib.hid (below_drewN' (Below.refl W.heap.size W) nq)
  generalize W.drewN nq = Wq at *
  go_wp2_with fail
  go_loopw [10, 9] (fun i v wr => ∃ (k : Nat) (A1 : Option Addr) (c1 : Nat) (bk : List Bv), k ≤ m ∧ i = .int .i64 k ∧ v = .slice A1 bk.length c1 ∧ RtIn w W wr L1 (B.map Sv.its) salt k bk (.slice A1 bk.length c1)) (fun i _ _ => m - (intOf i).toNat)
  case atStart =>
    have hlt : (bs.take st).length = st := by rw [List.length_take, HNb.out]; have := HS.out; omega
    refine ⟨0, some ⟨g, 0, none⟩, c, bs.take st, Nat.zero_le _, rfl, by rw [hlt], ?_⟩
    rw [hlt]
    exact HI1.out
  case round =>
    obtain ⟨k, A1, c1, bk, hk, rfl, rfl, F, hF, hbk, hGF, hO, hfr, hb⟩ := hrel
    have HF := Lib.hid hF
    have Hbk := Lib.hid hbk
    have HGF := Lib.hid hGF
    have HO := Lib.hid hO
    have HFr := Lib.hid hfr
    have Hb := Lib.hid hb
    clear hF hbk hGF hO hfr hb HI1
    by_cases hkm : k < m
    · have hkl : k < B.length := by rw [← HM.out]; exact hkm
      have hki : (k : Int) < (m : Int) := by omega
      have cy := HCB.out _ Hb.out k hkl
      have HGr : Hid (Calls Tryd.prog 68 #[.slice A1 bk.length c1, .slice B[k].A B[k].its.length B[k].cap, .int .i64 salt] wr fun e w' => GrowOut wr w' bk (Tr.next (Tr.lastOf Tr.zeroL (L1 ++ F)) B[k].its salt) B[k].A B[k].cap e ∧ Below wr.heap.size wr w') := Lib.hid (by
        have hwr : w.heap.size ≤ wr.heap.size := Nat.le_trans H1.out.size Hb.out.size
        obtain ⟨q1, q2⟩ := HO.out.inn hwr
        exact grow_any hRS (L1 ++ F) HGF.out bk Hbk.out q2 A1 c1 B[k].its B[k].A B[k].cap salt wr q1 (((HBs.out k hkl).1.below (H1.out.trans (Hb.out.mono H1.out.size))).mono hwr))
      have HGo := Lib.hid (Tr.freshE_go (k := k) HFr.out (by rwa [List.length_map]))
      have HBad := Lib.hid (Tr.freshE_bad (k := k) HFr.out (by rwa [List.length_map]))
      simp only [List.getElem_map] at HGo HBad
      have HIn := Lib.hid (HBs.out k hkl)
      unfold GrowOut at HGr
      obtain ⟨y, hy⟩ : ∃ y, y = B[k] := ⟨_, rfl⟩
      rw [← hy] at cy HGr HGo HBad HIn
      have HLk : Hid (Tr.link (Tr.next (Tr.lastOf Tr.zeroL (L1 ++ F)) y.its salt) = (⟨Tr.next (Tr.lastOf Tr.zeroL (L1 ++ F)) y.its salt, (Tr.hashE (Tr.next (Tr.lastOf Tr.zeroL (L1 ++ F)) y.its salt)).1⟩, (Tr.hashE (Tr.next (Tr.lastOf Tr.zeroL (L1 ++ F)) y.its salt)).2)) := Lib.hid rfl
      rw [HLk.out] at HGo HBad
      have HNx : Hid ((Tr.hashE (Tr.next (Tr.lastOf Tr.zeroL (L1 ++ F)) y.its salt)).2 = 0 → Tr.Good (L1 ++ (F ++ [⟨Tr.next (Tr.lastOf Tr.zeroL (L1 ++ F)) y.its salt, (Tr.hashE (Tr.next (Tr.lastOf Tr.zeroL (L1 ++ F)) y.its salt)).1⟩]))) := Lib.hid (fun hz => by
        rw [← List.append_assoc]
        refine HGF.out.append ⟨rfl, rfl, Prod.ext rfl hz, trivial⟩ ?_
        rw [List.length_append, HL1l.out, HF.out, List.length_singleton]
        have := HS.out
        omega)
      have HNf : Hid (Bv.Fits ⟨Tr.next (Tr.lastOf Tr.zeroL (L1 ++ F)) y.its salt, y.A, y.cap⟩) := Lib.hid ⟨by
        have := Tr.hashE_len (Tr.lastOf Tr.zeroL (L1 ++ F)).b
        rw [Tr.lastOf_get HGF.out.2.1] at this
        have hpos := HGF.out.pos
        rw [(HGF.out.num (by omega)).2] at this
        show (Tr.lastOf Tr.zeroL (L1 ++ F)).hash.length = 32
        rw [Tr.lastOf_get HGF.out.2.1]
        exact this, by
        have := HGF.out.last
        have h97 := HGF.out.2.2
        show -9223372036854775808 ≤ (Tr.lastOf Tr.zeroL (L1 ++ F)).b.number + 1 ∧ (Tr.lastOf Tr.zeroL (L1 ++ F)).b.number + 1 ≤ 9223372036854775807
        omega⟩
      have HBi : Hid ((Tr.next (Tr.lastOf Tr.zeroL (L1 ++ F)) y.its salt).items = y.its) := Lib.hid rfl
      have HLs : Hid (∀ h, Tr.lastOf Tr.zeroL (L1 ++ (F ++ [⟨Tr.next (Tr.lastOf Tr.zeroL (L1 ++ F)) y.its salt, h⟩])) = ⟨Tr.next (Tr.lastOf Tr.zeroL (L1 ++ F)) y.its salt, h⟩) := Lib.hid (fun h => by rw [← List.append_assoc]; exact Tr.lastOf_snoc _ _ _)
      generalize Tr.next (Tr.lastOf Tr.zeroL (L1 ++ F)) y.its salt = b at *
      generalize hhe : Tr.hashE b = he at *
      obtain ⟨KH, code⟩ := he
      simp only at HGr HGo HBad HNx
      have HKl : Hid (KH.length = 32) := Lib.hid (by have := Tr.hashE_len b; rw [hhe] at this; exact this)
      obtain ⟨q, hq⟩ : ∃ q, q = bk.length := ⟨_, rfl⟩
      have HQ := Lib.hid hq
      rw [← hq] at HGr HO ⊢
      clear hhe hy hq HLk
      have hzh := hash_zv
      have HZ32 := Lib.hid (Tx.bRow_len Tx.zero rfl)
      have HZ1 : Hid (∀ v ∈ (bRow Tx.zero).toList, v.oneCell' = true) := Lib.hid (hash_one _ rfl)
      have HK32 := Lib.hid (Tx.bRow_len _ HKl.out)
      have HK1 := Lib.hid (hash_one _ HKl.out)
      go_wp2_with fail
      refine HGr.out.mono ?_
      rintro _ w2 ⟨hgo, hb2⟩
      have HB2 := Lib.hid hb2
      have HN2 := Lib.hid (Row.new w2 42 (bRow Tx.zero).toList)
      rw [Array.toArray_toList] at HN2
      clear hb2 cy
      rcases hgo with ⟨hc, rfl⟩ | ⟨hc, A2, c2, rfl, ho⟩
      · have dq : (code != 0) = true := by simpa using hc
        have HC := Lib.hid hc
        clear hc
        go_wp2_with (with_reducible show wpList _ _ _ (⟨_, .store 42 (.tmp 12) _, _, _, _, _⟩ :: _) _ _
                     refine wpList_store_at rfl 42 (.tmp 12) (.tmp 59) rfl w2.heap.size 0 (bRow Tx.zero).toList (bRow Tx.zero).toList _ rfl rfl HN2.out (by have := HZ32.out; omega) (by rw [hash_info, HZ32.out]) HZ1.out ?_
                     intro w3 hr3 hg3
                     have HB3 := Lib.hid (two_below' HB2.out (below_own ((Below.refl w2.heap.size w2).alloc (Nat.le_refl _) (.cells (bRow Tx.zero) 42)) hg3 (fun k hk => by cases hk; exact Nat.le_refl _)))
                     clear hr3 hg3)
        go_ret
        have htc : Tr.turnC L under (B.map Sv.its) salt = code := by rw [HTC.out, HBad.out HC.out]
        have hbe := two_below' Hb.out HB3.out
        refine ⟨by rw [htc]; first | done | rfl, ?_, KeepR.of_below hbe⟩
        have e1 : Tr.turnL L under (B.map Sv.its) salt = L := by unfold Tr.turnL; rw [htc, if_neg HC.out]
        have e2 : Tr.turnD de L under (B.map Sv.its) salt = de := by unfold Tr.turnD; rw [htc, if_neg HC.out]
        rw [e1, e2]
        exact HSt.out _ hbe
      · have dq : (code != 0) = false := by simp [hc]
        have HC := Lib.hid hc
        have HO2 := Lib.hid ho
        clear hc ho
        go_wp2_with (with_reducible show wpList _ _ _ (⟨_, .store 42 (.tmp 12) _, _, _, _, _⟩ :: _) _ _
                     refine wpList_store_at rfl 42 (.tmp 12) (.tmp 59) rfl w2.heap.size 0 (bRow KH).toList (bRow Tx.zero).toList _ rfl rfl HN2.out (by have := HZ32.out; have := HK32.out; omega) (by rw [hash_info, HK32.out]) HK1.out ?_
                     intro w3 hr3 hg3
                     have hb3 := below_own ((Below.refl w2.heap.size w2).alloc (Nat.le_refl _) (.cells (bRow Tx.zero) 42)) hg3 (fun k hk => by cases hk; exact Nat.le_refl _)
                     have HB3 := Lib.hid (two_below' HB2.out hb3)
                     have HO3 := Lib.hid (own_below HO2.out hb3)
                     clear hr3 hg3 hb3)
        have hwr : w.heap.size ≤ wr.heap.size := Nat.le_trans H1.out.size Hb.out.size
        have hbl : (bk ++ [(⟨b, y.A, y.cap⟩ : Bv)]).length = q + 1 := by rw [List.length_append, List.length_singleton, ← HQ.out]
        refine ⟨⟨k + 1, A2, c2, bk ++ [⟨b, y.A, y.cap⟩], hkm, by go_num, by rw [hbl], F ++ [⟨b, KH⟩], by rw [List.length_append, HF.out]; rfl, ?_, HNx.out HC.out, ?_, ?_, two_below' Hb.out HB3.out⟩, by simp [intOf]; omega⟩
        · have := Hbk.out
          rw [← List.append_assoc, List.map_append, ← this]
          simp [bks]
        · rw [hbl]
          refine ⟨by rw [hbl]; exact own_lower HO3.out hwr, fun x hx => ?_⟩
          rcases List.mem_append.1 hx with hx | hx
          · obtain ⟨p1, p2, p3⟩ := HO.out.2 x hx
            exact ⟨p1, p2.below (HB3.out.mono hwr), p3⟩
          · rw [List.mem_singleton.1 hx]
            refine ⟨HNf.out, ?_, ?_⟩
            · rw [HBi.out]
              exact HIn.out.1.below ((H1.out.trans (Hb.out.mono H1.out.size)).trans (HB3.out.mono hwr))
            · rw [HBi.out]
              exact HIn.out.2.2.1
        · rw [HLs.out]
          exact HGo.out HC.out
    · obtain rfl : k = m := by omega
      have hkm2 : (B.map Sv.its).length ≤ k := by rw [List.length_map, ← HM.out]; exact Nat.le_refl _
      have HEnd := Lib.hid (Tr.freshE_end HFr.out hkm2)
      have hrow := HRow.out _ Hb.out
      rw [HNb.out] at hrow
      have f0 := hrow.free 0
      have c0' := hrow.cell 0 (by simp)
      have hgs := grownBy_set wr P 0 (.slice A1 bk.length c1)
      have hset := hrow.set 0 (.slice A1 bk.length c1) (by simp)
      simp only [List.set_cons_zero, List.getElem_cons_zero] at hset c0'
      have f2 := hset.free 2
      have c2' := hset.cell 2 (by simp)
      simp only [List.getElem_cons_succ, List.getElem_cons_zero] at c2'
      have hgs2 := grownBy_set (wr.setCell ⟨P, 0, none⟩ (.slice A1 bk.length c1)) P 2 (.int .i64 (max de under))
      have hset2 := hset.set 2 (.int .i64 (max de under)) (by simp)
      simp only [List.set_cons_zero, List.set_cons_succ] at hset2
      have HS2 := Lib.hid hset2
      have HS1 := Lib.hid hset
      have HR0 := Lib.hid hrow
      have HG1 := Lib.hid hgs
      have HG2' := Lib.hid hgs2
      clear hset hset2 hrow hgs hgs2 hkm hkm2
      go_wp2_with fail
      go_ret
      have htc : Tr.turnC L under (B.map Sv.its) salt = 0 := by rw [HTC.out, HEnd.out]
      have hwr : w.heap.size ≤ wr.heap.size := Nat.le_trans H1.out.size Hb.out.size
      have hb1 : Below w.heap.size wr (wr.setCell ⟨P, 0, none⟩ (.slice A1 bk.length c1)) := below_of_row HG1.out HPl.out.1 hwr
      have hb2 : Below w.heap.size (wr.setCell ⟨P, 0, none⟩ (.slice A1 bk.length c1)) ((wr.setCell ⟨P, 0, none⟩ (.slice A1 bk.length c1)).setCell ⟨P, 2, none⟩ (.int .i64 (max de under))) := below_of_row HG2'.out HPl.out.1 (Nat.le_trans hwr HG1.out.size)
      have hbb := (H1.out.trans (Hb.out.mono H1.out.size)).trans (hb1.trans hb2)
      have e1 : Tr.turnL L under (B.map Sv.its) salt = L1 ++ F := by unfold Tr.turnL; rw [if_pos htc, HTF.out, HEnd.out, ← HSt1.out, ← HL1.out]
      have e2 : Tr.turnD de L under (B.map Sv.its) salt = max de under := by unfold Tr.turnD; rw [if_pos htc]
      refine ⟨by rw [htc]; first | done | rfl, ?_, ((KeepR.of_below Hb.out).trans (KeepR.of_row HR0.out HG1.out)).trans (KeepR.of_row HS1.out HG2'.out)⟩
      rw [e1, e2]
      refine ⟨hbb, HGF.out, bk, Hbk.out, HPl.out.1, Nat.le_refl _, A1, c1, HS2.out, ?_, fun x hx => ?_⟩
      · exact (HO.out.1.kept HG1.out (.inr (row_ne_own HR0.out HO.out.1 (by decide)))).kept HG2'.out (.inr (row_ne_own HS1.out (HO.out.1.kept HG1.out (.inr (row_ne_own HR0.out HO.out.1 (by decide)))) (by decide)))
      · obtain ⟨p1, p2, p3⟩ := HO.out.2 x hx
        exact ⟨p1, (p2.below hb1).below hb2, p3⟩
theorem rturnS (hRS : RefSum) {w W : World} {P : Nat} {dp de : Int} {L : List Tr.Lk} (h : RStAt w W P dp de L) (under salt : Int) (hs : Tx.fits salt) (A0 : Option Addr) (c0 : Nat) (B : List Sv) (hB : LsIn w w.heap.size A0 c0 B) (hm : B.length ≤ 1000000) :
    Calls Tryd.prog 49 #[.pointer (some ⟨P, 0, none⟩), .int .i64 under, .slice A0 B.length c0, .int .i64 salt] W fun e w' =>
      e = .returned (.int .i64 (Tr.turnC L under (B.map Sv.its) salt)) ∧ RStAt w w' P dp (Tr.turnD de L under (B.map Sv.its) salt) (Tr.turnL L under (B.map Sv.its) salt) ∧ KeepR W w' := by
  by_cases hc : Tr.tcode L.length under B.length = 0
  · exact rturn_go hRS h under salt hs A0 c0 B hB hm hc
  · refine (rturn_bad h under salt A0 c0 B.length hm hc).mono ?_
    rintro e w' ⟨rfl, rfl⟩
    have e1 : Tr.turnC L under (B.map Sv.its) salt = Tr.tcode L.length under B.length := by
      unfold Tr.turnC
      rw [List.length_map, if_neg hc]
    have e2 : Tr.turnL L under (B.map Sv.its) salt = L := by unfold Tr.turnL; rw [e1, if_neg hc]
    have e3 : Tr.turnD de L under (B.map Sv.its) salt = de := by unfold Tr.turnD; rw [e1, if_neg hc]
    rw [e1, e2, e3]
    exact ⟨rfl, h, KeepR.refl _⟩
end Go.Proofs.YtjeooegkfjlejaaDoor
