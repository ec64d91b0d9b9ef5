/- What later texts need of the earlier layers. -/
import Derived.Test.YtjeooegkfjlejaaDoorEarO
import Derived.Test.YtjeooegkfjlejaaDoorEarS
import Derived.Test.YtjeooegkfjlejaaDoorEarT
import Derived.Test.YtjeooegkfjlejaaDoorEarC
import Derived.Test.YtjeooegkfjlejaaDoorEarA
import Derived.Test.YtjeooegkfjlejaaDoorEarB
import Derived.Test.YtjeooegkfjlejaaDoorIbA
import Derived.Test.YtjeooegkfjlejaaDoorTrMath
import Derived.Test.YtjeooegkfjlejaaDoorTrTm
import Derived.Test.YtjeooegkfjlejaaDoorTrHash
import Derived.Test.YtjeooegkfjlejaaDoorTrMem
import Derived.Test.YtjeooegkfjlejaaDoorTrLv
import Derived.Test.YtjeooegkfjlejaaDoorTrLink
import Derived.Test.YtjeooegkfjlejaaDoorTrBeh
import Derived.Test.YtjeooegkfjlejaaDoorTrCh
import Derived.Test.YtjeooegkfjlejaaDoorTrAt
import Derived.Test.YtjeooegkfjlejaaDoorTrNew
import Derived.Test.YtjeooegkfjlejaaDoorTrMine
import Derived.Test.YtjeooegkfjlejaaDoorTrAll
import Derived.Test.YtjeooegkfjlejaaDoorTrFind
import Derived.Test.YtjeooegkfjlejaaDoorTrAwk
import Derived.Test.YtjeooegkfjlejaaDoorTrLaw2
import Derived.Test.YtjeooegkfjlejaaDoorTrRch
import Derived.Test.YtjeooegkfjlejaaDoorTrRnew
import Derived.Test.YtjeooegkfjlejaaDoorTrFew
import Derived.Test.YtjeooegkfjlejaaDoorTrUpd
/- ---- TrTurn ---- -/
/- (*tree.Chain).Turn: what it does. -/
namespace Go.Proofs.YtjeooegkfjlejaaDoor
open Go.RowKit
set_option linter.unusedVariables false
set_option linter.unusedSimpArgs false

namespace Tr
theorem freshE_go {salt : Int} {L0 x : Lk} {bs : List (List It)} {F : List Lk} {k : Nat} (h : freshE salt L0 bs = (F ++ (freshE salt x (bs.drop k)).1, (freshE salt x (bs.drop k)).2)) (hk : k < bs.length) (hq : (link (next x bs[k] salt)).2 = 0) :
    freshE salt L0 bs = ((F ++ [(link (next x bs[k] salt)).1]) ++ (freshE salt (link (next x bs[k] salt)).1 (bs.drop (k + 1))).1, (freshE salt (link (next x bs[k] salt)).1 (bs.drop (k + 1))).2) := by
  rw [h, List.drop_eq_getElem_cons hk]
  conv => lhs; unfold freshE
  rw [if_pos hq]
  simp
theorem freshE_bad {salt : Int} {L0 x : Lk} {bs : List (List It)} {F : List Lk} {k : Nat} (h : freshE salt L0 bs = (F ++ (freshE salt x (bs.drop k)).1, (freshE salt x (bs.drop k)).2)) (hk : k < bs.length) (hq : (link (next x bs[k] salt)).2 ≠ 0) :
    (freshE salt L0 bs).2 = (link (next x bs[k] salt)).2 := by
  rw [h, List.drop_eq_getElem_cons hk]
  conv => lhs; unfold freshE
  rw [if_neg hq]
theorem freshE_end {salt : Int} {L0 x : Lk} {bs : List (List It)} {F : List Lk} {k : Nat} (h : freshE salt L0 bs = (F ++ (freshE salt x (bs.drop k)).1, (freshE salt x (bs.drop k)).2)) (hk : bs.length ≤ k) : freshE salt L0 bs = (F, 0) := by
  rw [h, List.drop_of_length_le hk]
  simp [freshE]
theorem lastOf_snoc (a x : Lk) : ∀ (L : List Lk), lastOf a (L ++ [x]) = x
  | [] => rfl
  | l :: r => lastOf_snoc l x r
end Tr
theorem own_news {w : World} {base n c size g : Nat} {e : TypeId} {xs : List Value} (h : w.ownsRow base e size (.slice (some ⟨g, 0, none⟩) n c) n xs) : ∀ j u, xs[j]? = some u → w.cell? ((⟨g, 0, none⟩ : Addr).add j) = some u := fun j u hj => by
  have hlt := (List.getElem?_eq_some_iff.1 hj).1
  rw [h.1] at hlt
  have e : (⟨g, 0, none⟩ : Addr).add j = ⟨g, j, none⟩ := by unfold Addr.add; split <;> simp_all
  rw [e]
  exact (h.cellAt _ hlt).trans hj
theorem sliceLinks (A : Option Addr) (n k cp : Nat) (hc : k ≤ cp) (W : World) : (Instr.slice 89 (.slice A n cp) none (some (.int .i64 k)) none).run Tryd.prog W = .ok (.slice A k cp) W := by
  have hz : (sizeOf (Tryd.prog.elem 89)).run Tryd.prog W = .ok 67 W := by kernel_rfl
  have e := run_slice_h (P := Tryd.prog) (w := W) (t := 89) (a := A) (len := n) (cap := cp) (by kernel_rfl) (kh := .i64) (h := (k : Int)) (by omega) (by omega)
  rw [hz] at e
  simp only [Result.andThen, Int.toNat_natCast] at e
  rw [e]
  unfold sliced
  have e2 : A.map (fun x => x.add (0 * 67)) = A := by
    cases A with
    | none => rfl
    | some a => simp [Addr.add]
  rw [e2]
  simp
set_option maxRecDepth 20000 in
set_option maxHeartbeats 1600000 in
theorem turn_bad (w : World) (base P : Nat) (dp de : Int) (ls : List Lv) (hch : ChAt w base P dp de ls) (hl0 : 0 < ls.length) (hl1 : ls.length ≤ 100000) (under salt : Int) (A : Option Addr) (c m : Nat) (hm : m ≤ 1000000) (hc : Tr.tcode ls.length under m ≠ 0) :
    Calls Tryd.prog 33 #[.pointer (some ⟨P, 0, none⟩), .int .i64 under, .slice A m c, .int .i64 salt] w fun e w' => e = .returned (.int .i64 (Tr.tcode ls.length under m)) ∧ w = w' := by
  have HB : Hid (Calls Tryd.prog 18 #[.pointer (some ⟨P, 0, none⟩)] w fun e w' => e = .returned (.int .i64 ((ls.length : Int) - 1)) ∧ w = w') := Lib.hid (height_any w base P dp de ls hch hl0 hl1)
  unfold Tr.tcode at hc ⊢
  clear hch
  generalize ls.length = n at *
  by_cases q0 : under < 0
  · rw [if_pos q0]
    have d0 : decide (under < 0) = true := by simpa using q0
    clear q0 hc
    go_enter Tryd.func33, Tryd.ntmps33
    go_wp2_with fail
    go_ret
    exact ⟨rfl, rfl⟩
  rw [if_neg q0] at hc ⊢
  have d0 : decide (under < 0) = false := by simpa using q0
  by_cases q1 : (n : Int) - 1 < under
  · rw [if_pos q1]
    have d1 : decide ((n : Int) - 1 < under) = true := by simpa using q1
    clear q0 q1 hc
    go_enter Tryd.func33, Tryd.ntmps33
    go_wp2_with fail
    refine HB.out.mono ?_
    rintro _ w1 ⟨rfl, rfl⟩
    go_wp2_with fail
    go_ret
    exact ⟨rfl, rfl⟩
  rw [if_neg q1] at hc ⊢
  have d1 : decide ((n : Int) - 1 < under) = false := by simpa using q1
  by_cases q2 : (m : Int) ≤ under
  · rw [if_pos q2]
    have d2 : decide ((m : Int) ≤ under) = true := by simpa using q2
    clear q0 q1 q2 hc
    go_enter Tryd.func33, Tryd.ntmps33
    go_wp2_with fail
    refine HB.out.mono ?_
    rintro _ w1 ⟨rfl, rfl⟩
    go_wp2_with fail
    go_ret
    exact ⟨rfl, rfl⟩
  rw [if_neg q2] at hc ⊢
  have d2 : decide ((m : Int) ≤ under) = false := by simpa using q2
  by_cases q3 : 4096 < (n : Int) - 1 - under + m
  · rw [if_pos q3]
    have hw1 : IntKind.i64.wrap ((n : Int) - 1 - under) = (n : Int) - 1 - under := IntWalk.i64_in _ (by omega)
    have hw2 : IntKind.i64.wrap ((n : Int) - 1 - under + (m : Int)) = (n : Int) - 1 - under + (m : Int) := IntWalk.i64_in _ (by omega)
    have d3 : decide ((4096 : Int) < (n : Int) - 1 - under + (m : Int)) = true := by simpa using q3
    clear q0 q1 q2 q3 hc
    go_enter Tryd.func33, Tryd.ntmps33
    go_wp2_with fail
    refine HB.out.mono ?_
    rintro _ w1 ⟨rfl, rfl⟩
    go_wp2_with fail
    refine HB.out.mono ?_
    rintro _ w1 ⟨rfl, rfl⟩
    go_wp2_with fail
    go_ret
    exact ⟨rfl, rfl⟩
  · rw [if_neg q3] at hc
    exact absurd rfl hc
/-- what Turn comes to -/
def TurnOut (w : World) (base P : Nat) (dp de : Int) (ls : List Lv) (under salt : Int) (bs : List (List It)) (e : Ending) (w' : World) : Prop :=
  e = .returned (.int .i64 (Tr.turnC (ls.map Lv.k) under bs salt)) ∧ Below base w w' ∧ Keep w w' ∧ ∃ ls' : List Lv, ls'.map Lv.k = Tr.turnL (ls.map Lv.k) under bs salt ∧ ChAt w' base P dp (Tr.turnD de (ls.map Lv.k) under bs salt) ls'
/-- the loop of Turn -/
def TnIn (w W : World) (L0 : Tr.Lk) (bs : List (List It)) (salt : Int) (k : Nat) (v : Value) : Prop :=
  ∃ (F : List Lv) (x : Lv), F.length = k ∧ OwnLs W (w.heap.size + 1) v F ∧ Row W w.heap.size 86 x.cells ∧ x.Fits ∧ x.k = Tr.lastOf L0 (F.map Lv.k) ∧
    Tr.freshE salt L0 bs = (F.map Lv.k ++ (Tr.freshE salt x.k (bs.drop k)).1, (Tr.freshE salt x.k (bs.drop k)).2) ∧ x.k.b.number = L0.b.number + k ∧ Below w.heap.size w W
set_option maxRecDepth 20000 in
set_option maxHeartbeats 6400000 in
theorem turn_go (w : World) (base P : Nat) (dp de : Int) (ls : List Lv) (hch : ChAt w base P dp de ls) (hG : Tr.Good (ls.map Lv.k)) (under salt : Int) (hs : Tx.fits salt) (A : Option Addr) (c : Nat) (L : List Sv) (hL : LsIn w w.heap.size A c L) (hc : Tr.tcode ls.length under L.length = 0) (hT : Tab w) (hp : 0 < base) :
    Calls Tryd.prog 33 #[.pointer (some ⟨P, 0, none⟩), .int .i64 under, .slice A L.length c, .int .i64 salt] w fun e w' => TurnOut w base P dp de ls under salt (L.map Sv.its) e w' := by
  have hz86 := lk_zv
  have HZL := Lib.hid (Lv.cells_len Lv.zero_fits)
  obtain ⟨i0, hi0, hz0⟩ := Option.map_eq_some_iff.1 lk_info11
  simp only [Prod.mk.injEq] at hz0
  have Hi := Lib.hid hi0
  have Hz := Lib.hid hz0.1
  have Hsz := Lib.hid hz0.2.1
  have Hby := Lib.hid hz0.2.2
  obtain ⟨u0, u1, u2, u3⟩ := Tr.tcode_zero hc
  obtain ⟨s1, s2, s3, s4, s5⟩ := Tr.stay_pos hc
  have hPl : base ≤ P ∧ P < w.heap.size := by obtain ⟨h0, v, h1, _⟩ := hch; exact ⟨h0, h1.lt⟩
  have hls : ls ≠ [] := fun e => hG.2.1 (by rw [e]; rfl)
  have hl0 : 0 < ls.length := List.length_pos_iff.2 hls
  have hl1 : ls.length ≤ 4097 := by have := hG.2.2; rwa [List.length_map] at this
  obtain ⟨A0, c0, q0, q1, q2, q3, q4, q5, q6⟩ := hch.cells
  obtain ⟨gl, rfl, hgl1, hgl2, hlc, hat⟩ := q5.at_ hls rfl
  have hLne : L ≠ [] := fun e => by rw [e] at u2; simp at u2; omega
  obtain ⟨gb, off, rfl, hgb, hcb⟩ := hL.1 hLne
  have HB : Hid (Calls Tryd.prog 18 #[.pointer (some ⟨P, 0, none⟩)] w fun e w' => e = .returned (.int .i64 ((ls.length : Int) - 1)) ∧ w = w') := Lib.hid (height_any w base P dp de ls hch hl0 (by omega))
  have hfit : ∀ x ∈ ls, x.Fits := fun x hx => (q5.2 x hx).1
  have HFit := Lib.hid hfit
  have hright : ∀ i (hi : i < ls.length), ls[i].k.Right ∧ ls[i].k.b.number = i := fun i hi => by
    obtain ⟨n1, n2⟩ := hG.num (k := i) (by rwa [List.length_map])
    rw [List.getElem_map] at n1 n2
    have hf := hfit _ (List.getElem_mem hi)
    exact ⟨⟨hf.2.1, hf.1, .inr n2⟩, n1⟩
  have HAt : Hid (∀ W, Below w.heap.size w W → ∀ i (hi : i < ls.length), W.rangeAt gl (i * 67) ls[i].cells) := Lib.hid (fun W hW i hi => range_below (hat i hi) hW hgl2)
  have HP2 : Hid (∀ W, Below w.heap.size w W → W.cell? ⟨P, 2, none⟩ = some (.slice (some ⟨gl, 0, none⟩) ls.length c0)) := Lib.hid (fun W hW => (hW.cell (p := ⟨P, 2, none⟩) hPl.2).trans q2)
  have HCh : Hid (∀ W, Below w.heap.size w W → ChAt W base P dp de ls) := Lib.hid (fun W hW => hch.below hW)
  have HRow : Hid (∀ W, Below w.heap.size w W → Row W P 91 [.int .i64 dp, .int .i64 de, .slice (some ⟨gl, 0, none⟩) ls.length c0] ∧ OwnLs W base (.slice (some ⟨gl, 0, none⟩) ls.length c0) ls) := Lib.hid (fun W hW => ⟨q6.below hW, q5.below hW⟩)
  have HCB : Hid (∀ W, Below w.heap.size w W → ∀ k (hk : k < L.length), W.cell? ⟨gb, off + k, none⟩ = some (.slice L[k].A L[k].its.length L[k].cap)) := Lib.hid (fun W hW k hk => (hW.cell (p := ⟨gb, off + k, none⟩) hgb).trans (hcb k hk))
  obtain ⟨st, hst⟩ : ∃ st, st = Tr.stay ls.length under := ⟨_, rfl⟩
  rw [← hst] at s1 s2 s3 s4 s5
  have hst1 : st - 1 < ls.length := by omega
  obtain ⟨x0, hx0⟩ : ∃ x, x = ls[st - 1]'hst1 := ⟨_, rfl⟩
  have hx0m : x0 ∈ ls := by rw [hx0]; exact List.getElem_mem _
  have hx0n : x0.k.b.number = ((st - 1 : Nat) : Int) := by rw [hx0]; exact (hright _ hst1).2
  have hL0 : Tr.lastOf Tr.zeroL ((ls.map Lv.k).take st) = x0.k := by
    have hne : (ls.map Lv.k).take st ≠ [] := fun e => by
      have := congrArg List.length e
      rw [List.length_take, List.length_map, List.length_nil] at this
      omega
    rw [Tr.lastOf_get hne, List.getElem_take, List.getElem_map, hx0]
    congr 2
    rw [List.length_take, List.length_map]
    omega
  have HTF : Hid (Tr.turnF (ls.map Lv.k) under (L.map Sv.its) salt = Tr.freshE salt x0.k (L.map Sv.its)) := Lib.hid (by unfold Tr.turnF; rw [List.length_map, ← hst, hL0])
  have HTC : Hid (Tr.turnC (ls.map Lv.k) under (L.map Sv.its) salt = (Tr.freshE salt x0.k (L.map Sv.its)).2) := Lib.hid (by unfold Tr.turnC; rw [List.length_map, List.length_map, if_pos hc, HTF.out])
  have HR0 : Hid (∀ W, Below w.heap.size w W → W.rangeAt gl ((st - 1) * 67) x0.cells) := Lib.hid (fun W hW => by rw [hx0]; exact HAt.out W hW _ hst1)
  have HX0f := Lib.hid (hfit x0 hx0m)
  have HX0L := Lib.hid (Lv.cells_len (hfit x0 hx0m))
  have HX01 := Lib.hid (Lv.cells_one (hfit x0 hx0m))
  have BH : Hid (∀ (x p : Lv) (W : World) k (hk : k < L.length), x.Fits → x.k.b.number < 9223372036854775807 → p.Fits → p.k.Right → Below w.heap.size w W → Calls Tryd.prog 61 #[.agg x.cells.toArray, .slice L[k].A L[k].its.length L[k].cap, .int .i64 salt, .agg p.cells.toArray] W fun e w' => LinkOut W.heap.size (Tr.link (Tr.next x.k L[k].its salt)) e w' ∧ Below W.heap.size W w') :=
    Lib.hid (fun x p W k hk hx hxn hpf hpr hW => behind_any x p salt _ _ _ hx hxn hpf hpr hs W (((hL.2.2.2 _ (List.getElem_mem hk)).below hW).mono hW.size) (hT.below hW hT.pos))
  have HIts : Hid (∀ k (hk : k < L.length), L[k].its.length ≤ 4000000000000) := Lib.hid (fun k hk => (hL.2.2.2 _ (List.getElem_mem hk)).2.2.2)
  have HRt := Lib.hid hright
  have HSf := Lib.hid hs
  have HPl := Lib.hid hPl
  have HGl := Lib.hid (show base ≤ gl ∧ gl < w.heap.size from ⟨hgl1, hgl2⟩)
  have HLc := Lib.hid hlc
  have HSt := Lib.hid hst
  have HTc := Lib.hid hc
  obtain ⟨n, hn⟩ : ∃ n, n = ls.length := ⟨_, rfl⟩
  obtain ⟨m, hm⟩ : ∃ m, m = L.length := ⟨_, rfl⟩
  have HN := Lib.hid hn
  have HM := Lib.hid hm
  rw [← hn] at s2 s3 s4 HB HP2 u1 u3
  rw [← hm] at s4 s5 u2 u3 ⊢
  have hn2 : n ≤ 4097 := by omega
  have hstc : st ≤ c0 := by omega
  have hsl := fun W => sliceLinks (some ⟨gl, 0, none⟩) n st c0 hstc W
  have hsti : (((st - 1 : Nat)) : Int) < (n : Int) := by omega
  have hstn : st - 1 < n := by omega
  have cP2 := HP2.out w (Below.refl _ _)
  have d0 : decide (under < 0) = false := by simpa using u0
  have d1 : decide ((n : Int) - 1 < under) = false := by simpa using u1
  have d2 : decide ((m : Int) ≤ under) = false := by simpa using u2
  have d3 : decide ((4096 : Int) < (n : Int) - 1 - under + (m : Int)) = false := by simpa using u3
  have hw1 : IntKind.i64.wrap ((n : Int) - 1 - under) = (n : Int) - 1 - under := IntWalk.i64_in _ (by omega)
  have hw2 : IntKind.i64.wrap ((n : Int) - 1 - under + (m : Int)) = (n : Int) - 1 - under + (m : Int) := IntWalk.i64_in _ (by omega)
  have hw3 : IntKind.i64.wrap ((n : Int) - 1 - under + 1) = (st : Int) := by rw [IntWalk.i64_in _ (by omega)]; omega
  have hw4 : IntKind.i64.wrap ((st : Int) - 1) = ((st - 1 : Nat) : Int) := by rw [IntWalk.i64_in _ (by omega)]; omega
  have HS := Lib.hid (show 0 < st ∧ st ≤ n ∧ n < st + m ∧ st + m ≤ 4097 ∧ (st : Int) = n - under from ⟨s1, s2, s4, s5, s3⟩)
  have HX0n := Lib.hid hx0n
  have HNew := Lib.hid (Row.new w 86 Lv.zero.cells)
  clear hch hG hs hL hc hT hz0 hi0 hls hl0 hl1 q0 q1 q2 q3 q4 q5 q6 hgl1 hgl2 hlc hat hLne hgb hcb hfit hright hst hx0 hx0m hx0n hL0 hn hm u0 u1 u2 u3 s1 s2 s3 s4 s5 hstc hst1 hPl
  go_enter Tryd.func33, Tryd.ntmps33
  go_wp2_with fail
  refine HB.out.mono ?_
  rintro _ w1 ⟨rfl, rfl⟩
  go_wp2_with fail
  refine HB.out.mono ?_
  rintro _ w1 ⟨rfl, rfl⟩
  go_wp2_with fail
  refine HB.out.mono ?_
  rintro _ w1 ⟨rfl, rfl⟩
  go_wp2_with (first
  | ((with_reducible show wpList _ _ _ (⟨_, .load 86 (.tmp 53), _, _, _, _⟩ :: _) _ _); refine wpList_load_tx rfl 86 (.tmp 53) rfl gl ((st - 1) * 67) rfl x0.cells _ (HR0.out _ (Below.refl _ _)) Tryd.underlying86 rfl (by rw [link_size, HX0L.out]) ?_)
  | (with_reducible show wpList _ _ _ (⟨_, .store 86 (.tmp 10) _, _, _, _, _⟩ :: _) _ _
     refine wpList_store_at rfl 86 (.tmp 10) (.tmp 54) rfl w.heap.size 0 x0.cells _ _ rfl rfl HNew.out (by have := HZL.out; have := HX0L.out; omega) (by rw [link_size, HX0L.out]) HX01.out ?_
     intro w2 hr2 hg2
     rw [splice_all (HX0L.out.trans HZL.out.symm)] at hr2
     have HI0 : Hid (TnIn w w2 x0.k (L.map Sv.its) salt 0 (.slice none 0 0)) := Lib.hid ⟨[], x0, rfl, ⟨⟨rfl, .inl ⟨rfl, rfl⟩⟩, fun x hx => by cases hx⟩, hr2, HX0f.out, rfl, by simp, by simp, below_own ((Below.refl w.heap.size w).alloc (Nat.le_refl _) _) hg2 (fun k hk => by cases hk; exact Nat.le_refl _)⟩
     clear hr2 hg2 cP2))
  go_loopw [57, 11] (fun i v wr => ∃ (k : Nat) (v1 : Value), k ≤ m ∧ i = .int .i64 k ∧ v = v1 ∧ TnIn w wr x0.k (L.map Sv.its) salt k v1) (fun i _ _ => m - (intOf i).toNat)
  case atStart => exact ⟨0, _, Nat.zero_le _, rfl, rfl, HI0.out⟩
  case round =>
    obtain ⟨k, v1, hk, rfl, rfl, F, x, hFl, hO, hR, hxf, hxk, hfr, hxn, hb⟩ := hrel
    have hwlt := hR.lt
    have HO := Lib.hid hO
    have HRx := Lib.hid hR
    have Hb := Lib.hid hb
    have HFr := Lib.hid hfr
    have HXk := Lib.hid hxk
    have HFl := Lib.hid hFl
    have HXn := Lib.hid hxn
    have HXf := Lib.hid hxf
    clear HI0 hO hR hb hfr hxk hFl hxn hxf
    by_cases hkm : k < m
    · have hkl : k < L.length := by rw [← HM.out]; exact hkm
      have hki : (k : Int) < (m : Int) := by omega
      have cy := HCB.out _ Hb.out k hkl
      have HBH := Lib.hid (fun p W hpf hpr hW => BH.out x p W k hkl HXf.out (by have := HXn.out; have := HX0n.out; have := HS.out; omega) hpf hpr hW)
      have HItk := Lib.hid (HIts.out k hkl)
      have HGo := Lib.hid (Tr.freshE_go (k := k) HFr.out (by rwa [List.length_map]))
      have HBad := Lib.hid (Tr.freshE_bad (k := k) HFr.out (by rwa [List.length_map]))
      simp only [List.getElem_map] at HGo HBad
      have HQb : Hid (Tr.next x.k L[k].its salt = ⟨x.k.b.number + 1, salt, x.k.hash, L[k].its⟩) := Lib.hid rfl
      obtain ⟨y, hy⟩ : ∃ y, y = L[k] := ⟨_, rfl⟩
      rw [← hy] at cy HBH HItk HGo HBad HQb
      have HQf : Hid (∀ A1 c1, Lv.Fits ⟨(Tr.link (Tr.next x.k y.its salt)).1, A1, c1⟩) := Lib.hid (fun A1 c1 => ⟨HXf.out.2.1, Tr.hashE_len _, by
        have := HXn.out; have := HX0n.out; have := HS.out
        show Tx.fits (x.k.b.number + 1)
        unfold Tx.fits
        omega, HSf.out⟩)
      have HQi : Hid ((Tr.link (Tr.next x.k y.its salt)).1.b.items = y.its) := Lib.hid rfl
      have HQn : Hid ((Tr.link (Tr.next x.k y.its salt)).1.b.number = x.k.b.number + 1) := Lib.hid rfl
      generalize hq : Tr.link (Tr.next x.k y.its salt) = q at *
      clear hq HQb hy
      have HXL := Lib.hid (Lv.cells_len HXf.out)
      have HXc : Hid (∀ W, Below wr.heap.size wr W → Row W w.heap.size 86 x.cells) := Lib.hid (fun W hW => HRx.out.below hW)
      have hw5 : IntKind.i64.wrap ((st : Int) + (k : Int)) = ((st + k : Nat) : Int) := by have := HS.out; rw [IntWalk.i64_in _ (by omega)]; omega
      have HNp := Lib.hid (Row.new wr 86 Lv.zero.cells)
      have hbp := (Below.refl wr.heap.size wr).alloc (Nat.le_refl _) (.cells Lv.zero.cells.toArray 86)
      have hbw := two_below' Hb.out hbp
      have cP2 := HP2.out _ hbw
      have Hbp := Lib.hid hbp
      have Hbw := Lib.hid hbw
      clear hbp hbw
      have hXc : ∃ XC, XC = x.cells := ⟨_, rfl⟩
      obtain ⟨XC, hXC⟩ := hXc
      rw [← hXC] at HXL HXc
      simp only [← hXC] at HBH
      clear hXC
      by_cases hin : st + k < n
      · have hini : ((st + k : Nat) : Int) < (n : Int) := by omega
        have d5 : decide (((st + k : Nat) : Int) < (n : Int)) = true := by simpa using hini
        have hinl : st + k < ls.length := by rw [← HN.out]; exact hin
        have HPr : Hid (Below w.heap.size w (wr.alloc (.cells Lv.zero.cells.toArray 86)) → (wr.alloc (.cells Lv.zero.cells.toArray 86)).rangeAt gl ((st + k) * 67) ls[st + k].cells) := Lib.hid (fun h => HAt.out _ h _ hinl)
        have HPf := Lib.hid (HFit.out _ (List.getElem_mem hinl))
        have HPg := Lib.hid (HRt.out _ hinl).1
        have HPL := Lib.hid (Lv.cells_len HPf.out)
        have HP1 := Lib.hid (Lv.cells_one HPf.out)
        generalize ls[st + k] = p at *
        go_wp2_with (first
        | ((with_reducible show wpList _ _ _ (⟨_, .load 86 (.tmp 78), _, _, _, _⟩ :: _) _ _); refine wpList_load_tx rfl 86 (.tmp 78) rfl gl ((st + k) * 67) rfl p.cells _ (HPr.out Hbw.out) Tryd.underlying86 rfl (by rw [link_size, HPL.out]) ?_)
        | (with_reducible show wpList _ _ _ (⟨_, .store 86 (.tmp 14) _, _, _, _, _⟩ :: _) _ _
           refine wpList_store_at rfl 86 (.tmp 14) (.tmp 79) rfl wr.heap.size 0 p.cells _ _ rfl rfl HNp.out (by have := HZL.out; have := HPL.out; omega) (by rw [link_size, HPL.out]) HP1.out ?_
           intro w2 hr2 hg2
           rw [splice_all (HPL.out.trans HZL.out.symm)] at hr2
           have HR2 := Lib.hid hr2
           have Hb2 := Lib.hid (below_own Hbp.out hg2 (fun k hk => by cases hk; exact Nat.le_refl _))
           clear hr2 hg2 cP2)
        | ((with_reducible show wpList _ _ _ (⟨_, .load 86 (.tmp 10), _, _, _, _⟩ :: _) _ _); refine wpList_load_tx rfl 86 (.tmp 10) rfl w.heap.size 0 rfl XC _ (row_range (HXc.out _ Hb2.out)) Tryd.underlying86 rfl (by rw [link_size, HXL.out]) ?_)
        | ((with_reducible show wpList _ _ _ (⟨_, .load 86 (.tmp 14), _, _, _, _⟩ :: _) _ _); refine wpList_load_tx rfl 86 (.tmp 14) rfl wr.heap.size 0 rfl p.cells _ (row_range HR2.out) Tryd.underlying86 rfl (by rw [link_size, HPL.out]) ?_))
        refine (HBH.out p _ HPf.out HPg.out (two_below' Hb.out Hb2.out)).mono ?_
        rintro _ w3 ⟨⟨A1, c1, rfl, ho3⟩, hb3⟩
        have HB3 := Lib.hid (two_below' Hb2.out hb3)
        have HO3 := Lib.hid (own_lower ho3 (show w.heap.size + 1 ≤ w2.heap.size by have := Hb2.out.size; omega))
        have HQL := Lib.hid (Lv.cells_len (HQf.out A1 c1))
        have HQ1 := Lib.hid (Lv.cells_one (HQf.out A1 c1))
        have HN3 := Lib.hid (Row.new w3 86 Lv.zero.cells)
        have hw3 : wr.heap.size ≤ w3.heap.size := HB3.out.size
        clear ho3 hb3
        generalize hQC : Lv.cells ⟨q.1, A1, c1⟩ = QC at *
        have HQC := Lib.hid hQC
        clear hQC
        by_cases hq0 : q.2 = 0
        · have dq : (q.2 != 0) = false := by simp [hq0]
          have HGoq := Lib.hid (HGo.out hq0)
          clear hq0
          have hk63 : k + 1 ≤ maxLen := by have := HS.out; unfold maxLen; omega
          have hk48 : ((k + 1) + (k + 1) / 4 + 192) * 104 ≤ 281474976710656 := by have := HS.out; omega
          go_wp2_with (first
          | (with_reducible show wpList _ _ _ (⟨_, .store 86 (.tmp 15) _, _, _, _, _⟩ :: _) _ _
             refine wpList_store_at rfl 86 (.tmp 15) (.tmp 86) rfl w3.heap.size 0 QC _ _ rfl rfl HN3.out (by have := HZL.out; have := HQL.out; omega) (by rw [link_size, HQL.out]) HQ1.out ?_
             intro w4 hr4 hg4
             rw [splice_all (HQL.out.trans HZL.out.symm)] at hr4
             have HR4 := Lib.hid hr4
             have hb4 := below_own ((Below.refl w3.heap.size w3).alloc (Nat.le_refl _) (.cells Lv.zero.cells.toArray 86)) hg4 (fun k hk => by cases hk; exact Nat.le_refl _)
             have Hb4 := Lib.hid (two_below' HB3.out hb4)
             have Hb5 := Lib.hid ((two_below' HB3.out hb4).alloc (two_below' HB3.out hb4).size (.cells QC.toArray 86))
             have HO5 := Lib.hid (((HO3.out.alloc (.cells Lv.zero.cells.toArray 86)).kept hg4 (.inr (row_ne_own HN3.out (HO3.out.alloc _) (by decide)))).alloc (.cells QC.toArray 86))
             have HR5 := Lib.hid (hr4.kept (grownBy_alloc w4 (.cells QC.toArray 86) none) (by simp))
             have Hnew5 := Lib.hid (row_news (Row.new w4 86 QC))
             have hown5 := (HO.out.below Hb5.out).1
             rw [HFl.out] at hown5
             have Hown5 := Lib.hid hown5
             have HOl5 := Lib.hid (HO.out.below Hb5.out)
             have hz5 : w.heap.size + 1 ≤ (w4.alloc (.cells QC.toArray 86)).heap.size := Nat.le_trans hwlt Hb5.out.size
             clear hr4 hg4 hb4 hown5)
          | ((with_reducible show wpList _ _ _ (⟨_, .load 86 (.tmp 15), _, _, _, _⟩ :: _) _ _); refine wpList_load_tx rfl 86 (.tmp 15) rfl w3.heap.size 0 rfl QC _ (row_range HR6.out) Tryd.underlying86 rfl (by rw [link_size, HQL.out]) ?_)
          | ((with_reducible show wpList _ _ _ (⟨_, .load 86 (.tmp 15), _, _, _, _⟩ :: _) _ _); refine wpList_load_tx rfl 86 (.tmp 15) rfl w3.heap.size 0 rfl QC _ (row_range HR4.out) Tryd.underlying86 rfl (by rw [link_size, HQL.out]) ?_)
          | ((with_reducible show wpList _ _ _ (⟨_, .buildSlice 89 _ _, _, _, _, _⟩ :: _) _ _)
             refine wpList_buildSliceL rfl 89 86 1 [(0, .tmp 92)] rfl (some 93) rfl [(0, .agg QC.toArray)] rfl QC.toArray i0 (.agg Lv.zero.cells.toArray) 67 Tryd.underlying89 Hi.out Hz.out Hsz.out (by decide) (by decide) (fill_one 67 _ QC HQL.out) ?_)
          | (at_builtin; refine wpList_append_own_wide _ rfl (.tmp 91) (.tmp 93) 89 rfl (w.heap.size + 1) 86 i0 (.agg Lv.zero.cells.toArray) 67 104 Tryd.underlying89 Hi.out Hz.out Hsz.out Hby.out (by rw [← HZL.out]; rfl) (by decide) u11 k (Lv.flat F) rfl Hown5.out ⟨w4.heap.size, 0, none⟩ 1 1 QC rfl (by rw [HQL.out]) Hnew5.out HQ1.out hk63 hk48 hz5 ?_
             intro v6 w6 hown6 hgrow6 _
             have hvne : ∀ g, wr.heap.size ≤ g → some g ≠ u11.ownBlock := fun g hg e => ownBlock_lt HO.out.1 hg e.symm
             have HR6 := Lib.hid (HR5.out.kept hgrow6 (hvne _ hw3))
             have HX6 := Lib.hid ((HXc.out _ Hb5.out).kept hgrow6 (fun e => by have := (HO.out.1.lt _ e.symm).1; omega))
             have HO6 := Lib.hid (HO5.out.kept hgrow6 (own_ne_own HO5.out Hown5.out (by decide)))
             have HIts6 : Hid (∀ y ∈ F, y.Fits ∧ OwnIts w6 (w.heap.size + 1) y) := Lib.hid (fun y hy => ⟨(HOl5.out.2 y hy).1, (HOl5.out.2 y hy).2.kept hgrow6 (own_ne_own (HOl5.out.2 y hy).2.1 Hown5.out (by decide))⟩)
             have Hb6 : Hid (Below w.heap.size w w6) := Lib.hid (below_row (two_below' Hb.out Hb5.out) (Nat.le_of_succ_le hz5) (own_lower Hown5.out (Nat.le_succ _)) hgrow6)
             have Hown6 := Lib.hid hown6
             clear hvne hown6 hgrow6)
          | (with_reducible show wpList _ _ _ (⟨_, .store 86 (.tmp 10) _, _, _, _, _⟩ :: _) _ _
             refine wpList_store_at rfl 86 (.tmp 10) (.tmp 95) rfl w.heap.size 0 QC _ _ rfl rfl HX6.out (by have := HXL.out; have := HQL.out; omega) (by rw [link_size, HQL.out]) HQ1.out ?_
             intro w7 hr7 hg7
             rw [splice_all (HQL.out.trans HXL.out.symm)] at hr7
             have HR7 := Lib.hid hr7
             have HG7 := Lib.hid hg7
             clear hr7 hg7))
          have hqn : q.1 = (Lv.mk q.1 A1 c1).k := rfl
          refine ⟨⟨k + 1, v6, hkm, by go_num, rfl, F ++ [⟨q.1, A1, c1⟩], ⟨q.1, A1, c1⟩, by rw [List.length_append, HFl.out]; rfl, ⟨?_, fun y hy => ?_⟩, by rw [HQC.out]; exact HR7.out, HQf.out _ _, ?_, ?_, ?_, below_own Hb6.out HG7.out (fun k hk => by cases hk; exact Nat.le_refl _)⟩, by simp [intOf]; omega⟩
          · rw [List.length_append, HFl.out, Lv.flat_append, show Lv.flat [⟨q.1, A1, c1⟩] = QC by rw [← HQC.out]; simp [Lv.flat]]
            exact Hown6.out.kept HG7.out (.inr (fun e => by have := (Hown6.out.lt _ e).1; omega))
          · rcases List.mem_append.1 hy with hy | hy
            · exact ⟨(HIts6.out y hy).1, (HIts6.out y hy).2.kept HG7.out (.inr (row_ne_own HX6.out (HIts6.out y hy).2.1 (by decide)))⟩
            · rw [List.mem_singleton.1 hy]
              exact ⟨HQf.out _ _, HO6.out.kept HG7.out (.inr (row_ne_own HX6.out HO6.out (by decide))), by show q.1.b.items.length ≤ _; rw [HQi.out]; exact HItk.out⟩
          · rw [List.map_append]
            exact (Tr.lastOf_snoc _ _ _).symm
          · rw [List.map_append]
            exact HGoq.out
          · show q.1.b.number = _
            rw [HQn.out, HXn.out]
            push_cast
            omega
        · have dq : (q.2 != 0) = true := by simpa using hq0
          have HBq := Lib.hid (HBad.out hq0)
          have HQ0 := Lib.hid hq0
          clear hq0
          go_wp2_with (with_reducible show wpList _ _ _ (⟨_, .store 86 (.tmp 15) _, _, _, _, _⟩ :: _) _ _
                       refine wpList_store_at rfl 86 (.tmp 15) (.tmp 86) rfl w3.heap.size 0 QC _ _ rfl rfl HN3.out (by have := HZL.out; have := HQL.out; omega) (by rw [link_size, HQL.out]) HQ1.out ?_
                       intro w4 hr4 hg4
                       have Hb4 := Lib.hid (two_below' (two_below' Hb.out HB3.out) (below_own ((Below.refl w3.heap.size w3).alloc (Nat.le_refl _) (.cells Lv.zero.cells.toArray 86)) hg4 (fun k hk => by cases hk; exact Nat.le_refl _)))
                       clear hr4 hg4)
          go_ret
          have htc : Tr.turnC (ls.map Lv.k) under (L.map Sv.its) salt = q.2 := by rw [HTC.out, HBq.out]
          refine ⟨by rw [htc]; first | done | rfl, Hb4.out.mono (by have := HPl.out; omega), Keep.of_below Hb4.out, ls, ?_, ?_⟩
          · unfold Tr.turnL
            rw [htc, if_neg HQ0.out]
          · unfold Tr.turnD
            rw [htc, if_neg HQ0.out]
            exact HCh.out _ Hb4.out
      · have hini : (n : Int) ≤ ((st + k : Nat) : Int) := by omega
        have d5 : decide (((st + k : Nat) : Int) < (n : Int)) = false := by simp; omega
        have Hb2 := Hbp
        obtain ⟨w2, hw2e⟩ : ∃ w2, w2 = wr.alloc (.cells Lv.zero.cells.toArray 86) := ⟨_, rfl⟩
        rw [← hw2e] at Hb2
        have HW2 := Lib.hid hw2e
        clear hw2e
        go_wp2_with (first
        | ((with_reducible show wpList _ _ _ (⟨_, .load 86 (.tmp 10), _, _, _, _⟩ :: _) _ _); refine wpList_load_tx rfl 86 (.tmp 10) rfl w.heap.size 0 rfl XC _ (row_range (HXc.out _ Hbp.out)) Tryd.underlying86 rfl (by rw [link_size, HXL.out]) ?_)
        | ((with_reducible show wpList _ _ _ (⟨_, .load 86 (.tmp 14), _, _, _, _⟩ :: _) _ _); refine wpList_load_tx rfl 86 (.tmp 14) rfl wr.heap.size 0 rfl Lv.zero.cells _ (row_range HNp.out) Tryd.underlying86 rfl (by rw [link_size, HZL.out]) ?_))
        rw [← HW2.out]
        refine (HBH.out Lv.zero _ Lv.zero_fits Tr.zeroL_right (two_below' Hb.out Hb2.out)).mono ?_
        rintro _ w3 ⟨⟨A1, c1, rfl, ho3⟩, hb3⟩
        have HB3 := Lib.hid (two_below' Hb2.out hb3)
        have HO3 := Lib.hid (own_lower ho3 (show w.heap.size + 1 ≤ w2.heap.size by have := Hb2.out.size; omega))
        have HQL := Lib.hid (Lv.cells_len (HQf.out A1 c1))
        have HQ1 := Lib.hid (Lv.cells_one (HQf.out A1 c1))
        have HN3 := Lib.hid (Row.new w3 86 Lv.zero.cells)
        have hw3 : wr.heap.size ≤ w3.heap.size := HB3.out.size
        clear ho3 hb3
        generalize hQC : Lv.cells ⟨q.1, A1, c1⟩ = QC at *
        have HQC := Lib.hid hQC
        clear hQC
        by_cases hq0 : q.2 = 0
        · have dq : (q.2 != 0) = false := by simp [hq0]
          have HGoq := Lib.hid (HGo.out hq0)
          clear hq0
          have hk63 : k + 1 ≤ maxLen := by have := HS.out; unfold maxLen; omega
          have hk48 : ((k + 1) + (k + 1) / 4 + 192) * 104 ≤ 281474976710656 := by have := HS.out; omega
          go_wp2_with (first
          | (with_reducible show wpList _ _ _ (⟨_, .store 86 (.tmp 15) _, _, _, _, _⟩ :: _) _ _
             refine wpList_store_at rfl 86 (.tmp 15) (.tmp 86) rfl w3.heap.size 0 QC _ _ rfl rfl HN3.out (by have := HZL.out; have := HQL.out; omega) (by rw [link_size, HQL.out]) HQ1.out ?_
             intro w4 hr4 hg4
             rw [splice_all (HQL.out.trans HZL.out.symm)] at hr4
             have HR4 := Lib.hid hr4
             have hb4 := below_own ((Below.refl w3.heap.size w3).alloc (Nat.le_refl _) (.cells Lv.zero.cells.toArray 86)) hg4 (fun k hk => by cases hk; exact Nat.le_refl _)
             have Hb4 := Lib.hid (two_below' HB3.out hb4)
             have Hb5 := Lib.hid ((two_below' HB3.out hb4).alloc (two_below' HB3.out hb4).size (.cells QC.toArray 86))
             have HO5 := Lib.hid (((HO3.out.alloc (.cells Lv.zero.cells.toArray 86)).kept hg4 (.inr (row_ne_own HN3.out (HO3.out.alloc _) (by decide)))).alloc (.cells QC.toArray 86))
             have HR5 := Lib.hid (hr4.kept (grownBy_alloc w4 (.cells QC.toArray 86) none) (by simp))
             have Hnew5 := Lib.hid (row_news (Row.new w4 86 QC))
             have hown5 := (HO.out.below Hb5.out).1
             rw [HFl.out] at hown5
             have Hown5 := Lib.hid hown5
             have HOl5 := Lib.hid (HO.out.below Hb5.out)
             have hz5 : w.heap.size + 1 ≤ (w4.alloc (.cells QC.toArray 86)).heap.size := Nat.le_trans hwlt Hb5.out.size
             clear hr4 hg4 hb4 hown5)
          | ((with_reducible show wpList _ _ _ (⟨_, .load 86 (.tmp 15), _, _, _, _⟩ :: _) _ _); refine wpList_load_tx rfl 86 (.tmp 15) rfl w3.heap.size 0 rfl QC _ (row_range HR6.out) Tryd.underlying86 rfl (by rw [link_size, HQL.out]) ?_)
          | ((with_reducible show wpList _ _ _ (⟨_, .load 86 (.tmp 15), _, _, _, _⟩ :: _) _ _); refine wpList_load_tx rfl 86 (.tmp 15) rfl w3.heap.size 0 rfl QC _ (row_range HR4.out) Tryd.underlying86 rfl (by rw [link_size, HQL.out]) ?_)
          | ((with_reducible show wpList _ _ _ (⟨_, .buildSlice 89 _ _, _, _, _, _⟩ :: _) _ _)
             refine wpList_buildSliceL rfl 89 86 1 [(0, .tmp 92)] rfl (some 93) rfl [(0, .agg QC.toArray)] rfl QC.toArray i0 (.agg Lv.zero.cells.toArray) 67 Tryd.underlying89 Hi.out Hz.out Hsz.out (by decide) (by decide) (fill_one 67 _ QC HQL.out) ?_)
          | (at_builtin; refine wpList_append_own_wide _ rfl (.tmp 91) (.tmp 93) 89 rfl (w.heap.size + 1) 86 i0 (.agg Lv.zero.cells.toArray) 67 104 Tryd.underlying89 Hi.out Hz.out Hsz.out Hby.out (by rw [← HZL.out]; rfl) (by decide) u11 k (Lv.flat F) rfl Hown5.out ⟨w4.heap.size, 0, none⟩ 1 1 QC rfl (by rw [HQL.out]) Hnew5.out HQ1.out hk63 hk48 hz5 ?_
             intro v6 w6 hown6 hgrow6 _
             have hvne : ∀ g, wr.heap.size ≤ g → some g ≠ u11.ownBlock := fun g hg e => ownBlock_lt HO.out.1 hg e.symm
             have HR6 := Lib.hid (HR5.out.kept hgrow6 (hvne _ hw3))
             have HX6 := Lib.hid ((HXc.out _ Hb5.out).kept hgrow6 (fun e => by have := (HO.out.1.lt _ e.symm).1; omega))
             have HO6 := Lib.hid (HO5.out.kept hgrow6 (own_ne_own HO5.out Hown5.out (by decide)))
             have HIts6 : Hid (∀ y ∈ F, y.Fits ∧ OwnIts w6 (w.heap.size + 1) y) := Lib.hid (fun y hy => ⟨(HOl5.out.2 y hy).1, (HOl5.out.2 y hy).2.kept hgrow6 (own_ne_own (HOl5.out.2 y hy).2.1 Hown5.out (by decide))⟩)
             have Hb6 : Hid (Below w.heap.size w w6) := Lib.hid (below_row (two_below' Hb.out Hb5.out) (Nat.le_of_succ_le hz5) (own_lower Hown5.out (Nat.le_succ _)) hgrow6)
             have Hown6 := Lib.hid hown6
             clear hvne hown6 hgrow6)
          | (with_reducible show wpList _ _ _ (⟨_, .store 86 (.tmp 10) _, _, _, _, _⟩ :: _) _ _
             refine wpList_store_at rfl 86 (.tmp 10) (.tmp 95) rfl w.heap.size 0 QC _ _ rfl rfl HX6.out (by have := HXL.out; have := HQL.out; omega) (by rw [link_size, HQL.out]) HQ1.out ?_
             intro w7 hr7 hg7
             rw [splice_all (HQL.out.trans HXL.out.symm)] at hr7
             have HR7 := Lib.hid hr7
             have HG7 := Lib.hid hg7
             clear hr7 hg7))
          have hqn : q.1 = (Lv.mk q.1 A1 c1).k := rfl
          refine ⟨⟨k + 1, v6, hkm, by go_num, rfl, F ++ [⟨q.1, A1, c1⟩], ⟨q.1, A1, c1⟩, by rw [List.length_append, HFl.out]; rfl, ⟨?_, fun y hy => ?_⟩, by rw [HQC.out]; exact HR7.out, HQf.out _ _, ?_, ?_, ?_, below_own Hb6.out HG7.out (fun k hk => by cases hk; exact Nat.le_refl _)⟩, by simp [intOf]; omega⟩
          · rw [List.length_append, HFl.out, Lv.flat_append, show Lv.flat [⟨q.1, A1, c1⟩] = QC by rw [← HQC.out]; simp [Lv.flat]]
            exact Hown6.out.kept HG7.out (.inr (fun e => by have := (Hown6.out.lt _ e).1; omega))
          · rcases List.mem_append.1 hy with hy | hy
            · exact ⟨(HIts6.out y hy).1, (HIts6.out y hy).2.kept HG7.out (.inr (row_ne_own HX6.out (HIts6.out y hy).2.1 (by decide)))⟩
            · rw [List.mem_singleton.1 hy]
              exact ⟨HQf.out _ _, HO6.out.kept HG7.out (.inr (row_ne_own HX6.out HO6.out (by decide))), by show q.1.b.items.length ≤ _; rw [HQi.out]; exact HItk.out⟩
          · rw [List.map_append]
            exact (Tr.lastOf_snoc _ _ _).symm
          · rw [List.map_append]
            exact HGoq.out
          · show q.1.b.number = _
            rw [HQn.out, HXn.out]
            push_cast
            omega
        · have dq : (q.2 != 0) = true := by simpa using hq0
          have HBq := Lib.hid (HBad.out hq0)
          have HQ0 := Lib.hid hq0
          clear hq0
          go_wp2_with (with_reducible show wpList _ _ _ (⟨_, .store 86 (.tmp 15) _, _, _, _, _⟩ :: _) _ _
                       refine wpList_store_at rfl 86 (.tmp 15) (.tmp 86) rfl w3.heap.size 0 QC _ _ rfl rfl HN3.out (by have := HZL.out; have := HQL.out; omega) (by rw [link_size, HQL.out]) HQ1.out ?_
                       intro w4 hr4 hg4
                       have Hb4 := Lib.hid (two_below' (two_below' Hb.out HB3.out) (below_own ((Below.refl w3.heap.size w3).alloc (Nat.le_refl _) (.cells Lv.zero.cells.toArray 86)) hg4 (fun k hk => by cases hk; exact Nat.le_refl _)))
                       clear hr4 hg4)
          go_ret
          have htc : Tr.turnC (ls.map Lv.k) under (L.map Sv.its) salt = q.2 := by rw [HTC.out, HBq.out]
          refine ⟨by rw [htc]; first | done | rfl, Hb4.out.mono (by have := HPl.out; omega), Keep.of_below Hb4.out, ls, ?_, ?_⟩
          · unfold Tr.turnL
            rw [htc, if_neg HQ0.out]
          · unfold Tr.turnD
            rw [htc, if_neg HQ0.out]
            exact HCh.out _ Hb4.out
    · obtain rfl : k = m := by omega
      have hkm2 : (L.map Sv.its).length ≤ k := by rw [List.length_map, ← HM.out]; exact Nat.le_refl _
      have HEnd := Lib.hid (Tr.freshE_end HFr.out hkm2)
      have hFn : F ≠ [] := fun e => by
        have h1 := HFl.out
        have h2 := HS.out
        rw [e, List.length_nil] at h1
        omega
      obtain ⟨AF, cF, rfl⟩ := own_form12 HO.out.1
      obtain ⟨gF, rfl, hgF1, hgF2, hFc, _⟩ := HO.out.at_ hFn rfl
      have hstl : st ≤ ls.length := by rw [← HN.out]; exact HS.out.2.1
      have HOt := Lib.hid ((HRow.out _ Hb.out).2.take rfl (k := st) hstl)
      clear hstl
      have hlt : (ls.take st).length = st := by rw [List.length_take, ← HN.out]; have := HS.out; omega
      have hown7 := HOt.out.1
      rw [hlt] at hown7
      have Hown7 := Lib.hid hown7
      have Hrow7 := Lib.hid (HRow.out _ Hb.out).1
      have hFl0 := HFl.out
      have hFX : (Lv.flat F).length = k * 67 := by rw [Lv.flat_len (fun x hx => (HO.out.2 x hx).1), hFl0]
      have HFX := Lib.hid hFX
      have HF1 := Lib.hid (Lv.flat_one (fun x hx => (HO.out.2 x hx).1))
      have hownF := HO.out.1
      rw [hFl0] at hownF
      have HFN := Lib.hid (own_news hownF)
      rw [hFl0]
      have hk63 : st + k ≤ maxLen := by have := HS.out; unfold maxLen; omega
      have hk48 : ((st + k) + (st + k) / 4 + 192) * 104 ≤ 281474976710656 := by have := HS.out; omega
      have hz7 : base ≤ wr.heap.size := by have := HPl.out; omega
      have cP2 := HP2.out _ Hb.out
      have hmm : (k : Int) ≤ (k : Int) := Int.le_refl _
      clear hkm hkm2 hlt hown7 hFl0 hFX hownF hgF1 hgF2 hFc
      go_wp2_with (at_builtin; refine wpList_append_own_wide _ rfl (.tmp 103) (.tmp 104) 89 rfl base 86 i0 (.agg Lv.zero.cells.toArray) 67 104 Tryd.underlying89 Hi.out Hz.out Hsz.out Hby.out (by rw [← HZL.out]; rfl) (by decide) (.slice (some ⟨gl, 0, none⟩) st c0) st (Lv.flat (ls.take st)) rfl Hown7.out ⟨gF, 0, none⟩ k cF (Lv.flat F) rfl HFX.out HFN.out HF1.out hk63 hk48 hz7 ?_
                   intro v8 w8 hown8 hgrow8 _
                   obtain ⟨A8, c8, rfl⟩ := own_form12 hown8
                   have hP8 := Hrow7.out.kept hgrow8 (row_ne_own Hrow7.out Hown7.out (by decide)).symm
                   have HIts8 : Hid (∀ y ∈ ls.take st ++ F, y.Fits ∧ OwnIts w8 base y) := Lib.hid (fun y hy => by
                     rcases List.mem_append.1 hy with hy | hy
                     · exact ⟨(HOt.out.2 y hy).1, (HOt.out.2 y hy).2.kept hgrow8 (own_ne_own (HOt.out.2 y hy).2.1 Hown7.out (by decide))⟩
                     · have h := (HO.out.2 y hy).2.kept hgrow8 (own_ne_own (HO.out.2 y hy).2.1 Hown7.out (by decide))
                       exact ⟨(HO.out.2 y hy).1, own_lower h.1 (by have := HPl.out; omega), h.2⟩)
                   have HK8 := Lib.hid ((Keep.of_below Hb.out).trans (KeepU.link Hown7.out hgrow8 (B := wr.heap.size)).keep)
                   have hb8 : Below base w w8 := below_row (Hb.out.mono (by have := HPl.out; omega)) hz7 Hown7.out hgrow8
                   have hgs := grownBy_set w8 P 2 (.slice A8 (st + k) c8)
                   have hP9 := hP8.set 2 (.slice A8 (st + k) c8) (by simp)
                   have c8f := hP8.free 2
                   have c8c := hP8.cell 2 (by simp)
                   have c9c := hP9.cell 1 (by simp)
                   have c9f := hP9.free 1
                   have HP9 := Lib.hid hP9
                   have Hown9 := Lib.hid (hown8.kept hgs (.inr (row_ne_own hP8 hown8 (by decide))))
                   have HIts9 : Hid (∀ y ∈ ls.take st ++ F, y.Fits ∧ OwnIts (w8.setCell ⟨P, 2, none⟩ (.slice A8 (st + k) c8)) base y) := Lib.hid (fun y hy => ⟨(HIts8.out y hy).1, (HIts8.out y hy).2.kept hgs (.inr (row_ne_own hP8 (HIts8.out y hy).2.1 (by decide)))⟩)
                   have HK9 := Lib.hid (HK8.out.trans (KeepU.row hP8 (.inl rfl) hgs (B := w8.heap.size)).keep)
                   have Hb9 := Lib.hid (hb8.grown hgs (Nat.le_trans hz7 (hgrow8.size)) (fun k hk => by cases hk; exact HPl.out.1))
                   simp only [List.set_cons_succ, List.set_cons_zero, List.getElem_cons_succ, List.getElem_cons_zero] at c8c c9c
                   clear hP8 hb8 hgs hP9 hown8 hgrow8 cP2)
      go_ret
      have hgs := grownBy_set (w8.setCell ⟨P, 2, none⟩ (.slice A8 (st + k) c8)) P 1 (.int .i64 (max de under))
      have hP9 := HP9.out
      simp only [List.set_cons_succ, List.set_cons_zero] at hP9
      have hP10 := hP9.set 1 (.int .i64 (max de under)) (by simp)
      simp only [List.set_cons_succ, List.set_cons_zero] at hP10
      have htc : Tr.turnC (ls.map Lv.k) under (L.map Sv.its) salt = 0 := by rw [HTC.out, HEnd.out]
      have hll : (ls.take st ++ F).length = st + k := by rw [List.length_append, HFl.out, List.length_take, ← HN.out]; have := HS.out; omega
      refine ⟨by rw [htc]; first | done | rfl, Hb9.out.grown hgs (by have := HPl.out; have := HK9.out.1; omega) (fun k hk => by cases hk; exact HPl.out.1), HK9.out.trans (KeepU.row hP9 (.inl rfl) hgs (B := (w8.setCell ⟨P, 2, none⟩ (.slice A8 (st + k) c8)).heap.size)).keep, ls.take st ++ F, ?_, ?_⟩
      · unfold Tr.turnL
        rw [if_pos htc, HTF.out, HEnd.out, List.map_append, List.map_take, List.length_map, ← HSt.out]
      · unfold Tr.turnD
        rw [if_pos htc]
        refine ⟨HPl.out.1, _, hP10, ?_, fun y hy => ⟨(HIts9.out y hy).1, (HIts9.out y hy).2.kept hgs (.inr (row_ne_own hP9 (HIts9.out y hy).2.1 (by decide)))⟩⟩
        rw [hll, Lv.flat_append]
        exact Hown9.out.kept hgs (.inr (row_ne_own hP9 Hown9.out (by decide)))
theorem turn_any (w : World) (base P : Nat) (dp de : Int) (ls : List Lv) (hch : ChAt w base P dp de ls) (hG : Tr.Good (ls.map Lv.k)) (under salt : Int) (hs : Tx.fits salt) (A : Option Addr) (c : Nat) (L : List Sv) (hL : LsIn w w.heap.size A c L) (hm : L.length ≤ 1000000) (hT : Tab w) (hp : 0 < base) :
    Calls Tryd.prog 33 #[.pointer (some ⟨P, 0, none⟩), .int .i64 under, .slice A L.length c, .int .i64 salt] w fun e w' => TurnOut w base P dp de ls under salt (L.map Sv.its) e w' := by
  by_cases hc : Tr.tcode ls.length under L.length = 0
  · exact turn_go w base P dp de ls hch hG under salt hs A c L hL hc hT hp
  · have hl : 0 < ls.length := by have := List.length_pos_iff.2 hG.2.1; rwa [List.length_map] at this
    have hl1 : ls.length ≤ 4097 := by have := hG.2.2; rwa [List.length_map] at this
    refine (turn_bad w base P dp de ls hch hl (by omega) under salt A c L.length hm hc).mono ?_
    rintro e w' ⟨rfl, rfl⟩
    have e1 : Tr.turnC (ls.map Lv.k) under (L.map Sv.its) salt = Tr.tcode ls.length under L.length := by
      unfold Tr.turnC
      rw [List.length_map, List.length_map, if_neg hc]
    refine ⟨by rw [e1], Below.refl _ _, Keep.refl _, ls, ?_, ?_⟩
    · unfold Tr.turnL; rw [e1, if_neg hc]
    · unfold Tr.turnD; rw [e1, if_neg hc]; exact hch
end Go.Proofs.YtjeooegkfjlejaaDoor
