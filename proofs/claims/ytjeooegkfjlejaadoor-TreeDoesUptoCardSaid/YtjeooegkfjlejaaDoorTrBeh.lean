/- What later texts need of the earlier layers. -/
import Derived.Test.YtjeooegkfjlejaaDoorEarO
import Derived.Test.YtjeooegkfjlejaaDoorEarS
import Derived.Test.YtjeooegkfjlejaaDoorEarT
import Derived.Test.YtjeooegkfjlejaaDoorEarC
import Derived.Test.YtjeooegkfjlejaaDoorEarA
import Derived.Test.YtjeooegkfjlejaaDoorEarB
import Derived.Test.YtjeooegkfjlejaaDoorIbA
import Derived.Test.YtjeooegkfjlejaaDoorTrMath
import Derived.Test.YtjeooegkfjlejaaDoorTrHash
import Derived.Test.YtjeooegkfjlejaaDoorTrMem
import Derived.Test.YtjeooegkfjlejaaDoorTrLv
import Derived.Test.YtjeooegkfjlejaaDoorTrLink
/- ---- TrBeh ---- -/
/- tree.behind: what it returns. -/
namespace Go.Proofs.YtjeooegkfjlejaaDoor
open Go.RowKit
set_option linter.unusedVariables false
set_option linter.unusedSimpArgs false

/-- where behind stands -/
def BeIn (w W : World) (L C Z : List Value) : Prop := Row W w.heap.size 86 L ∧ Row W (w.heap.size + 1) 86 C ∧ Row W (w.heap.size + 2) 86 Z ∧ Below w.heap.size w W
theorem BeIn.step {w W W' : World} {L C Z : List Value} (h : BeIn w W L C Z) (hb : Below W.heap.size W W') : BeIn w W' L C Z :=
  ⟨h.1.kept (grownBy_of_below hb none) (by simp), h.2.1.kept (grownBy_of_below hb none) (by simp), h.2.2.1.kept (grownBy_of_below hb none) (by simp), two_below' h.2.2.2 hb⟩
set_option maxRecDepth 20000 in
set_option maxHeartbeats 3200000 in
theorem behind_any (last p : Lv) (salt : Int) (A : Option Addr) (c : Nat) (its : List It) (hl : last.Fits) (hlr : last.k.b.number < 9223372036854775807) (hpf : p.Fits) (hpr : p.k.Right) (hs : Tx.fits salt) (w : World) (hin : SlIn w w.heap.size A c its) (hT : Tab w) :
    Calls Tryd.prog 61 #[.agg last.cells.toArray, .slice A its.length c, .int .i64 salt, .agg p.cells.toArray] w fun e w' => LinkOut w.heap.size (Tr.link (Tr.next last.k its salt)) e w' ∧ Below w.heap.size w w' := by
  have hz86 := lk_zv
  obtain ⟨r1, r2, r3, r4⟩ := row_three11 w last.cells p.cells Lv.zero.cells 86 86 86
  have H0 : Hid (BeIn w _ last.cells p.cells Lv.zero.cells) := Lib.hid ⟨r4, r3, r1, r2⟩
  have hnum : Tx.fits (last.k.b.number + 1) := by have := hl.2.2.1; unfold Tx.fits at *; omega
  have ML : Hid (∀ W, Below w.heap.size w W → Calls Tryd.prog 47 #[.agg (headC (last.k.b.number + 1) salt last.k.hash).toArray, .slice A its.length c, .agg p.cells.toArray] W fun e w' => LinkOut W.heap.size (Tr.link (Tr.next last.k its salt)) e w' ∧ Below W.heap.size W w') := Lib.hid (fun W hW =>
    makeLink_any (last.k.b.number + 1) salt last.k.hash A c its p hl.2.1 hnum hs hpf hpr W ((hin.below hW).mono hW.size) (hT.below hW hT.pos))
  have HAt : Hid (∀ W, Row W w.heap.size 86 last.cells → W.cell? ⟨w.heap.size, 0, none⟩ = some (.int .i64 last.k.b.number) ∧ W.rangeAt w.heap.size 35 (bRow last.k.hash).toList) := Lib.hid (fun W h => by
    obtain ⟨q0, q1, q2, q3, q4, _⟩ := Lv.at_ hl (row_range h)
    simp only [Nat.zero_add] at q0 q4
    exact ⟨q0, q4⟩)
  have HB3 := Lib.hid (hd_three (last.k.b.number + 1) salt last.k.hash hl.2.1)
  have HH32 := Lib.hid (Tx.bRow_len _ hl.2.1)
  have HPL := Lib.hid (Lv.cells_len hpf)
  have HZL := Lib.hid (Lv.cells_len Lv.zero_fits)
  have HOL : Hid (∀ A1 c1, Lv.Fits ⟨(Tr.link (Tr.next last.k its salt)).1, A1, c1⟩) := Lib.hid (fun A1 c1 => ⟨hl.2.1, Tr.hashE_len _, hnum, hs⟩)
  have hn0 : -9223372036854775808 ≤ last.k.b.number := hl.2.2.1.1
  obtain ⟨q, hq⟩ : ∃ q, q = Tr.link (Tr.next last.k its salt) := ⟨_, rfl⟩
  rw [← hq] at ML ⊢
  simp only [← hq] at HOL
  have c0 := (HAt.out _ H0.out.1).1
  obtain ⟨num, hnume⟩ : ∃ x, x = last.k.b.number := ⟨_, rfl⟩
  rw [← hnume] at HAt HB3 hlr c0 hn0
  obtain ⟨hh, hhe⟩ : ∃ x, x = last.k.hash := ⟨_, rfl⟩
  rw [← hhe] at HAt HB3 HH32
  rw [← hnume, ← hhe] at ML
  generalize last.cells = LC at *
  generalize p.cells = PC at *
  generalize Lv.zero.cells = ZC at *
  obtain ⟨HC, hHC⟩ : ∃ x, x = headC (num + 1) salt hh := ⟨_, rfl⟩
  rw [← hHC] at ML HB3
  clear hq hnume hhe hHC r1 r2 r3 r4 hin hT hl hpf hpr hs hnum
  generalize its.length = m at *
  go_enter Tryd.func61, Tryd.ntmps61
  go_wp2_with (first
  | ((with_reducible show wpList _ _ _ (⟨_, .load 42 _, _, _, _, _⟩ :: _) _ _); refine wpList_load_tx rfl 42 (.tmp 15) rfl w.heap.size 35 rfl (bRow hh).toList _ (HAt.out _ H0.out.1).2 Tryd.underlying42 rfl (by rw [hash_info, HH32.out]) ?_)
  | ((with_reducible show wpList _ _ _ (⟨_, .build 84 _, _, _, _, _⟩ :: _) _ _); refine wpList_buildL rfl 84 [(0, .tmp 13), (1, .tmp 14), (2, .tmp 16)] rfl (some 17) rfl [(0, .int .i64 (num + 1)), (1, .int .i64 salt), (2, .agg (bRow hh))] rfl HC.toArray HB3.out ?_)
  | ((with_reducible show wpList _ _ _ (⟨_, .load 86 _, _, _, _, _⟩ :: _) _ _); refine wpList_load_tx rfl 86 (.tmp 7) rfl (w.heap.size + 1) 0 rfl PC _ (row_range H0.out.2.1) Tryd.underlying86 rfl (by rw [link_size, HPL.out]) ?_))
  refine (ML.out _ H0.out.2.2.2).mono ?_
  rintro _ w1 ⟨⟨A1, c1, rfl, ho1⟩, hb1⟩
  have H1 := Lib.hid (H0.out.step hb1)
  have HO1 := Lib.hid (own_lower ho1 H0.out.2.2.2.size)
  have HQL := Lib.hid (Lv.cells_len (HOL.out A1 c1))
  have HQ1 := Lib.hid (Lv.cells_one (HOL.out A1 c1))
  clear ho1 hb1 c0
  generalize hQC : Lv.cells ⟨q.1, A1, c1⟩ = QC at *
  have HQC := Lib.hid hQC
  clear hQC
  go_wp2_with (with_reducible show wpList _ _ _ (⟨_, .store 86 _ _, _, _, _, _⟩ :: _) _ _
               refine wpList_store_at rfl 86 (.tmp 8) (.tmp 21) rfl (w.heap.size + 2) 0 QC _ _ rfl rfl H1.out.2.2.1 (by rw [HQL.out, HZL.out]; decide) (by rw [link_size, HQL.out]) HQ1.out ?_
               intro w2 hr2 hg2
               rw [splice_all (HQL.out.trans HZL.out.symm)] at hr2
               have HR2 := Lib.hid hr2
               have Hb2 := Lib.hid (below_own H1.out.2.2.2 hg2 (fun k hk => by cases hk; omega))
               have HO2 := Lib.hid (HO1.out.kept hg2 (.inr (row_ne_own H1.out.2.2.1 HO1.out (by decide))))
               clear hr2 hg2)
  exact bodyPost_ret (results_rowL rfl _ _ (w.heap.size + 2) 86 _ _ rfl HR2.out Tryd.underlying86 rfl (by rw [link_size, List.size_toArray, HQL.out]) _ rfl) rfl ⟨⟨A1, c1, by rw [HQC.out]; rfl, HO2.out⟩, Hb2.out⟩
end Go.Proofs.YtjeooegkfjlejaaDoor
