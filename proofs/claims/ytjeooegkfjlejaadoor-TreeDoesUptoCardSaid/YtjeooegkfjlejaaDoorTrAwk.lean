/- What later texts need of the earlier layers. -/
import Derived.Test.YtjeooegkfjlejaaDoorEarO
import Derived.Test.YtjeooegkfjlejaaDoorEarS
import Derived.Test.YtjeooegkfjlejaaDoorEarT
import Derived.Test.YtjeooegkfjlejaaDoorEarC
import Derived.Test.YtjeooegkfjlejaaDoorEarA
import Derived.Test.YtjeooegkfjlejaaDoorEarB
import Derived.Test.YtjeooegkfjlejaaDoorIbA
import Derived.Test.YtjeooegkfjlejaaDoorTrMath
import Derived.Test.YtjeooegkfjlejaaDoorTrHash
import Derived.Test.YtjeooegkfjlejaaDoorTrMem
import Derived.Test.YtjeooegkfjlejaaDoorTrLv
import Derived.Test.YtjeooegkfjlejaaDoorTrLink
import Derived.Test.YtjeooegkfjlejaaDoorTrBeh
import Derived.Test.YtjeooegkfjlejaaDoorTrCh
import Derived.Test.YtjeooegkfjlejaaDoorTrAt
import Derived.Test.YtjeooegkfjlejaaDoorTrNew
import Derived.Test.YtjeooegkfjlejaaDoorTrMine
import Derived.Test.YtjeooegkfjlejaaDoorTrAll
import Derived.Test.YtjeooegkfjlejaaDoorTrFind
/- ---- TrAwk ---- -/
/- cavalcadelaw11.awake. -/
namespace Go.Proofs.YtjeooegkfjlejaaDoor
open Go.RowKit
set_option linter.unusedVariables false
set_option linter.unusedSimpArgs false

namespace Tr
/-- the second and the third block of a chain of which nothing else is told -/
def second : Lk := (link (next first [] 0)).1
theorem first_ne : (hashE zeroB).1 ≠ (hashE (next first [] 0)).1 := by decide +kernel
theorem second_code : (hashE (next first [] 0)).2 = 0 := by decide +kernel
theorem third_code : (hashE (next second [] 0)).2 = 0 := by decide +kernel
theorem mineE_link {last : Lk} {n : Nat} {items : List It} {salt : Int} (h : n < 4096) : mineE last n items salt = hashE (next last items salt) := by
  unfold mineE
  rw [if_neg (by omega)]
end Tr
/-- a block more behind a short chain, with nothing in it -/
theorem mine_more (w : World) (base P : Nat) (dp de : Int) (ls : List Lv) (last : Tr.Lk) (hch : ChAt w base P dp de ls) (hl0 : 0 < ls.length) (hl1 : ls.length ≤ 4000) (hla : (ls[ls.length - 1]).k = last) (hnum : last.b.number < 9223372036854775807) (hcode : (Tr.hashE (Tr.next last [] 0)).2 = 0) (hT : Tab w) (hp : 0 < base) :
    Calls Tryd.prog 31 #[.pointer (some ⟨P, 0, none⟩), .slice none 0 0, .int .i64 0] w fun e w' => e = .returned (hashV (Tr.hashE (Tr.next last [] 0)).1 0) ∧ Below base w w' ∧ Keep w w' ∧ ∃ x : Lv, x.k = (Tr.link (Tr.next last [] 0)).1 ∧ ChAt w' base P dp de (ls ++ [x]) := by
  subst hla
  refine (mine_any w base P dp de ls hch hl0 (by omega) hnum none 0 [] 0 (by unfold Tx.fits; omega) (SlIn.nil _ _) hT hp).mono ?_
  rintro e w' ⟨he, hb, hk, h⟩
  rw [Tr.mineE_link (show ls.length - 1 < 4096 by omega), hcode] at he h
  refine ⟨he, hb, hk, ?_⟩
  rcases h with ⟨h, _⟩ | ⟨_, h⟩
  · exact absurd rfl h
  · exact h
set_option maxRecDepth 20000 in
set_option maxHeartbeats 1600000 in
theorem awake11_any (w : World) (hT : Tab w) :
    Calls Tryd.prog 16 #[] w fun e w' => e = .returned (.bool true) ∧ Below w.heap.size w w' := by
  have hzh := hash_zv
  have HZ32 := Lib.hid (Tx.bRow_len Tx.zero rfl)
  have NW := Lib.hid (new_yes 1 w (by decide) (by decide) hT)
  have HTp := Lib.hid hT.pos
  have HT := Lib.hid hT
  obtain ⟨H, hH⟩ : ∃ H, H = (Tr.hashE (Tr.next Tr.first [] 0)).1 := ⟨_, rfl⟩
  have hH32 : H.length = 32 := by rw [hH]; exact Tr.hashE_len _
  have HL := Lib.hid (Tx.bRow_len H hH32)
  have H1 : Hid (∀ v ∈ (bRow H).toList, v.oneCell' = true) := Lib.hid (hash_one H hH32)
  have HH := Lib.hid hH
  have HH32 := Lib.hid hH32
  clear hH hH32 hT
  go_enter Tryd.func16, Tryd.ntmps16
  go_wp2_with fail
  refine NW.out.mono ?_
  rintro _ w1 ⟨⟨P, x0, rfl, hx0, hch1⟩, hb1⟩
  have HX0 := Lib.hid hx0
  have M1 := Lib.hid (mine_more w1 w.heap.size P 1 0 [x0] Tr.first hch1 (by simp) (by simp) hx0 (by decide) Tr.second_code (HT.out.below hb1 HTp.out) HTp.out)
  rw [← HH.out] at M1
  have Hb1 := Lib.hid hb1
  clear hch1 hb1 hx0
  go_wp2_with fail
  unfold hashV at M1
  refine M1.out.mono ?_
  rintro _ w2 ⟨rfl, hb2, hk2, x1, hx1, hch2⟩
  have HX1 := Lib.hid hx1
  have Hch2 := Lib.hid hch2
  have Hb2 := Lib.hid (Hb1.out.trans hb2)
  have HNew := Lib.hid (Row.new w2 42 (bRow Tx.zero).toList)
  rw [Array.toArray_toList] at HNew
  clear hx1 hch2 hb2 hk2 M1
  go_wp2_with (with_reducible show wpList _ _ _ (⟨_, .store 42 _ _, _, _, _, _⟩ :: _) _ _
               refine wpList_store_at rfl 42 (.tmp 3) (.tmp 20) rfl w2.heap.size 0 (bRow H).toList (bRow Tx.zero).toList _ rfl rfl HNew.out (by have := HZ32.out; have := HL.out; omega) (by rw [hash_info, HL.out]) H1.out ?_
               intro w3 hr3 hg3
               rw [splice_all (HL.out.trans HZ32.out.symm)] at hr3
               have hb3 := below_own ((Below.refl w2.heap.size w2).alloc (Nat.le_refl _) _) hg3 (fun k hk => by cases hk; exact Nat.le_refl _)
               have HR3 := Lib.hid hr3
               have Hb3 := Lib.hid (Hb2.out.trans (hb3.mono Hb2.out.size))
               have hch3 := Hch2.out.below hb3
               have M2 := Lib.hid (mine_more w3 w.heap.size P 1 0 ([x0] ++ [x1]) Tr.second hch3 (by simp) (by simp) HX1.out (show (0 : Int) + 1 < 9223372036854775807 by decide) Tr.third_code (HT.out.below Hb3.out HTp.out) HTp.out)
               unfold hashV at M2
               clear hr3 hg3 hb3 hch3)
  refine M2.out.mono ?_
  rintro _ w4 ⟨rfl, hb4, hk4, x2, hx2, hch4⟩
  have HR4 := Lib.hid (hk4.row HR3.out (by decide) (by decide))
  have Hb4 := Lib.hid (Hb3.out.trans hb4)
  have Hch4 := Lib.hid hch4
  have HFd : Hid (Tr.find ([x0] ++ [x1] ++ [x2]) H = (1, true)) := Lib.hid (by
    have e0 : x0.k.hash = (Tr.hashE Tr.zeroB).1 := by rw [HX0.out]; rfl
    have e1 : x1.k.hash = H := by rw [HX1.out, HH.out]; rfl
    have e2 : x1.k.b.number = 1 := by rw [HX1.out]; rfl
    have := Tr.find_some (pre := [x0]) (post := [x2]) (x := x1) (h := H) (fun y hy => by
      rw [List.mem_singleton.1 hy, e0, HH.out]
      exact Tr.first_ne) e1
    rw [e2] at this
    exact this)
  clear hb4 hk4 hx2 hch4 M2
  go_wp2_with (with_reducible show wpList _ _ _ (⟨_, .load 42 _, _, _, _, _⟩ :: _) _ _
               refine wpList_load_tx rfl 42 (.tmp 3) rfl w2.heap.size 0 rfl (bRow H).toList _ (row_range HR4.out) Tryd.underlying42 rfl (by rw [hash_info, HL.out]) ?_)
  have FD := find_any w4 w.heap.size P 1 0 ([x0] ++ [x1] ++ [x2]) Hch4.out (by simp) (by simp) H HH32.out
  rw [HFd.out] at FD
  refine FD.mono ?_
  rintro _ w5 ⟨rfl, hb5⟩
  have Hch5 := Lib.hid (Hch4.out.below hb5)
  have Hb5 := Lib.hid (two_below' Hb4.out hb5)
  have HG := Lib.hid (height_any w5 w.heap.size P 1 0 ([x0] ++ [x1] ++ [x2]) Hch5.out (by simp) (by simp))
  have FN := Lib.hid (final_any w5 w.heap.size P 1 0 ([x0] ++ [x1] ++ [x2]) Hch5.out (by simp) (by simp) (by decide) (by decide))
  rw [show ((([x0] ++ [x1] ++ [x2]).length : Int) - 1) = 2 by simp] at HG FN
  clear FD hb5
  go_wp2_with (first
  | (go_at_call 18; refine HG.out.mono ?_; rintro _ w6 ⟨rfl, rfl⟩)
  | (go_at_call 20; refine FN.out.mono ?_; rintro _ w6 ⟨rfl, hb6⟩))
  go_ret
  exact ⟨rfl, two_below' Hb5.out hb6⟩
end Go.Proofs.YtjeooegkfjlejaaDoor
