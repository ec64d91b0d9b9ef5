/- What later texts need of the earlier layers. -/
import Derived.Test.YtjeooegkfjlejaaDoorEarO
import Derived.Test.YtjeooegkfjlejaaDoorEarS
import Derived.Test.YtjeooegkfjlejaaDoorEarT
import Derived.Test.YtjeooegkfjlejaaDoorEarC
import Derived.Test.YtjeooegkfjlejaaDoorEarA
import Derived.Test.YtjeooegkfjlejaaDoorEarB
import Derived.Test.YtjeooegkfjlejaaDoorIbA
import Derived.Test.YtjeooegkfjlejaaDoorTrMath
import Derived.Test.YtjeooegkfjlejaaDoorTrHash
import Derived.Test.YtjeooegkfjlejaaDoorTrMem
import Derived.Test.YtjeooegkfjlejaaDoorTrLv
import Derived.Test.YtjeooegkfjlejaaDoorTrLink
import Derived.Test.YtjeooegkfjlejaaDoorTrBeh
import Derived.Test.YtjeooegkfjlejaaDoorTrCh
import Derived.Test.YtjeooegkfjlejaaDoorTrAt
import Derived.Test.YtjeooegkfjlejaaDoorTrNew
import Derived.Test.YtjeooegkfjlejaaDoorTrMine
import Derived.Test.YtjeooegkfjlejaaDoorTrAll
import Derived.Test.YtjeooegkfjlejaaDoorTrFind
import Derived.Test.YtjeooegkfjlejaaDoorTrAwk
/- ---- TrLaw2 ---- -/
/- TreeNone. -/
namespace Go.Proofs.YtjeooegkfjlejaaDoor
open Go.RowKit
set_option linter.unusedVariables false
set_option linter.unusedSimpArgs false

theorem wpList_build_wanted {P : Program} {ops : Array Oper} {rest : List Oper} {op : Oper} {a : Act} {w : World} {Q : Exit → Act → World → Prop} (hw : Region.wanted op (yielded ops a.tmps) = true) (t : TypeId) (ho : op.op = .build t #[]) (cells : Array Value) (hf : P.built t [] = some cells)
    (h : wpList P ops Q rest (a.put op.dst (.agg cells)) w) : wpList P ops Q (op :: rest) a w :=
  wpList_step fun K hK => by
    rw [if_pos hw]
    unfold Oper.wp execOp
    have h2 : P.built t ((#[].map fun (p : Nat × Operand) => (p.1, a.eval p.2)).toList) = some cells := by simpa using hf
    simp only [ho, Sem.run_bind, run_build w t _ cells h2, Result.andThen_ok, Sem.run_pure]
    exact hK _ _ h
theorem block_built0 : Tryd.prog.built 45 [] = some Bk.zeroC.toArray := by rw [bk_built]; rfl
set_option maxRecDepth 20000 in
set_option maxHeartbeats 1600000 in
/-- two empty blocks are the same -/
theorem same_zero (A A' : Option Addr) (c c' : Nat) (w : World) :
    Calls Tryd.prog 27 #[.agg (Tr.zeroB.cells A c).toArray, .agg (Tr.zeroB.cells A' c').toArray] w fun e w' => e = .returned (.bool true) ∧ Below w.heap.size w w' := by
  obtain ⟨r2, hb, r1⟩ := row_two w (Tr.zeroB.cells A c).toArray (Tr.zeroB.cells A' c').toArray 45 45
  simp only [List.toList_toArray] at r1 r2
  have p0 := (row_range r1) 0 _ (Bk.cell0 Tr.zeroB A c)
  have p1 := (row_range r1) 1 (.int .i64 0) rfl
  have p34 := (row_range r1) 34 _ (Bk.cell34 (b := Tr.zeroB) (A := A) (cap := c) rfl)
  have q0 := (row_range r2) 0 _ (Bk.cell0 Tr.zeroB A' c')
  have q1 := (row_range r2) 1 (.int .i64 0) rfl
  have q34 := (row_range r2) 34 _ (Bk.cell34 (b := Tr.zeroB) (A := A') (cap := c') rfl)
  rw [Nat.zero_add] at p0 p1 p34 q0 q1 q34
  have HPar : ∀ (W : World) (g : Nat) (B : Option Addr) (k : Nat), Row W g 45 (Tr.zeroB.cells B k) → W.rangeAt g 2 (bRow Tx.zero).toList := fun W g B k h j v hv => by
    have := (row_range h) (2 + j) v (by
      unfold Bk.cells
      rw [List.getElem?_append_right (by simp), List.getElem?_append_left (by simpa [Tr.zeroB] using (List.getElem?_eq_some_iff.1 hv).1)]
      simpa [Tr.zeroB] using hv)
    rw [Nat.zero_add] at this
    exact this
  have HP1 := Lib.hid (HPar _ _ _ _ r1)
  have HP2 := Lib.hid (HPar _ _ _ _ r2)
  have HZ32 := Lib.hid (Tx.bRow_len Tx.zero rfl)
  have heq : ∀ W : World, (Op.equalIn 10000 42 (.agg (bRow Tx.zero)) (.agg (bRow Tx.zero))).run Tryd.prog W = .ok true W := fun W => (hash_eq W _ _ rfl rfl).trans (by simp)
  have e0 : Tr.zeroB.number = 0 := rfl
  have el : Tr.zeroB.items.length = 0 := rfl
  rw [e0] at p0 q0
  rw [el] at p34 q34
  have Hb := Lib.hid hb
  clear r1 r2 hb HPar e0 el
  generalize Tr.zeroB.cells A c = C1 at *
  generalize Tr.zeroB.cells A' c' = C2 at *
  generalize hZZ : bRow Tx.zero = ZZ at *
  go_enter Tryd.func27, Tryd.ntmps27
  go_wp2_with (first
  | ((with_reducible show wpList _ _ _ (⟨_, .load 42 (.tmp 19), _, _, _, _⟩ :: _) _ _); refine wpList_load_tx rfl 42 (.tmp 19) rfl w.heap.size 2 rfl ZZ.toList _ HP1.out Tryd.underlying42 rfl (by rw [hash_info, HZ32.out]) ?_)
  | ((with_reducible show wpList _ _ _ (⟨_, .load 42 (.tmp 21), _, _, _, _⟩ :: _) _ _); refine wpList_load_tx rfl 42 (.tmp 21) rfl (w.heap.size + 1) 2 rfl ZZ.toList _ HP2.out Tryd.underlying42 rfl (by rw [hash_info, HZ32.out]) ?_))
  generalize ((w.alloc (.cells C1.toArray 45)).alloc (.cells C2.toArray 45)) = W2 at *
  go_loopw [5] (fun i wr => i = .int .i64 0 ∧ wr = W2) (fun _ _ => 0)
  case atStart => exact ⟨rfl, rfl⟩
  case round =>
    obtain ⟨rfl, rfl⟩ := hrel
    go_wp2_with fail
    go_ret
    exact ⟨rfl, Hb.out⟩
end Go.Proofs.YtjeooegkfjlejaaDoor
