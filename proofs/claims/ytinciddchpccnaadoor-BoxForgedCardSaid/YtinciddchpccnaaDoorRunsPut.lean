/- What later texts need of the earlier layers. -/
import Derived.Test.YtinciddchpccnaaDoorOwnApp
import Derived.Test.YtinciddchpccnaaDoorRunsMath
import Derived.Test.YtinciddchpccnaaDoorChecked
import Derived.WalkKit
import Derived.Below
import Derived.OneCell
import Derived.Lib.Hide
import Derived.Lib.AppendStr
import Derived.LoopTactic
import Derived.Outline
import Derived.Laws.BytesArg
set_option maxRecDepth 100000
/- ---- RunsPut ---- -/
/- runs.Pack's closure put: what it does. A captured slice of bytes of the call's own. -/
namespace Go.Proofs.YtinciddchpccnaaDoor.Rn
open Go.RowKit
set_option linter.unusedVariables false
set_option linter.unusedSimpArgs false

theorem r8_info : (Tryd.prog.info? 5).map (fun i => (i.zero, i.size, i.bytes)) = some (some (.int .u8 0), 1, 1) := by kernel_rfl
abbrev bytesV (bs : List UInt8) : List Value := bs.map fun b => Value.int .u8 (b.toNat : Int)
theorem bytesV_app (a b : List UInt8) : bytesV (a ++ b) = bytesV a ++ bytesV b := List.map_append
/-- the variable in block B holds a slice of bytes of the call's own -/
def VarB (w : World) (base B : Nat) (bs : List UInt8) : Prop :=
  ∃ v, w.heap[B]? = some (.cells #[v] 48 (0, 0)) ∧ w.ownsRow base 5 1 v bs.length (bytesV bs)
theorem var_apart {w : World} {base B n : Nat} {v u : Value} {xs : List Value} (hv : w.heap[B]? = some (.cells #[u] 48 (0, 0))) (hown : w.ownsRow base 5 1 v n xs) : v.ownBlock ≠ some B := by
  intro e
  rcases hown.2 with ⟨rfl, _⟩ | ⟨g, cap, cur, rfl, hg, hh, _⟩
  · simp [Value.ownBlock] at e
  · simp only [Value.ownBlock, Option.some.injEq] at e
    subst e; rw [hh] at hv; simp at hv
theorem var_push {w w1 : World} {base B n n' : Nat} {v v' : Value} {xs xs' : List Value} (hv : w.heap[B]? = some (.cells #[v] 48 (0, 0))) (hown : w.ownsRow base 5 1 v n xs)
    (hown' : w1.ownsRow base 5 1 v' n' xs') (hgrow : w.grownBy w1 v.ownBlock) (hB : base ≤ B) :
    w1.cell? ⟨B, 0, none⟩ = some v ∧ w1.frozen? ⟨B, 0, none⟩ = false ∧ (w1.setCell ⟨B, 0, none⟩ v').heap[B]? = some (.cells #[v'] 48 (0, 0)) ∧ (w1.setCell ⟨B, 0, none⟩ v').ownsRow base 5 1 v' n' xs' ∧
      ∀ a, Below base a w → Below base a (w1.setCell ⟨B, 0, none⟩ v') := by
  have hlt := lt_of_block hv
  have hv1 : w1.heap[B]? = some (.cells #[v] 48 (0, 0)) := (hgrow.block B hlt (fun e => var_apart hv hown e.symm)).trans hv
  refine ⟨cell_of_one hv1, free_of_one hv1, one_setCell hv1, ownsRow_setCell_other hown' (var_apart hv1 hown') _, fun a ha => ?_⟩
  exact (ha.grown hgrow (by omega) (fun k hk => (hown.lt k hk).1)).setCell hB _
theorem own_some {w : World} {base e n : Nat} {v : Value} {xs : List Value} (h : w.ownsRow base e 1 v n xs) (hn : 0 < n) : ∃ g c, v = .slice (some ⟨g, 0, none⟩) n c := by
  rcases h.2 with ⟨rfl, rfl⟩ | ⟨g, cap, cur, rfl, _⟩
  · omega
  · exact ⟨g, cap, rfl⟩
set_option maxHeartbeats 400000 in
theorem put_any (c : Nat) (hc : c < 256) (p : ByteArray) (w : World) (base B : Nat) (bs : List UInt8) (hV : VarB w base B bs) (hB : base ≤ B) (hlen : bs.length + 1 + p.size ≤ 225179981368371) :
    Calls Tryd.prog 96 #[.int .i64 (c : Int), .string p, .pointer (some ⟨B, 0, none⟩)] w fun e w' => e = .returned (.tuple #[]) ∧ VarB w' base B (bs ++ UInt8.ofNat c :: p.data.toList) ∧ Below base w w' := by
  obtain ⟨i0, hi, hz0, hz1, hz2⟩ := info_parts r8_info
  have Hi := Lib.hid hi; clear hi
  have Hz0 := Lib.hid hz0; clear hz0
  have Hz1 := Lib.hid hz1; clear hz1
  have Hz2 := Lib.hid hz2; clear hz2
  obtain ⟨v, hv, hown⟩ := hV
  have hlt := lt_of_block hv
  have cB := cell_of_one hv
  have hw8 : (c : Int) % 256 = c := by omega
  have Hv := Lib.hid hv
  clear hv
  go_enter Tryd.func96, Tryd.ntmps96
  go_wp2_with (at_builtin; refine wpList_append_own_wide _ rfl (.tmp 5) (.tmp 8) 48 rfl base 5 i0 (.int .u8 0) 1 1 Tryd.underlying48 Hi.out Hz0.out Hz1.out Hz2.out rfl (by decide) _ _ _ rfl (hown.alloc _) ⟨w.heap.size, 0, none⟩ 1 1 [.int .u8 (c : Int)] rfl rfl ?c1 ?c2 ?c3 ?c4 ?c5 ?_)
  case c1 =>
    intro j u hj
    match j, hj with
    | 0, hj => simp at hj; subst hj; simp [Addr.add]
  case c2 => first | rfl | (intro u hu; simp at hu; subst hu; rfl)
  case c3 => unfold maxLen; omega
  case c4 => omega
  case c5 => simp; omega
  intro v1 w1 hown1 hgrow1 _
  obtain ⟨cB1, fB1, hv1, ho1, hb1⟩ := var_push (w := w.alloc (.cells #[.int .u8 (c : Int)] 5)) ((Below.heap_alloc w _ B hlt).trans Hv.out) (hown.alloc _) hown1 hgrow1 hB
  have hbel1 := hb1 w ((Below.refl _ _).alloc (by omega) _)
  obtain ⟨a1, k1, rfl⟩ := own_some hown1 (by omega)
  clear cB hown hown1 hgrow1 hb1
  have cB2 := cell_of_one hv1
  have hlt2 := lt_of_block hv1
  have Hv1 := Lib.hid hv1
  clear hv1
  have hS : ∀ W : World, Src Tryd.prog 1 9 (.string p) p.size (Go.byteCells p) W := fun W => Src.ofString W (by kernel_rfl) p
  go_wp2_with (at_builtin; refine wpList_own_src _ rfl (.tmp 10) (.tmp 11) 48 9 rfl base 5 i0 Tryd.underlying48 Hi.out Hz0.out Hz1.out Hz2.out _ _ _ rfl ho1 (.string p) p.size (Go.byteCells p) rfl (hS _) ?d1 ?d2 ?_)
  case d1 => omega
  case d2 => omega
  intro v3 w3 hown3 hgrow3
  obtain ⟨cB3, fB3, hv3, ho3, hb3⟩ := var_push Hv1.out ho1 hown3 hgrow3 hB
  have hbel3 := hb3 w hbel1
  obtain ⟨a3, k3, rfl⟩ := own_some hown3 (by omega)
  clear cB2 ho1 hown3 hgrow3 hb3
  go_wp2_with fail
  go_end0
  refine ⟨rfl, ⟨_, hv3, ?_⟩, hbel3⟩
  have e1 : (bs ++ UInt8.ofNat c :: p.data.toList).length = bs.length + 1 + p.size := by
    have : p.data.toList.length = p.size := rfl
    simp [this]; omega
  have e2 : bytesV (bs ++ UInt8.ofNat c :: p.data.toList) = bytesV bs ++ Value.int .u8 (c : Int) :: Go.byteCells p := by
    rw [show Go.byteCells p = bytesV p.data.toList from rfl, bytesV_app]
    have : (UInt8.ofNat c).toNat = c := by simp; omega
    simp [this]
  rw [e1, e2]
  exact ho3
end Go.Proofs.YtinciddchpccnaaDoor.Rn
