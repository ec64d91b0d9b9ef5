/- cut: Make. -/
import Derived.Test.YtncahgjmdeepeaaCutDue
import Derived.Laws.ResultCell
import Derived.Laws.MakeOwn
import Derived.Laws.Entries
namespace Go.Proofs.Ytncahgjmdeepeaa
open Go.RowKit
set_option linter.unusedVariables false
set_option linter.unusedSimpArgs false

namespace Cut
/-- does Make take them? -/
def okM (first count : Int) (l : List Rc) : Bool := match l with
  | [] => false
  | x :: _ => decide ((l.length : Int) = count) && decide (x.idx = first)
/-- the cells of the parts -/
def part (x : Rc) : List Value := [.bool (!decide (x.kind = 1)), .string (if x.kind = 1 then x.body else ByteArray.empty)]
def parts (l : List Rc) : List Value := l.flatMap part
def blanks (n : Nat) : List Value := (List.replicate n [Value.bool false, Value.string ByteArray.empty]).flatten
theorem parts_length (l : List Rc) : (parts l).length = 2 * l.length := by
  induction l with
  | nil => rfl
  | cons x l ih => simp [parts, part] at ih ⊢; omega
theorem blanks_length (n : Nat) : (blanks n).length = 2 * n := by
  induction n with
  | zero => rfl
  | succ n ih => simp [blanks, List.replicate_succ] at ih ⊢; omega
theorem blanks_succ (n : Nat) : blanks (n + 1) = [Value.bool false, Value.string ByteArray.empty] ++ blanks n := by simp [blanks, List.replicate_succ]
theorem parts_take (l : List Rc) (k : Nat) (h : k < l.length) : parts (l.take (k + 1)) = parts (l.take k) ++ part l[k] := by
  unfold parts; rw [List.take_succ_eq_append_getElem h, List.flatMap_append]; simp
theorem set_behind {α : Type _} (a b : List α) (n j : Nat) (v : α) (h : a.length = n) : (a ++ b).set (n + j) v = a ++ b.set j v := by
  rw [List.set_append_right _ _ (by omega)]; congr 2; omega
/-- what the k-th part's store makes of the cells -/
theorem store_tx (l : List Rc) (k m : Nat) (h : k < l.length) (hk : l[k].kind = 1) : (parts (l.take k) ++ blanks (m + 1)).set (2 * k + 1) (.string l[k].body) = parts (l.take (k + 1)) ++ blanks m := by
  rw [set_behind _ _ (2 * k) 1 _ (by rw [parts_length, List.length_take]; omega), blanks_succ, parts_take l k h]
  simp [part, hk]
theorem store_del (l : List Rc) (k m : Nat) (h : k < l.length) (hk : l[k].kind ≠ 1) : (parts (l.take k) ++ blanks (m + 1)).set (2 * k) (.bool true) = parts (l.take (k + 1)) ++ blanks m := by
  have := set_behind (parts (l.take k)) (blanks (m + 1)) (2 * k) 0 (.bool true) (by rw [parts_length, List.length_take]; omega)
  rw [show 2 * k + 0 = 2 * k from rfl] at this
  rw [this, blanks_succ, parts_take l k h]
  simp [part, hk]
end Cut

/-- two results, the first of which lies in a block -/
theorem results_rowL {P : Program} {fn : Func} {p u : Tmp} {ty : TypeId} (h : fn.results = #[.cell p ty, .tmp u]) (tmps : Array Value) (w : World) (g : Nat) (T : TypeId) (xs : List Value) (d : TypeDesc)
    (hp : tmps.getD p undef = .pointer (some ⟨g, 0, none⟩)) (hg : Row w g T xs)
    (hu : P.underlying ty = some d) (hd : (match d with | .struct _ | .array _ _ => true | _ => false) = true) (hi : (P.info? ty).map (·.size) = some xs.toArray.size) (x : Value) (hx : tmps.getD u undef = x) :
    (results fn tmps).run P w = .ok (.tuple #[.agg xs.toArray, x]) w := by
  rw [results_cell_tmp h, hp]
  have hl := run_loadVar_row w g T ty xs.toArray (0, 0) d hg hu hd hi
  have ha : (asAddr (.pointer (some ⟨g, 0, none⟩))).run P w = .ok ⟨g, 0, none⟩ w := rfl
  rw [ha]
  simp only [Result.andThen, hl, hx]
theorem four_set {w0 w : World} {g : Nat} {t : TypeId} {a b c d : Value} (h : Row w g t [a, b, c, d]) (hb : Below w0.heap.size w0 w) (hg : w0.heap.size ≤ g) (a' b' c' d' : Value) :
    Row ((((w.setCell ⟨g, 0, none⟩ a').setCell ⟨g, 1, none⟩ b').setCell ⟨g, 2, none⟩ c').setCell ⟨g, 3, none⟩ d') g t [a', b', c', d'] ∧ Below w0.heap.size w0 ((((w.setCell ⟨g, 0, none⟩ a').setCell ⟨g, 1, none⟩ b').setCell ⟨g, 2, none⟩ c').setCell ⟨g, 3, none⟩ d') := by
  refine ⟨(((h.set 0 a' (by simp)).set 1 b' (by simp)).set 2 c' (by simp)).set 3 d' (by simp), ?_⟩
  have st : ∀ (W : World) (i : Nat) (v : Value), Below w0.heap.size w0 W → Below w0.heap.size w0 (W.setCell ⟨g, i, none⟩ v) := fun W i v hW => hW.grown (grownBy_set W g i v) hW.size (fun k hk => by cases hk; exact hg)
  exact st _ 3 d' (st _ 2 c' (st _ 1 b' (st _ 0 a' hb)))

set_option maxRecDepth 20000 in
set_option maxHeartbeats 800000 in
theorem cutMake_no (A : Option Addr) (c : Nat) (l : List Rc) (sq first before count : Int) (w : World) (hl : RcsAt w A l) (hlen : l.length ≤ 9223372036854775807) (hno : Cut.okM first count l = false) :
    Calls Try.prog 15 #[.agg #[.int .i64 sq, .int .i64 first, .int .i64 before, .int .i64 count], .slice A l.length c] w fun e w' =>
      e = .returned (.tuple #[.agg #[.int .i64 0, .int .i64 0, .int .i64 0, .slice none 0 0], .int .i64 2]) ∧ Below w.heap.size w w' := by
  have fin2 : ∀ (nq : Nat) (O1 : Obj) (a b c d : Value), Row ((((((((w.alloc O1).alloc (.cells #[a, b, c, d] 36)).drewN nq).setCell ⟨w.heap.size + 1, 0, none⟩ (.int .i64 0)).setCell ⟨w.heap.size + 1, 1, none⟩ (.int .i64 0)).setCell ⟨w.heap.size + 1, 2, none⟩ (.int .i64 0)).setCell ⟨w.heap.size + 1, 3, none⟩ (.slice none 0 0))) (w.heap.size + 1) 36 [.int .i64 0, .int .i64 0, .int .i64 0, .slice none 0 0] ∧
      Below w.heap.size w ((((((((w.alloc O1).alloc (.cells #[a, b, c, d] 36)).drewN nq).setCell ⟨w.heap.size + 1, 0, none⟩ (.int .i64 0)).setCell ⟨w.heap.size + 1, 1, none⟩ (.int .i64 0)).setCell ⟨w.heap.size + 1, 2, none⟩ (.int .i64 0)).setCell ⟨w.heap.size + 1, 3, none⟩ (.slice none 0 0))) := by
    intro nq O1 a b c d
    have hrow := Row.new (w.alloc O1) 36 [a, b, c, d]
    rw [show (w.alloc O1).heap.size = w.heap.size + 1 by simp] at hrow
    exact four_set (hrow.kept (grownBy_drewN _ nq none) (by simp)) (below_drewN' (((Below.refl w.heap.size w).alloc (Nat.le_refl _) _).alloc (by simp) _) _) (by omega) _ _ _ _
  have Fin2 := Lib.hid fin2
  clear fin2
  match l with
  | [] =>
    clear hl hno
    go_enter Try.func15, Try.ntmps15
    go_wp2_with fail
    go_quiet (fail)
    go_wp2_with fail
    obtain ⟨h1, h2⟩ := Fin2.out nq _ _ _ _ _
    exact bodyPost_ret (results_rowL rfl _ _ (w.heap.size + 1) 36 _ _ rfl h1 Try.underlying36 rfl rfl _ rfl) rfl ⟨rfl, h2⟩
  | x :: l' =>
    obtain ⟨n, hn⟩ : ∃ n, n = (x :: l').length := ⟨_, rfl⟩
    have hn0 : ((n : Int) == 0) = false := by rw [hn]; simp; omega
    have hn1 : 0 < n := by rw [hn]; simp
    obtain ⟨b, off, rfl, hblt, hc⟩ := hl (by simp)
    have c0 : w.cell? ⟨b, off, none⟩ = some (.int .i64 x.idx) := by
      have := (hc 0 (by simp)).1 0 (.int .i64 x.idx) rfl
      simpa using this
    rw [← hn] at hlen ⊢
    have hno' : (n : Int) = count → x.idx ≠ first := by
      intro h h'
      have e : Cut.okM first count (x :: l') = true := by
        show (decide (((x :: l').length : Int) = count) && decide (x.idx = first)) = true
        rw [← hn, decide_eq_true h, decide_eq_true h']; rfl
      rw [e] at hno
      cases hno
    by_cases hcn : (n : Int) = count
    · have hix := hno' hcn
      have d1 : ((n : Int) != count) = false := by simpa using hcn
      have d2 : (x.idx != first) = true := by simpa using hix
      clear hcn hix hno hno' hc hl hn
      go_enter Try.func15, Try.ntmps15
      go_wp2_with fail
      go_quiet (fail)
      go_wp2_with fail
      obtain ⟨h1, h2⟩ := Fin2.out nq _ _ _ _ _
      exact bodyPost_ret (results_rowL rfl _ _ (w.heap.size + 1) 36 _ _ rfl h1 Try.underlying36 rfl rfl _ rfl) rfl ⟨rfl, h2⟩
    · have d1 : ((n : Int) != count) = true := by simpa using hcn
      clear hcn hno hno' hc hl hn
      go_enter Try.func15, Try.ntmps15
      go_wp2_with fail
      go_quiet (fail)
      go_wp2_with fail
      obtain ⟨h1, h2⟩ := Fin2.out nq _ _ _ _ _
      exact bodyPost_ret (results_rowL rfl _ _ (w.heap.size + 1) 36 _ _ rfl h1 Try.underlying36 rfl rfl _ rfl) rfl ⟨rfl, h2⟩
end Go.Proofs.Ytncahgjmdeepeaa
