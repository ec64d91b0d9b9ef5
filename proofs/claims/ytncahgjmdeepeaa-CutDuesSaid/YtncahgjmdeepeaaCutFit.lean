/- cut: the closure of fitting, fitting, Fits. -/
import Derived.Test.YtncahgjmdeepeaaCutNum
import Derived.Deep.MidRow
namespace Go.Proofs.Ytncahgjmdeepeaa
open Go.RowKit
set_option linter.unusedVariables false
set_option linter.unusedSimpArgs false

/-- a receipt -/
structure Rc where
  idx : Int
  kind : Int
  time : Int
  body : ByteArray
  rest : List Value
def rcL (x : Rc) : List Value := [.int .i64 x.idx, .int .i64 x.kind, .int .i64 x.time, .string x.body] ++ x.rest
def rcA (x : Rc) : Array Value := (rcL x).toArray
theorem rcA_kind (x : Rc) : (rcA x)[1]? = some (.int .i64 x.kind) := rfl
theorem rcA_time (x : Rc) : (rcA x)[2]? = some (.int .i64 x.time) := rfl
theorem rcA_body (x : Rc) : (rcA x)[3]? = some (.string x.body) := rfl
/-- what fitting's closure has captured -/
def Fitting (W : World) (bp br bl : Nat) (r : Cut.Rules) (k : Nat) (left : Int) : Prop :=
  Row W bp 3 [.int .i64 (k : Int)] ∧ Row W br 24 [.int .i64 r.parts, .int .i64 r.bytes, .int .i64 r.age, .int .i64 r.lag] ∧ Row W bl 3 [.int .i64 left] ∧ bp ≠ br ∧ bp ≠ bl ∧ br ≠ bl
theorem Fitting.kept {W W' : World} {bp br bl k : Nat} {r : Cut.Rules} {left : Int} (h : Fitting W bp br bl r k left) (hg : W.grownBy W' none) : Fitting W' bp br bl r k left :=
  ⟨h.1.kept hg (by simp), h.2.1.kept hg (by simp), h.2.2.1.kept hg (by simp), h.2.2.2⟩
def full (r : Cut.Rules) (k : Nat) (left : Int) (n : Nat) : Bool := decide ((k : Int) = r.parts) || (decide (0 < k) && decide (left < (n : Int)))
theorem full_iff {r : Cut.Rules} {k n : Nat} {left : Int} : full r k left n = true ↔ ((k : Int) = r.parts ∨ (0 < k ∧ left < (n : Int))) := by simp [full]

set_option maxRecDepth 20000 in
theorem closure_full (x : Rc) (w : World) (bp br bl base k : Nat) (r : Cut.Rules) (left : Int) (hF : Fitting w bp br bl r k left) (hk : k ≤ 64) (hf : full r k left x.body.size = true) (hbs : x.body.size ≤ 9223372036854775807) :
    Calls Try.prog 22 #[.agg (rcA x), .pointer (some ⟨bp, 0, none⟩), .pointer (some ⟨br, 0, none⟩), .pointer (some ⟨bl, 0, none⟩)] w fun e w' => e = .returned (.bool false) ∧ w.grownBy w' none := by
  have c1 : w.cell? ⟨bp, 0, none⟩ = some (.int .i64 (k : Int)) := hF.1.cell 0 (by simp)
  have c2 : w.cell? ⟨br, 0, none⟩ = some (.int .i64 r.parts) := hF.2.1.cell 0 (by simp)
  have c3 : w.cell? ⟨bl, 0, none⟩ = some (.int .i64 left) := hF.2.2.1.cell 0 (by simp)
  have l1 := hF.1.lt
  have l2 := hF.2.1.lt
  have l3 := hF.2.2.1.lt
  have h3 := rcA_body x
  obtain ⟨p, b, a, l⟩ := r
  rw [full_iff] at hf
  simp only at c2 hf
  clear hF
  by_cases hp : (k : Int) = p
  · have hd : ((k : Int) == p) = true := by simpa using hp
    clear hp hf
    go_enter Try.func22, Try.ntmps22
    go_wp2_with fail
    go_ret
    exact ⟨rfl, grownBy_alloc _ _ _⟩
  · have hd : ((k : Int) == p) = false := by simpa using hp
    have hq : 0 < k ∧ left < (x.body.size : Int) := by
      rcases hf with h | h
      · exact absurd h hp
      · exact h
    have d1 : decide ((0 : Int) < (k : Int)) = true := by simp only [decide_eq_true_eq]; omega
    have d1' : decide (0 < k) = true := by simp only [decide_eq_true_eq]; omega
    have d2 : decide (left < (x.body.size : Int)) = true := by simpa using hq.2
    clear hp hf hq
    go_enter Try.func22, Try.ntmps22
    go_wp2_with fail
    go_ret
    exact ⟨rfl, grownBy_alloc _ _ _⟩

theorem kept_two {w W : World} {bp bl B : Nat} {t : TypeId} {xs : List Value} (u v : Value) (h : Row w B t xs) (h1 : B ≠ bp) (h2 : B ≠ bl) (hW : W = (w.setCell ⟨bp, 0, none⟩ u).setCell ⟨bl, 0, none⟩ v) : Row W B t xs := by
  subst hW
  exact (h.kept (grownBy_set _ _ _ _) (by simpa using h1)).kept (grownBy_set _ _ _ _) (by simpa using h2)
set_option maxRecDepth 20000 in
set_option maxHeartbeats 400000 in
theorem closure_next (x : Rc) (w : World) (bp br bl base k : Nat) (r : Cut.Rules) (left : Int) (hF : Fitting w bp br bl r k left) (hk : k ≤ 64) (hf : full r k left x.body.size = false) (hbs : x.body.size ≤ 9223372036854775807)
    (hl0 : 0 ≤ left) (hl1 : left ≤ 8192) (hp : base ≤ bp) (hl : base ≤ bl) :
    Calls Try.prog 22 #[.agg (rcA x), .pointer (some ⟨bp, 0, none⟩), .pointer (some ⟨br, 0, none⟩), .pointer (some ⟨bl, 0, none⟩)] w fun e w' =>
      e = .returned (.bool true) ∧ Fitting w' bp br bl r (k + 1) (max (left - x.body.size) 0) ∧ ∀ a, base ≤ w.heap.size → Below base a w → Below base a w' := by
  have c1 : w.cell? ⟨bp, 0, none⟩ = some (.int .i64 (k : Int)) := hF.1.cell 0 (by simp)
  have c2 : w.cell? ⟨br, 0, none⟩ = some (.int .i64 r.parts) := hF.2.1.cell 0 (by simp)
  have c3 : w.cell? ⟨bl, 0, none⟩ = some (.int .i64 left) := hF.2.2.1.cell 0 (by simp)
  have f1 := hF.1.free 0
  have f3 := hF.2.2.1.free 0
  have l1 := hF.1.lt
  have l2 := hF.2.1.lt
  have l3 := hF.2.2.1.lt
  have hne1 := hF.2.2.2.1
  have hne2 := hF.2.2.2.2.1
  have hne3 := hF.2.2.2.2.2
  have hne2' : bl ≠ bp := fun e => hne2 e.symm
  have h3 := rcA_body x
  have HF := Lib.hid hF
  have hff : ¬ ((k : Int) = r.parts ∨ (0 < k ∧ left < (x.body.size : Int))) := by rw [← full_iff, hf]; simp
  obtain ⟨p, b, a, l⟩ := r
  simp only at c2 hff
  clear hF hf
  have hd : ((k : Int) == p) = false := by simp; omega
  have hmax : (if left - (x.body.size : Int) < 0 then (0 : Int) else left - (x.body.size : Int)) = max (left - (x.body.size : Int)) 0 := by split <;> omega
  have Hmax := Lib.hid hmax
  clear hmax
  have fin : ∀ W : World, W = ((w.setCell ⟨bp, 0, none⟩ (.int .i64 ((k : Int) + 1))).setCell ⟨bl, 0, none⟩ (.int .i64 (max (left - (x.body.size : Int)) 0))).alloc (.cells (rcA x) 44) →
      Fitting W bp br bl ⟨p, b, a, l⟩ (k + 1) (max (left - (x.body.size : Int)) 0) ∧ ∀ a, base ≤ w.heap.size → Below base a w → Below base a W := by
    intro W hW
    have hz : ((w.setCell ⟨bp, 0, none⟩ (.int .i64 ((k : Int) + 1))).setCell ⟨bl, 0, none⟩ (.int .i64 (max (left - (x.body.size : Int)) 0))).heap.size = w.heap.size := by simp [World.setCell]
    refine ⟨⟨?_, ?_, ?_, hne1, hne2, hne3⟩, fun a hb hba => ?_⟩
    · rw [hW]
      have h2 := HF.out.1.set 0 (.int .i64 ((k : Int) + 1)) (by simp)
      exact (h2.kept (grownBy_set _ bl 0 _) (by simpa using hne2)).kept (grownBy_alloc _ _ none) (by simp)
    · rw [hW]
      exact (kept_two _ _ HF.out.2.1 (fun e => hne1 e.symm) hne3 rfl).kept (grownBy_alloc _ _ none) (by simp)
    · rw [hW]
      have h1 : Row (w.setCell ⟨bp, 0, none⟩ (.int .i64 ((k : Int) + 1))) bl 3 [.int .i64 left] := HF.out.2.2.1.kept (grownBy_set _ _ _ _) (by simpa using hne2')
      exact (h1.set 0 _ (by simp)).kept (grownBy_alloc _ _ none) (by simp)
    · rw [hW]
      exact ((hba.setCell hp _).setCell hl _).alloc (by rw [hz]; exact hb) _
  have Fin := Lib.hid fin
  clear fin
  by_cases hk0 : 0 < k
  · have d1 : decide ((0 : Int) < (k : Int)) = true := by simp only [decide_eq_true_eq]; omega
    have d1' : decide (0 < k) = true := by simp only [decide_eq_true_eq]; omega
    have d2 : decide (left < (x.body.size : Int)) = false := by simp only [decide_eq_false_iff_not]; omega
    have hge : 0 ≤ left - (x.body.size : Int) := by omega
    have hmx : max (left - (x.body.size : Int)) 0 = left - (x.body.size : Int) := by omega
    have Hmx := Lib.hid hmx
    clear hff hmx
    go_enter Try.func22, Try.ntmps22
    go_wp2_with fail
    go_ret
    exact ⟨rfl, Fin.out _ (by rw [Hmx.out])⟩
  · obtain rfl : k = 0 := by omega
    have hff2 : ¬ (0 : Int) = p := fun e => hff (.inl e)
    clear hff
    by_cases hsz : left < (x.body.size : Int)
    · have hmx : max (left - (x.body.size : Int)) 0 = 0 := by omega
      have hlt : left - (x.body.size : Int) < 0 := by omega
      have Hmx := Lib.hid hmx
      clear hmx
      go_enter Try.func22, Try.ntmps22
      go_wp2_with fail
      go_ret
      exact ⟨rfl, Fin.out _ (by rw [Hmx.out]; simp)⟩
    · have hge : 0 ≤ left - (x.body.size : Int) := by omega
      have hmx : max (left - (x.body.size : Int)) 0 = left - (x.body.size : Int) := by omega
      have Hmx := Lib.hid hmx
      clear hmx
      go_enter Try.func22, Try.ntmps22
      go_wp2_with fail
      go_ret
      exact ⟨rfl, Fin.out _ (by rw [Hmx.out]; simp)⟩

theorem three_new (w : World) (A B C : List Value) (t1 t2 t3 : TypeId) :
    Row ((((w.alloc (.cells A.toArray t1)).alloc (.cells B.toArray t2)).alloc (.cells C.toArray t3)).drew) w.heap.size t1 A ∧
    Row ((((w.alloc (.cells A.toArray t1)).alloc (.cells B.toArray t2)).alloc (.cells C.toArray t3)).drew) (w.heap.size + 1) t2 B ∧
    Row ((((w.alloc (.cells A.toArray t1)).alloc (.cells B.toArray t2)).alloc (.cells C.toArray t3)).drew) (w.heap.size + 1 + 1) t3 C ∧
    w.grownBy ((((w.alloc (.cells A.toArray t1)).alloc (.cells B.toArray t2)).alloc (.cells C.toArray t3)).drew) none := by
  have z1 : (w.alloc (.cells A.toArray t1)).heap.size = w.heap.size + 1 := by simp
  have z2 : ((w.alloc (.cells A.toArray t1)).alloc (.cells B.toArray t2)).heap.size = w.heap.size + 1 + 1 := by simp
  have r2 := Row.new (w.alloc (.cells A.toArray t1)) t2 B
  have r3 := Row.new ((w.alloc (.cells A.toArray t1)).alloc (.cells B.toArray t2)) t3 C
  rw [z1] at r2
  rw [z2] at r3
  exact ⟨(((Row.new w t1 A).kept (grownBy_alloc _ _ none) (by simp)).kept (grownBy_alloc _ _ none) (by simp)).kept (grownBy_drew _ none) (by simp),
    (r2.kept (grownBy_alloc _ _ none) (by simp)).kept (grownBy_drew _ none) (by simp), r3.kept (grownBy_drew _ none) (by simp),
    (((grownBy_alloc _ _ _).trans (grownBy_alloc _ _ _)).trans (grownBy_alloc _ _ _)).trans (grownBy_drew _ _)⟩
theorem fitting_any (r : Cut.Rules) (w : World) :
    Calls Try.prog 19 #[r.v] w fun e w' => ∃ bp br bl, e = .returned (.func (.func 22) #[] #[.pointer (some ⟨bp, 0, none⟩), .pointer (some ⟨br, 0, none⟩), .pointer (some ⟨bl, 0, none⟩)]) ∧
      Fitting w' bp br bl r 0 r.bytes ∧ w.heap.size ≤ bp ∧ w.heap.size ≤ bl ∧ w.grownBy w' none := by
  obtain ⟨p, b, a, l⟩ := r
  unfold Cut.Rules.v
  have hmf : ∀ (fn : Fn) (first cap : Array Value) (w : World), (Instr.makeFunc fn first cap).run Try.prog w = .ok (.func fn first cap) w := fun _ _ _ _ => rfl
  go_enter Try.func19, Try.ntmps19
  go_wp2_with fail
  go_region
  · go_wp2_with fail
    go_ret
    obtain ⟨h1, h2, h3, hg⟩ := three_new w [.int .i64 p, .int .i64 b, .int .i64 a, .int .i64 l] [.int .i64 0] [.int .i64 b] 24 3 3
    exact ⟨_, _, _, rfl, ⟨h2, h1, h3, by omega, by omega, by omega⟩, by omega, by omega, hg⟩
  · go_wp2_with fail
    go_ret
    obtain ⟨h1, h2, h3, hg⟩ := three_new w [.int .i64 p, .int .i64 b, .int .i64 a, .int .i64 l] [.int .i64 b] [.int .i64 0] 24 3 3
    exact ⟨_, _, _, rfl, ⟨h3, h1, h2, by omega, by omega, by omega⟩, by omega, by omega, hg⟩
end Go.Proofs.Ytncahgjmdeepeaa
