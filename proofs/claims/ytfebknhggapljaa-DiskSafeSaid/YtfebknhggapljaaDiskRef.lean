/- The reference of layer 9: files by rising names; where a name stands. -/
import Derived.Test.YtfebknhggapljaaDiskOps2
namespace Go.Proofs.Ytfebknhggapljaa
open Go.RowKit
set_option linter.unusedVariables false
set_option linter.unusedSimpArgs false

abbrev Sb (l : List UInt8) : Value := .string ⟨l.toArray⟩
/-- a file of the reference -/
structure Fl where
  name : List UInt8
  b : List UInt8
  safe : Int
namespace Fl
def cells (f : Fl) : List Value := [Sb f.name, Sb f.b, .int .i64 f.safe]
def flat (l : List Fl) : List Value := l.flatMap cells
def atFrom (nm : List UInt8) : Nat → List Fl → Int
  | _, [] => -1
  | k, f :: r => if f.name = nm then (k : Int) else atFrom nm (k + 1) r
/-- where a name stands -/
def at_ (l : List Fl) (nm : List UInt8) : Int := atFrom nm 0 l
/-- without a name -/
def drop (l : List Fl) (nm : List UInt8) : List Fl := l.filter fun f => decide (f.name ≠ nm)
theorem flat_at (l : List Fl) (i : Nat) (h : i < l.length) : (flat l)[i * 3]? = some (Sb (l[i]).name) ∧ (flat l)[i * 3 + 1]? = some (Sb (l[i]).b) ∧ (flat l)[i * 3 + 2]? = some (.int .i64 (l[i]).safe) := by
  induction l generalizing i with
  | nil => simp at h
  | cons f l ih =>
    have e : flat (f :: l) = [Sb f.name, Sb f.b, .int .i64 f.safe] ++ flat l := rfl
    rw [e]
    cases i with
    | zero => simp
    | succ i =>
      have h2 := ih i (by simpa using h)
      have e0 : (i + 1) * 3 = 3 + i * 3 := by omega
      rw [e0]
      rw [List.getElem?_append_right (by simp), List.getElem?_append_right (by simp; omega), List.getElem?_append_right (by simp; omega)]
      simp only [List.length_cons, List.length_nil, List.getElem_cons_succ]
      rw [show 3 + i * 3 - (0 + 1 + 1 + 1) = i * 3 by omega, show 3 + i * 3 + 1 - (0 + 1 + 1 + 1) = i * 3 + 1 by omega, show 3 + i * 3 + 2 - (0 + 1 + 1 + 1) = i * 3 + 2 by omega]
      exact h2
end Fl
/-- the files in memory -/
def FlsAt (W : World) (lo : Nat) (v : Value) (l : List Fl) : Prop := W.ownsRow lo 60 3 v l.length (Fl.flat l)
theorem FlsAt.form {W : World} {lo : Nat} {v : Value} {l : List Fl} (h : FlsAt W lo v l) : ∃ A c, v = .slice A l.length c := by
  rcases h.2 with ⟨rfl, h0⟩ | ⟨g, cap, cur, rfl, _⟩
  · exact ⟨none, 0, by rw [h0]⟩
  · exact ⟨_, cap, rfl⟩
theorem FlsAt.at {W : World} {lo : Nat} {A : Option Addr} {c : Nat} {l : List Fl} (h : FlsAt W lo (.slice A l.length c) l) (i : Nat) (hi : i < l.length) : ∃ b, A = some ⟨b, 0, none⟩ ∧ lo ≤ b ∧ b < W.heap.size ∧
    W.cell? ⟨b, i * 3, none⟩ = some (Sb (l[i]).name) ∧ W.cell? ⟨b, i * 3 + 1, none⟩ = some (Sb (l[i]).b) ∧ W.cell? ⟨b, i * 3 + 2, none⟩ = some (.int .i64 (l[i]).safe) := by
  have hlt := h.lt
  have hcs := fun g (hg : (Value.slice A l.length c).ownBlock = some g) => h.cells hg
  rcases h.2 with ⟨he, hx⟩ | ⟨g, cap, cur, he, _, hh, hnc, _⟩
  · injection he with h1 h2 h3
    omega
  · injection he with h1 h2 h3
    subst h1
    obtain ⟨f1, f2, f3⟩ := Fl.flat_at l i hi
    have e : ∀ j, (⟨g, 0, none⟩ : Addr).add j = ⟨g, j, none⟩ := fun j => by unfold Addr.add; split <;> simp_all
    have k1 := hcs g rfl (i * 3) _ f1
    have k2 := hcs g rfl (i * 3 + 1) _ f2
    have k3 := hcs g rfl (i * 3 + 2) _ f3
    rw [e] at k1 k2 k3
    exact ⟨g, rfl, (hlt g rfl).1, (hlt g rfl).2, k1, k2, k3⟩
set_option maxRecDepth 20000 in
set_option maxHeartbeats 800000 in
theorem at9_any {w : World} {g lo : Nat} {v : Value} {left : Int} {l : List Fl} (nm : List UInt8) (h : RkAt w g v left) (hf : FlsAt w lo v l) (hl : l.length ≤ 1000) :
    Calls Try.prog 35 #[.pointer (some ⟨g, 0, none⟩), Sb nm] w fun e w' => e = .returned (.int .i64 (Fl.at_ l nm)) ∧ w = w' := by
  obtain ⟨A, c, rfl⟩ := hf.form
  obtain ⟨R, hR⟩ : ∃ R, R = Fl.at_ l nm := ⟨_, rfl⟩
  rw [← hR]
  have HF := Lib.hid hf
  have c0 : w.cell? ⟨g, 0, none⟩ = some (.slice A l.length c) := Row.cell h 0 (by simp)
  obtain ⟨n, hn⟩ : ∃ n, n = l.length := ⟨_, rfl⟩
  rw [← hn] at c0 hl
  have HN := Lib.hid hn
  have HR := Lib.hid hR
  clear h hf hn hR
  go_enter Try.func35, Try.ntmps35
  go_wp2_with fail
  go_loopw [5] (fun i wr => ∃ k : Nat, k ≤ n ∧ i = .int .i64 k ∧ R = Fl.atFrom nm k (l.drop k) ∧ w = wr) (fun i _ => n - (intOf i).toNat)
  case atStart => exact ⟨0, Nat.zero_le _, rfl, by rw [HR.out, List.drop_zero]; rfl, by trivial⟩
  case round =>
    obtain ⟨k, hk, rfl, hRk, rfl⟩ := hrel
    have HRk := Lib.hid hRk
    clear hRk
    by_cases hkn : k < n
    · have hki : (k : Int) < (n : Int) := by omega
      have hkl : k < l.length := by rw [← HN.out]; exact hkn
      obtain ⟨b, rfl, _, _, c1, _, _⟩ := HF.out.at k hkl
      have hnx : R = if (l[k]).name = nm then (k : Int) else Fl.atFrom nm (k + 1) (l.drop (k + 1)) := by
        rw [HRk.out, List.drop_eq_getElem_cons hkl, Fl.atFrom]
      have Hnx := Lib.hid hnx
      generalize (l[k]).name = x at *
      clear hnx
      by_cases he : x = nm
      · have HRe : Hid (R = (k : Int)) := Lib.hid (by rw [Hnx.out, if_pos he])
        subst he
        go_wp2_with fail
        go_ret
        exact ⟨by rw [HRe.out]; rfl, rfl⟩
      · have HRe : Hid (R = Fl.atFrom nm (k + 1) (l.drop (k + 1))) := Lib.hid (by rw [Hnx.out, if_neg he])
        have heb : (x == nm) = false := by simpa using he
        clear Hnx
        go_wp2_with fail
        exact ⟨⟨k + 1, hkn, by go_num, HRe.out, by trivial⟩, by simp [intOf]; omega⟩
    · have hki : (n : Int) ≤ (k : Int) := by omega
      obtain rfl : k = n := by omega
      have HRe : Hid (R = -1) := Lib.hid (by rw [HRk.out, List.drop_of_length_le (by rw [← HN.out]; exact Nat.le_refl _), Fl.atFrom])
      go_wp2_with fail
      go_ret
      exact ⟨by rw [HRe.out]; rfl, rfl⟩
end Go.Proofs.Ytfebknhggapljaa
