/- runs.Unpack: the mathematics of its loop. -/
import Derived.Test.YtbbmmhhaabffiaaRunsMath
namespace Go.Proofs.Ytbbmmhhaabffiaa
set_option linter.unusedVariables false
set_option linter.unusedSimpArgs false

/-- how far unpacking has come: k bytes are read, bs is what they are -/
def Soon (l : List UInt8) (most k : Nat) (bs : List UInt8) : Prop :=
  k ≤ l.length ∧ bs.length ≤ most ∧ bs.length ≤ 65 * k ∧ Runs.front bs (Runs.what (l.drop k) (most - bs.length)) = Runs.what l most
theorem Soon.start (l : List UInt8) (most : Nat) : Soon l most 0 [] := ⟨Nat.zero_le _, Nat.zero_le _, Nat.zero_le _, by simp [Runs.front_nil]⟩
theorem Soon.stop {l : List UInt8} {most k : Nat} {bs : List UInt8} (h : Soon l most k bs) (hk : l.length ≤ k) : Runs.what l most = .ok bs := by
  obtain ⟨_, _, _, h4⟩ := h
  rw [← h4, List.drop_of_length_le hk, Runs.what_nil]
  simp [Runs.front]
section
variable {l : List UInt8} {most k : Nat} {bs : List UInt8} {c : UInt8} {r : List UInt8}
theorem Soon.len (h : Soon l most k bs) (hx : l.drop k = c :: r) : k + 1 + r.length = l.length := by
  have hl : (l.drop k).length = (c :: r).length := by rw [hx]
  rw [List.length_drop, List.length_cons] at hl
  have := h.1
  omega
theorem Soon.litShort (h : Soon l most k bs) (hx : l.drop k = c :: r) (hc : c.toNat < 128) (h1 : r.length < c.toNat + 1) : Runs.what l most = .error 5 := by
  rw [← h.2.2.2, hx, Runs.what_lit hc, if_pos h1]; rfl
theorem Soon.litBig (h : Soon l most k bs) (hx : l.drop k = c :: r) (hc : c.toNat < 128) (h1 : ¬ r.length < c.toNat + 1) (h2 : most - bs.length < c.toNat + 1) : Runs.what l most = .error 3 := by
  rw [← h.2.2.2, hx, Runs.what_lit hc, if_neg h1, if_pos h2]; rfl
theorem Soon.lit (h : Soon l most k bs) (hx : l.drop k = c :: r) (hc : c.toNat < 128) (h1 : ¬ r.length < c.toNat + 1) (h2 : ¬ most - bs.length < c.toNat + 1) :
    Soon l most (k + (c.toNat + 2)) (bs ++ (l.drop (k + 1)).take (c.toNat + 1)) := by
  have hl := h.len hx
  obtain ⟨h3, h4, h5, h6⟩ := h
  have hr : l.drop (k + 1) = r := by rw [← List.drop_drop, hx]; rfl
  have hr2 : l.drop (k + (c.toNat + 2)) = r.drop (c.toNat + 1) := by
    rw [← hr, List.drop_drop]; congr 1; omega
  have ht : (r.take (c.toNat + 1)).length = c.toNat + 1 := by rw [List.length_take]; omega
  rw [hr]
  refine ⟨by omega, by rw [List.length_append, ht]; omega, by rw [List.length_append, ht]; omega, ?_⟩
  rw [← h6, hx, Runs.what_lit hc, if_neg h1, if_neg h2, Runs.front_front, hr2, List.length_append, ht]
  congr 2
  omega
theorem Soon.runShort (h : Soon l most k bs) (hx : l.drop k = [c]) (hc : ¬ c.toNat < 128) : Runs.what l most = .error 5 := by
  rw [← h.2.2.2, hx, Runs.what_run_nil hc]; rfl
theorem Soon.runBig {x : UInt8} (h : Soon l most k bs) (hx : l.drop k = c :: x :: r) (hc : ¬ c.toNat < 128) (h2 : most - bs.length < c.toNat - 125) : Runs.what l most = .error 3 := by
  rw [← h.2.2.2, hx, Runs.what_run hc, if_pos h2]; rfl
theorem Soon.run {x : UInt8} (h : Soon l most k bs) (hx : l.drop k = c :: x :: r) (hc : ¬ c.toNat < 128) (h2 : ¬ most - bs.length < c.toNat - 125) :
    Soon l most (k + 2) (bs ++ List.replicate (c.toNat - 125) x) := by
  have hl := h.len hx
  rw [List.length_cons] at hl
  obtain ⟨h3, h4, h5, h6⟩ := h
  have hr2 : l.drop (k + 2) = r := by rw [← List.drop_drop, hx]; rfl
  have hlt := c.toNat_lt
  refine ⟨by omega, by rw [List.length_append, List.length_replicate]; omega, by rw [List.length_append, List.length_replicate]; omega, ?_⟩
  rw [← h6, hx, Runs.what_run hc, if_neg h2, Runs.front_front, hr2, List.length_append, List.length_replicate]
  rw [show most - (bs.length + (c.toNat - 125)) = most - bs.length - (c.toNat - 125) from by omega]
end
end Go.Proofs.Ytbbmmhhaabffiaa
