/- Layer 10: what awake goes through, and the rest of the plain mathematics. -/
import Derived.Test.YtpphljdnnlfjhaaDoorJrKeep
namespace Go.Proofs.YtpphljdnnlfjhaaDoor
set_option linter.unusedVariables false
set_option linter.unusedSimpArgs false
namespace Jr
theorem add_up (o : Option (List UInt8 × Int)) (j : J) (s : List UInt8) (hj : j.broken = false) (hs : s.length ≤ 4096) (hb : (by_ o).length + s.length + 13 ≤ 1048576) : addR (St o none) (-1) j s = (St (some (by_ o ++ lay j.len s, sf o)) none, -1, ⟨j.len + 1, j.synced, false⟩, 0) := by
  have hl := lay_le j.len s
  have ha : appendR (St o none) (-1) nj (lay j.len s) = (St (some (by_ o ++ lay j.len s, sf o)) none, -1, 0) := by
    rw [append_j (by omega), if_neg (by omega)]; rfl
  unfold addR
  rw [if_neg (by rw [hj]; simp), if_neg (by omega), ha]
  simp
theorem sync_up (p : List UInt8 × Int) (j : J) (hj : j.broken = false) (h0 : j.len ≠ 0) : syncJ (St (some p) none) (-1) j = (St (some (p.1, (p.1.length : Int))) none, -1, ⟨j.len, j.len, false⟩, 0) := by
  unfold syncJ
  rw [if_neg (by rw [hj]; simp), if_neg h0, sync_j (by omega)]
  simp [oneR_up]
/-- the file behind two records that were synced, and one that was not -/
def X2 : List UInt8 := lays 0 [[97], [98]]
theorem X2_len : X2.length ≤ 28 := by
  have h := lay_le 0 [97]
  have h2 := lay_le (0 + 1) [98]
  simp only [X2, lays, List.length_append, List.length_cons, List.length_nil] at *
  omega
theorem lay_c : (lay 2 [99]).length = 7 := by
  rw [lay_len]
  have : (Oct.num ([99] : List UInt8).length).length = 2 := by decide
  rw [this]; rfl
theorem aw_open : (parse (by_ none)).1 = [] := rfl
theorem aw_1 : addR (St none none) (-1) ⟨0, 0, false⟩ [97] = (St (some (lay 0 [97], 0)) none, -1, ⟨1, 0, false⟩, 0) := by
  rw [add_up _ _ _ rfl (by simp) (by simp [by_])]; rfl
theorem aw_2 : addR (St (some (lay 0 [97], 0)) none) (-1) ⟨1, 0, false⟩ [98] = (St (some (X2, 0)) none, -1, ⟨2, 0, false⟩, 0) := by
  have h := lay_le 0 [97]
  have hx : X2 = lay 0 [97] ++ lay 1 [98] := by simp [X2, lays]
  rw [add_up _ _ _ rfl (by simp) (by simp [by_] at *; omega), hx]; rfl
theorem aw_3 : syncJ (St (some (X2, 0)) none) (-1) ⟨2, 0, false⟩ = (St (some (X2, (X2.length : Int))) none, -1, ⟨2, 2, false⟩, 0) := sync_up _ _ rfl (by simp)
theorem aw_4 : addR (St (some (X2, (X2.length : Int))) none) (-1) ⟨2, 2, false⟩ [99] = (St (some (X2 ++ lay 2 [99], (X2.length : Int))) none, -1, ⟨3, 2, false⟩, 0) := by
  have h := X2_len
  rw [add_up _ _ _ rfl (by simp) (by simp [by_]; omega)]; rfl
theorem aw_5 : Fl.crashL (St (some (X2 ++ lay 2 [99], (X2.length : Int))) none) [3] = St (some (X2 ++ (lay 2 [99]).take 3, (X2.length : Int) + 3)) none := by
  have h1 : Fl.crashL (St (some (X2 ++ lay 2 [99], (X2.length : Int))) none) [3] = St (some (cut (X2 ++ lay 2 [99], (X2.length : Int)) 3)) none := rfl
  have h2 : cut (X2 ++ lay 2 [99], (X2.length : Int)) 3 = (X2 ++ (lay 2 [99]).take 3, (X2.length : Int) + 3) := by
    have h3 : min (max (3 : Int) 0) (((X2 ++ lay 2 [99]).length : Int) - (X2.length : Int)) = 3 := by
      rw [List.length_append, lay_c]; omega
    unfold cut
    simp only [h3]
    rw [show ((X2.length : Int) + 3).toNat = X2.length + 3 by omega, List.take_append, List.take_of_length_le (by omega)]
    simp
  rw [h1, h2]
theorem aw_6 : (parse (by_ (some (X2 ++ (lay 2 [99]).take 3, (X2.length : Int) + 3)))).1 = [[97], [98]] := by
  show (parse (X2 ++ (lay 2 [99]).take 3)).1 = _
  have h := parse_lays [[97], [98]] ((lay 2 [99]).take 3) [99] 2 (by simp) (by simp) (List.take_prefix _ _) (by rw [List.length_take, lay_c]; omega)
  rw [show X2 = lays 0 [[97], [98]] from rfl, h]
theorem aw_7 : (by_ (some (X2 ++ (lay 2 [99]).take 3, (X2.length : Int) + 3))).length ≤ 1048576 := by
  have h := X2_len
  show (X2 ++ (lay 2 [99]).take 3).length ≤ _
  rw [List.length_append, List.length_take]; omega
/-- what has been read stays -/
theorem parseF_pre (s : List UInt8) : ∀ (f p : Nat) (acc : List (List UInt8)), acc <+: (parseF s f p acc).1 := by
  intro f
  induction f with
  | zero => intro p acc; exact List.prefix_rfl
  | succ f ih =>
    intro p acc
    unfold parseF
    rcases rd s p acc.length with _ | ⟨r, b⟩
    · exact List.prefix_rfl
    · exact (List.prefix_append acc [r]).trans (ih b (acc ++ [r]))
theorem Upto.pre {s : List UInt8} {p : Nat} {acc : List (List UInt8)} (h : Upto s p acc) : acc <+: (parse s).1 := by
  obtain ⟨_, f, _, h2⟩ := h
  rw [← h2]
  exact parseF_pre s f p acc
/-- records ahead of anything are read -/
theorem order_pre (L : List (List UInt8)) (x : List UInt8) (hL : ∀ r ∈ L, r.length ≤ 4096) : L <+: (parse (lays 0 L ++ x)).1 := by
  have h := Upto.all (s := lays 0 L ++ x) L hL [] x [] (by simp) (Upto.start _)
  simp only [List.nil_append, List.length_nil] at h
  exact h.pre
end Jr
end Go.Proofs.YtpphljdnnlfjhaaDoor
