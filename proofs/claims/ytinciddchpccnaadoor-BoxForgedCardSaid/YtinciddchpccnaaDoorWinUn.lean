/- What later texts need of the earlier layers. -/
import Derived.Test.YtinciddchpccnaaDoorWinMath
import Derived.Test.YtinciddchpccnaaDoorWinPack
set_option maxRecDepth 100000
/- ---- WinUn ---- -/
/- Layer 7: what unpacking answers, as a plain function; what was packed is unpacked as it was. -/
namespace Go.Proofs.YtinciddchpccnaaDoor
set_option linter.unusedVariables false
set_option linter.unusedSimpArgs false
namespace Win
/-- bytes that stand d back, one by one behind all -/
def again (K : List UInt8) (d : Nat) : Nat → List UInt8
  | 0 => K
  | n + 1 => again K d n ++ ((again K d n).drop ((again K d n).length - d)).take 1
theorem again_succ (K : List UInt8) (d n : Nat) : again K d (n + 1) = again K d n ++ ((again K d n).drop ((again K d n).length - d)).take 1 := rfl
theorem again_len {K : List UInt8} {d : Nat} (h1 : 1 ≤ d) (h2 : d ≤ K.length) (n : Nat) : (again K d n).length = K.length + n := by
  induction n with
  | zero => rfl
  | succ n ih => rw [again_succ, List.length_append, List.length_take, List.length_drop, ih]; omega
def whatF : Nat → List UInt8 → List UInt8 → Nat → Except Int (List UInt8)
  | 0, _, K, _ => .ok K
  | _ + 1, [], K, _ => .ok K
  | f + 1, c :: r, K, room =>
    if c.toNat = 255 then .error 6 else
    if c.toNat < 128 then
      if r.length < c.toNat + 1 then .error 5 else
      if room < c.toNat + 1 then .error 3 else whatF f (r.drop (c.toNat + 1)) (K ++ r.take (c.toNat + 1)) (room - (c.toNat + 1))
    else match r with
      | x :: y :: r' =>
        if 32768 < x.toNat * 256 + y.toNat + 1 ∨ K.length < x.toNat * 256 + y.toNat + 1 then .error 6 else
        if room < c.toNat - 124 then .error 3 else whatF f r' (again K (x.toNat * 256 + y.toNat + 1) (c.toNat - 124)) (room - (c.toNat - 124))
      | _ => .error 5
def what (l : List UInt8) (most : Nat) : Except Int (List UInt8) := whatF l.length l static most
def unpack (l : List UInt8) (most : Int) : List UInt8 × Int :=
  if most < 0 then ([], 2) else
    match what l most.toNat with
    | .error e => ([], e)
    | .ok K => (K.drop 68, 0)
section
variable {f : Nat} {c x y : UInt8} {r K : List UInt8} {room : Nat}
theorem whatF_255 (h : c.toNat = 255) : whatF (f + 1) (c :: r) K room = .error 6 := by
  unfold whatF; rw [if_pos h]
theorem whatF_lit (hc : c.toNat < 128) : whatF (f + 1) (c :: r) K room =
    if r.length < c.toNat + 1 then .error 5 else
      if room < c.toNat + 1 then .error 3 else whatF f (r.drop (c.toNat + 1)) (K ++ r.take (c.toNat + 1)) (room - (c.toNat + 1)) := by
  conv => lhs; unfold whatF
  rw [if_neg (by omega), if_pos hc]
theorem whatF_short (hc : ¬ c.toNat < 128) (h : c.toNat ≠ 255) (hr : r.length < 2) : whatF (f + 1) (c :: r) K room = .error 5 := by
  conv => lhs; unfold whatF
  rw [if_neg h, if_neg hc]
  match r, hr with
  | [], _ => rfl
  | [_], _ => rfl
theorem whatF_mat (hc : ¬ c.toNat < 128) (h : c.toNat ≠ 255) : whatF (f + 1) (c :: x :: y :: r) K room =
    if 32768 < x.toNat * 256 + y.toNat + 1 ∨ K.length < x.toNat * 256 + y.toNat + 1 then .error 6 else
        if room < c.toNat - 124 then .error 3 else whatF f r (again K (x.toNat * 256 + y.toNat + 1) (c.toNat - 124)) (room - (c.toNat - 124)) := by
  conv => lhs; unfold whatF
  rw [if_neg h, if_neg hc]
end
theorem whatF_nil (f : Nat) (K : List UInt8) (room : Nat) : whatF f [] K room = .ok K := by cases f <;> rfl
/-- how far unpacking has come: k bytes are read, K is known -/
def Soon (l : List UInt8) (most k : Nat) (K : List UInt8) : Prop :=
  k ≤ l.length ∧ 68 ≤ K.length ∧ K.length - 68 ≤ most ∧ K.length ≤ 68 + 44 * k ∧ ∃ f, (l.drop k).length ≤ f ∧ whatF f (l.drop k) K (most - (K.length - 68)) = what l most
theorem Soon.start (l : List UInt8) (most : Nat) : Soon l most 0 static := ⟨Nat.zero_le _, Nat.le_refl _, by rw [static_len]; omega, Nat.le_refl _, l.length, by simp, by rw [static_len]; rfl⟩
section
variable {l : List UInt8} {most k : Nat} {K : List UInt8} {c : UInt8} {r : List UInt8}
theorem Soon.stop (h : Soon l most k K) (hk : l.length ≤ k) : what l most = .ok K := by
  obtain ⟨_, _, _, _, f, _, h4⟩ := h
  rw [← h4, List.drop_of_length_le hk, whatF_nil]
theorem Soon.len (h : Soon l most k K) (hx : l.drop k = c :: r) : k + 1 + r.length = l.length := by
  have hl : (l.drop k).length = (c :: r).length := by rw [hx]
  rw [List.length_drop, List.length_cons] at hl
  have := h.1
  omega
theorem Soon.out (h : Soon l most k K) (hx : l.drop k = c :: r) : ∃ f, r.length ≤ f ∧ whatF (f + 1) (c :: r) K (most - (K.length - 68)) = what l most := by
  obtain ⟨_, _, _, _, f, h3, h4⟩ := h
  rw [hx] at h3 h4
  cases f with
  | zero => simp at h3
  | succ f => exact ⟨f, by simpa using h3, h4⟩
theorem Soon.none_ (h : Soon l most k K) (hx : l.drop k = c :: r) (hc : c.toNat = 255) : what l most = .error 6 := by
  obtain ⟨f, _, h4⟩ := h.out hx
  rw [← h4, whatF_255 hc]
theorem Soon.litShort (h : Soon l most k K) (hx : l.drop k = c :: r) (hc : c.toNat < 128) (h1 : r.length < c.toNat + 1) : what l most = .error 5 := by
  obtain ⟨f, _, h4⟩ := h.out hx
  rw [← h4, whatF_lit hc, if_pos h1]
theorem Soon.litBig (h : Soon l most k K) (hx : l.drop k = c :: r) (hc : c.toNat < 128) (h1 : ¬ r.length < c.toNat + 1) (h2 : most - (K.length - 68) < c.toNat + 1) : what l most = .error 3 := by
  obtain ⟨f, _, h4⟩ := h.out hx
  rw [← h4, whatF_lit hc, if_neg h1, if_pos h2]
theorem Soon.lit (h : Soon l most k K) (hx : l.drop k = c :: r) (hc : c.toNat < 128) (h1 : ¬ r.length < c.toNat + 1) (h2 : ¬ most - (K.length - 68) < c.toNat + 1) :
    Soon l most (k + (c.toNat + 2)) (K ++ (l.drop (k + 1)).take (c.toNat + 1)) := by
  have hl := h.len hx
  obtain ⟨f, h3, h4⟩ := h.out hx
  have hr : l.drop (k + 1) = r := by rw [← List.drop_drop, hx]; rfl
  have hr2 : l.drop (k + (c.toNat + 2)) = r.drop (c.toNat + 1) := by
    rw [← hr, List.drop_drop]; congr 1; omega
  have ht : (r.take (c.toNat + 1)).length = c.toNat + 1 := by rw [List.length_take]; omega
  obtain ⟨a1, a2, a3, a4, _⟩ := h
  rw [hr]
  refine ⟨by omega, by rw [List.length_append]; omega, by rw [List.length_append, ht]; omega, by rw [List.length_append, ht]; omega, f, by rw [hr2, List.length_drop]; omega, ?_⟩
  rw [← h4, whatF_lit hc, if_neg h1, if_neg h2, hr2, List.length_append, ht]
  congr 1
  omega
theorem Soon.matShort (h : Soon l most k K) (hx : l.drop k = c :: r) (hc : ¬ c.toNat < 128) (h5 : c.toNat ≠ 255) (h1 : r.length < 2) : what l most = .error 5 := by
  obtain ⟨f, _, h4⟩ := h.out hx
  rw [← h4, whatF_short hc h5 h1]
variable {x y : UInt8}
theorem Soon.matForm (h : Soon l most k K) (hx : l.drop k = c :: x :: y :: r) (hc : ¬ c.toNat < 128) (h5 : c.toNat ≠ 255) (h1 : 32768 < x.toNat * 256 + y.toNat + 1 ∨ K.length < x.toNat * 256 + y.toNat + 1) : what l most = .error 6 := by
  obtain ⟨f, _, h4⟩ := h.out hx
  rw [← h4, whatF_mat hc h5, if_pos h1]
theorem Soon.matBig (h : Soon l most k K) (hx : l.drop k = c :: x :: y :: r) (hc : ¬ c.toNat < 128) (h5 : c.toNat ≠ 255) (h1 : ¬ (32768 < x.toNat * 256 + y.toNat + 1 ∨ K.length < x.toNat * 256 + y.toNat + 1))
    (h2 : most - (K.length - 68) < c.toNat - 124) : what l most = .error 3 := by
  obtain ⟨f, _, h4⟩ := h.out hx
  rw [← h4, whatF_mat hc h5, if_neg h1, if_pos h2]
theorem Soon.mat (h : Soon l most k K) (hx : l.drop k = c :: x :: y :: r) (hc : ¬ c.toNat < 128) (h5 : c.toNat ≠ 255) (h1 : ¬ (32768 < x.toNat * 256 + y.toNat + 1 ∨ K.length < x.toNat * 256 + y.toNat + 1))
    (h2 : ¬ most - (K.length - 68) < c.toNat - 124) : Soon l most (k + 3) (again K (x.toNat * 256 + y.toNat + 1) (c.toNat - 124)) := by
  have hl := h.len hx
  obtain ⟨f, h3, h4⟩ := h.out hx
  have hlt := c.toNat_lt
  simp only [List.length_cons] at hl h3
  have hr2 : l.drop (k + 3) = r := by rw [← List.drop_drop, hx]; rfl
  have ht := again_len (K := K) (d := x.toNat * 256 + y.toNat + 1) (by omega) (by omega) (c.toNat - 124)
  obtain ⟨a1, a2, a3, a4, _⟩ := h
  refine ⟨by omega, by omega, by omega, by omega, f, by rw [hr2]; omega, ?_⟩
  have e : most - (K.length + (c.toNat - 124) - 68) = most - (K.length - 68) - (c.toNat - 124) := by omega
  rw [← h4, whatF_mat hc h5, if_neg h1, if_neg h2, hr2, ht, e]
end
theorem unpack_eq (l : List UInt8) (most : Int) : unpack l most = if most < 0 then ([], 2) else match what l most.toNat with | .error e => ([], e) | .ok K => (K.drop 68, 0) := rfl
end Win
end Go.Proofs.YtinciddchpccnaaDoor
