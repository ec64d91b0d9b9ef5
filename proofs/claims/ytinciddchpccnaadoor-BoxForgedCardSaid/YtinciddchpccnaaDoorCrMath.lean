/- What later texts need of the earlier layers. -/
import Derived.Test.YtinciddchpccnaaDoorBxO
import Derived.Test.YtinciddchpccnaaDoorWinMath
import Derived.Test.YtinciddchpccnaaDoorWinPack
import Derived.Test.YtinciddchpccnaaDoorWinUn
import Derived.Test.YtinciddchpccnaaDoorRunsMath
import Derived.Test.YtinciddchpccnaaDoorWinThere
set_option maxRecDepth 100000
/- ---- CrMath ---- -/
/- Layer 8: crates as plain functions of lists of bytes. -/
namespace Go.Proofs.YtinciddchpccnaaDoor
set_option linter.unusedVariables false
set_option linter.unusedSimpArgs false
namespace Cr
def shift (x : Nat) : Nat := if x % 2 = 0 then x / 2 else x / 2 ^^^ 3988292384
def shifts : Nat → Nat → Nat
  | 0, x => x
  | k + 1, x => shift (shifts k x)
def byte (x : Nat) (b : UInt8) : Nat := shifts 8 (x ^^^ b.toNat)
def regs (x : Nat) (l : List UInt8) : Nat := l.foldl byte x
def sum (l : List UInt8) : Nat := 4294967295 - regs 4294967295 l
def four (x : Nat) : List UInt8 := [UInt8.ofNat (x / 16777216 % 256), UInt8.ofNat (x / 65536 % 256), UInt8.ofNat (x / 256 % 256), UInt8.ofNat (x % 256)]
def head (w : Nat) (l : List UInt8) : List UInt8 := UInt8.ofNat w :: (Oct.num l.length ++ four (sum l))
def way (w : Nat) (l : List UInt8) : List UInt8 :=
  if w = 1 then Rn.Runs.pack l else if w = 2 then Win.pack l else if w = 3 then Win.pack (Rn.Runs.pack l) else l
def better (l : List UInt8) (w : Nat) (b : Nat × List UInt8) : Nat × List UInt8 := if (way w l).length < b.2.length then (w, way w l) else b
def choose (l : List UInt8) : Nat × List UInt8 := better l 3 (better l 2 (better l 1 (0, l)))
def pack (l : List UInt8) : List UInt8 := head (choose l).1 l ++ (choose l).2
def back (w : Nat) (l : List UInt8) (n : Int) : List UInt8 × Int :=
  if w = 1 then Rn.Runs.unpack l n else if w = 2 then Win.unpack l n else if w = 3 then
    (if (Win.unpack l 33068).2 ≠ 0 then ([], (Win.unpack l 33068).2) else Rn.Runs.unpack (Win.unpack l 33068).1 n) else (l, 0)
def opened (l : List UInt8) (most : Int) : List UInt8 × Int :=
  if most < 0 then ([], 2) else
  match l with
  | [] => ([], 5)
  | c :: r =>
    if 4 ≤ c.toNat then ([], 6) else
    if (Oct.rdNum l 1).2.2 ≠ 0 then ([], (Oct.rdNum l 1).2.2) else
    if most < (Oct.rdNum l 1).1 ∨ 32768 < (Oct.rdNum l 1).1 then ([], 3) else
    if (l.length : Int) - (Oct.rdNum l 1).2.1 < 4 then ([], 5) else
    if (back c.toNat (l.drop ((Oct.rdNum l 1).2.1 + 4).toNat) (Oct.rdNum l 1).1).2 ≠ 0 then ([], (back c.toNat (l.drop ((Oct.rdNum l 1).2.1 + 4).toNat) (Oct.rdNum l 1).1).2) else
    if ((back c.toNat (l.drop ((Oct.rdNum l 1).2.1 + 4).toNat) (Oct.rdNum l 1).1).1.length : Int) ≠ (Oct.rdNum l 1).1 then ([], 6) else
    if four (sum (back c.toNat (l.drop ((Oct.rdNum l 1).2.1 + 4).toNat) (Oct.rdNum l 1).1).1) ≠ (l.drop (Oct.rdNum l 1).2.1.toNat).take 4 then ([], 7) else
    ((back c.toNat (l.drop ((Oct.rdNum l 1).2.1 + 4).toNat) (Oct.rdNum l 1).1).1, 0)
theorem xor_lt {a b : Nat} (ha : a < 4294967296) (hb : b < 4294967296) : a ^^^ b < 4294967296 := Nat.xor_lt_two_pow (n := 32) ha hb
theorem shift_lt {x : Nat} (h : x < 4294967296) : shift x < 4294967296 := by
  unfold shift
  split
  · omega
  · exact xor_lt (by omega) (by omega)
theorem shifts_lt {x : Nat} (h : x < 4294967296) (k : Nat) : shifts k x < 4294967296 := by
  induction k with
  | zero => exact h
  | succ k ih => exact shift_lt ih
theorem byte_lt {x : Nat} (h : x < 4294967296) (b : UInt8) : byte x b < 4294967296 := shifts_lt (xor_lt h (by have := b.toNat_lt; omega)) 8
theorem regs_lt {x : Nat} (h : x < 4294967296) (l : List UInt8) : regs x l < 4294967296 := by
  induction l generalizing x with
  | nil => exact h
  | cons b r ih => exact ih (byte_lt h b)
theorem sum_lt (l : List UInt8) : sum l < 4294967296 := by unfold sum; omega
theorem regs_app (x : Nat) (a b : List UInt8) : regs x (a ++ b) = regs (regs x a) b := List.foldl_append
theorem four_len (x : Nat) : (four x).length = 4 := rfl
theorem opened_err (l : List UInt8) (most : Int) : (opened l most).2 = 0 ∨ (opened l most).1 = [] := by
  unfold opened
  split
  · exact .inr rfl
  · split
    · exact .inr rfl
    · repeat (split; · exact .inr rfl)
      exact .inl rfl
/-- what is opened is the bytes of what it holds -/
theorem opened_ok {l : List UInt8} {most : Int} (h : (opened l most).2 = 0) : ∃ (c : UInt8) (n : Nat) (p held : List UInt8), c.toNat < 4 ∧ n ≤ 32768 ∧ (n : Int) ≤ most ∧ l = c :: (Oct.num n ++ (four (sum held) ++ p)) ∧ back c.toNat p n = (held, 0) ∧ held.length = n ∧ (opened l most).1 = held := by
  unfold opened at h ⊢
  by_cases h0 : most < 0
  · rw [if_pos h0] at h; simp at h
  rw [if_neg h0] at h ⊢
  match l, h with
  | [], h => simp at h
  | c :: r, h =>
    simp only at h ⊢
    by_cases h1 : 4 ≤ c.toNat
    · rw [if_pos h1] at h; simp at h
    rw [if_neg h1] at h ⊢
    by_cases h2 : (Oct.rdNum (c :: r) 1).2.2 ≠ 0
    · rw [if_pos h2] at h; exact absurd h h2
    rw [if_neg h2] at h ⊢
    by_cases h3 : most < (Oct.rdNum (c :: r) 1).1 ∨ 32768 < (Oct.rdNum (c :: r) 1).1
    · rw [if_pos h3] at h; simp at h
    rw [if_neg h3] at h ⊢
    by_cases h4 : ((c :: r).length : Int) - (Oct.rdNum (c :: r) 1).2.1 < 4
    · rw [if_pos h4] at h; simp at h
    rw [if_neg h4] at h ⊢
    rcases hn : Oct.rdNum (c :: r) 1 with ⟨n, q, e⟩
    rw [hn] at h h2 h3 h4
    simp only at h h2 h3 h4 ⊢
    rcases Oct.rdNum_ok hn with hbad | ⟨he, hp, hn0, hn1, hq, hql, htk⟩
    · exact absurd hbad.1 (by simpa using h2)
    rcases hb : back c.toNat ((c :: r).drop (q + 4).toNat) n with ⟨held, e2⟩
    rw [hb] at h
    simp only at h ⊢
    by_cases h5 : e2 ≠ 0
    · rw [if_pos h5] at h; exact absurd h h5
    rw [if_neg h5] at h ⊢
    by_cases h6 : (held.length : Int) ≠ n
    · rw [if_pos h6] at h; simp at h
    rw [if_neg h6] at h ⊢
    by_cases h7 : four (sum held) ≠ ((c :: r).drop q.toNat).take 4
    · rw [if_pos h7] at h; simp at h
    rw [if_neg h7]
    have h5' : e2 = 0 := by simpa using h5
    have h6' : (held.length : Int) = n := by simpa using h6
    have h7' : four (sum held) = ((c :: r).drop q.toNat).take 4 := by simpa using h7
    refine ⟨c, n.toNat, (c :: r).drop (q + 4).toNat, held, by omega, by omega, by omega, ?_, ?_, by omega, rfl⟩
    · rw [h7', ← htk]
      have e1 : (q + 4).toNat = q.toNat + 4 := by omega
      rw [e1, ← List.drop_drop, List.take_append_drop]
      obtain ⟨k, hk⟩ : ∃ k, q.toNat = k + 1 := ⟨q.toNat - 1, by omega⟩
      have e2 : (q - 1).toNat = k := by omega
      rw [hk, e2]
      simp
    · rw [show ((n.toNat : Nat) : Int) = n by omega, hb, h5']
theorem way_back {w : Nat} {l : List UInt8} (hw : w < 4) (hl : l.length ≤ 32768) : back w (way w l) (l.length : Int) = (l, 0) := by
  have hr := Rn.Runs.unpack_pack l
  unfold back way
  match w, hw with
  | 0, _ => simp
  | 1, _ => simpa using hr
  | 2, _ =>
    have := Win.unpack_pack l l.length (Nat.le_refl _)
    simpa using this
  | 3, _ =>
    have hlit : (Rn.Runs.pack l).length ≤ l.length + (l.length + 127) / 128 := Rn.Runs.pack_little l.length l (Nat.le_refl _)
    have h3 := Win.unpack_pack (Rn.Runs.pack l) 33068 (by omega)
    have h3' : Win.unpack (Win.pack (Rn.Runs.pack l)) 33068 = (Rn.Runs.pack l, 0) := h3
    simp [h3', hr]
theorem opened_way {w : Nat} {l : List UInt8} (hw : w < 4) (hl : l.length ≤ 32768) (most : Nat) : opened (head w l ++ way w l) (most : Int) = if most < l.length then ([], 3) else (l, 0) := by
  have hn := Oct.rdNum_num [UInt8.ofNat w] (four (sum l) ++ way w l) l.length (by omega)
  have e1 : [UInt8.ofNat w] ++ Oct.num l.length ++ (four (sum l) ++ way w l) = head w l ++ way w l := by unfold head; simp
  rw [e1] at hn
  have hc : (UInt8.ofNat w).toNat = w := by rw [UInt8.toNat_ofNat']; omega
  have hlen : (head w l ++ way w l).length = 1 + (Oct.num l.length).length + 4 + (way w l).length := by
    unfold head; simp only [List.length_append, List.length_cons, four_len]; omega
  have hcons : head w l ++ way w l = UInt8.ofNat w :: (Oct.num l.length ++ four (sum l) ++ way w l) := by unfold head; simp
  have h1 : ([UInt8.ofNat w] : List UInt8).length = 1 := rfl
  rw [h1, show (((1 : Nat) : Int)) = 1 from rfl] at hn
  have hd1 : (head w l ++ way w l).drop (1 + (Oct.num l.length).length + 4) = way w l := by
    have : (head w l).length = 1 + (Oct.num l.length).length + 4 := by unfold head; simp only [List.length_append, List.length_cons, four_len]; omega
    rw [← this, List.drop_left]
  have hd2 : ((head w l ++ way w l).drop (1 + (Oct.num l.length).length)).take 4 = four (sum l) := by
    rw [← e1]
    have : ([UInt8.ofNat w] ++ Oct.num l.length).length = 1 + (Oct.num l.length).length := by simp; omega
    rw [← this, List.drop_left, List.take_append_of_le_length (by rw [four_len]; omega), List.take_of_length_le (by rw [four_len]; omega)]
  unfold opened
  rw [if_neg (by omega)]
  generalize hL : head w l ++ way w l = L at *
  match L, hcons with
  | _ :: _, rfl =>
    simp only
    rw [hn]
    simp only
    have z1 : (((1 + (Oct.num l.length).length : Nat) : Int) + 4).toNat = 1 + (Oct.num l.length).length + 4 := by omega
    have z2 : (((1 + (Oct.num l.length).length : Nat) : Int)).toNat = 1 + (Oct.num l.length).length := by omega
    rw [z1, z2, hd1, hd2, hc, if_neg (by omega), if_neg (by omega)]
    by_cases hm : most < l.length
    · rw [if_pos (.inl (by omega)), if_pos hm]
    · rw [if_neg (by omega), if_neg hm, if_neg (by rw [hlen]; omega), way_back hw hl, if_neg (by simp), if_neg (by simp), if_neg (by simp)]
theorem choose_way (l : List UInt8) : (choose l).2 = way (choose l).1 l ∧ (choose l).1 < 4 ∧ (choose l).2.length ≤ l.length := by
  have step : ∀ (w : Nat) (b : Nat × List UInt8), w < 4 → b.2 = way b.1 l ∧ b.1 < 4 ∧ b.2.length ≤ l.length → (better l w b).2 = way (better l w b).1 l ∧ (better l w b).1 < 4 ∧ (better l w b).2.length ≤ l.length := by
    intro w b hw hb
    unfold better
    split
    · rename_i h
      exact ⟨rfl, hw, by show (way w l).length ≤ _; omega⟩
    · exact hb
  exact step 3 _ (by omega) (step 2 _ (by omega) (step 1 _ (by omega) ⟨rfl, by simp, Nat.le_refl _⟩))
theorem opened_pack {l : List UInt8} (hl : l.length ≤ 32768) (most : Nat) : opened (pack l) (most : Int) = if most < l.length then ([], 3) else (l, 0) := by
  obtain ⟨h1, h2, h3⟩ := choose_way l
  unfold pack
  rw [h1]
  exact opened_way h2 hl most
end Cr
end Go.Proofs.YtinciddchpccnaaDoor
