/- Layer 8: crates as plain functions of lists of bytes. -/
import Derived.Test.YtmcdanodacbpbaaOctMath
import Derived.Test.YtmcdanodacbpbaaRunsMath
import Derived.Test.YtmcdanodacbpbaaWinThere
namespace Go.Proofs.Ytmcdanodacbpbaa
set_option linter.unusedVariables false
set_option linter.unusedSimpArgs false
namespace Cr
def shift (x : Nat) : Nat := if x % 2 = 0 then x / 2 else x / 2 ^^^ 3988292384
def shifts : Nat → Nat → Nat
  | 0, x => x
  | k + 1, x => shift (shifts k x)
def byte (x : Nat) (b : UInt8) : Nat := shifts 8 (x ^^^ b.toNat)
def regs (x : Nat) (l : List UInt8) : Nat := l.foldl byte x
def sum (l : List UInt8) : Nat := 4294967295 - regs 4294967295 l
def four (x : Nat) : List UInt8 := [UInt8.ofNat (x / 16777216 % 256), UInt8.ofNat (x / 65536 % 256), UInt8.ofNat (x / 256 % 256), UInt8.ofNat (x % 256)]
def head (w : Nat) (l : List UInt8) : List UInt8 := UInt8.ofNat w :: (Oct.num l.length ++ four (sum l))
def way (w : Nat) (l : List UInt8) : List UInt8 :=
  if w = 1 then Rn.Runs.pack l else if w = 2 then Win.pack l else if w = 3 then Win.pack (Rn.Runs.pack l) else l
def better (l : List UInt8) (w : Nat) (b : Nat × List UInt8) : Nat × List UInt8 := if (way w l).length < b.2.length then (w, way w l) else b
def choose (l : List UInt8) : Nat × List UInt8 := better l 3 (better l 2 (better l 1 (0, l)))
def pack (l : List UInt8) : List UInt8 := head (choose l).1 l ++ (choose l).2
def back (w : Nat) (l : List UInt8) (n : Int) : List UInt8 × Int :=
  if w = 1 then Rn.Runs.unpack l n else if w = 2 then Win.unpack l n else if w = 3 then
    (if (Win.unpack l 33068).2 ≠ 0 then ([], (Win.unpack l 33068).2) else Rn.Runs.unpack (Win.unpack l 33068).1 n) else (l, 0)
def opened (l : List UInt8) (most : Int) : List UInt8 × Int :=
  if most < 0 then ([], 2) else
  match l with
  | [] => ([], 5)
  | c :: r =>
    if 4 ≤ c.toNat then ([], 6) else
    if (Oct.rdNum l 1).2.2 ≠ 0 then ([], (Oct.rdNum l 1).2.2) else
    if most < (Oct.rdNum l 1).1 ∨ 32768 < (Oct.rdNum l 1).1 then ([], 3) else
    if (l.length : Int) - (Oct.rdNum l 1).2.1 < 4 then ([], 5) else
    if (back c.toNat (l.drop ((Oct.rdNum l 1).2.1 + 4).toNat) (Oct.rdNum l 1).1).2 ≠ 0 then ([], (back c.toNat (l.drop ((Oct.rdNum l 1).2.1 + 4).toNat) (Oct.rdNum l 1).1).2) else
    if ((back c.toNat (l.drop ((Oct.rdNum l 1).2.1 + 4).toNat) (Oct.rdNum l 1).1).1.length : Int) ≠ (Oct.rdNum l 1).1 then ([], 6) else
    if four (sum (back c.toNat (l.drop ((Oct.rdNum l 1).2.1 + 4).toNat) (Oct.rdNum l 1).1).1) ≠ (l.drop (Oct.rdNum l 1).2.1.toNat).take 4 then ([], 7) else
    ((back c.toNat (l.drop ((Oct.rdNum l 1).2.1 + 4).toNat) (Oct.rdNum l 1).1).1, 0)

theorem xor_lt {a b : Nat} (ha : a < 4294967296) (hb : b < 4294967296) : a ^^^ b < 4294967296 := Nat.xor_lt_two_pow (n := 32) ha hb
theorem shift_lt {x : Nat} (h : x < 4294967296) : shift x < 4294967296 := by
  unfold shift
  split
  · omega
  · exact xor_lt (by omega) (by omega)
theorem shifts_lt {x : Nat} (h : x < 4294967296) (k : Nat) : shifts k x < 4294967296 := by
  induction k with
  | zero => exact h
  | succ k ih => exact shift_lt ih
theorem byte_lt {x : Nat} (h : x < 4294967296) (b : UInt8) : byte x b < 4294967296 := shifts_lt (xor_lt h (by have := b.toNat_lt; omega)) 8
theorem regs_lt {x : Nat} (h : x < 4294967296) (l : List UInt8) : regs x l < 4294967296 := by
  induction l generalizing x with
  | nil => exact h
  | cons b r ih => exact ih (byte_lt h b)
theorem sum_lt (l : List UInt8) : sum l < 4294967296 := by unfold sum; omega
theorem xor_cancel {a b t : Nat} (h : a ^^^ t = b ^^^ t) : a = b := by
  have h2 := congrArg (· ^^^ t) h
  simpa [Nat.xor_assoc] using h2
theorem half_ne {x y : Nat} (hx : x < 4294967296) (hy : y < 4294967296) : x / 2 ≠ y / 2 ^^^ 3988292384 := by
  intro h
  have h2 := congrArg (fun n : Nat => n.testBit 31) h
  simp only [Nat.testBit_xor] at h2
  have e1 : (x / 2).testBit 31 = false := Nat.testBit_lt_two_pow (by omega)
  have e2 : (y / 2).testBit 31 = false := Nat.testBit_lt_two_pow (by omega)
  have e3 : Nat.testBit 3988292384 31 = true := by decide
  rw [e1, e2, e3] at h2
  cases h2
theorem shift_inj {x y : Nat} (hx : x < 4294967296) (hy : y < 4294967296) (h : shift x = shift y) : x = y := by
  unfold shift at h
  by_cases h1 : x % 2 = 0 <;> by_cases h2 : y % 2 = 0
  · rw [if_pos h1, if_pos h2] at h; omega
  · rw [if_pos h1, if_neg h2] at h; exact absurd h (half_ne hx hy)
  · rw [if_neg h1, if_pos h2] at h; exact absurd h.symm (half_ne hy hx)
  · rw [if_neg h1, if_neg h2] at h
    have := xor_cancel h
    omega
theorem shifts_inj {x y : Nat} (hx : x < 4294967296) (hy : y < 4294967296) (k : Nat) (h : shifts k x = shifts k y) : x = y := by
  induction k with
  | zero => exact h
  | succ k ih => exact ih (shift_inj (shifts_lt hx k) (shifts_lt hy k) h)
theorem byte_inj {x y : Nat} (hx : x < 4294967296) (hy : y < 4294967296) (b : UInt8) (h : byte x b = byte y b) : x = y := by
  have hb := b.toNat_lt
  exact xor_cancel (shifts_inj (xor_lt hx (by omega)) (xor_lt hy (by omega)) 8 h)
theorem byte_ne {x : Nat} (hx : x < 4294967296) {b c : UInt8} (h : byte x b = byte x c) : b = c := by
  have hb := b.toNat_lt
  have hc := c.toNat_lt
  have := shifts_inj (xor_lt hx (by omega)) (xor_lt hx (by omega)) 8 h
  rw [Nat.xor_comm x, Nat.xor_comm x] at this
  exact UInt8.toNat_inj.1 (xor_cancel this)
theorem regs_inj {x y : Nat} (hx : x < 4294967296) (hy : y < 4294967296) (l : List UInt8) (h : regs x l = regs y l) : x = y := by
  induction l generalizing x y with
  | nil => exact h
  | cons b r ih => exact byte_inj hx hy b (ih (byte_lt hx b) (byte_lt hy b) h)
theorem regs_app (x : Nat) (a b : List UInt8) : regs x (a ++ b) = regs (regs x a) b := List.foldl_append
/-- one byte turned turns the sum -/
theorem sum_turned (a c : List UInt8) {b b' : UInt8} (h : b ≠ b') : sum (a ++ b :: c) ≠ sum (a ++ b' :: c) := by
  intro e
  have l1 := regs_lt (x := 4294967295) (by omega) (a ++ b :: c)
  have l2 := regs_lt (x := 4294967295) (by omega) (a ++ b' :: c)
  have la := regs_lt (x := 4294967295) (by omega) a
  unfold sum at e
  have e2 : regs 4294967295 (a ++ b :: c) = regs 4294967295 (a ++ b' :: c) := by omega
  rw [regs_app, regs_app] at e2
  exact h (byte_ne la (regs_inj (byte_lt la b) (byte_lt la b') c e2))
theorem four_inj {x y : Nat} (hx : x < 4294967296) (hy : y < 4294967296) (h : four x = four y) : x = y := by
  unfold four at h
  simp only [List.cons.injEq, and_true] at h
  obtain ⟨h1, h2, h3, h4⟩ := h
  have g1 := congrArg UInt8.toNat h1
  have g2 := congrArg UInt8.toNat h2
  have g3 := congrArg UInt8.toNat h3
  have g4 := congrArg UInt8.toNat h4
  simp only [UInt8.toNat_ofNat'] at g1 g2 g3 g4
  omega
theorem four_len (x : Nat) : (four x).length = 4 := rfl
theorem bigs_mono (f : Nat) : ∀ {n m : Nat}, n ≤ m → (Oct.bigs f n).length ≤ (Oct.bigs f m).length := by
  induction f with
  | zero => intro n m h; exact Nat.le_refl _
  | succ f ih =>
    intro n m h
    unfold Oct.bigs
    by_cases hn : n = 0
    · rw [if_pos hn]; simp
    · rw [if_neg hn, if_neg (by omega), List.length_append, List.length_append]
      have := ih (show n / 256 ≤ m / 256 by omega)
      simp only [List.length_singleton]
      omega
theorem num_mono {n m : Nat} (h : n ≤ m) : (Oct.num n).length ≤ (Oct.num m).length := by
  rw [Oct.num_length, Oct.num_length]
  have := bigs_mono 8 h
  omega
theorem opened_err (l : List UInt8) (most : Int) : (opened l most).2 = 0 ∨ (opened l most).1 = [] := by
  unfold opened
  split
  · exact .inr rfl
  · split
    · exact .inr rfl
    · repeat (split; · exact .inr rfl)
      exact .inl rfl
/-- what is opened is the bytes of what it holds -/
theorem opened_ok {l : List UInt8} {most : Int} (h : (opened l most).2 = 0) : ∃ (c : UInt8) (n : Nat) (p held : List UInt8), c.toNat < 4 ∧ n ≤ 32768 ∧ (n : Int) ≤ most ∧ l = c :: (Oct.num n ++ (four (sum held) ++ p)) ∧ back c.toNat p n = (held, 0) ∧ held.length = n ∧ (opened l most).1 = held := by
  unfold opened at h ⊢
  by_cases h0 : most < 0
  · rw [if_pos h0] at h; simp at h
  rw [if_neg h0] at h ⊢
  match l, h with
  | [], h => simp at h
  | c :: r, h =>
    simp only at h ⊢
    by_cases h1 : 4 ≤ c.toNat
    · rw [if_pos h1] at h; simp at h
    rw [if_neg h1] at h ⊢
    by_cases h2 : (Oct.rdNum (c :: r) 1).2.2 ≠ 0
    · rw [if_pos h2] at h; exact absurd h h2
    rw [if_neg h2] at h ⊢
    by_cases h3 : most < (Oct.rdNum (c :: r) 1).1 ∨ 32768 < (Oct.rdNum (c :: r) 1).1
    · rw [if_pos h3] at h; simp at h
    rw [if_neg h3] at h ⊢
    by_cases h4 : ((c :: r).length : Int) - (Oct.rdNum (c :: r) 1).2.1 < 4
    · rw [if_pos h4] at h; simp at h
    rw [if_neg h4] at h ⊢
    rcases hn : Oct.rdNum (c :: r) 1 with ⟨n, q, e⟩
    rw [hn] at h h2 h3 h4
    simp only at h h2 h3 h4 ⊢
    rcases Oct.rdNum_ok hn with hbad | ⟨he, hp, hn0, hn1, hq, hql, htk⟩
    · exact absurd hbad.1 (by simpa using h2)
    rcases hb : back c.toNat ((c :: r).drop (q + 4).toNat) n with ⟨held, e2⟩
    rw [hb] at h
    simp only at h ⊢
    by_cases h5 : e2 ≠ 0
    · rw [if_pos h5] at h; exact absurd h h5
    rw [if_neg h5] at h ⊢
    by_cases h6 : (held.length : Int) ≠ n
    · rw [if_pos h6] at h; simp at h
    rw [if_neg h6] at h ⊢
    by_cases h7 : four (sum held) ≠ ((c :: r).drop q.toNat).take 4
    · rw [if_pos h7] at h; simp at h
    rw [if_neg h7]
    have h5' : e2 = 0 := by simpa using h5
    have h6' : (held.length : Int) = n := by simpa using h6
    have h7' : four (sum held) = ((c :: r).drop q.toNat).take 4 := by simpa using h7
    refine ⟨c, n.toNat, (c :: r).drop (q + 4).toNat, held, by omega, by omega, by omega, ?_, ?_, by omega, rfl⟩
    · rw [h7', ← htk]
      have e1 : (q + 4).toNat = q.toNat + 4 := by omega
      rw [e1, ← List.drop_drop, List.take_append_drop]
      obtain ⟨k, hk⟩ : ∃ k, q.toNat = k + 1 := ⟨q.toNat - 1, by omega⟩
      have e2 : (q - 1).toNat = k := by omega
      rw [hk, e2]
      simp
    · rw [show ((n.toNat : Nat) : Int) = n by omega, hb, h5']
theorem packed_len {w : Nat} {l : List UInt8} (hw : w < 4) (h : (way w l).length ≤ l.length) (hl : l.length ≤ 32768) : (head w l ++ way w l).length ≤ l.length + 8 := by
  have hb : (Oct.bigs 8 l.length).length ≤ 2 := by
    have := bigs_mono 8 hl
    have e : (Oct.bigs 8 32768).length = 2 := by decide
    omega
  unfold head
  simp only [List.length_append, List.length_cons, four_len, Oct.num_length]
  omega
theorem way_back {w : Nat} {l : List UInt8} (hw : w < 4) (hl : l.length ≤ 32768) : back w (way w l) (l.length : Int) = (l, 0) := by
  have hr := Rn.Runs.unpack_pack l
  unfold back way
  match w, hw with
  | 0, _ => simp
  | 1, _ => simpa using hr
  | 2, _ =>
    have := Win.unpack_pack l l.length (Nat.le_refl _)
    simpa using this
  | 3, _ =>
    have hlit : (Rn.Runs.pack l).length ≤ l.length + (l.length + 127) / 128 := Rn.Runs.pack_little l.length l (Nat.le_refl _)
    have h3 := Win.unpack_pack (Rn.Runs.pack l) 33068 (by omega)
    have h3' : Win.unpack (Win.pack (Rn.Runs.pack l)) 33068 = (Rn.Runs.pack l, 0) := h3
    simp [h3', hr]
theorem opened_way {w : Nat} {l : List UInt8} (hw : w < 4) (hl : l.length ≤ 32768) (most : Nat) : opened (head w l ++ way w l) (most : Int) = if most < l.length then ([], 3) else (l, 0) := by
  have hn := Oct.rdNum_num [UInt8.ofNat w] (four (sum l) ++ way w l) l.length (by omega)
  have e1 : [UInt8.ofNat w] ++ Oct.num l.length ++ (four (sum l) ++ way w l) = head w l ++ way w l := by unfold head; simp
  rw [e1] at hn
  have hc : (UInt8.ofNat w).toNat = w := by rw [UInt8.toNat_ofNat']; omega
  have hlen : (head w l ++ way w l).length = 1 + (Oct.num l.length).length + 4 + (way w l).length := by
    unfold head; simp only [List.length_append, List.length_cons, four_len]; omega
  have hcons : head w l ++ way w l = UInt8.ofNat w :: (Oct.num l.length ++ four (sum l) ++ way w l) := by unfold head; simp
  have h1 : ([UInt8.ofNat w] : List UInt8).length = 1 := rfl
  rw [h1, show (((1 : Nat) : Int)) = 1 from rfl] at hn
  have hd1 : (head w l ++ way w l).drop (1 + (Oct.num l.length).length + 4) = way w l := by
    have : (head w l).length = 1 + (Oct.num l.length).length + 4 := by unfold head; simp only [List.length_append, List.length_cons, four_len]; omega
    rw [← this, List.drop_left]
  have hd2 : ((head w l ++ way w l).drop (1 + (Oct.num l.length).length)).take 4 = four (sum l) := by
    rw [← e1]
    have : ([UInt8.ofNat w] ++ Oct.num l.length).length = 1 + (Oct.num l.length).length := by simp; omega
    rw [← this, List.drop_left, List.take_append_of_le_length (by rw [four_len]; omega), List.take_of_length_le (by rw [four_len]; omega)]
  unfold opened
  rw [if_neg (by omega)]
  generalize hL : head w l ++ way w l = L at *
  match L, hcons with
  | _ :: _, rfl =>
    simp only
    rw [hn]
    simp only
    have z1 : (((1 + (Oct.num l.length).length : Nat) : Int) + 4).toNat = 1 + (Oct.num l.length).length + 4 := by omega
    have z2 : (((1 + (Oct.num l.length).length : Nat) : Int)).toNat = 1 + (Oct.num l.length).length := by omega
    rw [z1, z2, hd1, hd2, hc, if_neg (by omega), if_neg (by omega)]
    by_cases hm : most < l.length
    · rw [if_pos (.inl (by omega)), if_pos hm]
    · rw [if_neg (by omega), if_neg hm, if_neg (by rw [hlen]; omega), way_back hw hl, if_neg (by simp), if_neg (by simp), if_neg (by simp)]
theorem choose_way (l : List UInt8) : (choose l).2 = way (choose l).1 l ∧ (choose l).1 < 4 ∧ (choose l).2.length ≤ l.length := by
  have step : ∀ (w : Nat) (b : Nat × List UInt8), w < 4 → b.2 = way b.1 l ∧ b.1 < 4 ∧ b.2.length ≤ l.length → (better l w b).2 = way (better l w b).1 l ∧ (better l w b).1 < 4 ∧ (better l w b).2.length ≤ l.length := by
    intro w b hw hb
    unfold better
    split
    · rename_i h
      exact ⟨rfl, hw, by show (way w l).length ≤ _; omega⟩
    · exact hb
  exact step 3 _ (by omega) (step 2 _ (by omega) (step 1 _ (by omega) ⟨rfl, by simp, Nat.le_refl _⟩))
theorem opened_pack {l : List UInt8} (hl : l.length ≤ 32768) (most : Nat) : opened (pack l) (most : Int) = if most < l.length then ([], 3) else (l, 0) := by
  obtain ⟨h1, h2, h3⟩ := choose_way l
  unfold pack
  rw [h1]
  exact opened_way h2 hl most
theorem pack_len {l : List UInt8} (hl : l.length ≤ 32768) : (pack l).length ≤ l.length + 8 := by
  obtain ⟨h1, h2, h3⟩ := choose_way l
  unfold pack
  rw [h1] at h3 ⊢
  exact packed_len h2 h3 hl
/-- bytes that are packed as they are, one of which is turned behind the first: no crate -/
theorem spoilt {l A C : List UInt8} {b b' : UInt8} (hl : l.length ≤ 32768) (hA : 1 ≤ A.length) (h : head 0 l ++ l = A ++ b :: C) (hb : b ≠ b') (most : Int) : (opened (A ++ b' :: C) most).2 ≠ 0 := by
  intro h0
  obtain ⟨c, n, p, held, hc, hn, _, hL, hback, hlen, _⟩ := opened_ok h0
  have hfirst : c = UInt8.ofNat 0 := by
    match A, hA with
    | a :: A', _ =>
      have e1 : head 0 l ++ l = UInt8.ofNat 0 :: (Oct.num l.length ++ four (sum l) ++ l) := by unfold head; simp
      rw [e1] at h
      injection h with h1 _
      injection hL with h2 _
      rw [← h2, ← h1]
  have hc0 : c.toNat = 0 := by rw [hfirst]; rfl
  rw [hc0] at hback
  have hp : p = held := by
    unfold back at hback
    simp at hback
    exact hback
  subst hp
  have e1 : head 0 l ++ l = UInt8.ofNat 0 :: (Oct.num l.length ++ four (sum l)) ++ l := rfl
  have e2 : A ++ b' :: C = (UInt8.ofNat 0 :: (Oct.num n ++ four (sum p))) ++ p := by rw [hL, hfirst]; simp
  have z1 := congrArg List.length h
  have z2 := congrArg List.length e2
  unfold head at z1
  simp only [List.length_append, List.length_cons, four_len] at z1 z2
  have hnn : n = l.length := by
    rcases Nat.lt_trichotomy n l.length with hx | hx | hx
    · have := num_mono (Nat.le_of_lt hx); omega
    · exact hx
    · have := num_mono (Nat.le_of_lt hx); omega
  subst hnn
  generalize hH : UInt8.ofNat 0 :: (Oct.num l.length ++ four (sum p)) = H' at *
  have hH2 : head 0 l = UInt8.ofNat 0 :: (Oct.num l.length ++ four (sum l)) := rfl
  generalize hHH : head 0 l = H at *
  have hz : H.length = H'.length := by rw [hH2, ← hH]; simp [four_len]
  by_cases hlt : A.length < H.length
  · have d1 := congrArg (List.drop H.length) h
    have d2 := congrArg (List.drop H.length) e2
    rw [List.drop_left] at d1
    rw [hz, List.drop_left] at d2
    obtain ⟨k, hk⟩ : ∃ k, H'.length = A.length + (k + 1) := ⟨H'.length - A.length - 1, by omega⟩
    rw [hz, hk, List.drop_append, List.drop_of_length_le (by omega), show A.length + (k + 1) - A.length = k + 1 by omega, List.drop_succ_cons] at d1
    rw [hk, List.drop_append, List.drop_of_length_le (by omega), show A.length + (k + 1) - A.length = k + 1 by omega, List.drop_succ_cons] at d2
    have hlp : l = p := d1.trans d2
    subst hlp
    rw [hH2, hH, ← e2] at h
    have := List.append_cancel_left h
    injection this with h1 _
    exact hb h1.symm
  · have t1 := congrArg (List.take H.length) h
    have t2 := congrArg (List.take H.length) e2
    rw [List.take_left, List.take_append_of_le_length (by omega)] at t1
    rw [hz, List.take_left, List.take_append_of_le_length (by omega)] at t2
    rw [hz] at t1
    have hHe : H = H' := t1.trans t2
    have d1 := congrArg (List.drop H.length) h
    have d2 := congrArg (List.drop H.length) e2
    rw [List.drop_left, List.drop_append_of_le_length (by omega)] at d1
    rw [hz, List.drop_left, List.drop_append_of_le_length (by omega)] at d2
    rw [hz] at d1
    rw [hH2, ← hH] at hHe
    injection hHe with _ hHe
    have h4 := List.append_cancel_left hHe
    have hs := four_inj (sum_lt l) (sum_lt p) h4
    rw [d1, ← d2] at hs
    exact sum_turned _ _ hb hs
end Cr
end Go.Proofs.Ytmcdanodacbpbaa
