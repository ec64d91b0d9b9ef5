/- SHA-256 as a plain function of lists of bytes, over natural numbers. -/
namespace Go.Proofs.YtdifbndpgbdkbaaDoor
set_option linter.unusedVariables false
set_option linter.unusedSimpArgs false
namespace Sha
def add (a b : Nat) : Nat := (a + b) % 4294967296
/-- turned right by n -/
def rot (n x : Nat) : Nat := x / 2 ^ n + x * 2 ^ (32 - n) % 4294967296
def big0 (x : Nat) : Nat := rot 2 x ^^^ rot 13 x ^^^ rot 22 x
def big1 (x : Nat) : Nat := rot 6 x ^^^ rot 11 x ^^^ rot 25 x
def lit0 (x : Nat) : Nat := rot 7 x ^^^ rot 18 x ^^^ (x / 8)
def lit1 (x : Nat) : Nat := rot 17 x ^^^ rot 19 x ^^^ (x / 1024)
def ch (e f g : Nat) : Nat := (e &&& f) ^^^ ((4294967295 - e) &&& g)
def maj (a b c : Nat) : Nat := (a &&& b) ^^^ (a &&& c) ^^^ (b &&& c)
def kk : List Nat := [
  0x428a2f98, 0x71374491, 0xb5c0fbcf, 0xe9b5dba5, 0x3956c25b, 0x59f111f1, 0x923f82a4, 0xab1c5ed5,
  0xd807aa98, 0x12835b01, 0x243185be, 0x550c7dc3, 0x72be5d74, 0x80deb1fe, 0x9bdc06a7, 0xc19bf174,
  0xe49b69c1, 0xefbe4786, 0x0fc19dc6, 0x240ca1cc, 0x2de92c6f, 0x4a7484aa, 0x5cb0a9dc, 0x76f988da,
  0x983e5152, 0xa831c66d, 0xb00327c8, 0xbf597fc7, 0xc6e00bf3, 0xd5a79147, 0x06ca6351, 0x14292967,
  0x27b70a85, 0x2e1b2138, 0x4d2c6dfc, 0x53380d13, 0x650a7354, 0x766a0abb, 0x81c2c92e, 0x92722c85,
  0xa2bfe8a1, 0xa81a664b, 0xc24b8b70, 0xc76c51a3, 0xd192e819, 0xd6990624, 0xf40e3585, 0x106aa070,
  0x19a4c116, 0x1e376c08, 0x2748774c, 0x34b0bcb5, 0x391c0cb3, 0x4ed8aa4a, 0x5b9cca4f, 0x682e6ff3,
  0x748f82ee, 0x78a5636f, 0x84c87814, 0x8cc70208, 0x90befffa, 0xa4506ceb, 0xbef9a3f7, 0xc67178f2]
/-- a block's first words -/
def word (l : List UInt8) (t : Nat) : Nat := (l.getD (4 * t) 0).toNat * 16777216 + (l.getD (4 * t + 1) 0).toNat * 65536 + (l.getD (4 * t + 2) 0).toNat * 256 + (l.getD (4 * t + 3) 0).toNat
def next (w : List Nat) : Nat := add (add (add (lit1 (w.getD (w.length - 2) 0)) (w.getD (w.length - 7) 0)) (lit0 (w.getD (w.length - 15) 0))) (w.getD (w.length - 16) 0)
/-- the first n words -/
def words (l : List UInt8) : Nat → List Nat
  | 0 => []
  | n + 1 => words l n ++ [if n < 16 then word l n else next (words l n)]
structure St where
  (a b c d e f g h : Nat)
def rnd (s : St) (k w : Nat) : St :=
  let x := add (add (add (add s.h (big1 s.e)) (ch s.e s.f s.g)) k) w
  let y := add (big0 s.a) (maj s.a s.b s.c)
  ⟨add x y, s.a, s.b, s.c, add s.d x, s.e, s.f, s.g⟩
def rnds (s : St) (w : List Nat) : Nat → St
  | 0 => s
  | n + 1 => rnd (rnds s w n) (kk.getD n 0) (w.getD n 0)
def plus (s t : St) : St := ⟨add s.a t.a, add s.b t.b, add s.c t.c, add s.d t.d, add s.e t.e, add s.f t.f, add s.g t.g, add s.h t.h⟩
def step (s : St) (l : List UInt8) : St := plus s (rnds s (words l 64) 64)
def start : St := ⟨0x6a09e667, 0xbb67ae85, 0x3c6ef372, 0xa54ff53a, 0x510e527f, 0x9b05688c, 0x1f83d9ab, 0x5be0cd19⟩
/-- the state behind n blocks -/
def runs (s : St) (l : List UInt8) : Nat → St
  | 0 => s
  | n + 1 => step (runs s l n) ((l.drop (64 * n)).take 64)
/-- a length's eight bytes -/
def len8 (n : Nat) : List UInt8 := [7, 6, 5, 4, 3, 2, 1, 0].map fun i => UInt8.ofNat (n * 8 % 18446744073709551616 / 2 ^ (8 * i) % 256)
def pad (l : List UInt8) : List UInt8 := l ++ 128 :: (List.replicate ((119 - l.length % 64) % 64) 0 ++ len8 l.length)
def at_ (s : St) : Nat → Nat
  | 0 => s.a | 1 => s.b | 2 => s.c | 3 => s.d | 4 => s.e | 5 => s.f | 6 => s.g | _ => s.h
def bytes (s : St) : List UInt8 := (List.range 32).map fun i => UInt8.ofNat (at_ s (i / 4) / 2 ^ (24 - 8 * (i % 4)) % 256)
def sum (l : List UInt8) : List UInt8 := bytes (runs start (pad l) ((pad l).length / 64))
theorem add_lt (a b : Nat) : add a b < 4294967296 := Nat.mod_lt _ (by decide)
theorem rot_lt (n x : Nat) (hn : 1 ≤ n) (hn2 : n ≤ 31) (hx : x < 4294967296) : rot n x < 4294967296 := by
  unfold rot
  have e : (4294967296 : Nat) = 2 ^ (32 - n) * 2 ^ n := by rw [← Nat.pow_add]; have : 32 - n + n = 32 := by omega
                                                           rw [this]
  have h1 : x / 2 ^ n < 2 ^ (32 - n) := by rw [Nat.div_lt_iff_lt_mul (Nat.two_pow_pos n), ← e]; exact hx
  have h2 : x * 2 ^ (32 - n) % 4294967296 = (x % 2 ^ n) * 2 ^ (32 - n) := by
    rw [e, Nat.mul_comm (2 ^ (32 - n)) (2 ^ n), Nat.mul_mod_mul_right]
  have h3 : x % 2 ^ n ≤ 2 ^ n - 1 := by have := Nat.mod_lt x (Nat.two_pow_pos n); omega
  have h4 : (x % 2 ^ n) * 2 ^ (32 - n) ≤ (2 ^ n - 1) * 2 ^ (32 - n) := Nat.mul_le_mul_right _ h3
  have h5 : (2 ^ n - 1) * 2 ^ (32 - n) + 2 ^ (32 - n) = 2 ^ (32 - n) * 2 ^ n := by
    rw [← Nat.succ_mul, Nat.succ_eq_add_one, Nat.sub_add_cancel (Nat.two_pow_pos n), Nat.mul_comm]
  rw [h2]
  omega
theorem rot_or (n x : Nat) (hn : 1 ≤ n) (hn2 : n ≤ 31) (hx : x < 4294967296) : (x * 2 ^ (32 - n) % 4294967296) ||| (x / 2 ^ n) = rot n x := by
  unfold rot
  have e : (4294967296 : Nat) = 2 ^ (32 - n) * 2 ^ n := by rw [← Nat.pow_add]; have : 32 - n + n = 32 := by omega
                                                           rw [this]
  have h1 : x / 2 ^ n < 2 ^ (32 - n) := by rw [Nat.div_lt_iff_lt_mul (Nat.two_pow_pos n), ← e]; exact hx
  have h2 : x * 2 ^ (32 - n) % 4294967296 = (x % 2 ^ n) * 2 ^ (32 - n) := by
    rw [e, Nat.mul_comm (2 ^ (32 - n)) (2 ^ n), Nat.mul_mod_mul_right]
  rw [h2, ← Nat.shiftLeft_eq, ← Nat.shiftLeft_add_eq_or_of_lt h1, Nat.add_comm]
theorem xor_lt {a b : Nat} (ha : a < 4294967296) (hb : b < 4294967296) : a ^^^ b < 4294967296 := Nat.xor_lt_two_pow (n := 32) ha hb
theorem and_lt {a b : Nat} (ha : a < 4294967296) : a &&& b < 4294967296 := Nat.lt_of_le_of_lt Nat.and_le_left ha
theorem big0_lt {x : Nat} (hx : x < 4294967296) : big0 x < 4294967296 :=
  xor_lt (xor_lt (rot_lt 2 x (by omega) (by omega) hx) (rot_lt 13 x (by omega) (by omega) hx)) (rot_lt 22 x (by omega) (by omega) hx)
theorem big1_lt {x : Nat} (hx : x < 4294967296) : big1 x < 4294967296 :=
  xor_lt (xor_lt (rot_lt 6 x (by omega) (by omega) hx) (rot_lt 11 x (by omega) (by omega) hx)) (rot_lt 25 x (by omega) (by omega) hx)
theorem lit0_lt {x : Nat} (hx : x < 4294967296) : lit0 x < 4294967296 :=
  xor_lt (xor_lt (rot_lt 7 x (by omega) (by omega) hx) (rot_lt 18 x (by omega) (by omega) hx)) (by omega)
theorem lit1_lt {x : Nat} (hx : x < 4294967296) : lit1 x < 4294967296 :=
  xor_lt (xor_lt (rot_lt 17 x (by omega) (by omega) hx) (rot_lt 19 x (by omega) (by omega) hx)) (by omega)
theorem ch_lt {e f g : Nat} (he : e < 4294967296) (hg : g < 4294967296) : ch e f g < 4294967296 := xor_lt (and_lt he) (and_lt (by omega))
theorem maj_lt {a b c : Nat} (ha : a < 4294967296) (hb : b < 4294967296) : maj a b c < 4294967296 := xor_lt (xor_lt (and_lt ha) (and_lt ha)) (and_lt hb)
theorem word_lt (l : List UInt8) (t : Nat) : word l t < 4294967296 := by
  unfold word
  have h1 := (l.getD (4 * t) 0).toNat_lt
  have h2 := (l.getD (4 * t + 1) 0).toNat_lt
  have h3 := (l.getD (4 * t + 2) 0).toNat_lt
  have h4 := (l.getD (4 * t + 3) 0).toNat_lt
  omega
theorem next_lt (w : List Nat) : next w < 4294967296 := add_lt _ _
theorem words_len (l : List UInt8) (n : Nat) : (words l n).length = n := by
  induction n with
  | zero => rfl
  | succ n ih => simp [words, ih]
theorem words_lt (l : List UInt8) (n : Nat) : ∀ x ∈ words l n, x < 4294967296 := by
  induction n with
  | zero => simp [words]
  | succ n ih =>
    intro x hx
    simp only [words, List.mem_append, List.mem_singleton] at hx
    rcases hx with h | h
    · exact ih x h
    · rw [h]; split
      · exact word_lt _ _
      · exact next_lt _
theorem words_getD (l : List UInt8) (n t : Nat) (h : t < n) : (words l n).getD t 0 = if t < 16 then word l t else next (words l t) := by
  induction n with
  | zero => omega
  | succ n ih =>
    rw [words]
    by_cases ht : t < n
    · rw [List.getD_eq_getElem?_getD, List.getElem?_append_left (by rw [words_len]; exact ht), ← List.getD_eq_getElem?_getD, ih ht]
    · have e : t = n := by omega
      subst e
      rw [List.getD_eq_getElem?_getD, List.getElem?_append_right (by rw [words_len]; omega)]
      simp [words_len]
/-- all eight words are words -/
def St.ok (s : St) : Prop := s.a < 4294967296 ∧ s.b < 4294967296 ∧ s.c < 4294967296 ∧ s.d < 4294967296 ∧ s.e < 4294967296 ∧ s.f < 4294967296 ∧ s.g < 4294967296 ∧ s.h < 4294967296
theorem start_ok : start.ok := by unfold St.ok start; decide
theorem rnd_ok {s : St} (k w : Nat) (h : s.ok) : (rnd s k w).ok := by
  obtain ⟨h1, h2, h3, h4, h5, h6, h7, h8⟩ := h
  exact ⟨add_lt _ _, h1, h2, h3, add_lt _ _, h5, h6, h7⟩
theorem rnds_ok {s : St} (w : List Nat) (h : s.ok) : ∀ n, (rnds s w n).ok
  | 0 => h
  | n + 1 => rnd_ok _ _ (rnds_ok w h n)
theorem plus_ok (s t : St) : (plus s t).ok := ⟨add_lt _ _, add_lt _ _, add_lt _ _, add_lt _ _, add_lt _ _, add_lt _ _, add_lt _ _, add_lt _ _⟩
theorem step_ok (s : St) (l : List UInt8) : (step s l).ok := plus_ok _ _
theorem runs_ok {s : St} (l : List UInt8) (h : s.ok) : ∀ n, (runs s l n).ok
  | 0 => h
  | n + 1 => step_ok _ _
theorem kk_lt (n : Nat) : kk.getD n 0 < 4294967296 := by
  by_cases h : n < 64
  · have : ∀ m : Fin 64, kk.getD m.1 0 < 4294967296 := by decide
    exact this ⟨n, h⟩
  · rw [List.getD_eq_getElem?_getD, List.getElem?_eq_none (by show 64 ≤ n; omega)]; decide
theorem len8_len (n : Nat) : (len8 n).length = 8 := rfl
theorem pad_len (l : List UInt8) : (pad l).length % 64 = 0 ∧ (pad l).length = l.length + 9 + (119 - l.length % 64) % 64 := by
  have h : (pad l).length = l.length + 9 + (119 - l.length % 64) % 64 := by
    simp [pad, len8_len]; omega
  exact ⟨by rw [h]; omega, h⟩
theorem bytes_len (s : St) : (bytes s).length = 32 := by simp [bytes]
theorem sum_len (l : List UInt8) : (sum l).length = 32 := bytes_len _
end Sha
end Go.Proofs.YtdifbndpgbdkbaaDoor
