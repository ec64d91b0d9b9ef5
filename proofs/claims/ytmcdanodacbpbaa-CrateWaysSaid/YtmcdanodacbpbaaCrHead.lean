/- crate.sumBytes; the reference's Head and Way: what they return. -/
import Derived.Test.YtmcdanodacbpbaaCrSum
import Derived.Test.YtmcdanodacbpbaaCrNum
import Derived.Test.YtmcdanodacbpbaaWinRpk
import Derived.Test.YtmcdanodacbpbaaRunsR2
import Derived.Laws.Concat
namespace Go.Proofs.Ytmcdanodacbpbaa
open Go.RowKit
set_option linter.unusedVariables false
set_option linter.unusedSimpArgs false

theorem four_bytes (T : TypeId) (W : World) (a b c d : Int) : (convert 34 9 (.slice (some ⟨W.heap.size, 0, none⟩) 4 4)).run Try.prog (W.alloc (.cells #[.int .u8 a, .int .u8 b, .int .u8 c, .int .u8 d] T)) = .ok (S [UInt8.ofNat a.toNat, UInt8.ofNat b.toNat, UInt8.ofNat c.toNat, UInt8.ofNat d.toNat]) (W.alloc (.cells #[.int .u8 a, .int .u8 b, .int .u8 c, .int .u8 d] T)) := by
  have := run_convert_bytes_arg (P := Try.prog) (W.alloc (.cells #[.int .u8 a, .int .u8 b, .int .u8 c, .int .u8 d] T)) 34 5 Try.underlying34 Try.underlying5 W.heap.size 0 4 4 [a, b, c, d] rfl (fun i hi => by
    match i, hi with
    | 0, _ => simp [go_sem]
    | 1, _ => simp [go_sem]
    | 2, _ => simp [go_sem]
    | 3, _ => simp [go_sem]
    | k + 4, hi => omega) 9 Try.underlying9
  exact this
theorem sumBytes_any (s : ByteArray) (w : World) (hs : s.size ≤ 9223372036854775806) :
    Calls Try.prog 20 #[.string s] w fun e w' => e = .returned (S (Cr.four (Cr.sum s.data.toList))) ∧ Below w.heap.size w w' := by
  have hl := Cr.sum_lt s.data.toList
  obtain ⟨x, hx⟩ : ∃ x, Cr.sum s.data.toList = x := ⟨_, rfl⟩
  have hsum := crSum_any s w hs
  rw [hx] at hl hsum ⊢
  have Hsum := Lib.hid hsum
  clear hsum hx
  have hcv := four_bytes
  go_enter Try.func20, Try.ntmps20
  go_wp2_with fail
  refine Hsum.out.mono ?_
  rintro e w1 ⟨rfl, rfl⟩
  go_wp2_with fail
  go_ret
  refine ⟨?_, (Below.refl _ _).alloc (Nat.le_refl _) _⟩
  have e : x / 16777216 % 256 = x / 16777216 := by omega
  unfold Cr.four
  rw [e]
  rfl
theorem numE_pos (n : Nat) : Oct.numE (n : Int) = (Oct.num n, 0) := by
  unfold Oct.numE
  rw [if_neg (by omega), Int.toNat_natCast]
theorem S_app (a b : List UInt8) : (⟨a.toArray⟩ : ByteArray) ++ ⟨b.toArray⟩ = ⟨(a ++ b).toArray⟩ := append_list a b
theorem head_any (k : Nat) (s : ByteArray) (w : World) (hk : k < 256) (hs : s.size ≤ 140737488351232) :
    Calls Try.prog 16 #[.int .i64 (k : Int), .string s] w fun e w' => e = .returned (S (Cr.head k s.data.toList)) ∧ Below w.heap.size w w' := by
  have hl := Cr.sum_lt s.data.toList
  have hlen : s.data.toList.length = s.size := rfl
  have hhead : Cr.head k s.data.toList = [UInt8.ofNat k] ++ Oct.num s.size ++ Cr.four (Cr.sum s.data.toList) := by unfold Cr.head; rw [hlen]; simp
  obtain ⟨x, hx⟩ : ∃ x, Cr.sum s.data.toList = x := ⟨_, rfl⟩
  have hsum := fun w : World => crRefSum_any s w (by omega)
  rw [hhead, hx]
  rw [hx] at hl
  simp only [hx] at hsum
  have hnum := fun w : World => refNumber_any (s.size : Int) w (by omega)
  rw [numE_pos] at hnum
  obtain ⟨nb, hnb⟩ : ∃ nb, Oct.num s.size = nb := ⟨_, rfl⟩
  rw [hnb] at hnum ⊢
  have hnl : nb.length ≤ 9 := by rw [← hnb]; exact Oct.num_length_le _
  have Hsum := Lib.hid hsum
  have Hnum := Lib.hid hnum
  clear hsum hx hnum hnb hhead hlen
  have hcv := four_bytes
  have hc1 := one_byte
  have hk8 : (k : Int) % 256 = (k : Int) := by omega
  have happ := S_app
  go_enter Try.func16, Try.ntmps16
  go_wp2_with fail
  refine (Hnum.out _).mono ?_
  rintro e w1 ⟨rfl, hb1⟩
  unfold two
  go_wp2_with fail
  refine (Hsum.out _).mono ?_
  rintro e w2 ⟨rfl, rfl⟩
  have Hb1 := Lib.hid hb1
  clear hb1 hcv
  have hcv2 := fun (T : TypeId) (a b c d : Int) => four_bytes T (w1.alloc (.cells #[.int .u8 (k : Int)] 5)) a b c d
  have hz : (w1.alloc (.cells #[.int .u8 (k : Int)] 5)).heap.size = w1.heap.size + 1 := by simp
  rw [hz] at hcv2
  clear hz
  go_wp2_with fail
  go_ret
  refine ⟨?_, (Hb1.out.alloc Hb1.out.size _).alloc (by have := Hb1.out.size; simp; omega) _⟩
  have e : x / 16777216 % 256 = x / 16777216 := by omega
  unfold Cr.four
  rw [e]
  simp
theorem way_any (k : Nat) (s : ByteArray) (w : World) (hk : k < 4) (hs : s.size ≤ 1000000000) :
    Calls Try.prog 17 #[.int .i64 (k : Int), .string s] w fun e w' => e = .returned (S (Cr.way k s.data.toList)) ∧ Below w.heap.size w w' := by
  have h1 := fun w : World => Rn.refPack_any s w (by omega)
  have hlit : (Rn.Runs.pack s.data.toList).length ≤ s.size + (s.size + 127) / 128 := Rn.Runs.pack_little s.data.toList.length s.data.toList (Nat.le_refl _)
  obtain ⟨r, hr⟩ : ∃ r : ByteArray, (⟨(Rn.Runs.pack s.data.toList).toArray⟩ : ByteArray) = r := ⟨_, rfl⟩
  have hrl : r.data.toList = Rn.Runs.pack s.data.toList := by rw [← hr]
  have hrz : r.size ≤ s.size + (s.size + 127) / 128 := by rw [← hr]; exact hlit
  have h2 := fun w : World => refPack_any s w (by omega)
  have h3 := fun w : World => refPack_any r w (by omega)
  have hself : S s.data.toList = .string s := by obtain ⟨⟨l⟩⟩ := s; rfl
  rw [hrl] at h3
  have h1' : ∀ w : World, Calls Try.prog 27 #[.string s] w fun e w' => e = .returned (.string r) ∧ Below w.heap.size w w' := by
    intro w
    rw [← hr]
    exact h1 w
  have H1 := Lib.hid h1'
  have H2 := Lib.hid h2
  have H3 := Lib.hid h3
  have Hr := Lib.hid hr
  have Hself := Lib.hid hself
  clear h1 h1' h2 h3 hr hrl hself hlit
  unfold Cr.way
  match k, hk with
  | 0, _ =>
    rw [if_neg (by omega), if_neg (by omega), if_neg (by omega), Hself.out]
    go_enter Try.func17, Try.ntmps17
    go_wp2_with fail
    go_ret
    exact ⟨rfl, Below.refl _ _⟩
  | 1, _ =>
    rw [if_pos rfl, show S (Rn.Runs.pack s.data.toList) = .string r by rw [← Hr.out]]
    go_enter Try.func17, Try.ntmps17
    go_wp2_with fail
    refine (H1.out _).mono ?_
    rintro e w1 ⟨rfl, hb1⟩
    go_wp2_with fail
    go_ret
    exact ⟨rfl, hb1⟩
  | 2, _ =>
    rw [if_neg (by omega), if_pos rfl]
    go_enter Try.func17, Try.ntmps17
    go_wp2_with fail
    refine (H2.out _).mono ?_
    rintro e w1 ⟨rfl, hb1⟩
    go_wp2_with fail
    go_ret
    exact ⟨rfl, hb1⟩
  | 3, _ =>
    rw [if_neg (by omega), if_neg (by omega), if_pos rfl]
    go_enter Try.func17, Try.ntmps17
    go_wp2_with fail
    refine (H1.out _).mono ?_
    rintro e w1 ⟨rfl, hb1⟩
    go_wp2_with fail
    refine (H3.out _).mono ?_
    rintro e w2 ⟨rfl, hb2⟩
    go_wp2_with fail
    go_ret
    exact ⟨rfl, hb1.trans (hb2.mono hb1.size)⟩
end Go.Proofs.Ytmcdanodacbpbaa
