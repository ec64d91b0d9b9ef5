/- journal.sum, journal.lay; the reference's Record: what they return. -/
import Derived.Test.YtpphljdnnlfjhaaDoorCrSum
import Derived.Test.YtpphljdnnlfjhaaDoorCrNum
import Derived.Test.YtpphljdnnlfjhaaDoorJrMath
import Derived.Laws.Concat
namespace Go.Proofs.YtpphljdnnlfjhaaDoor
open Go.RowKit
set_option linter.unusedVariables false
set_option linter.unusedSimpArgs false

theorem four_bytes (T : TypeId) (W : World) (a b c d : Int) : (convert 65 9 (.slice (some ⟨W.heap.size, 0, none⟩) 4 4)).run Tryd.prog (W.alloc (.cells #[.int .u8 a, .int .u8 b, .int .u8 c, .int .u8 d] T)) = .ok (S [UInt8.ofNat a.toNat, UInt8.ofNat b.toNat, UInt8.ofNat c.toNat, UInt8.ofNat d.toNat]) (W.alloc (.cells #[.int .u8 a, .int .u8 b, .int .u8 c, .int .u8 d] T)) := by
  have := run_convert_bytes_arg (P := Tryd.prog) (W.alloc (.cells #[.int .u8 a, .int .u8 b, .int .u8 c, .int .u8 d] T)) 65 5 Tryd.underlying65 Tryd.underlying5 W.heap.size 0 4 4 [a, b, c, d] rfl (fun i hi => by
    match i, hi with
    | 0, _ => simp [go_sem]
    | 1, _ => simp [go_sem]
    | 2, _ => simp [go_sem]
    | 3, _ => simp [go_sem]
    | k + 4, hi => omega) 9 Tryd.underlying9
  exact this
theorem numE_pos (n : Nat) : Oct.numE (n : Int) = (Oct.num n, 0) := by
  unfold Oct.numE
  rw [if_neg (by omega), Int.toNat_natCast]
theorem S_app (a b : List UInt8) : (⟨a.toArray⟩ : ByteArray) ++ ⟨b.toArray⟩ = ⟨(a ++ b).toArray⟩ := append_list a b
theorem S_self (s : ByteArray) : S s.data.toList = .string s := by obtain ⟨⟨l⟩⟩ := s; rfl
theorem ba_self (s : ByteArray) : (⟨s.data.toList.toArray⟩ : ByteArray) = s := by obtain ⟨⟨l⟩⟩ := s; rfl
theorem jrSum_any (i : Nat) (s : ByteArray) (w : World) (hi : i ≤ 9223372036854775807) (hs : s.size ≤ 140737488351232) :
    Calls Tryd.prog 45 #[.int .i64 (i : Int), .string s] w fun e w' => e = .returned (S (Jr.sumB i s.data.toList)) ∧ Below w.heap.size w w' := by
  have hnum := fun w : World => Number_any (i : Int) w (by omega)
  rw [numE_pos] at hnum
  have hl := Cr.sum_lt (Oct.num i ++ s.data.toList)
  have hnl := Oct.num_length_le i
  unfold Jr.sumB
  obtain ⟨r, hr⟩ : ∃ r : ByteArray, (⟨(Oct.num i).toArray⟩ : ByteArray) ++ s = r := ⟨_, rfl⟩
  have hrl : r.data.toList = Oct.num i ++ s.data.toList := by rw [← hr]; simp
  have hrz : r.size ≤ 9223372036854775806 := by
    have : r.size = r.data.toList.length := rfl
    rw [this, hrl, List.length_append]
    have h2 : s.data.toList.length = s.size := rfl
    omega
  have hsum := fun w : World => crSum_any r w hrz
  rw [hrl] at hsum
  obtain ⟨x, hx⟩ : ∃ x, Cr.sum (Oct.num i ++ s.data.toList) = x := ⟨_, rfl⟩
  rw [hx] at hl ⊢
  simp only [hx] at hsum
  obtain ⟨NB, hNB⟩ : ∃ NB : ByteArray, (⟨(Oct.num i).toArray⟩ : ByteArray) = NB := ⟨_, rfl⟩
  have hNz : NB.size ≤ 9 := by rw [← hNB]; exact hnl
  rw [hNB] at hr
  have hnum' : ∀ w : World, Calls Tryd.prog 47 #[.int .i64 (i : Int)] w fun e w' => e = .returned (.tuple #[.string NB, .int .i64 0]) ∧ Below w.heap.size w w' := by
    intro w; rw [← hNB]; exact hnum w
  have Hsum := Lib.hid hsum
  have Hnum := Lib.hid hnum'
  clear hsum hx hnum hnum' hNB hrl hrz hnl
  have hcv := four_bytes
  go_enter Tryd.func45, Tryd.ntmps45
  go_wp2_with fail
  refine (Hnum.out _).mono ?_
  rintro e w1 ⟨rfl, hb1⟩
  go_wp2_with fail
  refine (Hsum.out _).mono ?_
  rintro e w2 ⟨rfl, rfl⟩
  have Hb1 := Lib.hid hb1
  clear hb1
  go_wp2_with fail
  go_ret
  refine ⟨?_, Hb1.out.alloc Hb1.out.size _⟩
  have e : x / 16777216 % 256 = x / 16777216 := by omega
  unfold Cr.four
  rw [e]
  rfl
theorem jrLay_any (i : Nat) (s : ByteArray) (w : World) (hi : i ≤ 9223372036854775807) (hs : s.size ≤ 140737488351232) :
    Calls Tryd.prog 34 #[.int .i64 (i : Int), .string s] w fun e w' => e = .returned (S (Jr.lay i s.data.toList)) ∧ Below w.heap.size w w' := by
  have hnum := fun w : World => Number_any (s.size : Int) w (by omega)
  rw [numE_pos] at hnum
  have hsum := fun w : World => jrSum_any i s w hi hs
  have hlay : Jr.lay i s.data.toList = Oct.num s.size ++ (Jr.sumB i s.data.toList ++ s.data.toList) := rfl
  rw [hlay]
  have hnl := Oct.num_length_le s.size
  have hsl := Jr.sumB_len i s.data.toList
  obtain ⟨NB, hNB⟩ : ∃ NB : ByteArray, (⟨(Oct.num s.size).toArray⟩ : ByteArray) = NB := ⟨_, rfl⟩
  obtain ⟨SB, hSB⟩ : ∃ SB : ByteArray, (⟨(Jr.sumB i s.data.toList).toArray⟩ : ByteArray) = SB := ⟨_, rfl⟩
  have hNz : NB.size ≤ 9 := by rw [← hNB]; exact hnl
  have hSz : SB.size = 4 := by rw [← hSB]; exact hsl
  have hS1 : (NB ++ SB).size = NB.size + 4 := by rw [ByteArray.size_append, hSz]
  have hnum' : ∀ w : World, Calls Tryd.prog 47 #[.int .i64 (s.size : Int)] w fun e w' => e = .returned (.tuple #[.string NB, .int .i64 0]) ∧ Below w.heap.size w w' := by
    intro w; rw [← hNB]; exact hnum w
  have hsum' : ∀ w : World, Calls Tryd.prog 45 #[.int .i64 (i : Int), .string s] w fun e w' => e = .returned (.string SB) ∧ Below w.heap.size w w' := by
    intro w; rw [← hSB]; exact hsum w
  have hres : S (Oct.num s.size ++ (Jr.sumB i s.data.toList ++ s.data.toList)) = .string (NB ++ SB ++ s) := by
    rw [← hNB, ← hSB]
    show Value.string _ = Value.string _
    congr 1
    apply ByteArray.ext
    simp
  rw [hres]
  have Hsum := Lib.hid hsum'
  have Hnum := Lib.hid hnum'
  clear hsum hsum' hSB hnum hnum' hNB hlay hres hsl hnl
  go_enter Tryd.func34, Tryd.ntmps34
  go_wp2_with fail
  refine (Hnum.out _).mono ?_
  rintro e w1 ⟨rfl, hb1⟩
  go_wp2_with fail
  refine (Hsum.out _).mono ?_
  rintro e w2 ⟨rfl, hb2⟩
  go_wp2_with fail
  go_ret
  exact ⟨rfl, hb1.trans (hb2.mono hb1.size)⟩
theorem jrRec_any (i : Nat) (s : ByteArray) (w : World) (hi : i ≤ 9223372036854775807) (hs : s.size ≤ 140737488351232) :
    Calls Tryd.prog 23 #[.int .i64 (i : Int), .string s] w fun e w' => e = .returned (S (Jr.lay i s.data.toList)) ∧ Below w.heap.size w w' := by
  have hnum := fun w : World => refNumber_any (s.size : Int) w (by omega)
  rw [numE_pos] at hnum
  have hnum2 := fun w : World => refNumber_any (i : Int) w (by omega)
  rw [numE_pos] at hnum2
  have hl := Cr.sum_lt (Oct.num i ++ s.data.toList)
  have hnl := Oct.num_length_le i
  have hlay : Jr.lay i s.data.toList = Oct.num s.size ++ (Cr.four (Cr.sum (Oct.num i ++ s.data.toList)) ++ s.data.toList) := rfl
  rw [hlay]
  obtain ⟨r, hr⟩ : ∃ r : ByteArray, (⟨(Oct.num i).toArray⟩ : ByteArray) ++ s = r := ⟨_, rfl⟩
  have hrl : r.data.toList = Oct.num i ++ s.data.toList := by rw [← hr]; simp
  have hrz : r.size ≤ 9223372036854775806 := by
    have : r.size = r.data.toList.length := rfl
    rw [this, hrl, List.length_append]
    have h2 : s.data.toList.length = s.size := rfl
    omega
  have hsum := fun w : World => crRefSum_any r w hrz
  rw [hrl] at hsum
  obtain ⟨x, hx⟩ : ∃ x, Cr.sum (Oct.num i ++ s.data.toList) = x := ⟨_, rfl⟩
  rw [hx] at hl ⊢
  simp only [hx] at hsum
  have hml := Oct.num_length_le s.size
  obtain ⟨NB, hNB⟩ : ∃ NB : ByteArray, (⟨(Oct.num i).toArray⟩ : ByteArray) = NB := ⟨_, rfl⟩
  obtain ⟨MB, hMB⟩ : ∃ MB : ByteArray, (⟨(Oct.num s.size).toArray⟩ : ByteArray) = MB := ⟨_, rfl⟩
  have hNz : NB.size ≤ 9 := by rw [← hNB]; exact hnl
  have hMz : MB.size ≤ 9 := by rw [← hMB]; exact hml
  rw [hNB] at hr
  have hnum' : ∀ w : World, Calls Tryd.prog 42 #[.int .i64 (s.size : Int)] w fun e w' => e = .returned (.tuple #[.string MB, .int .i64 0]) ∧ Below w.heap.size w w' := by
    intro w; rw [← hMB]; exact hnum w
  have hnum2' : ∀ w : World, Calls Tryd.prog 42 #[.int .i64 (i : Int)] w fun e w' => e = .returned (.tuple #[.string NB, .int .i64 0]) ∧ Below w.heap.size w w' := by
    intro w; rw [← hNB]; exact hnum2 w
  have e : x / 16777216 % 256 = x / 16777216 := by omega
  unfold Cr.four
  rw [e]
  obtain ⟨fl, hfl⟩ : ∃ fl, [UInt8.ofNat (x / 16777216), UInt8.ofNat (x / 65536 % 256), UInt8.ofNat (x / 256 % 256), UInt8.ofNat (x % 256)] = fl := ⟨_, rfl⟩
  have hres : S (Oct.num s.size ++ (fl ++ s.data.toList)) = .string (MB ++ ⟨fl.toArray⟩ ++ s) := by
    rw [← hMB]
    show Value.string _ = Value.string _
    congr 1
    apply ByteArray.ext
    simp
  rw [hfl, hres, ← hfl]
  have hS1 : ∀ a b c d : UInt8, (MB ++ ⟨#[a, b, c, d]⟩).size = MB.size + 4 := by intro a b c d; rw [ByteArray.size_append]; rfl
  have Hsum := Lib.hid hsum
  have Hnum := Lib.hid hnum'
  have Hnum2 := Lib.hid hnum2'
  clear hsum hx hnum hnum' hnum2 hnum2' hNB hMB hrl hrz hnl hml hlay hfl hres e
  have hcv := four_bytes
  go_enter Tryd.func23, Tryd.ntmps23
  go_wp2_with fail
  refine (Hnum.out _).mono ?_
  rintro e w1 ⟨rfl, hb1⟩
  go_wp2_with fail
  refine (Hnum2.out _).mono ?_
  rintro e w2 ⟨rfl, hb2⟩
  go_wp2_with fail
  refine (Hsum.out _).mono ?_
  rintro e w3 ⟨rfl, rfl⟩
  have Hb1 := Lib.hid hb1
  have Hb2 := Lib.hid hb2
  clear hb1 hb2
  go_wp2_with fail
  go_ret
  have hb : Below w.heap.size w w2 := Hb1.out.trans (Hb2.out.mono Hb1.out.size)
  exact ⟨rfl, hb.alloc hb.size _⟩
end Go.Proofs.YtpphljdnnlfjhaaDoor
