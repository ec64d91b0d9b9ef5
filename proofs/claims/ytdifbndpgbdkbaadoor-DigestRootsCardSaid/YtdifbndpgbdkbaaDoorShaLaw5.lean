/- The law DigestRoots: what its function returns. -/
import Derived.Test.YtdifbndpgbdkbaaDoorShaOpen
import Derived.Test.YtdifbndpgbdkbaaDoorShaRefProof
import Derived.Test.YtdifbndpgbdkbaaDoorShaSame
namespace Go.Proofs.YtdifbndpgbdkbaaDoor
open Go.RowKit
set_option linter.unusedVariables false
set_option linter.unusedSimpArgs false

theorem Came.below {w w' : World} {A : Option Addr} {L : List (List UInt8)} (h : Came w A L) (hb : Below w.heap.size w w') : Came w' A L := fun hne => by
  obtain ⟨b, off, e, hl⟩ := h hne
  exact ⟨b, off, e, (hl.below hb (Nat.le_refl _)).mono hb.size⟩
theorem Came.take {w : World} {A : Option Addr} {L : List (List UInt8)} (h : Came w A L) (n : Nat) : Came w A (L.take n) := fun hne => by
  obtain ⟨b, off, e, hl⟩ := h (by intro h0; rw [h0] at hne; simp at hne)
  exact ⟨b, off, e, hl.take n⟩
theorem root_came (A : Option Addr) (L : List (List UInt8)) (cap : Nat) (w : World) (hT : Tab w) (hL : Came w A L) (hS : ∀ k, k < L.length → (L.getD k []).length ≤ 140737488351232) (hc : L.length ≤ cap) (hn : L.length ≤ 9223372036854775807) :
    Calls Tryd.prog 20 #[.slice A L.length cap] w fun e w' => e = .returned (.agg (bRow (Sha.root L))) ∧ Below w.heap.size w w' := by
  by_cases h : L = []
  · subst h; exact root_0 A cap w hT
  · obtain ⟨b, off, rfl, hl⟩ := hL h
    exact root_some L.length L b off cap w rfl hT hl (fun k hk => by have := hS k hk; omega) hc hn
theorem refRoot_came (hRS : RefSum) (A : Option Addr) (L : List (List UInt8)) (cap : Nat) (w : World) (hL : Came w A L) (hS : ∀ k, k < L.length → (L.getD k []).length ≤ 140737488351232) (hc : L.length ≤ cap) (hn : L.length ≤ 4611686018427387904) :
    Calls Tryd.prog 21 #[.slice A L.length cap] w fun e w' => e = .returned (.agg (bRow (Sha.root L))) ∧ Below w.heap.size w w' := by
  by_cases h : L = []
  · subst h; exact refRoot_0 hRS A cap w
  · obtain ⟨b, off, rfl, hl⟩ := hL h
    exact refRoot_some hRS L.length L b off cap w rfl hl (fun k hk => by have := hS k hk; omega) hc hn
theorem owns_cap {w : World} {base n cap : Nat} {A : Option Addr} {xs : List Value} (h : w.ownsRow base 24 32 (.slice A n cap) n xs) : n ≤ cap := by
  obtain ⟨_, ⟨h1, h2⟩ | ⟨g, c, cur, h1, _, _, h2, _⟩⟩ := h
  · omega
  · injection h1 with _ _ h3
    omega
set_option maxHeartbeats 4000000 in
set_option maxRecDepth 100000 in
theorem roots_out (hRS : RefSum) (A : Option Addr) (L : List (List UInt8)) (n cap : Nat) (i : Int) (w : World) (hT : Tab w) (hL : Came w A L) (hS : ∀ k, k < L.length → (L.getD k []).length ≤ 140737488351232) (hLn : L.length = min n 100) (hc : n ≤ cap) (hn : n ≤ 9223372036854775807) (h : i < 0 ∨ (L.length : Int) ≤ i) :
    Calls Tryd.prog 5 #[.slice A n cap, .int .i64 i] w fun e w' => e = .returned (.bool true) ∧ Below w.heap.size w w' := by
  have HT := Lib.hid hT
  have hpos := hT.pos
  have hf := few_any A n cap w hc hn
  rw [← hLn] at hf
  have hp := Proof_out L A i cap w h
  have hr := fun (w' : World) (hb : Below w.heap.size w w') => root_came A L cap w' (hT.below hb hpos) (hL.below hb) hS (by omega) (by omega)
  have hq := fun (w' : World) (hb : Below w.heap.size w w') => refRoot_came hRS A L cap w' (hL.below hb) hS (by omega) (by omega)
  have hRl := Sha.root_len L
  generalize Sha.root L = R at *
  have heqs : ∀ W, (Op.equalIn 10000 24 (.agg (bRow R)) (.agg (bRow R))).run Tryd.prog W = .ok true W := fun W => (hash_eq W R R hRl hRl).trans (by rw [decide_eq_true rfl])
  generalize L.length = m at *
  have HF := Lib.hid hf
  have HP := Lib.hid hp
  have HR := Lib.hid hr
  have HQ := Lib.hid hq
  have HE := Lib.hid heqs
  clear hT hL hS hf hp hr hq heqs hRS hRl hLn hc hn
  by_cases h0 : i < 0
  · clear h
    go_enter Tryd.func5, Tryd.ntmps5
    go_wp2_with fail
    refine HF.out.mono ?_
    rintro e w' ⟨rfl, rfl⟩
    go_wp2_with fail
    refine HP.out.mono ?_
    rintro e w1 ⟨rfl, hb1⟩
    go_wp2_with fail
    refine (awake_any w1 (HT.out.below hb1 hpos)).mono ?_
    rintro e w2 ⟨rfl, hb2⟩
    have hb2 := hb1.trans (hb2.mono hb1.size)
    go_wp2_with fail
    refine (HR.out w2 hb2).mono ?_
    rintro e w3 ⟨rfl, hb3⟩
    have hb3 := hb2.trans (hb3.mono hb2.size)
    go_wp2_with fail
    refine (HQ.out w3 hb3).mono ?_
    rintro e w4 ⟨rfl, hb4⟩
    have hb4 := hb3.trans (hb4.mono hb3.size)
    have heqs := HE.out
    go_wp2_with fail
    go_ret
    exact ⟨rfl, hb4⟩
  · have h1 : 0 ≤ i := by omega
    have h2 : (m : Int) ≤ i := by omega
    clear h0 h
    go_enter Tryd.func5, Tryd.ntmps5
    go_wp2_with fail
    refine HF.out.mono ?_
    rintro e w' ⟨rfl, rfl⟩
    go_wp2_with fail
    refine HP.out.mono ?_
    rintro e w1 ⟨rfl, hb1⟩
    go_wp2_with fail
    refine (awake_any w1 (HT.out.below hb1 hpos)).mono ?_
    rintro e w2 ⟨rfl, hb2⟩
    have hb2 := hb1.trans (hb2.mono hb1.size)
    go_wp2_with fail
    refine (HR.out w2 hb2).mono ?_
    rintro e w3 ⟨rfl, hb3⟩
    have hb3 := hb2.trans (hb3.mono hb2.size)
    go_wp2_with fail
    refine (HQ.out w3 hb3).mono ?_
    rintro e w4 ⟨rfl, hb4⟩
    have hb4 := hb3.trans (hb4.mono hb3.size)
    have heqs := HE.out
    go_wp2_with fail
    go_ret
    exact ⟨rfl, hb4⟩
set_option maxHeartbeats 4000000 in
set_option maxRecDepth 100000 in
theorem roots_in (hRS : RefSum) (L : List (List UInt8)) (b off n cap i : Nat) (w : World) (hT : Tab w) (hL : Lies w w.heap.size b off L) (hS : ∀ k, k < L.length → (L.getD k []).length ≤ 140737488351232) (hLn : L.length = min n 100) (hc : n ≤ cap) (hn : n ≤ 9223372036854775807) (hi : i < L.length) :
    Calls Tryd.prog 5 #[.slice (some ⟨b, off, none⟩) n cap, .int .i64 i] w fun e w' => e = .returned (.bool true) ∧ Below w.heap.size w w' := by
  have HT := Lib.hid hT
  have hpos := hT.pos
  have hf := few_any (some ⟨b, off, none⟩) n cap w hc hn
  rw [← hLn] at hf
  have hcame : Came w (some ⟨b, off, none⟩) L := fun _ => ⟨b, off, rfl, hL⟩
  have hp := Proof_in L b off cap i w hT hL (fun k hk => by have := hS k hk; omega) (by omega) (by omega) hi
  have hr := fun (w' : World) (hb : Below w.heap.size w w') => root_came (some ⟨b, off, none⟩) L cap w' (hT.below hb hpos) (hcame.below hb) hS (by omega) (by omega)
  have hq := fun (w' : World) (hb : Below w.heap.size w w') => refRoot_came hRS (some ⟨b, off, none⟩) L cap w' (hcame.below hb) hS (by omega) (by omega)
  have hrp := fun (w' : World) (hb : Below w.heap.size w w') => refProof_some hRS L.length L b off cap i w' rfl ((hL.below hb (Nat.le_refl _)).mono hb.size) (fun k hk => by have := hS k hk; omega) (by omega) (by omega) hi
  have h32 := Sha.proof_all L.length L i rfl
  have hlog := Sha.path_len_log 63 L.length i (by omega)
  have hplen := Sha.proof_len L.length L i rfl
  have hRl := Sha.root_len L
  generalize Sha.root L = R at *
  have heqs : ∀ W, (Op.equalIn 10000 24 (.agg (bRow R)) (.agg (bRow R))).run Tryd.prog W = .ok true W := fun W => (hash_eq W R R hRl hRl).trans (by rw [decide_eq_true rfl])
  have hPl : (Sha.proof L i).length ≤ 63 := by omega
  have hi1 : (i : Int) < (L.length : Int) := by omega
  generalize Sha.proof L i = Pr at *
  generalize L.length = m at *
  have HF := Lib.hid hf
  have HP := Lib.hid hp
  have HR := Lib.hid hr
  have HQ := Lib.hid hq
  have HRP := Lib.hid hrp
  have HE := Lib.hid heqs
  have H32 := Lib.hid h32
  clear hT hL hS hf hp hr hq hrp heqs hRS hRl hLn hc hn h32 hcame hlog hplen
  go_enter Tryd.func5, Tryd.ntmps5
  go_wp2_with fail
  refine HF.out.mono ?_
  rintro e w' ⟨rfl, rfl⟩
  go_wp2_with fail
  refine HP.out.mono ?_
  rintro e w1 ⟨v, rfl, hown, hb1⟩
  obtain ⟨B, c, rfl, hh1⟩ := owns_hashes hown H32.out
  have hcB := owns_cap hown
  have HH1 := Lib.hid hh1
  clear hown hh1
  go_wp2_with fail
  refine (awake_any w1 (HT.out.below hb1 hpos)).mono ?_
  rintro e w2 ⟨rfl, hb2⟩
  have HH2 := Lib.hid (HH1.out.below hb2 (Nat.le_refl _))
  have hb2 := hb1.trans (hb2.mono hb1.size)
  go_wp2_with fail
  refine (HR.out w2 hb2).mono ?_
  rintro e w3 ⟨rfl, hb3⟩
  have HH3 := Lib.hid (HH2.out.below hb3 (Nat.le_refl _))
  have hb3 := hb2.trans (hb3.mono hb2.size)
  go_wp2_with fail
  refine (HQ.out w3 hb3).mono ?_
  rintro e w4 ⟨rfl, hb4⟩
  have HH4 := Lib.hid (HH3.out.below hb4 (Nat.le_refl _))
  have hb4 := hb3.trans (hb4.mono hb3.size)
  have heqs := HE.out
  go_wp2_with fail
  clear heqs
  refine (HRP.out w4 hb4).mono ?_
  rintro e w5 ⟨v, rfl, hown, hb5⟩
  obtain ⟨C, c', rfl, hh5⟩ := owns_hashes hown H32.out
  have hcC := owns_cap hown
  have HH5 := Lib.hid hh5
  have HH5b := Lib.hid (HH4.out.below hb5 (Nat.le_refl _))
  have hb5 := hb4.trans (hb5.mono hb4.size)
  clear hown hh5
  go_wp2_with fail
  refine (Same_same Pr B C c c' w5 HH5b.out HH5.out H32.out (by omega) hcB hcC).mono ?_
  rintro e w6 ⟨rfl, hb6⟩
  have hb6 := hb5.trans (hb6.mono hb5.size)
  go_wp2_with fail
  go_ret
  exact ⟨rfl, hb6⟩
theorem digestRoots_any (hRS : RefSum) (L : List (List UInt8)) (A : Option Addr) (cap : Nat) (i : Int) (w : World) (hT : Tab w) (hL : Came w A L) (hc : L.length ≤ cap) (hn : L.length ≤ 9223372036854775807) (hS : ∀ l ∈ L, l.length ≤ 140737488351232) :
    Calls Tryd.prog 5 #[.slice A L.length cap, .int .i64 i] w fun e w' => e = .returned (.bool true) ∧ Below w.heap.size w w' := by
  have ht : (L.take 100).length = min L.length 100 := by rw [List.length_take, Nat.min_comm]
  have hs := small_of (small_take hS 100)
  by_cases h : i < 0 ∨ ((L.take 100).length : Int) ≤ i
  · exact roots_out hRS A (L.take 100) L.length cap i w hT (hL.take 100) hs ht hc hn h
  · obtain ⟨i', rfl⟩ : ∃ i' : Nat, i = i' := ⟨i.toNat, by omega⟩
    have hne : L ≠ [] := by intro h0; rw [h0] at h; simp at h
    obtain ⟨b, off, rfl, hl⟩ := hL hne
    exact roots_in hRS (L.take 100) b off L.length cap i' w hT (hl.take 100) hs ht hc hn (by omega)
end Go.Proofs.YtdifbndpgbdkbaaDoor
