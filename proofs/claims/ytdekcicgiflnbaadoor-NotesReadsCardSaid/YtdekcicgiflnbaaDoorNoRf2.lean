/- The reference of layer 5: numbers. -/
import Derived.Test.YtdekcicgiflnbaaDoorNoRf1
namespace Go.Proofs.YtdekcicgiflnbaaDoor
open Go.RowKit
set_option linter.unusedVariables false
set_option linter.unusedSimpArgs false

set_option maxRecDepth 20000 in
set_option maxHeartbeats 800000 in
/-- the first of a list's texts as numbers -/
theorem numbers5_any (L : List (List UInt8)) (A : Option Addr) (c n : Nat) (w : World) (hn : n ≤ 4) (ht : ∀ x ∈ L, x.length ≤ 65536) (hT : Texts w w.heap.size A L) :
    Calls Tryd.prog 91 #[.slice A L.length c, .int .i64 n] w fun e w' => NumsEnds (No.raw n L) n w.heap.size e w' ∧ Below w.heap.size w w' := by
  obtain ⟨i0, hi, hz, hs, hby⟩ := int5
  have Hi := Lib.hid hi
  have Hz := Lib.hid hz
  have Hs := Lib.hid hs
  have Hby := Lib.hid hby
  obtain ⟨R, hR⟩ : ∃ R, R = No.raw n L := ⟨_, rfl⟩
  rw [← hR]
  obtain ⟨m, hm⟩ : ∃ m, m = L.length := ⟨_, rfl⟩
  have HM := Lib.hid hm
  have HT := Lib.hid hT
  have RN : Hid (∀ x ∈ L, ∀ W : World, Calls Tryd.prog 116 #[S x] W fun e w' => ∃ (y n : Int), e = .returned (.tuple #[.int .i64 y, .int .i64 n]) ∧ NumIs x y n ∧ W = w') := fun x hx W => rnumber4_any ⟨x.toArray⟩ W (by have := ht x hx; show x.length ≤ _; omega)
  by_cases hlt : m < n
  · have hli : (m : Int) < (n : Int) := by omega
    have HRn : Hid (R = none) := hR.trans (No.raw_few (by omega))
    rw [← hm]
    clear hi hz hs hby hR hm hT ht RN HT
    go_enter Tryd.func91, Tryd.ntmps91
    go_wp2_with fail
    go_ret2
    exact ⟨by rw [HRn.out]; exact ⟨_, rfl⟩, Below.refl _ _⟩
  · have hli : (n : Int) ≤ (m : Int) := by omega
    have HR := Lib.hid hR
    have Hb0 : Hid (Below w.heap.size w w) := Below.refl _ _
    rw [← hm]
    clear hi hz hs hby hR hm hT ht
    go_enter Tryd.func91, Tryd.ntmps91
    go_wp2_with fail
    go_loopw [6, 7] (fun v i wr => ∃ (k : Nat) (ns : List Int), k ≤ n ∧ i = .int .i64 k ∧ No.raw k L = some ns ∧ ns.length = k ∧ wr.ownsRow w.heap.size 3 1 v k (Is ns) ∧ Below w.heap.size w wr) (fun _ i _ => n - (intOf i).toNat)
    case atStart => exact ⟨0, [], Nat.zero_le _, rfl, rfl, rfl, ⟨rfl, .inl ⟨rfl, rfl⟩⟩, Hb0.out⟩
    case round =>
      obtain ⟨k, ns, hkn, rfl, hraw, hnl, hown, hbr⟩ := hrel
      clear Hb0
      have Hraw := Lib.hid hraw
      have Hown := Lib.hid hown
      have Hbr := Lib.hid hbr
      have Hnl := Lib.hid hnl
      clear hraw hown hbr hnl
      by_cases hlk : k < n
      · have hki : (k : Int) < (n : Int) := by omega
        have hkl : k < L.length := by rw [← HM.out]; omega
        have hkm : (k : Int) < (m : Int) := by omega
        obtain ⟨tb, toff, rfl, htb, htc⟩ := (fun hne => HT.out hne) (by intro e; rw [e] at hkl; simp at hkl : L ≠ [])
        have c0 := (Hbr.out.cell (p := ⟨tb, toff + k, none⟩) htb).trans (htc k hkl)
        have HRk := Lib.hid (RN.out L[k] (List.getElem_mem _))
        have Hsn := Lib.hid (fun x (h : Tx.numAll L[k] = some x) => No.raw_snoc Hraw.out hkl h)
        have Hno := Lib.hid (fun (h : Tx.numAll L[k] = none) => No.raw_none hlk hkl h)
        generalize L[k] = t at *
        clear htc
        go_wp2_with fail
        refine (HRk.out _).mono ?_
        rintro _ w1 ⟨x, en, rfl, hI, rfl⟩
        rcases hI with ⟨rfl, hx⟩ | ⟨hne, hx⟩
        · have Hx := Lib.hid (Hsn.out x hx)
          have hone := one_int wr 3 x
          have hown2 := Hown.out.alloc (.cells #[.int .i64 x] 3)
          have hb2 : Below w.heap.size w (wr.alloc (.cells #[.int .i64 x] 3)) := Hbr.out.alloc Hbr.out.size _
          have hsz2 : w.heap.size ≤ (wr.alloc (.cells #[.int .i64 x] 3)).heap.size := hb2.size
          have hk63 : k + 1 ≤ maxLen := by unfold maxLen; omega
          have hk48 : ((k + 1) + (k + 1) / 4 + 192) * 8 ≤ 281474976710656 := by omega
          have Hone := Lib.hid hone
          have Hown2 := Lib.hid hown2
          have Hb2 := Lib.hid hb2
          clear hx Hsn Hno hone hown2 hb2 c0
          go_wp2_with (at_builtin; refine wpList_append_own_wide _ rfl (.tmp 29) (.tmp 31) 75 rfl w.heap.size 3 i0 (.int .i64 0) 1 8 Tryd.underlying75 Hi.out Hz.out Hs.out Hby.out rfl (by decide) _ _ _ rfl Hown2.out ⟨wr.heap.size, 0, none⟩ 1 1 [.int .i64 x] rfl rfl Hone.out (one_intc _) hk63 hk48 hsz2 ?_
                       intro v' w3 hown3 hgrow3 _
                       obtain ⟨g, cp, rfl⟩ := ownsRow_succ hown3
                       have Hb3 := Lib.hid (below_row Hb2.out hsz2 Hown2.out hgrow3)
                       have Hown3 := Lib.hid hown3
                       clear hown3 hgrow3)
          refine ⟨⟨k + 1, ns ++ [x], hlk, by go_num, Hx.out, by simp [Hnl.out], by rw [show Is (ns ++ [x]) = Is ns ++ [.int .i64 x] by simp [Is]]; exact Hown3.out, Hb3.out⟩, by simp [intOf]; omega⟩
        · have HRn := Lib.hid (HR.out.trans (Hno.out hx))
          have d0 := hne
          clear hx hne Hsn Hno
          go_wp2_with fail
          go_ret2
          exact ⟨by rw [HRn.out]; exact ⟨_, rfl⟩, Hbr.out⟩
      · have hki : (n : Int) ≤ (k : Int) := by omega
        obtain rfl : k = n := by omega
        have HRs := Lib.hid (HR.out.trans Hraw.out)
        go_wp2_with fail
        go_ret2
        exact ⟨by rw [HRs.out]; exact ⟨_, rfl, Hown.out⟩, Hbr.out⟩
end Go.Proofs.YtdekcicgiflnbaaDoor
