/- What later texts need of the earlier layers. -/
import Derived.Test.YtjeooegkfjlejaaDoorEarO
import Derived.Test.YtjeooegkfjlejaaDoorEarS
import Derived.Test.YtjeooegkfjlejaaDoorEarT
import Derived.Test.YtjeooegkfjlejaaDoorEarC
import Derived.Test.YtjeooegkfjlejaaDoorEarA
import Derived.Test.YtjeooegkfjlejaaDoorEarB
import Derived.Test.YtjeooegkfjlejaaDoorIbA
import Derived.Test.YtjeooegkfjlejaaDoorTrMath
import Derived.Test.YtjeooegkfjlejaaDoorTrTm
import Derived.Test.YtjeooegkfjlejaaDoorTrHash
import Derived.Test.YtjeooegkfjlejaaDoorTrMem
import Derived.Test.YtjeooegkfjlejaaDoorTrLv
import Derived.Test.YtjeooegkfjlejaaDoorTrLink
import Derived.Test.YtjeooegkfjlejaaDoorTrBeh
import Derived.Test.YtjeooegkfjlejaaDoorTrCh
import Derived.Test.YtjeooegkfjlejaaDoorTrAt
import Derived.Test.YtjeooegkfjlejaaDoorTrNew
import Derived.Test.YtjeooegkfjlejaaDoorTrMine
import Derived.Test.YtjeooegkfjlejaaDoorTrAll
import Derived.Test.YtjeooegkfjlejaaDoorTrFind
import Derived.Test.YtjeooegkfjlejaaDoorTrAwk
import Derived.Test.YtjeooegkfjlejaaDoorTrLaw2
import Derived.Test.YtjeooegkfjlejaaDoorTrRch
import Derived.Test.YtjeooegkfjlejaaDoorTrRnew
import Derived.Test.YtjeooegkfjlejaaDoorTrFew
import Derived.Test.YtjeooegkfjlejaaDoorTrUpd
import Derived.Test.YtjeooegkfjlejaaDoorTrUpto
import Derived.Test.YtjeooegkfjlejaaDoorTrTurn
import Derived.Test.YtjeooegkfjlejaaDoorTrSame
import Derived.Test.YtjeooegkfjlejaaDoorTrSt
import Derived.Test.YtjeooegkfjlejaaDoorTrRHash
import Derived.Test.YtjeooegkfjlejaaDoorTrGrow
import Derived.Test.YtjeooegkfjlejaaDoorTrRmine
import Derived.Test.YtjeooegkfjlejaaDoorTrSmall
import Derived.Test.YtjeooegkfjlejaaDoorTrRturn
import Derived.Test.YtjeooegkfjlejaaDoorTrDo
/- ---- TrDoesA ---- -/
/- TreeDoes: what its walk needs. -/
namespace Go.Proofs.YtjeooegkfjlejaaDoor
open Go.RowKit
set_option linter.unusedVariables false
set_option linter.unusedSimpArgs false

theorem act_size : (Tryd.prog.info? 34).map (·.size) = some 4 := by kernel_rfl
theorem RStAt.deep {w W : World} {P : Nat} {dp de : Int} {L : List Tr.Lk} (h : RStAt w W P dp de L) : W.cell? ⟨P, 2, none⟩ = some (.int .i64 de) ∧ W.frozen? ⟨P, 2, none⟩ = false := by
  obtain ⟨h1, h2, bs, h3, h4⟩ := h
  obtain ⟨A, c, c0, c1, c2, f, _⟩ := h4.cells
  exact ⟨c2, f 2⟩
theorem RStAt.list {w W : World} {P : Nat} {dp de : Int} {L : List Tr.Lk} (h : RStAt w W P dp de L) : ∃ (bs : List Bv) (A : Option Addr) (c : Nat), bks bs = L.map Tr.Lk.b ∧ L.length = bs.length ∧ ∀ W', Below W.heap.size W W' → W'.cell? ⟨P, 0, none⟩ = some (.slice A bs.length c) ∧ BvIn W' W'.heap.size A c bs ∧ ∀ x ∈ bs, x.Fits := by
  obtain ⟨h1, h2, bs, h3, h4, h5, A, c, h6, h7⟩ := h
  refine ⟨bs, A, c, h3, by have := congrArg List.length h3; simpa [bks] using this.symm, fun W' hW => ⟨?_, (h7.below h1.size hW).inn (Nat.le_trans h1.size hW.size)⟩⟩
  have := (h6.below hW).cell 0 (by simp)
  simpa using this
theorem blockNo {w W : World} {P : Nat} {dp de : Int} {L : List Tr.Lk} (h : StAt w W P dp de L) (n : Int) (hn : n < 0 ∨ (L.length : Int) ≤ n) (hn2 : Tx.fits n) :
    Calls Tryd.prog 25 #[.pointer (some ⟨P, 0, none⟩), .int .i64 n] W fun e w' => BlkPair W.heap.size Tr.zeroB 31 e w' ∧ Below W.heap.size W w' := by
  obtain ⟨h1, h2, ls, rfl, h4⟩ := h
  have hl := h2.2.2
  rw [List.length_map] at hl hn
  exact blockOf_any _ n Lv.zero 31 W Lv.zero_fits (SlIn.nil _ _) (fun W2 hW2 => at_no n W2 w.heap.size P dp de ls (h4.below hW2) hn hn2 (by omega))
theorem hashNo {w W : World} {P : Nat} {dp de : Int} {L : List Tr.Lk} (h : StAt w W P dp de L) (n : Int) (hn : n < 0 ∨ (L.length : Int) ≤ n) (hn2 : Tx.fits n) :
    Calls Tryd.prog 26 #[.pointer (some ⟨P, 0, none⟩), .int .i64 n] W fun e w' => e = .returned (hashV Tx.zero 31) ∧ Below W.heap.size W w' := by
  obtain ⟨h1, h2, ls, rfl, h4⟩ := h
  have hl := h2.2.2
  rw [List.length_map] at hl hn
  exact hashOf_any _ n Lv.zero 31 W Lv.zero_fits (fun W2 hW2 => at_no n W2 w.heap.size P dp de ls (h4.below hW2) hn hn2 (by omega))
theorem blockYes {w W : World} {P : Nat} {dp de : Int} {L : List Tr.Lk} (h : StAt w W P dp de L) (i : Nat) (hi : i < L.length) :
    Calls Tryd.prog 25 #[.pointer (some ⟨P, 0, none⟩), .int .i64 i] W fun e w' => BlkPair W.heap.size L[i].b 0 e w' ∧ Below W.heap.size W w' := by
  obtain ⟨h1, h2, ls, rfl, h4⟩ := h
  have hl := h2.2.2
  rw [List.length_map] at hl hi
  rw [List.getElem_map]
  have hx : ls[i].Fits ∧ OwnIts W w.heap.size ls[i] := by obtain ⟨_, v, _, q⟩ := h4; exact q.2 _ (List.getElem_mem hi)
  exact blockOf_any _ i ls[i] 0 W hx.1 hx.2.sl (fun W2 hW2 => at_yes i W2 w.heap.size P dp de ls (h4.below hW2) hi (by omega))
theorem findS {w W : World} {P : Nat} {dp de : Int} {L : List Tr.Lk} (h : StAt w W P dp de L) (i : Nat) (hi : i < L.length) :
    Calls Tryd.prog 29 #[.pointer (some ⟨P, 0, none⟩), .agg (bRow L[i].hash)] W fun e w' => (∃ q : Int, e = .returned (.tuple #[.int .i64 q, .bool true]) ∧ q ≤ i) ∧ Below W.heap.size W w' := by
  obtain ⟨h1, h2, ls, rfl, h4⟩ := h
  have hl := h2.2.2
  have hi' := hi
  rw [List.length_map] at hl hi
  have h32 : ((ls.map Lv.k)[i]).hash.length = 32 := by
    have := Tr.hashE_len ((ls.map Lv.k)[i]).b
    rw [(h2.num hi').2] at this
    exact this
  refine (find_any W w.heap.size P dp de ls h4 (fun e => h2.2.1 (by rw [e]; rfl)) (by omega) _ h32).mono ?_
  rintro e w' ⟨rfl, hb⟩
  refine ⟨⟨(Tr.find ls (ls.map Lv.k)[i].hash).1, ?_, ?_⟩, hb⟩
  all_goals
    unfold Tr.find
    cases hf : ls.find? (fun x => decide (x.k.hash = (ls.map Lv.k)[i].hash)) with
    | none =>
      have := List.find?_eq_none.1 hf ls[i] (List.getElem_mem hi)
      simp at this
    | some x => ?_
  · rfl
  · obtain ⟨hp, ps, qs, he, hn⟩ := List.find?_eq_some_iff_append.1 hf
    have hla : ps.length ≤ i := by
      rcases Nat.lt_or_ge i ps.length with hlt | hge
      · have hm : ls[i] ∈ ps := by
          have e1 : ls[i]? = ps[i]? := by rw [he, List.getElem?_append_left hlt]
          rw [List.getElem?_eq_getElem hi, List.getElem?_eq_getElem hlt] at e1
          simp only [Option.some.injEq] at e1
          rw [e1]; exact List.getElem_mem hlt
        have := hn _ hm
        simp at this
      · exact hge
    have hlen : ps.length < (ls.map Lv.k).length := by rw [List.length_map, he, List.length_append, List.length_cons]; omega
    have hk := (h2.num hlen).1
    have e1 : (ls.map Lv.k)[ps.length] = x.k := by
      rw [List.getElem_map]
      congr 1
      have e2 : ls[ps.length]? = some x := by rw [he]; simp
      rw [List.getElem?_eq_getElem (by rwa [List.length_map] at hlen)] at e2
      simpa using e2
    rw [e1] at hk
    show x.k.b.number ≤ i
    omega
theorem all4 {W : World} {base : Nat} {A A' : Option Addr} {c c' : Nat} {l m : List Bv} {L : List Tr.Lk} (hu : UpAt W base (.slice A l.length c) l) (hm : BvIn W W.heap.size A' c' m ∧ ∀ x ∈ m, x.Fits) (hl : bks l = L.map Tr.Lk.b) (hF : bks m = L.map Tr.Lk.b ∧ m.length ≤ 4097 ∧ ∀ b ∈ L.map Tr.Lk.b, b.Fine) :
    Calls Tryd.prog 23 #[.slice A l.length c, .slice A' m.length c'] W fun e w' => e = .returned (.bool true) ∧ Below W.heap.size W w' := by
  obtain ⟨A2, c2, e1, hbv⟩ := hu.form
  injection e1 with e1 _ e3
  subst e1
  subst e3
  have hlm : l.length = m.length := by rw [← bks_len, ← bks_len, hl, hF.1]
  exact allS l m hbv hm.1 (fun x hx => (hu.2 x hx).1) hm.2 (hl.trans hF.1.symm) (fun b hb => hF.2.2 b (by rw [← hl]; exact hb)) (by have := hF.2.1; omega)
theorem all4t {W : World} {base : Nat} {A A' : Option Addr} {c c' : Nat} {l m : List Bv} {L : List Tr.Lk} (hu : UpAt W base (.slice A l.length c) l) (hm : BvIn W W.heap.size A' c' m ∧ ∀ x ∈ m, x.Fits) (k : Nat) (hk : k ≤ m.length) (hl : bks l = (L.take k).map Tr.Lk.b) (hF : bks m = L.map Tr.Lk.b ∧ m.length ≤ 4097 ∧ ∀ b ∈ L.map Tr.Lk.b, b.Fine) :
    Calls Tryd.prog 23 #[.slice A l.length c, .slice A' k c'] W fun e w' => e = .returned (.bool true) ∧ Below W.heap.size W w' := by
  have hmk : (m.take k).length = k := by rw [List.length_take]; omega
  have := all4 (A' := A') (c' := c') (m := m.take k) (L := L.take k) hu ⟨hm.1.take hm.2 k, fun x hx => hm.2 x (List.mem_of_mem_take hx)⟩ hl ⟨by have := hF.1; unfold bks at this ⊢; rw [List.map_take, this, List.map_take], by omega, fun b hb => hF.2.2 b (by rw [List.map_take] at hb; exact List.mem_of_mem_take hb)⟩
  rwa [hmk] at this
end Go.Proofs.YtjeooegkfjlejaaDoor
