/- What later texts need of the earlier layers. -/
import Derived.Test.YtjeooegkfjlejaaDoorEarO
import Derived.Test.YtjeooegkfjlejaaDoorEarS
import Derived.Test.YtjeooegkfjlejaaDoorEarT
import Derived.Test.YtjeooegkfjlejaaDoorEarC
import Derived.Test.YtjeooegkfjlejaaDoorEarA
import Derived.Test.YtjeooegkfjlejaaDoorEarB
import Derived.Test.YtjeooegkfjlejaaDoorIbA
import Derived.Test.YtjeooegkfjlejaaDoorTrMath
import Derived.Test.YtjeooegkfjlejaaDoorTrTm
import Derived.Test.YtjeooegkfjlejaaDoorTrHash
import Derived.Test.YtjeooegkfjlejaaDoorTrMem
import Derived.Test.YtjeooegkfjlejaaDoorTrLv
import Derived.Test.YtjeooegkfjlejaaDoorTrLink
import Derived.Test.YtjeooegkfjlejaaDoorTrBeh
import Derived.Test.YtjeooegkfjlejaaDoorTrCh
import Derived.Test.YtjeooegkfjlejaaDoorTrAt
import Derived.Test.YtjeooegkfjlejaaDoorTrNew
import Derived.Test.YtjeooegkfjlejaaDoorTrMine
import Derived.Test.YtjeooegkfjlejaaDoorTrAll
import Derived.Test.YtjeooegkfjlejaaDoorTrFind
import Derived.Test.YtjeooegkfjlejaaDoorTrAwk
import Derived.Test.YtjeooegkfjlejaaDoorTrLaw2
import Derived.Test.YtjeooegkfjlejaaDoorTrRch
import Derived.Test.YtjeooegkfjlejaaDoorTrRnew
import Derived.Test.YtjeooegkfjlejaaDoorTrFew
import Derived.Test.YtjeooegkfjlejaaDoorTrUpd
import Derived.Test.YtjeooegkfjlejaaDoorTrUpto
import Derived.Test.YtjeooegkfjlejaaDoorTrTurn
import Derived.Test.YtjeooegkfjlejaaDoorTrSame
/- ---- TrSt ---- -/
/- A chain that a law holds: every call over it; the acts that came in. -/
namespace Go.Proofs.YtjeooegkfjlejaaDoor
open Go.RowKit
set_option linter.unusedVariables false
set_option linter.unusedSimpArgs false

theorem ChAt.lower {w : World} {b b' P : Nat} {dp de : Int} {ls : List Lv} (h : ChAt w b P dp de ls) (hb : b' ≤ b) : ChAt w b' P dp de ls := by
  obtain ⟨h0, v, h1, h2⟩ := h
  exact ⟨by omega, v, h1, own_lower h2.1 hb, fun x hx => ⟨(h2.2 x hx).1, own_lower (h2.2 x hx).2.1 hb, (h2.2 x hx).2.2⟩⟩
namespace Tr
theorem good_first : Good [first] := ⟨⟨rfl, rfl, first_right, trivial⟩, by simp, by simp⟩
theorem Good.fine {L : List Lk} (h : Good L) : ∀ x ∈ L, x.b.Fine := fun x hx => by
  obtain ⟨k, hk, rfl⟩ := List.getElem_of_mem hx
  have hc := congrArg Prod.snd (h.num hk).2
  have hm := (may_iff _).1 (may_of hc)
  exact ⟨by unfold Tx.fits; omega, hm.2.2.2⟩
theorem Good.pos {L : List Lk} (h : Good L) : 0 < L.length := List.length_pos_iff.2 h.2.1
end Tr
/-- a chain of the program in a world that came of w -/
def StAt (w W : World) (P : Nat) (dp de : Int) (L : List Tr.Lk) : Prop :=
  Below w.heap.size w W ∧ Tr.Good L ∧ ∃ ls : List Lv, ls.map Lv.k = L ∧ ChAt W w.heap.size P dp de ls
theorem StAt.below {w W W' : World} {P : Nat} {dp de : Int} {L : List Tr.Lk} (h : StAt w W P dp de L) (hb : Below W.heap.size W W') : StAt w W' P dp de L := by
  obtain ⟨h1, h2, ls, h3, h4⟩ := h
  exact ⟨two_below' h1 hb, h2, ls, h3, h4.below hb⟩
theorem newS (d : Int) (w W : World) (h0 : 0 ≤ d) (h1 : d ≤ 4096) (hT : Tab w) (hW : Below w.heap.size w W) :
    Calls Tryd.prog 14 #[.int .i64 d] W fun e w' => (∃ P : Nat, e = .returned (.tuple #[.pointer (some ⟨P, 0, none⟩), .int .i64 0]) ∧ StAt w w' P d 0 [Tr.first]) ∧ Below W.heap.size W w' := by
  refine (new_yes d W h0 h1 (hT.below hW hT.pos)).mono ?_
  rintro e w' ⟨⟨P, x, rfl, hx, hc⟩, hb⟩
  exact ⟨⟨P, rfl, two_below' hW hb, Tr.good_first, [x], by simp [hx], hc.lower hW.size⟩, hb⟩
theorem mineS {w W : World} {P : Nat} {dp de : Int} {L : List Tr.Lk} (h : StAt w W P dp de L) (A : Option Addr) (c : Nat) (items : List It) (salt : Int) (hs : Tx.fits salt) (hin : SlIn w w.heap.size A c items) (hT : Tab w) :
    Calls Tryd.prog 31 #[.pointer (some ⟨P, 0, none⟩), .slice A items.length c, .int .i64 salt] W fun e w' =>
      e = .returned (hashV (Tr.mineE (Tr.lastOf Tr.zeroL L) (L.length - 1) items salt).1 (Tr.mineE (Tr.lastOf Tr.zeroL L) (L.length - 1) items salt).2) ∧ StAt w w' P dp de (Tr.mineL L items salt) ∧ Keep W w' := by
  obtain ⟨h1, h2, ls, rfl, h4⟩ := h
  have hp := h2.pos
  have hl := h2.2.2
  rw [List.length_map] at hp hl
  have hla : Tr.lastOf Tr.zeroL (ls.map Lv.k) = (ls[ls.length - 1]'(by omega)).k := by
    rw [Tr.lastOf_get h2.2.1, List.getElem_map]
    congr 2
    rw [List.length_map]
  have hnum : (ls[ls.length - 1]'(by omega)).k.b.number < 9223372036854775807 := by
    have := h2.last
    rw [hla, List.length_map] at this
    rw [this]; omega
  have hmc : Tr.mineC (ls.map Lv.k) items salt = (Tr.mineE (ls[ls.length - 1]'(by omega)).k (ls.length - 1) items salt).2 := by
    unfold Tr.mineC Tr.mineE
    rw [hla, List.length_map]
    split <;> rfl
  refine (mine_any W w.heap.size P dp de ls h4 hp (by omega) hnum A c items salt hs ((hin.below h1).mono h1.size) (hT.below h1 hT.pos) hT.pos).mono ?_
  rintro e w' ⟨rfl, hb, hk, hr⟩
  rw [hla, List.length_map]
  refine ⟨rfl, ⟨h1.trans hb, ?_, ?_⟩, hk⟩
  · exact h2.mine items salt
  · unfold Tr.mineL
    rw [hmc]
    rcases hr with ⟨hr, hc⟩ | ⟨hr, x, hx, hc⟩
    · rw [if_neg hr]; exact ⟨ls, rfl, hc⟩
    · rw [if_pos hr]
      refine ⟨ls ++ [x], ?_, hc⟩
      rw [List.map_append, List.map_singleton, hx, hla]
theorem turnS {w W : World} {P : Nat} {dp de : Int} {L : List Tr.Lk} (h : StAt w W P dp de L) (under salt : Int) (hs : Tx.fits salt) (A : Option Addr) (c : Nat) (B : List Sv) (hB : LsIn w w.heap.size A c B) (hm : B.length ≤ 1000000) (hT : Tab w) :
    Calls Tryd.prog 33 #[.pointer (some ⟨P, 0, none⟩), .int .i64 under, .slice A B.length c, .int .i64 salt] W fun e w' =>
      e = .returned (.int .i64 (Tr.turnC L under (B.map Sv.its) salt)) ∧ StAt w w' P dp (Tr.turnD de L under (B.map Sv.its) salt) (Tr.turnL L under (B.map Sv.its) salt) ∧ Keep W w' := by
  obtain ⟨h1, h2, ls, rfl, h4⟩ := h
  refine (turn_any W w.heap.size P dp de ls h4 h2 under salt hs A c B ((hB.below h1).mono h1.size) hm (hT.below h1 hT.pos) hT.pos).mono ?_
  rintro e w' ⟨rfl, hb, hk, ls', hl, hc⟩
  exact ⟨rfl, ⟨h1.trans hb, h2.turn under _ salt, ls', hl, hc⟩, hk⟩
theorem heightS {w W : World} {P : Nat} {dp de : Int} {L : List Tr.Lk} (h : StAt w W P dp de L) :
    Calls Tryd.prog 18 #[.pointer (some ⟨P, 0, none⟩)] W fun e w' => e = .returned (.int .i64 ((L.length : Int) - 1)) ∧ W = w' := by
  obtain ⟨h1, h2, ls, rfl, h4⟩ := h
  have hp := h2.pos
  have hl := h2.2.2
  rw [List.length_map] at hp hl ⊢
  exact height_any W w.heap.size P dp de ls h4 hp (by omega)
theorem finalS {w W : World} {P : Nat} {dp de : Int} {L : List Tr.Lk} (h : StAt w W P dp de L) (hd : 0 ≤ dp) (hd2 : dp ≤ 1000000) :
    Calls Tryd.prog 20 #[.pointer (some ⟨P, 0, none⟩)] W fun e w' => e = .returned (.int .i64 (max ((L.length : Int) - 1 - dp) 0)) ∧ Below W.heap.size W w' := by
  obtain ⟨h1, h2, ls, rfl, h4⟩ := h
  have hp := h2.pos
  have hl := h2.2.2
  rw [List.length_map] at hp hl ⊢
  exact final_any W w.heap.size P dp de ls h4 hp (by omega) hd hd2
theorem deepestS {w W : World} {P : Nat} {dp de : Int} {L : List Tr.Lk} (h : StAt w W P dp de L) :
    Calls Tryd.prog 22 #[.pointer (some ⟨P, 0, none⟩)] W fun e w' => e = .returned (.int .i64 de) ∧ W = w' := by
  obtain ⟨h1, h2, ls, rfl, h4⟩ := h
  exact deepest_any W w.heap.size P dp de ls h4
theorem uptoS {w W : World} {P : Nat} {dp de : Int} {L : List Tr.Lk} (h : StAt w W P dp de L) (n : Int) :
    Calls Tryd.prog 24 #[.pointer (some ⟨P, 0, none⟩), .int .i64 n] W fun e w' => (∃ A c bs, e = .returned (.slice A bs.length c) ∧ UpAt w' w.heap.size (.slice A bs.length c) bs ∧ bks bs = (L.take (n + 1).toNat).map Tr.Lk.b) ∧ Below W.heap.size W w' := by
  obtain ⟨h1, h2, ls, rfl, h4⟩ := h
  have hl := h2.2.2
  rw [List.length_map] at hl
  refine (upto_any W w.heap.size P dp de ls h4 (fun e => h2.2.1 (by rw [e]; rfl)) (by omega) n).mono ?_
  rintro e w' ⟨⟨v, bs, rfl, hu, hb⟩, hbe⟩
  obtain ⟨A, c, rfl, _⟩ := hu.form
  refine ⟨⟨A, c, bs, rfl, hu.lower h1.size, ?_⟩, hbe⟩
  rw [hb, ← h2.uptoL n]
  unfold Tr.uptoL
  rw [List.takeWhile_map, List.map_map]
  rfl
theorem hashS {w W : World} {P : Nat} {dp de : Int} {L : List Tr.Lk} (h : StAt w W P dp de L) (i : Nat) (hi : i < L.length) :
    Calls Tryd.prog 26 #[.pointer (some ⟨P, 0, none⟩), .int .i64 i] W fun e w' => e = .returned (hashV L[i].hash 0) ∧ Below W.heap.size W w' := by
  obtain ⟨h1, h2, ls, rfl, h4⟩ := h
  have hl := h2.2.2
  rw [List.length_map] at hl hi
  rw [List.getElem_map]
  have hx : ls[i].Fits := by obtain ⟨_, v, _, q⟩ := h4; exact (q.2 _ (List.getElem_mem hi)).1
  exact hashOf_any _ i ls[i] 0 W hx (fun W2 hW2 => at_yes i W2 w.heap.size P dp de ls (h4.below hW2) hi (by omega))
/-- the same blocks twice -/
theorem allS {W : World} {A A' : Option Addr} {c c' : Nat} (l m : List Bv) (hl : BvIn W W.heap.size A c l) (hm : BvIn W W.heap.size A' c' m) (hf : ∀ x ∈ l, x.Fits) (hfm : ∀ x ∈ m, x.Fits) (h : bks l = bks m) (hok : ∀ b ∈ bks l, b.Fine) (hn : l.length ≤ 1000000) :
    Calls Tryd.prog 23 #[.slice A l.length c, .slice A' m.length c'] W fun e w' => e = .returned (.bool true) ∧ Below W.heap.size W w' :=
  rall_any l m h hf hfm (fun x hx => hok _ (List.mem_map.2 ⟨x, hx, rfl⟩)) hn A A' c c' W hl hm
/-- a call of the law's -/
structure Ac where
  kind : Int
  under : Int
  salt : Int
  A : Option Addr
  cap : Nat
  L : List Sv
def Ac.cells (x : Ac) : List Value := [.int .i64 x.kind, .int .i64 x.under, .int .i64 x.salt, .slice x.A x.L.length x.cap]
def Ac.In (w : World) (B : Nat) (x : Ac) : Prop := LsIn w B x.A x.cap x.L ∧ Tx.fits x.kind ∧ Tx.fits x.under ∧ Tx.fits x.salt
/-- calls that came in -/
def AcsIn (w : World) (B : Nat) (A : Option Addr) (c : Nat) (l : List Ac) : Prop :=
  (l ≠ [] → ∃ g off, A = some ⟨g, off, none⟩ ∧ g < B ∧ ∀ i (hi : i < l.length), w.rangeAt g (off + i * 4) l[i].cells) ∧ l.length ≤ 1000000000000 ∧ ∀ x ∈ l, x.In w B
theorem first11_in {w : World} {B : Nat} {x : Ac} (h : x.In w B) : SlIn w B (first11 x.L).A (first11 x.L).cap (first11 x.L).its := by
  unfold first11
  cases hx : x.L with
  | nil => exact SlIn.nil _ _
  | cons y r => exact h.1.2.2.2 y (by rw [hx]; simp)
end Go.Proofs.YtjeooegkfjlejaaDoor
