/- tx.Read: its mathematics; list, whole. -/
/- tx.readBody. -/
/- tx.readBody: the walk. -/
import Derived.Test.YtdekcicgiflnbaaDoorTxSigns
namespace Go.Proofs.YtdekcicgiflnbaaDoor
open Go.RowKit
set_option linter.unusedVariables false
set_option linter.unusedSimpArgs false

namespace Tx
/-- a list that is all of a text -/
def listAll (s : List UInt8) : Option (List (List UInt8)) := if (Oct.rdList s 0).2.2 = 0 ∧ (Oct.rdList s 0).2.1 = s.length then some (Oct.rdList s 0).1 else Option.none
/-- a number that is all of a text -/
def numAll (s : List UInt8) : Option Int := if (Oct.rdNum s 0).2.2 = 0 ∧ (Oct.rdNum s 0).2.1 = s.length then some (Oct.rdNum s 0).1 else Option.none
theorem listAll_listE {L : List (List UInt8)} {b : List UInt8} (h : Oct.listE L = (b, 0)) : listAll b = some L := by
  have := Oct.rdList_list [] [] L b h
  simp only [List.nil_append, List.append_nil, List.length_nil, Int.natCast_zero] at this
  unfold listAll
  rw [this]
  simp
theorem listE_listAll {s : List UInt8} {L : List (List UInt8)} (h : listAll s = some L) : Oct.listE L = (s, 0) := by
  unfold listAll at h
  split at h
  · next h1 =>
    obtain ⟨h2, h3⟩ := h1
    have hL : (Oct.rdList s 0).1 = L := by simpa using h
    rcases Oct.rdList_ok (s := s) (p := 0) (q := (Oct.rdList s 0).2.1) (e := (Oct.rdList s 0).2.2) (l := (Oct.rdList s 0).1) rfl with ⟨h4, _⟩ | ⟨_, _, _, _, h4⟩
    · exact absurd h2 h4
    · rw [hL, h3] at h4
      rw [h4]
      simp
  · cases h
theorem numAll_num {n : Nat} (h : n < 2 ^ 63) : numAll (Oct.num n) = some (n : Int) := by
  have := Oct.rdNum_num [] [] n h
  simp only [List.nil_append, List.append_nil, List.length_nil, Int.natCast_zero] at this
  unfold numAll
  rw [this]
  simp
theorem num_numAll {s : List UInt8} {n : Int} (h : numAll s = some n) : 0 ≤ n ∧ n ≤ 9223372036854775807 ∧ Oct.num n.toNat = s := by
  unfold numAll at h
  split at h
  · next h1 =>
    obtain ⟨h2, h3⟩ := h1
    have hN : (Oct.rdNum s 0).1 = n := by simpa using h
    rcases Oct.rdNum_ok (s := s) (p := 0) (n := (Oct.rdNum s 0).1) (q := (Oct.rdNum s 0).2.1) (e := (Oct.rdNum s 0).2.2) rfl with ⟨h4, _⟩ | ⟨_, _, h5, h6, _, _, h7⟩
    · exact absurd h2 h4
    · rw [hN] at h5 h6 h7
      rw [h3] at h7
      refine ⟨h5, by omega, ?_⟩
      rw [← h7]
      simp
  · cases h
end Tx

set_option maxRecDepth 20000 in
theorem list_some (s : ByteArray) (L : List (List UInt8)) (w : World) (hs : s.size ≤ 9223372036854775807) (h : Tx.listAll s.data.toList = some L) :
    Calls Tryd.prog 70 #[.string s] w fun e w' => ∃ v, e = .returned (.tuple #[v, .int .i64 0]) ∧ TextsV w' v L ∧ Below w.heap.size w w' := by
  unfold Tx.listAll at h
  split at h
  · next h1 =>
    obtain ⟨h2, h3⟩ := h1
    have hL : (Oct.rdList s.data.toList 0).1 = L := by simpa using h
    have RL := ReadList_any s 0 w hs
    unfold ListEnds at RL
    rw [h2, h3, hL] at RL
    have hq : (s.data.toList.length : Int) = (s.size : Int) := by rw [Array.length_toList]; rfl
    rw [hq] at RL
    have HRL := Lib.hid RL
    clear h h2 h3 hL hq RL
    go_enter Tryd.func70, Tryd.ntmps70
    go_wp2_with fail
    refine HRL.out.mono ?_
    rintro _ w1 ⟨v, rfl, hT, hb⟩
    have HT := Lib.hid hT
    have Hb := Lib.hid hb
    clear hT hb
    go_wp2_with fail
    go_ret2
    exact ⟨_, rfl, HT.out, Hb.out⟩
  · cases h
set_option maxRecDepth 20000 in
theorem list_no (s : ByteArray) (w : World) (hs : s.size ≤ 9223372036854775807) (h : Tx.listAll s.data.toList = none) :
    Calls Tryd.prog 70 #[.string s] w fun e w' => ∃ n : Int, (n != 0) = true ∧ e = .returned (.tuple #[.slice none 0 0, .int .i64 n]) ∧ Below w.heap.size w w' := by
  unfold Tx.listAll at h
  split at h
  · cases h
  · next h1 =>
    have RL := ReadList_any s 0 w hs
    unfold ListEnds at RL
    have hq : (s.data.toList.length : Int) = (s.size : Int) := by rw [Array.length_toList]; rfl
    rw [hq] at h1
    generalize (Oct.rdList s.data.toList 0).2.1 = q at *
    generalize (Oct.rdList s.data.toList 0).2.2 = er at *
    generalize (Oct.rdList s.data.toList 0).1 = L at *
    have HRL := Lib.hid RL
    clear h hq RL
    by_cases h0 : er = 0
    · have hne : q ≠ (s.size : Int) := fun e => h1 ⟨h0, e⟩
      have d1 : (q != (s.size : Int)) = true := by simpa using hne
      subst h0
      clear h1 hne
      go_enter Tryd.func70, Tryd.ntmps70
      go_wp2_with fail
      refine HRL.out.mono ?_
      rintro _ w1 ⟨v, rfl, hT, hb⟩
      have Hb := Lib.hid hb
      clear hT hb
      go_wp2_with fail
      go_ret2
      exact ⟨6, rfl, rfl, Hb.out⟩
    · have d0 : (er != 0) = true := by simpa using h0
      clear h1 h0
      go_enter Tryd.func70, Tryd.ntmps70
      go_wp2_with fail
      refine HRL.out.mono ?_
      rintro _ w1 ⟨v, rfl, hT, hb⟩
      have Hb := Lib.hid hb
      have D0 := Lib.hid d0
      clear hT hb
      go_wp2_with fail
      go_ret2
      exact ⟨er, D0.out, rfl, Hb.out⟩
set_option maxRecDepth 20000 in
theorem whole_some (s : ByteArray) (n : Int) (w : World) (hs : s.size ≤ 9223372036854775807) (h : Tx.numAll s.data.toList = some n) :
    Calls Tryd.prog 110 #[.string s] w fun e w' => e = .returned (.tuple #[.int .i64 n, .int .i64 0]) ∧ w = w' := by
  unfold Tx.numAll at h
  split at h
  · next h1 =>
    obtain ⟨h2, h3⟩ := h1
    have hN : (Oct.rdNum s.data.toList 0).1 = n := by simpa using h
    have RL := readNumber_any s 0 w hs
    unfold rdNumV three at RL
    rw [h2, h3, hN] at RL
    have hq : (s.data.toList.length : Int) = (s.size : Int) := by rw [Array.length_toList]; rfl
    rw [hq] at RL
    have HRL := Lib.hid RL
    clear h h2 h3 hN hq RL
    go_enter Tryd.func110, Tryd.ntmps110
    go_wp2_with fail
    refine HRL.out.mono ?_
    rintro _ w1 ⟨rfl, rfl⟩
    go_wp2_with fail
    go_ret2
    exact ⟨rfl, rfl⟩
  · cases h
set_option maxRecDepth 20000 in
theorem whole_no (s : ByteArray) (w : World) (hs : s.size ≤ 9223372036854775807) (h : Tx.numAll s.data.toList = none) :
    Calls Tryd.prog 110 #[.string s] w fun e w' => ∃ n : Int, (n != 0) = true ∧ e = .returned (.tuple #[.int .i64 0, .int .i64 n]) ∧ w = w' := by
  unfold Tx.numAll at h
  split at h
  · cases h
  · next h1 =>
    have RL := readNumber_any s 0 w hs
    unfold rdNumV three at RL
    have hq : (s.data.toList.length : Int) = (s.size : Int) := by rw [Array.length_toList]; rfl
    rw [hq] at h1
    generalize (Oct.rdNum s.data.toList 0).2.1 = q at *
    generalize (Oct.rdNum s.data.toList 0).2.2 = er at *
    generalize (Oct.rdNum s.data.toList 0).1 = x at *
    have HRL := Lib.hid RL
    clear h hq RL
    by_cases h0 : er = 0
    · have hne : q ≠ (s.size : Int) := fun e => h1 ⟨h0, e⟩
      have d1 : (q != (s.size : Int)) = true := by simpa using hne
      subst h0
      clear h1 hne
      go_enter Tryd.func110, Tryd.ntmps110
      go_wp2_with fail
      refine HRL.out.mono ?_
      rintro _ w1 ⟨rfl, rfl⟩
      go_wp2_with fail
      go_ret2
      exact ⟨6, rfl, rfl, rfl⟩
    · have d0 : (er != 0) = true := by simpa using h0
      clear h1 h0
      have D0 := Lib.hid d0
      go_enter Tryd.func110, Tryd.ntmps110
      go_wp2_with fail
      refine HRL.out.mono ?_
      rintro _ w1 ⟨rfl, rfl⟩
      go_wp2_with fail
      go_ret2
      exact ⟨er, D0.out, rfl, rfl⟩
end Go.Proofs.YtdekcicgiflnbaaDoor
namespace Go.Proofs.YtdekcicgiflnbaaDoor
open Go.RowKit
set_option linter.unusedVariables false
set_option linter.unusedSimpArgs false

namespace Tx
/-- the i-th number of a body put in its place -/
def put (t : Tx) (i : Nat) (n : Int) : Tx :=
  if i = 0 then { t with frm := n } else if i = 1 then { t with nonce := n } else if i = 2 then { t with fee := n } else if i = 3 then { t with to := n } else if i = 5 then { t with round := n } else if i = 6 then { t with turn := n } else t
def fill (t : Tx) : Nat → List (List UInt8) → Option Tx
  | _, [] => some t
  | i, s :: r => if i = 4 then fill t (i + 1) r else match numAll s with
    | Option.none => Option.none
    | some n => fill (put t i n) (i + 1) r
def want (t : Tx) : Nat := if t.lane = true then 7 else 5
def withData (t : Tx) (s : List UInt8) : Tx := { t with data := ⟨s.toArray⟩ }
def bodyRead (t : Tx) (s : List UInt8) : Option Tx :=
  match listAll s with
  | Option.none => Option.none
  | some l => if l.length = t.want then fill (t.withData (l.getD 4 [])) 0 l else Option.none
/-- where the i-th number lies -/
def place (i : Nat) : Nat := if i < 4 then i else i + 1
theorem put_cells (t : Tx) (i : Nat) (n : Int) (hi : i < 7) (h4 : i ≠ 4) : t.cells.set (place i) (.int .i64 n) = (put t i n).cells := by
  have : i = 0 ∨ i = 1 ∨ i = 2 ∨ i = 3 ∨ i = 5 ∨ i = 6 := by omega
  rcases this with rfl | rfl | rfl | rfl | rfl | rfl <;> rfl
theorem put_ok {t : Tx} (h : t.Ok) (i : Nat) {n : Int} (hn : fits n) : (put t i n).Ok := by
  unfold put
  split
  · exact ⟨h.bY, h.tag, h.data, hn, h.nonce, h.fee, h.to, h.round, h.turn⟩
  split
  · exact ⟨h.bY, h.tag, h.data, h.frm, hn, h.fee, h.to, h.round, h.turn⟩
  split
  · exact ⟨h.bY, h.tag, h.data, h.frm, h.nonce, hn, h.to, h.round, h.turn⟩
  split
  · exact ⟨h.bY, h.tag, h.data, h.frm, h.nonce, h.fee, hn, h.round, h.turn⟩
  split
  · exact ⟨h.bY, h.tag, h.data, h.frm, h.nonce, h.fee, h.to, hn, h.turn⟩
  split
  · exact ⟨h.bY, h.tag, h.data, h.frm, h.nonce, h.fee, h.to, h.round, hn⟩
  · exact h
theorem put_lane (t : Tx) (i : Nat) (n : Int) : (put t i n).lane = t.lane := by
  unfold put
  repeat' split
  all_goals rfl
theorem data_cells (t : Tx) (s : List UInt8) : t.cells.set 4 (S s) = (t.withData s).cells := rfl
theorem listGo_text : ∀ (L : List (List UInt8)) (left : Nat) (b : List UInt8), Oct.listGo left L = some b → ∀ x ∈ L, x.length ≤ left
  | s :: r, left, b, h, x, hx => by
    unfold Oct.listGo at h
    split at h
    · cases h
    · next hle =>
      obtain ⟨c, hc, rfl⟩ := Option.map_eq_some_iff.1 h
      rcases List.mem_cons.1 hx with rfl | hx
      · omega
      · have := listGo_text r (left - s.length) c hc x hx
        omega
theorem listAll_text {s : List UInt8} {L : List (List UInt8)} (h : listAll s = some L) : ∀ x ∈ L, x.length ≤ 65536 := by
  have h1 := listE_listAll h
  unfold Oct.listE at h1
  split at h1
  · simp at h1
  · cases hg : Oct.listGo 65536 L with
    | none => rw [hg] at h1; simp at h1
    | some b => exact listGo_text L 65536 b hg
end Tx
/-- texts lie in no transaction's block -/
theorem texts_apart {w : World} {g b off : Nat} {T : TypeId} {t : Tx} (h : Row w g T t.cells) (ht : t.Ok) (a c : List UInt8) (h0 : w.cell? ⟨b, off, none⟩ = some (S a)) (h1 : w.cell? ⟨b, off + 1, none⟩ = some (S c)) : b ≠ g := by
  rintro rfl
  have hl := Tx.cells_length ht
  have key : ∀ j x, w.cell? ⟨b, j, none⟩ = some (S x) → j = 4 := by
    intro j x hx
    by_cases hj : j < 72
    · have hc := h.cell j (by omega)
      rw [hx] at hc
      have he : t.cells[j]'(by omega) = S x := (Option.some.inj hc).symm
      by_cases hj8 : j < 8
      · have hh : t.cells[j]'(by omega) = t.head[j]'(by simp [Tx.head]; omega) := by
          unfold Tx.cells
          rw [List.getElem_append_left]
        rw [hh] at he
        have : j = 0 ∨ j = 1 ∨ j = 2 ∨ j = 3 ∨ j = 4 ∨ j = 5 ∨ j = 6 ∨ j = 7 := by omega
        rcases this with rfl | rfl | rfl | rfl | rfl | rfl | rfl | rfl <;> simp [Tx.head, S] at he ⊢
      · have hm : S x ∈ (bRow t.bY).toList ++ (bRow t.tag).toList := by
          have hh : t.cells[j]'(by omega) = ((bRow t.bY).toList ++ (bRow t.tag).toList)[j - 8]'(by rw [List.length_append, Tx.bRow_len _ ht.bY, Tx.bRow_len _ ht.tag]; omega) := by
            unfold Tx.cells
            rw [List.getElem_append_right (by simp [Tx.head]; omega)]
            rfl
          rw [← he, hh]
          exact List.getElem_mem _
        have : ∀ R : List UInt8, R.length = 32 → S x ∉ (bRow R).toList := by
          intro R hR hx
          rw [bRow_yRow R hR] at hx
          unfold yRow at hx
          simp [S] at hx
        rcases List.mem_append.1 hm with h2 | h2
        · exact absurd h2 (this _ ht.bY)
        · exact absurd h2 (this _ ht.tag)
    · unfold Row at h
      simp [World.cell?, h] at hx
      have := (List.getElem?_eq_some_iff.1 hx).1
      omega
  have e0 := key _ _ h0
  have e1 := key _ _ h1
  omega
end Go.Proofs.YtdekcicgiflnbaaDoor
namespace Go.Proofs.YtdekcicgiflnbaaDoor
open Go.RowKit
set_option linter.unusedVariables false
set_option linter.unusedSimpArgs false

/-- the places of the numbers, as pointers -/
def ptrsL (g : Nat) : List Value := [.pointer (some ⟨g, 0, none⟩), .pointer (some ⟨g, 1, none⟩), .pointer (some ⟨g, 2, none⟩), .pointer (some ⟨g, 3, none⟩), .pointer none, .pointer (some ⟨g, 6, none⟩), .pointer (some ⟨g, 7, none⟩)]
theorem below_put {base : Nat} {w0 W : World} {g i : Nat} {v : Value} (h : Below base w0 W) (hg : base ≤ g) (hs : base ≤ W.heap.size) : Below base w0 (W.setCell ⟨g, i, none⟩ v) :=
  h.grown (grownBy_set W g i v) hs (fun k hk => by cases hk; exact hg)
theorem below_on {base : Nat} {w0 W W' : World} (h : Below base w0 W) (hb : Below W.heap.size W W') (hs : base ≤ W.heap.size) : Below base w0 W' := h.grown (grownBy_of_below hb none) hs (fun k hk => by cases hk)

/-- what readBody leaves -/
def BodyEnds (F : Option Tx) (g : Nat) (e : Ending) (w' : World) : Prop :=
  match F with
  | some u => e = .returned (.int .i64 0) ∧ u.Ok ∧ Row w' g 25 u.cells
  | none => ∃ n : Int, (n != 0) = true ∧ e = .returned (.int .i64 n)
theorem ptr_at (g k : Nat) (hk : k < 7) (h4 : k ≠ 4) : (ptrsL g)[k]? = some (.pointer (some ⟨g, Tx.place k, none⟩)) := by
  have : k = 0 ∨ k = 1 ∨ k = 2 ∨ k = 3 ∨ k = 5 ∨ k = 6 := by omega
  rcases this with rfl | rfl | rfl | rfl | rfl | rfl <;> rfl
theorem fill_step4 {t : Tx} {l : List (List UInt8)} (h : 4 < l.length) : Tx.fill t 4 (l.drop 4) = Tx.fill t 5 (l.drop 5) := by
  rw [List.drop_eq_getElem_cons h, Tx.fill]
  rfl
theorem fill_some {t : Tx} {l : List (List UInt8)} {k : Nat} {n : Int} (h : k < l.length) (h4 : k ≠ 4) (hn : Tx.numAll l[k] = some n) : Tx.fill t k (l.drop k) = Tx.fill (t.put k n) (k + 1) (l.drop (k + 1)) := by
  rw [List.drop_eq_getElem_cons h, Tx.fill, if_neg h4, hn]
theorem fill_none {t : Tx} {l : List (List UInt8)} {k : Nat} (h : k < l.length) (h4 : k ≠ 4) (hn : Tx.numAll l[k] = none) : Tx.fill t k (l.drop k) = none := by
  rw [List.drop_eq_getElem_cons h, Tx.fill, if_neg h4, hn]
theorem data_ok {t : Tx} (h : t.Ok) {x : List UInt8} (hx : x.length ≤ 65536) : (t.withData x).Ok :=
  ⟨h.bY, h.tag, (by show x.length ≤ _; omega), h.frm, h.nonce, h.fee, h.to, h.round, h.turn⟩

set_option maxRecDepth 20000 in
set_option maxHeartbeats 1600000 in
theorem readBody_any (t : Tx) (ht : t.Ok) (s : ByteArray) (w : World) (g base : Nat) (hs : s.size ≤ 9223372036854775807) (hg : Row w g 25 t.cells) (hbg : base ≤ g) :
    Calls Tryd.prog 71 #[.string s, .pointer (some ⟨g, 0, none⟩)] w fun e w' =>
      BodyEnds (t.bodyRead s.data.toList) g e w' ∧ Below base w w' := by
  have hbw : base ≤ w.heap.size := by have := hg.lt; omega
  cases hL : Tx.listAll s.data.toList with
  | none =>
    have hR : t.bodyRead s.data.toList = none := by unfold Tx.bodyRead; rw [hL]
    rw [hR]
    have LN := Lib.hid (fun W => list_no s W hs hL)
    clear hL hR hg
    go_enter Tryd.func71, Tryd.ntmps71
    go_wp2_with fail
    refine (LN.out w).mono ?_
    rintro _ w1 ⟨n, hn, rfl, hb1⟩
    have Hb1 := Lib.hid hb1
    have Hn := Lib.hid hn
    clear hb1
    go_wp2_with fail
    go_ret
    exact ⟨⟨n, Hn.out, rfl⟩, Hb1.out.mono hbw⟩
  | some l =>
    have LS := Lib.hid (fun W => list_some s l W hs hL)
    have hlt := Tx.listAll_text hL
    by_cases hw : l.length = t.want
    · have hR : t.bodyRead s.data.toList = Tx.fill (t.withData (l.getD 4 [])) 0 l := by unfold Tx.bodyRead; rw [hL]; simp only; rw [if_pos hw]
      rw [hR]
      have hw5 : 5 ≤ l.length := by rw [hw]; unfold Tx.want; split <;> omega
      have hw7 : l.length ≤ 7 := by rw [hw]; unfold Tx.want; split <;> omega
      obtain ⟨m, hm⟩ : ∃ m, m = l.length := ⟨_, rfl⟩
      have hwm : (t.lane = true ∧ ((m : Int) != 7) = false) ∨ (t.lane = false ∧ ((m : Int) != 5) = false) := by
        unfold Tx.want at hw
        rw [← hm] at hw
        rcases Bool.eq_false_or_eq_true t.lane with h | h
        · rw [if_pos h] at hw
          exact .inl ⟨h, by simp; omega⟩
        · rw [if_neg (by rw [h]; simp)] at hw
          exact .inr ⟨h, by simp; omega⟩
      have LS2 : Hid (∀ W, Calls Tryd.prog 70 #[.string s] W fun e w' => ∃ b off c, e = .returned (.tuple #[.slice (some ⟨b, off, none⟩) m c, .int .i64 0]) ∧ b < w'.heap.size ∧ (∀ i (h : i < l.length), w'.cell? ⟨b, off + i, none⟩ = some (S l[i])) ∧ Below W.heap.size W w') := fun W => (LS.out W).mono fun e w' ⟨v, h1, ⟨A, c, h2, h4⟩, h3⟩ => by
        obtain ⟨b, off, hA, hb, hc⟩ := h4 (by intro e; rw [e] at hw5; simp at hw5)
        exact ⟨b, off, c, by rw [h1, h2, hm, hA], hb, hc, h3⟩
      have HR := Lib.hid hg
      have HM := Lib.hid hm
      have Hlt := Lib.hid hlt
      rw [← hm] at hw5 hw7
      clear hL hR hg hw hlt LS hm
      have h4m : (4 : Int) < (m : Int) := by omega
      have hl4 : 4 < l.length := by rw [← HM.out]; omega
      obtain ⟨d4, hd4⟩ : ∃ d4, d4 = l[4] := ⟨_, rfl⟩
      have e4 : l.getD 4 [] = d4 := by rw [hd4]; simp [List.getD, hl4]
      have hd4l : d4.length ≤ 65536 := by rw [hd4]; exact Hlt.out _ (List.getElem_mem _)
      obtain ⟨F, hF⟩ : ∃ F, F = Tx.fill (t.withData d4) 0 l := ⟨_, rfl⟩
      rw [e4, ← hF]
      have HF := Lib.hid hF
      have HD := Lib.hid hd4
      clear hF hd4 e4
      rcases hwm with ⟨h1, h2⟩ | ⟨h1, h2⟩
      all_goals
        go_enter Tryd.func71, Tryd.ntmps71
        go_wp2_with fail
        refine (LS2.out w).mono ?_
        rintro _ w1 ⟨b, off, c, rfl, hbl, hc, hb1⟩
        have hr1 := HR.out.kept (grownBy_of_below hb1 none) (by simp)
        have hbg2 : b ≠ g := texts_apart hr1 ht _ _ (hc 0 (by rw [← HM.out]; omega)) (hc 1 (by rw [← HM.out]; omega))
        have c5 := hr1.cell 5 (by rw [Tx.cells_length ht]; omega)
        have c5' : w1.cell? ⟨g, 5, none⟩ = some (.bool t.lane) := c5
        have c4 := hr1.cell 4 (by rw [Tx.cells_length ht]; omega)
        have f4 := hr1.free 4
        have s4 := hc 4 (by rw [← HM.out]; omega)
        rw [← HD.out] at s4
        have hgl := hr1.lt
        have Hr1 := Lib.hid hr1
        have Hb1 := Lib.hid (hb1.mono hbw)
        have Hc := Lib.hid hc
        clear hr1 hb1 hc c5
        go_wp2_with fail
        go_region
        have hgw : base ≤ w1.heap.size := Nat.le_trans hbw Hb1.out.size
        have hrA : Row ((w1.setCell ⟨g, 4, none⟩ (S d4)).alloc (.cells (ptrsL g).toArray 104)).drew g 25 (t.withData d4).cells := by
          have h := Hr1.out.set 4 (S d4) (by rw [Tx.cells_length ht]; omega)
          rw [Tx.data_cells] at h
          exact (h.kept (grownBy_alloc _ _ none) (by simp)).kept (grownBy_drew _ none) (by simp)
        have hpA : Row ((w1.setCell ⟨g, 4, none⟩ (S d4)).alloc (.cells (ptrsL g).toArray 104)).drew w1.heap.size 104 (ptrsL g) := by
          have h := Row.new (w1.setCell ⟨g, 4, none⟩ (S d4)) 104 (ptrsL g)
          rw [show (w1.setCell ⟨g, 4, none⟩ (S d4)).heap.size = w1.heap.size by simp [World.setCell]] at h
          exact h.kept (grownBy_drew _ none) (by simp)
        have hcA : ∀ i (h : i < l.length), ((w1.setCell ⟨g, 4, none⟩ (S d4)).alloc (.cells (ptrsL g).toArray 104)).drew.cell? ⟨b, off + i, none⟩ = some (S l[i]) := fun i h =>
          (((grownBy_set w1 g 4 (S d4)).cell (Hc.out i h) (by simpa using hbg2)) |> fun q => (grownBy_drew _ none).cell ((grownBy_alloc _ _ none).cell q (by simp)) (by simp))
        have hbA : Below base w ((w1.setCell ⟨g, 4, none⟩ (S d4)).alloc (.cells (ptrsL g).toArray 104)).drew :=
          ((below_put Hb1.out hbg hgw).alloc (by simp [World.setCell]; omega) _).drew
        have hgP : g ≠ w1.heap.size := by omega
        have hbP : b < w1.heap.size := hbl
        have hoA := data_ok ht hd4l
        have HrA := Lib.hid hrA
        have HpA := Lib.hid hpA
        have HcA := Lib.hid hcA
        have HbA := Lib.hid hbA
        have HoA := Lib.hid hoA
        clear hrA hpA hcA hbA hoA c4 c5' f4 s4 Hr1 Hb1 Hc
        go_wp2_with fail
        go_loopw [68] (fun i wr => ∃ (k : Nat) (u : Tx), k ≤ m ∧ i = .int .i64 k ∧ u.Ok ∧ F = Tx.fill u k (l.drop k) ∧ Row wr g 25 u.cells ∧ Row wr w1.heap.size 104 (ptrsL g) ∧ (∀ i (h : i < l.length), wr.cell? ⟨b, off + i, none⟩ = some (S l[i])) ∧ base ≤ wr.heap.size ∧ Below base w wr) (fun i _ => m - (intOf i).toNat)
        case atStart => exact ⟨0, t.withData d4, Nat.zero_le _, rfl, HoA.out, by rw [HF.out, List.drop_zero], HrA.out, HpA.out, HcA.out, Nat.le_trans hbw HbA.out.size, HbA.out⟩
        case round =>
          obtain ⟨k, u, hk, rfl, hu, hFk, hru, hpk, hck, hsz, hbk⟩ := hrel
          have HFk := Lib.hid hFk
          have Hru := Lib.hid hru
          have Hpk := Lib.hid hpk
          have Hck := Lib.hid hck
          have Hbk := Lib.hid hbk
          have Hu := Lib.hid hu
          clear hFk hru hpk hck hbk hu HrA HpA HcA HbA HF HoA
          by_cases hkm : k < m
          · have hki : (k : Int) < (m : Int) := by omega
            have hk7 : (k : Int) < 7 := by omega
            have hkl : k < l.length := by rw [← HM.out]; exact hkm
            have ctx := Hck.out k hkl
            obtain ⟨x, hx⟩ : ∃ x, x = l[k] := ⟨_, rfl⟩
            rw [← hx] at ctx
            have hxl : x.length ≤ 65536 := by rw [hx]; exact Hlt.out _ (List.getElem_mem _)
            by_cases h4 : k = 4
            · subst h4
              have cp : wr.cell? ⟨w1.heap.size, 4, none⟩ = some (.pointer none) := Hpk.out.cell 4 (by simp [ptrsL])
              have hF5 := HFk.out.trans (fill_step4 hkl)
              have HF5 := Lib.hid hF5
              clear hF5 hx
              go_wp2_with fail
              refine ⟨⟨5, u, by omega, by go_num, Hu.out, HF5.out, Hru.out, Hpk.out, Hck.out, hsz, Hbk.out⟩, by simp [intOf]; omega⟩
            · have cp : wr.cell? ⟨w1.heap.size, k, none⟩ = some (.pointer (some ⟨g, Tx.place k, none⟩)) := by
                obtain ⟨hl', he'⟩ := List.getElem?_eq_some_iff.1 (ptr_at g k (by omega) h4)
                rw [Hpk.out.cell k hl', he']
              cases hN : Tx.numAll x with
              | none =>
                have hFn := HFk.out.trans (fill_none hkl h4 (by rw [← hx]; exact hN))
                have WN := Lib.hid (fun W => whole_no ⟨x.toArray⟩ W (by show x.length ≤ _; omega) hN)
                have HFn := Lib.hid hFn
                clear hFn hx hN
                go_wp2_with fail
                refine (WN.out _).mono ?_
                rintro _ w5 ⟨n, hn, rfl, rfl⟩
                have Hn := Lib.hid hn
                go_wp2_with fail
                go_ret
                exact ⟨by rw [HFn.out]; exact ⟨n, Hn.out, rfl⟩, Hbk.out⟩
              | some n =>
                have hFn := HFk.out.trans (fill_some hkl h4 (by rw [← hx]; exact hN))
                have hnb := Tx.num_numAll hN
                have WS := Lib.hid (fun W => whole_some ⟨x.toArray⟩ n W (by show x.length ≤ _; omega) hN)
                have hpl : Tx.place k < u.cells.length := by rw [Tx.cells_length Hu.out]; unfold Tx.place; split <;> omega
                have co := Hru.out.cell (Tx.place k) hpl
                have fo := Hru.out.free (Tx.place k)
                have hrn := Hru.out.set (Tx.place k) (.int .i64 n) hpl
                rw [Tx.put_cells u k n (by omega) h4] at hrn
                have hun := Tx.put_ok Hu.out k (n := n) ⟨by omega, hnb.2.1⟩
                have hbn : Below base w (wr.setCell ⟨g, Tx.place k, none⟩ (.int .i64 n)) := below_put Hbk.out hbg hsz
                have hpn := Hpk.out.kept (grownBy_set wr g (Tx.place k) (.int .i64 n)) (by simpa using fun e => hgP e.symm)
                have hcn : ∀ i (h : i < l.length), (wr.setCell ⟨g, Tx.place k, none⟩ (.int .i64 n)).cell? ⟨b, off + i, none⟩ = some (S l[i]) := fun i h => (grownBy_set wr g (Tx.place k) (.int .i64 n)).cell (Hck.out i h) (by simpa using hbg2)
                have hszn : base ≤ (wr.setCell ⟨g, Tx.place k, none⟩ (.int .i64 n)).heap.size := by simp [World.setCell]; exact hsz
                have HFn := Lib.hid hFn
                have Hrn := Lib.hid hrn
                have Hun := Lib.hid hun
                have Hbn := Lib.hid hbn
                have Hpn := Lib.hid hpn
                have Hcn := Lib.hid hcn
                have Hszn := Lib.hid hszn
                generalize u.cells[Tx.place k] = ov at co
                generalize Tx.place k = pk at *
                clear hFn hx hN hrn hun hbn hpn hcn hszn
                go_wp2_with fail
                refine (WS.out _).mono ?_
                rintro _ w5 ⟨rfl, rfl⟩
                go_wp2_with fail
                refine ⟨⟨k + 1, u.put k n, hkm, by go_num, Hun.out, HFn.out, Hrn.out, Hpn.out, Hcn.out, Hszn.out, Hbn.out⟩, by simp [intOf]; omega⟩
          · have hki : (m : Int) ≤ (k : Int) := by omega
            have hFe : F = some u := by
              rw [HFk.out, List.drop_of_length_le (by rw [← HM.out]; omega)]
              rfl
            have HFe := Lib.hid hFe
            clear hFe
            go_wp2_with fail
            go_ret
            exact ⟨by rw [HFe.out]; exact ⟨rfl, Hu.out, Hru.out⟩, Hbk.out⟩
    · have hR : t.bodyRead s.data.toList = none := by unfold Tx.bodyRead; rw [hL]; simp only; rw [if_neg hw]
      rw [hR]
      have hlane := hg.cell 5 (by rw [Tx.cells_length ht]; omega)
      have hlane' : w.cell? ⟨g, 5, none⟩ = some (.bool t.lane) := hlane
      have hglt := hg.lt
      obtain ⟨m, hm⟩ : ∃ m, m = l.length := ⟨_, rfl⟩
      have hcl : (t.lane = true ∧ ((m : Int) != 7) = true) ∨ (t.lane = false ∧ ((m : Int) != 5) = true) := by
        unfold Tx.want at hw
        rw [← hm] at hw
        rcases Bool.eq_false_or_eq_true t.lane with h | h
        · rw [if_pos h] at hw
          exact .inl ⟨h, by simp; omega⟩
        · rw [if_neg (by rw [h]; simp)] at hw
          exact .inr ⟨h, by simp; omega⟩
      have LS2 : Hid (∀ W, Calls Tryd.prog 70 #[.string s] W fun e w' => ∃ A c, e = .returned (.tuple #[.slice A m c, .int .i64 0]) ∧ Below W.heap.size W w') := fun W => (LS.out W).mono fun e w' ⟨v, h1, ⟨A, c, h2, _⟩, h3⟩ => ⟨A, c, by rw [h1, h2, hm], h3⟩
      clear hL hR hg hw hlt hlane LS hm
      rcases hcl with ⟨h1, h2⟩ | ⟨h1, h2⟩
      all_goals
        go_enter Tryd.func71, Tryd.ntmps71
        go_wp2_with fail
        refine (LS2.out w).mono ?_
        rintro _ w1 ⟨A, c, rfl, hb1⟩
        have c5 := (hb1.cell (p := ⟨g, 5, none⟩) hglt).trans hlane'
        have Hb1 := Lib.hid hb1
        clear hb1 hlane'
        go_wp2_with fail
        go_ret
        exact ⟨⟨6, rfl, rfl⟩, Hb1.out.mono hbw⟩
end Go.Proofs.YtdekcicgiflnbaaDoor
