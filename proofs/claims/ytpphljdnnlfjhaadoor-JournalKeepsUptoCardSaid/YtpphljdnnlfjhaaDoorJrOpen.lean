/- journal.Open on a disk that is up: what it returns. -/
import Derived.Test.YtpphljdnnlfjhaaDoorJrRenew
import Derived.Test.YtpphljdnnlfjhaaDoorJrKeep
namespace Go.Proofs.YtpphljdnnlfjhaaDoor
open Go.RowKit
set_option maxRecDepth 100000
set_option linter.unusedVariables false
set_option linter.unusedSimpArgs false

/-- these texts, in memory that is neither the disk's nor the journal's -/
def LstA (w : World) (base : Nat) (S0 : Nat → Prop) (q : Nat) (v : Value) (L : List (List UInt8)) : Prop :=
  ∃ A c, v = .slice A L.length c ∧ (L ≠ [] → ∃ b, A = some ⟨b, 0, none⟩ ∧ base ≤ b ∧ b < w.heap.size ∧ ¬ S0 b ∧ b ≠ q ∧ ∀ i (h : i < L.length), w.cell? ⟨b, i, none⟩ = some (S L[i]))
theorem LstA.inL {w : World} {base : Nat} {S0 : Nat → Prop} {q : Nat} {v : Value} {L : List (List UInt8)} (h : LstA w base S0 q v L) : InL w v L := by
  obtain ⟨A, c, hv, hr⟩ := h
  refine ⟨A, c, hv, fun hne => ?_⟩
  obtain ⟨b, h1, h2, h3, _, _, h4⟩ := hr hne
  exact ⟨b, h1, h3, h4⟩
theorem LstA.kept {w w' : World} {base : Nat} {S0 S1 : Nat → Prop} {q : Nat} {v : Value} {L : List (List UInt8)} (h : LstA w base S0 q v L) (h1 : ∀ k, S1 k → S0 k ∨ w.heap.size ≤ k) (hc : Chg (fun k => S0 k ∨ k = q) w w') : LstA w' base S1 q v L := by
  obtain ⟨A, c, hv, hr⟩ := h
  refine ⟨A, c, hv, fun hne => ?_⟩
  obtain ⟨b, e1, e2, e3, e4, e5, e6⟩ := hr hne
  refine ⟨b, e1, e2, Nat.lt_of_lt_of_le e3 hc.size, fun hs => ?_, e5, fun i hi => ?_⟩
  · rcases h1 b hs with h | h
    · exact e4 h
    · omega
  · rw [← e6 i hi]
    exact World.cell?_of_block (a := ⟨b, i, none⟩) (hc.block b e3 (fun h => by rcases h with h | h; exact e4 h; exact e5 h))
/-- what Open makes of a disk -/
def OpenTo (w w' : World) (B : Nat) (S0 : Nat → Prop) (g : Nat) (l : List Fl) (r : Int) (j : Jr.J) (L : List (List UInt8)) (e : Ending) : Prop :=
  ∃ (q : Nat) (v : Value) (S1 : Nat → Prop), e = .returned (.tuple #[.pointer (some ⟨q, 0, none⟩), v, .int .i64 0]) ∧ JS w' B S1 g q l r j ∧ w.heap.size ≤ q ∧ q < w'.heap.size ∧ (∀ k, S1 k → S0 k ∨ w.heap.size ≤ k) ∧ Chg S0 w w' ∧ LstA w' w.heap.size S1 q v L
theorem jopen_nil (nm : List UInt8) (w : World) : Calls Tryd.prog 13 #[.pointer none, Sb nm] w fun e w' => e = .returned (.tuple #[.pointer none, .slice none 0 0, .int .i64 1]) ∧ w = w' := by
  go_enter Tryd.func13, Tryd.ntmps13
  go_wp2_with fail
  go_ret3
  exact ⟨rfl, rfl⟩
theorem lays_many (i : Nat) (L : List (List UInt8)) : L.length ≤ (Jr.lays i L).length := by
  induction L generalizing i with
  | nil => simp
  | cons r L ih =>
    have h1 := Jr.lay_pos i r
    have h2 := ih (i + 1)
    simp only [Jr.lays, List.length_append, List.length_cons]
    omega
theorem chg_q {S0 S1 : Nat → Prop} {q : Nat} {a b c : World} (h : Chg S0 a b) (h2 : Chg (fun k => S1 k ∨ k = q) b c) (hS : ∀ k, S1 k → S0 k ∨ a.heap.size ≤ k) (hq : a.heap.size ≤ q) : Chg S0 a c :=
  h.trans h2 (fun i hi => by rcases hi with hi | hi; exact hS i hi; exact .inr (by omega))
set_option maxHeartbeats 1600000 in
theorem jopen_up {w : World} {B g : Nat} {S0 : Nat → Prop} {o x : Option (List UInt8 × Int)} (h : DiskS w B S0 g (Jr.St o x) (-1)) (ho : (Jr.by_ o).length ≤ 1048576) :
    Calls Tryd.prog 13 #[.pointer (some ⟨g, 0, none⟩), Sb Jr.nj] w fun e w' => OpenTo w w' B S0 g (Jr.St (o.map fun _ => (Jr.lays 0 (Jr.parse (Jr.by_ o)).1, ((Jr.lays 0 (Jr.parse (Jr.by_ o)).1).length : Int))) none) (-1) ⟨(Jr.parse (Jr.by_ o)).1.length, (Jr.parse (Jr.by_ o)).1.length, false⟩ (Jr.parse (Jr.by_ o)).1 e := by
  obtain ⟨NX, hNX⟩ : ∃ b : ByteArray, (⟨#[106, 120]⟩ : ByteArray) = b := ⟨_, rfl⟩
  obtain ⟨NJ, hNJ⟩ : ∃ b : ByteArray, (⟨#[106]⟩ : ByteArray) = b := ⟨_, rfl⟩
  have hadd : NJ ++ (⟨#[120]⟩ : ByteArray) = NX := by rw [← hNX, ← hNJ]; rfl
  have hz1 : NJ.size = 1 := by rw [← hNJ]; rfl
  have hz2 : (⟨#[120]⟩ : ByteArray).size = 1 := rfl
  have hbx : Sb Jr.nx = .string NX := by rw [← hNX]
  have hbj : Sb Jr.nj = .string NJ := by rw [← hNJ]
  have hxm : Jr.nx.length ≤ maxLen := by decide
  have hjm : Jr.nj.length ≤ maxLen := by decide
  have kN := isName_j
  have kR := fun {w : World} (h : DiskS w B S0 g (Jr.St o x) (-1)) => remove_S Jr.nx h hxm
  obtain ⟨c1, hc1, hrem⟩ : ∃ c1 : Int, (c1 = 0 ∨ c1 = 34) ∧ removeR (Jr.St o x) (-1) Jr.nx = (Jr.St o none, -1, c1) := by
    rw [Jr.remove_x (by omega)]
    cases x with
    | none => exact ⟨34, .inr rfl, rfl⟩
    | some p => exact ⟨0, .inl rfl, rfl⟩
  simp only [hrem] at kR
  have kD := fun {w : World} {S : Nat → Prop} (h : DiskS w B S g (Jr.St o none) (-1)) => read_S Jr.nj h hjm
  rw [Jr.bytes_j o none (by omega), Jr.code_j o none (by omega)] at kD
  have kY := fun {w : World} {S : Nat → Prop} (h : DiskS w B S g (Jr.St o none) (-1)) => sync_S Jr.nj h hjm
  simp only [hbx] at kR
  simp only [hbj] at kN kD kY ⊢
  have KR2 := fun {w : World} (h : DiskS w B S0 g (Jr.St o x) (-1)) => Lib.hid (kR h)
  have KD := fun {w : World} {S : Nat → Prop} (h : DiskS w B S g (Jr.St o none) (-1)) => Lib.hid (kD h)
  have KY := fun {w : World} {S : Nat → Prop} (h : DiskS w B S g (Jr.St o none) (-1)) => Lib.hid (kY h)
  have KN := fun w : World => Lib.hid (kN w)
  have Hbj := Lib.hid hbj
  have Hh := Lib.hid h
  have Ho := Lib.hid ho
  clear kR kD kY kN hNX hNJ hbx hbj hrem h ho hxm hjm
  have start : ∀ (w2 w1 : World), Below w.heap.size w w2 → (DiskS w1 B (Plus S0 w2 w1) g (Jr.St o none) (-1)) → Chg S0 w2 w1 → JS (w1.alloc (.cells #[.pointer (some ⟨g, 0, none⟩), .string NJ, .int .i64 0, .int .i64 0, .bool false] 62)) B (Plus S0 w2 w1) g w1.heap.size (Jr.St o none) (-1) ⟨0, 0, false⟩ ∧ Chg S0 w (w1.alloc (.cells #[.pointer (some ⟨g, 0, none⟩), .string NJ, .int .i64 0, .int .i64 0, .bool false] 62)) ∧ w.heap.size ≤ w1.heap.size ∧ (∀ k, Plus S0 w2 w1 k → S0 k ∨ w.heap.size ≤ k) := by
    intro w2 w1 hb hd hc
    have hbb : Below w1.heap.size w1 (w1.alloc (.cells #[.pointer (some ⟨g, 0, none⟩), .string NJ, .int .i64 0, .int .i64 0, .bool false] 62)) := (Below.refl _ _).alloc (Nat.le_refl _) _
    have hs := hb.size
    have hs2 := hc.size
    refine ⟨⟨hd.below hbb, ?_, fun hk => ?_⟩, ?_, by omega, fun k hk => ?_⟩
    · have hr := Row.new w1 62 [.pointer (some ⟨g, 0, none⟩), .string NJ, .int .i64 0, .int .i64 0, .bool false]
      unfold JAt jcells
      rw [Hbj.out]
      exact hr
    · have := (hd.1 _ hk).2
      omega
    · have e1 : Chg S0 w w2 := ⟨hb.os, hb.tape, hb.output, hb.size, fun i hi _ => hb.block i hi⟩
      have e2 : Chg S0 w1 (w1.alloc (.cells #[.pointer (some ⟨g, 0, none⟩), .string NJ, .int .i64 0, .int .i64 0, .bool false] 62)) := ⟨hbb.os, hbb.tape, hbb.output, hbb.size, fun i hi _ => hbb.block i hi⟩
      exact (e1.trans hc (fun _ h => .inl h)).trans e2 (fun _ h => .inl h)
    · rcases hk with hk | hk
      · exact .inl hk
      · exact .inr (by omega)
  have Start := Lib.hid start
  clear start
  have d1 : (c1 != 0 && c1 != 34) = false := by rcases hc1 with rfl | rfl <;> rfl
  cases o with
  | none =>
    rcases hc1 with rfl | rfl
    · clear d1
      go_enter Tryd.func13, Tryd.ntmps13
      go_wp2_with fail
      refine (KN _).out.mono ?_
      rintro e w2 ⟨rfl, hb2⟩
      have hd2 := Hh.out.below hb2
      have kR2 := (KR2 hd2).out
      have KR3 := Lib.hid kR2
      have Hb2 := Lib.hid hb2
      clear hb2 hd2 kR2
      go_wp2_with fail
      refine KR3.out.mono ?_
      rintro e w1 ⟨rfl, hd, hc⟩
      obtain ⟨hJ, hC, hsz1, hP⟩ := Start.out w2 w1 Hb2.out hd hc
      have HJ := Lib.hid hJ
      have HC := Lib.hid hC
      have HP := Lib.hid hP
      clear hd hc hJ hC hP
      go_wp2_with fail
      have hw1 : w1.heap.size < (w1.alloc (.cells #[.pointer (some ⟨g, 0, none⟩), .string NJ, .int .i64 0, .int .i64 0, .bool false] 62)).heap.size := by simp
      generalize w1.alloc (.cells #[.pointer (some ⟨g, 0, none⟩), .string NJ, .int .i64 0, .int .i64 0, .bool false] 62) = w3 at *
      refine (KD HJ.out.disk).out.mono ?_
      rintro e w4 ⟨rfl, hb4⟩
      have Hb4 := Lib.hid hb4
      clear hb4
      have hcode : (if (none : Option (List UInt8 × Int)).isSome = true then (0 : Int) else 34) = 34 := rfl
      rw [hcode]
      go_wp2_with fail
      go_ret3
      have hb4 := Hb4.out
      have hs4 := hb4.size
      refine ⟨w1.heap.size, .slice none 0 0, _, rfl, HJ.out.below hb4, hsz1, by omega, HP.out, HC.out.trans ⟨hb4.os, hb4.tape, hb4.output, hb4.size, fun i hi _ => hb4.block i hi⟩ (fun _ h => .inl h), ⟨none, 0, rfl, fun hne => absurd rfl hne⟩⟩
    · clear d1
      go_enter Tryd.func13, Tryd.ntmps13
      go_wp2_with fail
      refine (KN _).out.mono ?_
      rintro e w2 ⟨rfl, hb2⟩
      have hd2 := Hh.out.below hb2
      have kR2 := (KR2 hd2).out
      have KR3 := Lib.hid kR2
      have Hb2 := Lib.hid hb2
      clear hb2 hd2 kR2
      go_wp2_with fail
      refine KR3.out.mono ?_
      rintro e w1 ⟨rfl, hd, hc⟩
      obtain ⟨hJ, hC, hsz1, hP⟩ := Start.out w2 w1 Hb2.out hd hc
      have HJ := Lib.hid hJ
      have HC := Lib.hid hC
      have HP := Lib.hid hP
      clear hd hc hJ hC hP
      go_wp2_with fail
      have hw1 : w1.heap.size < (w1.alloc (.cells #[.pointer (some ⟨g, 0, none⟩), .string NJ, .int .i64 0, .int .i64 0, .bool false] 62)).heap.size := by simp
      generalize w1.alloc (.cells #[.pointer (some ⟨g, 0, none⟩), .string NJ, .int .i64 0, .int .i64 0, .bool false] 62) = w3 at *
      refine (KD HJ.out.disk).out.mono ?_
      rintro e w4 ⟨rfl, hb4⟩
      have Hb4 := Lib.hid hb4
      clear hb4
      have hcode : (if (none : Option (List UInt8 × Int)).isSome = true then (0 : Int) else 34) = 34 := rfl
      rw [hcode]
      go_wp2_with fail
      go_ret3
      have hb4 := Hb4.out
      have hs4 := hb4.size
      refine ⟨w1.heap.size, .slice none 0 0, _, rfl, HJ.out.below hb4, hsz1, by omega, HP.out, HC.out.trans ⟨hb4.os, hb4.tape, hb4.output, hb4.size, fun i hi _ => hb4.block i hi⟩ (fun _ h => .inl h), ⟨none, 0, rfl, fun hne => absurd rfl hne⟩⟩
  | some p =>
    obtain ⟨s, sf⟩ := p
    obtain ⟨sb, hsb⟩ : ∃ sb : ByteArray, (⟨s.toArray⟩ : ByteArray) = sb := ⟨_, rfl⟩
    have hsl : sb.data.toList = s := by rw [← hsb]
    have hss : S s = .string sb := by rw [← hsb]
    have hsz : sb.size = s.length := by rw [← hsb]; rfl
    have hs1 : s.length ≤ 1048576 := Ho.out
    have kP := fun w : World => jrParse_any sb w (by omega)
    rw [hsl] at kP
    have hby : Jr.by_ (some (s, sf)) = s := rfl
    rw [hby]
    rw [hby] at KD
    have hps := Jr.parse_is s
    rcases hpp : Jr.parse s with ⟨L, n⟩
    rw [hpp] at hps
    simp only [hpp] at kP
    simp only [Option.isSome_some, if_true] at KD
    have KD2 := fun {w : World} {S : Nat → Prop} (h : DiskS w B S g (Jr.St (some (s, sf)) none) (-1)) => (KD h).out
    have hSb : Sb s = .string sb := hss
    simp only [hSb] at KD2
    obtain ⟨ht, hn, hr4⟩ := hps
    have hLl : (Jr.lays 0 L).length = n := by rw [← ht, List.length_take]; omega
    have hLn : L.length ≤ (Jr.lays 0 L).length := lays_many 0 L
    have KDD := fun {w : World} {S : Nat → Prop} (h : DiskS w B S g (Jr.St (some (s, sf)) none) (-1)) => Lib.hid (KD2 h)
    have KP := fun w : World => Lib.hid (kP w)
    have Hr4 := Lib.hid hr4
    have Ht := Lib.hid ht
    have HLl := Lib.hid hLl
    clear KD KD2 kP hby hpp hsb hss hSb hsl ht hr4
    by_cases hlt : n < s.length
    · have d2 : decide ((n : Int) < (sb.size : Int)) = true := by simp only [decide_eq_true_eq]; omega
      have d2' : decide (n < sb.size) = true := by simp only [decide_eq_true_eq]; omega
      have hrn : Jr.renewR (Jr.St (some (s, sf)) none) (-1) ⟨0, 0, false⟩ L = (Jr.St (some (Jr.lays 0 L, ((Jr.lays 0 L).length : Int))) none, -1, ⟨L.length, L.length, false⟩, 0) := by
        unfold Jr.renewR
        rw [if_neg (by simp), if_neg (fun hno => hno Hr4.out), Jr.replace_up _ _ (by omega), if_neg (by simp)]
      have kW := fun {w : World} {S : Nat → Prop} {q : Nat} {v : Value} (h : JS w B S g q (Jr.St (some (s, sf)) none) (-1) ⟨0, 0, false⟩) (hv : InL w v L) => jrenew_at h v L hv (by omega)
      rw [hrn] at kW
      have KW := fun {w : World} {S : Nat → Prop} {q : Nat} {v : Value} (h : JS w B S g q (Jr.St (some (s, sf)) none) (-1) ⟨0, 0, false⟩) (hv : InL w v L) => Lib.hid (kW h hv)
      clear kW hrn
      rcases hc1 with rfl | rfl
      · clear d1
        go_enter Tryd.func13, Tryd.ntmps13
        go_wp2_with fail
        refine (KN _).out.mono ?_
        rintro e w2 ⟨rfl, hb2⟩
        have hd2 := Hh.out.below hb2
        have kR2 := (KR2 hd2).out
        have KR3 := Lib.hid kR2
        have Hb2 := Lib.hid hb2
        clear hb2 hd2 kR2
        go_wp2_with fail
        refine KR3.out.mono ?_
        rintro e w1 ⟨rfl, hd, hc⟩
        obtain ⟨hJ, hC, hsz1, hP⟩ := Start.out w2 w1 Hb2.out hd hc
        have HJ := Lib.hid hJ
        have HC := Lib.hid hC
        have HP := Lib.hid hP
        clear hd hc hJ hC hP
        go_wp2_with fail
        have hw1 : w1.heap.size < (w1.alloc (.cells #[.pointer (some ⟨g, 0, none⟩), .string NJ, .int .i64 0, .int .i64 0, .bool false] 62)).heap.size := by simp
        generalize w1.alloc (.cells #[.pointer (some ⟨g, 0, none⟩), .string NJ, .int .i64 0, .int .i64 0, .bool false] 62) = w3 at *
        refine (KDD HJ.out.disk).out.mono ?_
        rintro e w4 ⟨rfl, hb4⟩
        have Hb4 := Lib.hid hb4
        clear hb4
        go_wp2_with fail
        refine (KP _).out.mono ?_
        rintro e w5 ⟨⟨v, rfl, hl⟩, hb5⟩
        have hb35 := Hb4.out.trans (hb5.mono Hb4.out.size)
        have hJ5 := HJ.out.below hb35
        have hs4 := Hb4.out.size
        have hs5 := hb5.size
        have hla : LstA w5 w.heap.size (Plus S0 w2 w1) w1.heap.size v L := by
          obtain ⟨A, c, hv, hr⟩ := hl
          refine ⟨A, c, hv, fun hne => ?_⟩
          obtain ⟨b, e1, e2, e3, e4⟩ := hr hne
          refine ⟨b, e1, by omega, e3, fun hk => ?_, by omega, e4⟩
          have := (HJ.out.disk.1 b hk).2
          omega
        have hC5 : Chg S0 w w5 := HC.out.trans ⟨hb35.os, hb35.tape, hb35.output, hb35.size, fun i hi _ => hb35.block i hi⟩ (fun _ h => .inl h)
        have hin := hla.inL
        obtain ⟨A, c, rfl, _⟩ := id hl
        have HLa := Lib.hid hla
        have HJ5 := Lib.hid hJ5
        have HC5 := Lib.hid hC5
        have Hin := Lib.hid hin
        clear hl hb5 hb35 hJ5 hla hC5 hin
        go_wp2_with fail
        refine (KW HJ5.out Hin.out).out.mono ?_
        rintro e w6 ⟨rfl, t6⟩
        obtain ⟨S6, hJ6, hP6, hC6⟩ := t6
        have hla6 := HLa.out.kept hP6 hC6
        have hC7 : Chg S0 w w6 := chg_q HC5.out hC6 HP.out hsz1
        have hP7 : ∀ k, S6 k → S0 k ∨ w.heap.size ≤ k := fun k hk => by
          rcases hP6 k hk with h | h
          · exact HP.out k h
          · have := HC5.out.size; exact .inr (by omega)
        have z2 := hJ6.row.box.2.2.1
        have z3 := hJ6.row.box.2.2.2.1
        have zf2 := Row.free hJ6.row 2
        have zf3 := Row.free hJ6.row 3
        have zr := Row.set hJ6.row 2 (.int .i64 (L.length : Int)) (by simp [jcells])
        have zr2 := Row.set zr 3 (.int .i64 (L.length : Int)) (by simp [jcells])
        have y3 := Row.cell zr 3 (by simp [jcells])
        have yf3 := Row.free zr 3
        simp only [jcells, List.set, List.getElem_cons_succ, List.getElem_cons_zero] at y3
        have t9 := hJ6.rowTo (j' := ⟨L.length, L.length, false⟩) (World.grownBy.trans (grownBy_set w6 w1.heap.size 2 (.int .i64 (L.length : Int))) (grownBy_set _ w1.heap.size 3 (.int .i64 (L.length : Int)))) (by unfold JAt; unfold jcells at zr2 ⊢; simpa using zr2)
        have H9 := Lib.hid t9
        have HLa6 := Lib.hid hla6
        have HC7 := Lib.hid hC7
        have HP7 := Lib.hid hP7
        clear hJ6 hP6 hC6 zr zr2 t9 hla6 hC7 hP7
        go_wp2_with fail
        go_ret3
        obtain ⟨S9, hJ9, hP9, hC9⟩ := H9.out
        have hs7 := HC7.out.size
        refine ⟨w1.heap.size, _, S9, rfl, hJ9, hsz1, Row.lt hJ9.row, fun k hk => ?_, chg_q HC7.out hC9 HP7.out hsz1, HLa6.out.kept hP9 hC9⟩
        rcases hP9 k hk with h | h
        · exact HP7.out k h
        · exact .inr (by omega)
      · clear d1
        go_enter Tryd.func13, Tryd.ntmps13
        go_wp2_with fail
        refine (KN _).out.mono ?_
        rintro e w2 ⟨rfl, hb2⟩
        have hd2 := Hh.out.below hb2
        have kR2 := (KR2 hd2).out
        have KR3 := Lib.hid kR2
        have Hb2 := Lib.hid hb2
        clear hb2 hd2 kR2
        go_wp2_with fail
        refine KR3.out.mono ?_
        rintro e w1 ⟨rfl, hd, hc⟩
        obtain ⟨hJ, hC, hsz1, hP⟩ := Start.out w2 w1 Hb2.out hd hc
        have HJ := Lib.hid hJ
        have HC := Lib.hid hC
        have HP := Lib.hid hP
        clear hd hc hJ hC hP
        go_wp2_with fail
        have hw1 : w1.heap.size < (w1.alloc (.cells #[.pointer (some ⟨g, 0, none⟩), .string NJ, .int .i64 0, .int .i64 0, .bool false] 62)).heap.size := by simp
        generalize w1.alloc (.cells #[.pointer (some ⟨g, 0, none⟩), .string NJ, .int .i64 0, .int .i64 0, .bool false] 62) = w3 at *
        refine (KDD HJ.out.disk).out.mono ?_
        rintro e w4 ⟨rfl, hb4⟩
        have Hb4 := Lib.hid hb4
        clear hb4
        go_wp2_with fail
        refine (KP _).out.mono ?_
        rintro e w5 ⟨⟨v, rfl, hl⟩, hb5⟩
        have hb35 := Hb4.out.trans (hb5.mono Hb4.out.size)
        have hJ5 := HJ.out.below hb35
        have hs4 := Hb4.out.size
        have hs5 := hb5.size
        have hla : LstA w5 w.heap.size (Plus S0 w2 w1) w1.heap.size v L := by
          obtain ⟨A, c, hv, hr⟩ := hl
          refine ⟨A, c, hv, fun hne => ?_⟩
          obtain ⟨b, e1, e2, e3, e4⟩ := hr hne
          refine ⟨b, e1, by omega, e3, fun hk => ?_, by omega, e4⟩
          have := (HJ.out.disk.1 b hk).2
          omega
        have hC5 : Chg S0 w w5 := HC.out.trans ⟨hb35.os, hb35.tape, hb35.output, hb35.size, fun i hi _ => hb35.block i hi⟩ (fun _ h => .inl h)
        have hin := hla.inL
        obtain ⟨A, c, rfl, _⟩ := id hl
        have HLa := Lib.hid hla
        have HJ5 := Lib.hid hJ5
        have HC5 := Lib.hid hC5
        have Hin := Lib.hid hin
        clear hl hb5 hb35 hJ5 hla hC5 hin
        go_wp2_with fail
        refine (KW HJ5.out Hin.out).out.mono ?_
        rintro e w6 ⟨rfl, t6⟩
        obtain ⟨S6, hJ6, hP6, hC6⟩ := t6
        have hla6 := HLa.out.kept hP6 hC6
        have hC7 : Chg S0 w w6 := chg_q HC5.out hC6 HP.out hsz1
        have hP7 : ∀ k, S6 k → S0 k ∨ w.heap.size ≤ k := fun k hk => by
          rcases hP6 k hk with h | h
          · exact HP.out k h
          · have := HC5.out.size; exact .inr (by omega)
        have z2 := hJ6.row.box.2.2.1
        have z3 := hJ6.row.box.2.2.2.1
        have zf2 := Row.free hJ6.row 2
        have zf3 := Row.free hJ6.row 3
        have zr := Row.set hJ6.row 2 (.int .i64 (L.length : Int)) (by simp [jcells])
        have zr2 := Row.set zr 3 (.int .i64 (L.length : Int)) (by simp [jcells])
        have y3 := Row.cell zr 3 (by simp [jcells])
        have yf3 := Row.free zr 3
        simp only [jcells, List.set, List.getElem_cons_succ, List.getElem_cons_zero] at y3
        have t9 := hJ6.rowTo (j' := ⟨L.length, L.length, false⟩) (World.grownBy.trans (grownBy_set w6 w1.heap.size 2 (.int .i64 (L.length : Int))) (grownBy_set _ w1.heap.size 3 (.int .i64 (L.length : Int)))) (by unfold JAt; unfold jcells at zr2 ⊢; simpa using zr2)
        have H9 := Lib.hid t9
        have HLa6 := Lib.hid hla6
        have HC7 := Lib.hid hC7
        have HP7 := Lib.hid hP7
        clear hJ6 hP6 hC6 zr zr2 t9 hla6 hC7 hP7
        go_wp2_with fail
        go_ret3
        obtain ⟨S9, hJ9, hP9, hC9⟩ := H9.out
        have hs7 := HC7.out.size
        refine ⟨w1.heap.size, _, S9, rfl, hJ9, hsz1, Row.lt hJ9.row, fun k hk => ?_, chg_q HC7.out hC9 HP7.out hsz1, HLa6.out.kept hP9 hC9⟩
        rcases hP9 k hk with h | h
        · exact HP7.out k h
        · exact .inr (by omega)
    · have d2 : decide ((n : Int) < (sb.size : Int)) = false := by simp only [decide_eq_false_iff_not]; omega
      have d2' : decide (n < sb.size) = false := by simp only [decide_eq_false_iff_not]; omega
      have hsL : s = Jr.lays 0 L := by rw [← Ht.out, List.take_of_length_le (by omega)]
      have hsy : syncR (Jr.St (some (s, sf)) none) (-1) Jr.nj = (Jr.St (some (Jr.lays 0 L, ((Jr.lays 0 L).length : Int))) none, -1, 0) := by
        rw [Jr.sync_j (by omega)]
        simp only
        rw [← hsL]; rfl
      have KW := fun {w : World} {S : Nat → Prop} (h : DiskS w B S g (Jr.St (some (s, sf)) none) (-1)) => (KY h).out
      rw [hsy] at KW
      have KWW := fun {w : World} {S : Nat → Prop} (h : DiskS w B S g (Jr.St (some (s, sf)) none) (-1)) => Lib.hid (KW h)
      clear KW hsy hsL
      rcases hc1 with rfl | rfl
      · clear d1
        go_enter Tryd.func13, Tryd.ntmps13
        go_wp2_with fail
        refine (KN _).out.mono ?_
        rintro e w2 ⟨rfl, hb2⟩
        have hd2 := Hh.out.below hb2
        have kR2 := (KR2 hd2).out
        have KR3 := Lib.hid kR2
        have Hb2 := Lib.hid hb2
        clear hb2 hd2 kR2
        go_wp2_with fail
        refine KR3.out.mono ?_
        rintro e w1 ⟨rfl, hd, hc⟩
        obtain ⟨hJ, hC, hsz1, hP⟩ := Start.out w2 w1 Hb2.out hd hc
        have HJ := Lib.hid hJ
        have HC := Lib.hid hC
        have HP := Lib.hid hP
        clear hd hc hJ hC hP
        go_wp2_with fail
        have hw1 : w1.heap.size < (w1.alloc (.cells #[.pointer (some ⟨g, 0, none⟩), .string NJ, .int .i64 0, .int .i64 0, .bool false] 62)).heap.size := by simp
        generalize w1.alloc (.cells #[.pointer (some ⟨g, 0, none⟩), .string NJ, .int .i64 0, .int .i64 0, .bool false] 62) = w3 at *
        refine (KDD HJ.out.disk).out.mono ?_
        rintro e w4 ⟨rfl, hb4⟩
        have Hb4 := Lib.hid hb4
        clear hb4
        go_wp2_with fail
        refine (KP _).out.mono ?_
        rintro e w5 ⟨⟨v, rfl, hl⟩, hb5⟩
        have hb35 := Hb4.out.trans (hb5.mono Hb4.out.size)
        have hJ5 := HJ.out.below hb35
        have hs4 := Hb4.out.size
        have hs5 := hb5.size
        have hla : LstA w5 w.heap.size (Plus S0 w2 w1) w1.heap.size v L := by
          obtain ⟨A, c, hv, hr⟩ := hl
          refine ⟨A, c, hv, fun hne => ?_⟩
          obtain ⟨b, e1, e2, e3, e4⟩ := hr hne
          refine ⟨b, e1, by omega, e3, fun hk => ?_, by omega, e4⟩
          have := (HJ.out.disk.1 b hk).2
          omega
        have hC5 : Chg S0 w w5 := HC.out.trans ⟨hb35.os, hb35.tape, hb35.output, hb35.size, fun i hi _ => hb35.block i hi⟩ (fun _ h => .inl h)
        have hin := hla.inL
        obtain ⟨A, c, rfl, _⟩ := id hl
        have HLa := Lib.hid hla
        have HJ5 := Lib.hid hJ5
        have HC5 := Lib.hid hC5
        have Hin := Lib.hid hin
        clear hl hb5 hb35 hJ5 hla hC5 hin
        go_wp2_with fail
        refine (KWW HJ5.out.disk).out.mono ?_
        rintro e w6 ⟨rfl, hd6, hc6⟩
        have t6 := HJ5.out.diskTo hd6 hc6
        clear hd6 hc6
        obtain ⟨S6, hJ6, hP6, hC6⟩ := t6
        have hla6 := HLa.out.kept hP6 hC6
        have hC7 : Chg S0 w w6 := chg_q HC5.out hC6 HP.out hsz1
        have hP7 : ∀ k, S6 k → S0 k ∨ w.heap.size ≤ k := fun k hk => by
          rcases hP6 k hk with h | h
          · exact HP.out k h
          · have := HC5.out.size; exact .inr (by omega)
        have z2 := hJ6.row.box.2.2.1
        have z3 := hJ6.row.box.2.2.2.1
        have zf2 := Row.free hJ6.row 2
        have zf3 := Row.free hJ6.row 3
        have zr := Row.set hJ6.row 2 (.int .i64 (L.length : Int)) (by simp [jcells])
        have zr2 := Row.set zr 3 (.int .i64 (L.length : Int)) (by simp [jcells])
        have y3 := Row.cell zr 3 (by simp [jcells])
        have yf3 := Row.free zr 3
        simp only [jcells, List.set, List.getElem_cons_succ, List.getElem_cons_zero] at y3
        have t9 := hJ6.rowTo (j' := ⟨L.length, L.length, false⟩) (World.grownBy.trans (grownBy_set w6 w1.heap.size 2 (.int .i64 (L.length : Int))) (grownBy_set _ w1.heap.size 3 (.int .i64 (L.length : Int)))) (by unfold JAt; unfold jcells at zr2 ⊢; simpa using zr2)
        have H9 := Lib.hid t9
        have HLa6 := Lib.hid hla6
        have HC7 := Lib.hid hC7
        have HP7 := Lib.hid hP7
        clear hJ6 hP6 hC6 zr zr2 t9 hla6 hC7 hP7
        go_wp2_with fail
        go_ret3
        obtain ⟨S9, hJ9, hP9, hC9⟩ := H9.out
        have hs7 := HC7.out.size
        refine ⟨w1.heap.size, _, S9, rfl, hJ9, hsz1, Row.lt hJ9.row, fun k hk => ?_, chg_q HC7.out hC9 HP7.out hsz1, HLa6.out.kept hP9 hC9⟩
        rcases hP9 k hk with h | h
        · exact HP7.out k h
        · exact .inr (by omega)
      · clear d1
        go_enter Tryd.func13, Tryd.ntmps13
        go_wp2_with fail
        refine (KN _).out.mono ?_
        rintro e w2 ⟨rfl, hb2⟩
        have hd2 := Hh.out.below hb2
        have kR2 := (KR2 hd2).out
        have KR3 := Lib.hid kR2
        have Hb2 := Lib.hid hb2
        clear hb2 hd2 kR2
        go_wp2_with fail
        refine KR3.out.mono ?_
        rintro e w1 ⟨rfl, hd, hc⟩
        obtain ⟨hJ, hC, hsz1, hP⟩ := Start.out w2 w1 Hb2.out hd hc
        have HJ := Lib.hid hJ
        have HC := Lib.hid hC
        have HP := Lib.hid hP
        clear hd hc hJ hC hP
        go_wp2_with fail
        have hw1 : w1.heap.size < (w1.alloc (.cells #[.pointer (some ⟨g, 0, none⟩), .string NJ, .int .i64 0, .int .i64 0, .bool false] 62)).heap.size := by simp
        generalize w1.alloc (.cells #[.pointer (some ⟨g, 0, none⟩), .string NJ, .int .i64 0, .int .i64 0, .bool false] 62) = w3 at *
        refine (KDD HJ.out.disk).out.mono ?_
        rintro e w4 ⟨rfl, hb4⟩
        have Hb4 := Lib.hid hb4
        clear hb4
        go_wp2_with fail
        refine (KP _).out.mono ?_
        rintro e w5 ⟨⟨v, rfl, hl⟩, hb5⟩
        have hb35 := Hb4.out.trans (hb5.mono Hb4.out.size)
        have hJ5 := HJ.out.below hb35
        have hs4 := Hb4.out.size
        have hs5 := hb5.size
        have hla : LstA w5 w.heap.size (Plus S0 w2 w1) w1.heap.size v L := by
          obtain ⟨A, c, hv, hr⟩ := hl
          refine ⟨A, c, hv, fun hne => ?_⟩
          obtain ⟨b, e1, e2, e3, e4⟩ := hr hne
          refine ⟨b, e1, by omega, e3, fun hk => ?_, by omega, e4⟩
          have := (HJ.out.disk.1 b hk).2
          omega
        have hC5 : Chg S0 w w5 := HC.out.trans ⟨hb35.os, hb35.tape, hb35.output, hb35.size, fun i hi _ => hb35.block i hi⟩ (fun _ h => .inl h)
        have hin := hla.inL
        obtain ⟨A, c, rfl, _⟩ := id hl
        have HLa := Lib.hid hla
        have HJ5 := Lib.hid hJ5
        have HC5 := Lib.hid hC5
        have Hin := Lib.hid hin
        clear hl hb5 hb35 hJ5 hla hC5 hin
        go_wp2_with fail
        refine (KWW HJ5.out.disk).out.mono ?_
        rintro e w6 ⟨rfl, hd6, hc6⟩
        have t6 := HJ5.out.diskTo hd6 hc6
        clear hd6 hc6
        obtain ⟨S6, hJ6, hP6, hC6⟩ := t6
        have hla6 := HLa.out.kept hP6 hC6
        have hC7 : Chg S0 w w6 := chg_q HC5.out hC6 HP.out hsz1
        have hP7 : ∀ k, S6 k → S0 k ∨ w.heap.size ≤ k := fun k hk => by
          rcases hP6 k hk with h | h
          · exact HP.out k h
          · have := HC5.out.size; exact .inr (by omega)
        have z2 := hJ6.row.box.2.2.1
        have z3 := hJ6.row.box.2.2.2.1
        have zf2 := Row.free hJ6.row 2
        have zf3 := Row.free hJ6.row 3
        have zr := Row.set hJ6.row 2 (.int .i64 (L.length : Int)) (by simp [jcells])
        have zr2 := Row.set zr 3 (.int .i64 (L.length : Int)) (by simp [jcells])
        have y3 := Row.cell zr 3 (by simp [jcells])
        have yf3 := Row.free zr 3
        simp only [jcells, List.set, List.getElem_cons_succ, List.getElem_cons_zero] at y3
        have t9 := hJ6.rowTo (j' := ⟨L.length, L.length, false⟩) (World.grownBy.trans (grownBy_set w6 w1.heap.size 2 (.int .i64 (L.length : Int))) (grownBy_set _ w1.heap.size 3 (.int .i64 (L.length : Int)))) (by unfold JAt; unfold jcells at zr2 ⊢; simpa using zr2)
        have H9 := Lib.hid t9
        have HLa6 := Lib.hid hla6
        have HC7 := Lib.hid hC7
        have HP7 := Lib.hid hP7
        clear hJ6 hP6 hC6 zr zr2 t9 hla6 hC7 hP7
        go_wp2_with fail
        go_ret3
        obtain ⟨S9, hJ9, hP9, hC9⟩ := H9.out
        have hs7 := HC7.out.size
        refine ⟨w1.heap.size, _, S9, rfl, hJ9, hsz1, Row.lt hJ9.row, fun k hk => ?_, chg_q HC7.out hC9 HP7.out hsz1, HLa6.out.kept hP9 hC9⟩
        rcases hP9 k hk with h | h
        · exact HP7.out k h
        · exact .inr (by omega)
end Go.Proofs.YtpphljdnnlfjhaaDoor
