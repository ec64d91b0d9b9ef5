/- disk: every call, over a disk all of whose blocks lie in S; a nil disk. -/
import Derived.Test.YtpphljdnnlfjhaaDoorDiskCrash
namespace Go.Proofs.YtpphljdnnlfjhaaDoor
open Go.RowKit Go.Maps
set_option maxRecDepth 100000
set_option linter.unusedVariables false
set_option linter.unusedSimpArgs false

theorem DiskTo.toS {w w' : World} {B g M : Nat} {V : Fl.Nm → Value} {l l' : List Fl} {r' : Int} {S : Nat → Prop} (hz : ∀ k, S k → B ≤ k ∧ k < w.heap.size) (ho : ∀ k, DiskOwn g M l V k → S k) (hB : B ≤ w.heap.size) (h : DiskTo w w' B g M V l l' r') : DiskS w' B (Plus S w w') g l' r' ∧ Chg S w w' := by
  obtain ⟨V', hd, hc, hs⟩ := h
  refine ⟨⟨fun k hk => ?_, M, V', hd, fun k hk => ?_⟩, hc.mono ho⟩
  · rcases hk with hk | hk
    · exact ⟨(hz k hk).1, Nat.lt_of_lt_of_le (hz k hk).2 hc.size⟩
    · exact ⟨by omega, hk.2⟩
  · rcases hs k hk with h | h
    · exact .inl (ho k h)
    · exact .inr ⟨h, hd.below_own k hk⟩
theorem DiskS.Ble {w : World} {B g : Nat} {S : Nat → Prop} {l : List Fl} {r : Int} (h : DiskS w B S g l r) : B ≤ w.heap.size := by
  obtain ⟨hz, M, V, hd, ho⟩ := h
  have := hz g (ho g (.inl rfl))
  omega
theorem DiskS.g {w : World} {B g : Nat} {S : Nat → Prop} {l : List Fl} {r : Int} (h : DiskS w B S g l r) : S g := by
  obtain ⟨hz, M, V, hd, ho⟩ := h
  exact ho g (.inl rfl)
theorem DiskS.below {w w' : World} {B g : Nat} {S : Nat → Prop} {l : List Fl} {r : Int} (h : DiskS w B S g l r) (hb : Below w.heap.size w w') : DiskS w' B S g l r :=
  h.kept (Chg.of_below (S := fun _ => False) hb) (fun _ _ h => h)
section
variable {w : World} {B g : Nat} {S : Nat → Prop} {l : List Fl} {r : Int}
theorem append_S (nm s : Fl.Nm) (h : DiskS w B S g l r) (hn : nm.length ≤ 140737488351232) (ht : s.length ≤ 140737488351232) :
    Calls Tryd.prog 21 #[.pointer (some ⟨g, 0, none⟩), Sb nm, Sb s] w fun e w' => e = .returned (.int .i64 (appendR l r nm s).2.2) ∧ DiskS w' B (Plus S w w') g (appendR l r nm s).1 (appendR l r nm s).2.1 ∧ Chg S w w' := by
  have hB := h.Ble
  obtain ⟨hz, M, V, hd, ho⟩ := h
  refine (append_at9 nm s hd hn ht).mono ?_
  rintro e w' ⟨rfl, ht⟩
  exact ⟨rfl, ht.toS hz ho hB⟩
theorem sync_S (nm : Fl.Nm) (h : DiskS w B S g l r) (hn : nm.length ≤ maxLen) :
    Calls Tryd.prog 30 #[.pointer (some ⟨g, 0, none⟩), Sb nm] w fun e w' => e = .returned (.int .i64 (syncR l r nm).2.2) ∧ DiskS w' B (Plus S w w') g (syncR l r nm).1 (syncR l r nm).2.1 ∧ Chg S w w' := by
  have hB := h.Ble
  obtain ⟨hz, M, V, hd, ho⟩ := h
  refine (sync_at9 nm hd hn).mono ?_
  rintro e w' ⟨rfl, ht⟩
  exact ⟨rfl, ht.toS hz ho hB⟩
theorem remove_S (nm : Fl.Nm) (h : DiskS w B S g l r) (hn : nm.length ≤ maxLen) :
    Calls Tryd.prog 29 #[.pointer (some ⟨g, 0, none⟩), Sb nm] w fun e w' => e = .returned (.int .i64 (removeR l r nm).2.2) ∧ DiskS w' B (Plus S w w') g (removeR l r nm).1 (removeR l r nm).2.1 ∧ Chg S w w' := by
  have hB := h.Ble
  obtain ⟨hz, M, V, hd, ho⟩ := h
  refine (remove_at9 nm hd hn).mono ?_
  rintro e w' ⟨rfl, ht⟩
  exact ⟨rfl, ht.toS hz ho hB⟩
theorem rename_S (nm to : Fl.Nm) (h : DiskS w B S g l r) (hn : nm.length ≤ maxLen) (ht : to.length ≤ 140737488351232) :
    Calls Tryd.prog 49 #[.pointer (some ⟨g, 0, none⟩), Sb nm, Sb to] w fun e w' => e = .returned (.int .i64 (renameR l r nm to).2.2) ∧ DiskS w' B (Plus S w w') g (renameR l r nm to).1 (renameR l r nm to).2.1 ∧ Chg S w w' := by
  have hB := h.Ble
  obtain ⟨hz, M, V, hd, ho⟩ := h
  refine (rename_at9 nm to hd hn ht).mono ?_
  rintro e w' ⟨rfl, ht⟩
  exact ⟨rfl, ht.toS hz ho hB⟩
def armR (r n : Int) : Int × Int := if r = 0 then (r, 8) else if n < 0 then (r, 2) else (n, 0)
theorem DkOk.arm {s : Dk} {r n : Int} (h : DkOk s r) (hn : n ≤ 9223372036854775807) : (s.arm n).2 = (armR r n).2 ∧ DkOk (s.arm n).1 (armR r n).1 := by
  have hd := h.down
  unfold Dk.arm armR
  by_cases h0 : r = 0
  · have hd2 : s.down = true := by rw [hd]; simpa using h0
    rw [if_pos hd2, if_pos h0]
    exact ⟨rfl, h⟩
  · have hd2 : ¬ s.down = true := by rw [hd]; simpa using h0
    rw [if_neg hd2, if_neg h0]
    by_cases hneg : n < 0
    · rw [if_pos hneg, if_pos hneg]
      exact ⟨rfl, h⟩
    · rw [if_neg hneg, if_neg hneg]
      exact ⟨rfl, .inr ⟨rfl, rfl, by omega, hn, rfl⟩⟩
theorem arm_S (n : Int) (h : DiskS w B S g l r) (hn : n ≤ 9223372036854775807) :
    Calls Tryd.prog 14 #[.pointer (some ⟨g, 0, none⟩), .int .i64 n] w fun e w' => e = .returned (.int .i64 (armR r n).2) ∧ DiskS w' B (Plus S w w') g l (armR r n).1 ∧ Chg S w w' := by
  have hB := h.Ble
  obtain ⟨hz, M, V, hd, ho⟩ := h
  obtain ⟨s, hs, hk⟩ := hd.row
  refine (arm_at n hs).mono ?_
  rintro e w' ⟨rfl, h1, h2⟩
  obtain ⟨e1, k1⟩ := hk.arm hn
  rw [e1]
  have hto : DiskTo w w' B g M V l l (armR r n).1 := ⟨V, hd.turn h1 k1 h2, Chg.of_grown h2 (fun k e => by cases e; exact .inl (.inl rfl)), fun k hk => .inl hk⟩
  exact ⟨rfl, hto.toS hz ho hB⟩
theorem crash_S (v : Value) (ks : List Int) (h : DiskS w B S g l r) (hk : KeepV w v ks) (ha : KeepA v S) :
    Calls Tryd.prog 19 #[.pointer (some ⟨g, 0, none⟩), v] w fun e w' => e = .returned (.int .i64 0) ∧ DiskS w' B (Plus S w w') g (Fl.crashL l ks) (-1) ∧ Chg S w w' := by
  have hB := h.Ble
  obtain ⟨hz, M, V, hd, ho⟩ := h
  refine (crash_in9 v ks hd hk (fun b off n c e hp hb => ha b off n c e hp (ho b hb))).mono ?_
  rintro e w' ⟨rfl, ht⟩
  exact ⟨rfl, ht.toS hz ho hB⟩
theorem read_S (nm : Fl.Nm) (h : DiskS w B S g l r) (hn : nm.length ≤ maxLen) :
    Calls Tryd.prog 22 #[.pointer (some ⟨g, 0, none⟩), Sb nm] w fun e w' => e = .returned (.tuple #[Sb (bytesR l r nm), .int .i64 (codeR l r nm)]) ∧ Below w.heap.size w w' := by
  obtain ⟨hz, M, V, hd, ho⟩ := h
  exact read_at9 nm hd hn
end
theorem append_nil9 (nm s : Fl.Nm) (w : World) : Calls Tryd.prog 21 #[.pointer none, Sb nm, Sb s] w fun e w' => e = .returned (.int .i64 1) ∧ Below w.heap.size w w' := by
  go_enter Tryd.func21, Tryd.ntmps21
  go_wp2_with fail
  refine (find_nil _ _).mono ?_
  rintro _ w1 ⟨rfl, hb⟩
  have Hb2 := Lib.hid (hb.alloc hb.size (.cells #[.slice none 0 0, .int .i64 0] 75))
  clear hb
  go_wp2_with fail
  go_ret
  exact ⟨rfl, Hb2.out⟩
theorem sync_nil9 (nm : Fl.Nm) (w : World) : Calls Tryd.prog 30 #[.pointer none, Sb nm] w fun e w' => e = .returned (.int .i64 1) ∧ Below w.heap.size w w' := by
  go_enter Tryd.func30, Tryd.ntmps30
  go_wp2_with fail
  refine (find_nil _ _).mono ?_
  rintro _ w1 ⟨rfl, hb⟩
  have Hb2 := Lib.hid (hb.alloc hb.size (.cells #[.slice none 0 0, .int .i64 0] 75))
  clear hb
  go_wp2_with fail
  go_ret
  exact ⟨rfl, Hb2.out⟩
theorem rename_nil9 (nm to : Fl.Nm) (w : World) : Calls Tryd.prog 49 #[.pointer none, Sb nm, Sb to] w fun e w' => e = .returned (.int .i64 1) ∧ Below w.heap.size w w' := by
  go_enter Tryd.func49, Tryd.ntmps49
  go_wp2_with fail
  refine (find_nil _ _).mono ?_
  rintro _ w1 ⟨rfl, hb⟩
  have Hb2 := Lib.hid (hb.alloc hb.size (.cells #[.slice none 0 0, .int .i64 0] 75))
  clear hb
  go_wp2_with fail
  go_ret
  exact ⟨rfl, Hb2.out⟩
theorem remove_nil9 (nm : Fl.Nm) (w : World) : Calls Tryd.prog 29 #[.pointer none, Sb nm] w fun e w' => e = .returned (.int .i64 1) ∧ Below w.heap.size w w' := by
  go_enter Tryd.func29, Tryd.ntmps29
  go_wp2_with fail
  refine (find_nil _ _).mono ?_
  rintro _ w1 ⟨rfl, hb⟩
  have Hb2 := Lib.hid (hb.alloc hb.size (.cells #[.slice none 0 0, .int .i64 0] 75))
  clear hb
  go_wp2_with fail
  go_ret
  exact ⟨rfl, Hb2.out⟩
theorem aw1 : appendR [] (-1) [97] [120, 121] = ([⟨[97], [120, 121], 0⟩], -1, 0) := by rfl
theorem aw2 : syncR [⟨[97], [120, 121], 0⟩] (-1) [97] = ([⟨[97], [120, 121], 2⟩], -1, 0) := by rfl
theorem aw3 : appendR [⟨[97], [120, 121], 2⟩] (-1) [97] [122, 119] = ([⟨[97], [120, 121, 122, 119], 2⟩], -1, 0) := by rfl
theorem aw4 : Fl.crashL [⟨[97], [120, 121, 122, 119], 2⟩] [1] = [⟨[97], [120, 121, 122], 3⟩] := by rfl
theorem aw5 : bytesR [⟨[97], [120, 121, 122], 3⟩] (-1) [97] = [120, 121, 122] ∧ codeR [⟨[97], [120, 121, 122], 3⟩] (-1) [97] = 0 ∧ safeR [⟨[97], [120, 121, 122], 3⟩] (-1) [97] = 3 := ⟨by rfl, by rfl, by rfl⟩
end Go.Proofs.YtpphljdnnlfjhaaDoor
