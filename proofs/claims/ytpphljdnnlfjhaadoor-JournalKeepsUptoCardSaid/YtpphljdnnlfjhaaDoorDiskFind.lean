/- disk: find. -/
import Derived.Test.YtpphljdnnlfjhaaDoorDiskIn
namespace Go.Proofs.YtpphljdnnlfjhaaDoor
open Go.RowKit Go.Maps
set_option maxRecDepth 100000
set_option linter.unusedVariables false
set_option linter.unusedSimpArgs false

/-- what a look into the map gives -/
theorem run_look9 {w : World} {M n : Nat} {D : DataW Value} {l : List Fl} {V : Fl.Nm → Value} (hown : w.ownsMap Tryd.prog 9 heldV M n D) (hV : View D l V) (c : Bool) (nm : Fl.Nm) (hn : nm.length ≤ maxLen) :
    (Instr.lookup 58 (.map (some M)) (Sb nm) c).run Tryd.prog w =
      .ok (if c then .tuple #[(match Fl.find l nm with | none => Fv (.slice none 0 0) 0 | some f => Fv (V nm) f.safe), .bool (Fl.find l nm).isSome] else (match Fl.find l nm with | none => Fv (.slice none 0 0) 0 | some f => Fv (V nm) f.safe)) w := by
  obtain ⟨es, clock, hb, F, _, rfl⟩ := hown
  rcases Maps.fit_look c lawS Tryd.underlying58 (zeroF w) hb F (keyS nm hn) with ⟨hrun, _, hat⟩ | ⟨e0, y, _, _, hrun, hRv, hat, _⟩
  · rcases hf : Fl.find l nm with _ | f
    · rw [hrun]; rfl
    · have h1 := ((hV.2 nm).1 f hf).2 .nil
      rw [hat] at h1
      cases h1
  · rcases hf : Fl.find l nm with _ | f
    · have h1 := (hV.2 nm).2 hf
      rw [Maps.has_true_of_atKey hat] at h1
      cases h1
    · have h1 := ((hV.2 nm).1 f hf).2 .nil
      rw [hat] at h1
      unfold heldV at hRv
      injection hRv with hRv
      rw [← hRv] at h1
      injection h1 with h1
      rw [hrun, h1]; rfl
theorem wpList_look9 (w : World) {ops : Array Oper} {rest : List Oper} {o : Oper} {a : Act} {Q : Exit → Act → World → Prop} (hg : o.guard = none) (m x : Operand) (c : Bool) (hop : o.op = Op.lookup 58 m x c)
    {M n : Nat} {D : DataW Value} {l : List Fl} {V : Fl.Nm → Value} (nm : Fl.Nm) (hm : a.eval m = .map (some M)) (hown : w.ownsMap Tryd.prog 9 heldV M n D) (hV : View D l V) (hx : a.eval x = Sb nm) (hn : nm.length ≤ maxLen)
    (hK : wpList Tryd.prog ops Q rest (a.put o.dst (if c then .tuple #[(match Fl.find l nm with | none => Fv (.slice none 0 0) 0 | some f => Fv (V nm) f.safe), .bool (Fl.find l nm).isSome] else (match Fl.find l nm with | none => Fv (.slice none 0 0) 0 | some f => Fv (V nm) f.safe))) w) :
    wpList Tryd.prog ops Q (o :: rest) a w := by
  refine wpList_plain hg fun K' hK' => ?_
  have hrun := run_look9 hown hV c nm hn
  unfold Oper.wp
  simp [execOp, hop, hm, hx, hrun, Result.andThen]
  exact hK' _ _ hK
theorem wpList_look9_none (w : World) {ops : Array Oper} {rest : List Oper} {o : Oper} {a : Act} {Q : Exit → Act → World → Prop} (hg : o.guard = none) (m x : Operand) (hop : o.op = Op.lookup 58 m x true)
    {M n : Nat} {D : DataW Value} {l : List Fl} {V : Fl.Nm → Value} (nm : Fl.Nm) (hm : a.eval m = .map (some M)) (hown : w.ownsMap Tryd.prog 9 heldV M n D) (hV : View D l V) (hx : a.eval x = Sb nm) (hn : nm.length ≤ maxLen) (hf : Fl.find l nm = none)
    (hK : wpList Tryd.prog ops Q rest (a.put o.dst (.tuple #[Fv (.slice none 0 0) 0, .bool false])) w) :
    wpList Tryd.prog ops Q (o :: rest) a w := by
  refine wpList_look9 w hg m x true hop nm hm hown hV hx hn ?_
  rw [hf]; exact hK
theorem wpList_look9_some (w : World) {ops : Array Oper} {rest : List Oper} {o : Oper} {a : Act} {Q : Exit → Act → World → Prop} (hg : o.guard = none) (m x : Operand) (hop : o.op = Op.lookup 58 m x true)
    {M n : Nat} {D : DataW Value} {l : List Fl} {V : Fl.Nm → Value} (nm : Fl.Nm) (hm : a.eval m = .map (some M)) (hown : w.ownsMap Tryd.prog 9 heldV M n D) (hV : View D l V) (hx : a.eval x = Sb nm) (hn : nm.length ≤ maxLen) (f : Fl) (hf : Fl.find l nm = some f)
    (v : Value) (s : Int) (hv : V nm = v) (hs : f.safe = s) (hK : wpList Tryd.prog ops Q rest (a.put o.dst (.tuple #[Fv v s, .bool true])) w) :
    wpList Tryd.prog ops Q (o :: rest) a w := by
  refine wpList_look9 w hg m x true hop nm hm hown hV hx hn ?_
  rw [hf]; subst hv; subst hs; exact hK
theorem wpList_look9_plain (w : World) {ops : Array Oper} {rest : List Oper} {o : Oper} {a : Act} {Q : Exit → Act → World → Prop} (hg : o.guard = none) (m x : Operand) (hop : o.op = Op.lookup 58 m x false)
    {M n : Nat} {D : DataW Value} {l : List Fl} {V : Fl.Nm → Value} (nm : Fl.Nm) (hm : a.eval m = .map (some M)) (hown : w.ownsMap Tryd.prog 9 heldV M n D) (hV : View D l V) (hx : a.eval x = Sb nm) (hn : nm.length ≤ maxLen) (f : Fl) (hf : Fl.find l nm = some f)
    (v : Value) (s : Int) (hv : V nm = v) (hs : f.safe = s) (hK : wpList Tryd.prog ops Q rest (a.put o.dst (Fv v s)) w) :
    wpList Tryd.prog ops Q (o :: rest) a w := by
  refine wpList_look9 w hg m x false hop nm hm hown hV hx hn ?_
  rw [hf]; subst hv; subst hs; exact hK
theorem own_form9 {w : World} {base n : Nat} {e : TypeId} {v : Value} {xs : List Value} (h : w.ownsRow base e 1 v n xs) : ∃ a c, v = .slice a n c := by
  rcases h.2 with ⟨rfl, h0⟩ | ⟨g, cap, cur, rfl, _⟩
  · exact ⟨none, 0, by rw [h0]⟩
  · exact ⟨_, _, rfl⟩
/-- what find answers: a slice, how much of it is safe, an error's number -/
def findR (V : Fl.Nm → Value) (l : List Fl) (r : Int) (nm : Fl.Nm) : Value × Int × Int :=
  if r = 0 then (.slice none 0 0, 0, 8) else match Fl.find l nm with | none => (.slice none 0 0, 0, 34) | some f => (V nm, f.safe, 0)
theorem find_nil (nm : Fl.Nm) (w : World) : Calls Tryd.prog 39 #[.pointer none, Sb nm] w fun e w' => e = .returned (.tuple #[Fv (.slice none 0 0) 0, .int .i64 1]) ∧ Below w.heap.size w w' := by
  have hr := Row.new w 75 [.slice none 0 0, .int .i64 0]
  have hb : Below w.heap.size w (w.alloc (.cells #[.slice none 0 0, .int .i64 0] 75)) := (Below.refl _ _).alloc (Nat.le_refl _) _
  have Hr := Lib.hid hr
  have Hb := Lib.hid hb
  clear hr hb
  go_enter Tryd.func39, Tryd.ntmps39
  go_wp2_with fail
  refine (wrong_nil _).mono ?_
  rintro _ w1 ⟨rfl, rfl⟩
  go_wp2_with fail
  refine bodyPost_ret (results_row9 rfl _ _ (w.heap.size) 75 _ _ rfl Hr.out Tryd.underlying75 rfl (by kernel_rfl) _ rfl) rfl ⟨rfl, Hb.out⟩
set_option maxHeartbeats 800000 in
theorem find_at {w : World} {B g M : Nat} {V : Fl.Nm → Value} {l : List Fl} {r : Int} (nm : Fl.Nm) (hd : DiskIn w B g M V l r) (hn : nm.length ≤ maxLen) :
    Calls Tryd.prog 39 #[.pointer (some ⟨g, 0, none⟩), Sb nm] w fun e w' => e = .returned (.tuple #[Fv (findR V l r nm).1 (findR V l r nm).2.1, .int .i64 (findR V l r nm).2.2]) ∧ Below w.heap.size w w' := by
  obtain ⟨s, hs, hk⟩ := hd.row
  obtain ⟨D, hD, hV⟩ := hd.map
  have hdown := hk.down
  have hr := Row.new w 75 [.slice none 0 0, .int .i64 0]
  have hb : Below w.heap.size w (w.alloc (.cells #[.slice none 0 0, .int .i64 0] 75)) := (Below.refl _ _).alloc (Nat.le_refl _) _
  have hs1 := hs.below hb
  have hD1 : (w.alloc (.cells #[.slice none 0 0, .int .i64 0] 75)).ownsMap Tryd.prog 9 heldV M l.length D := hD.kept (grownBy_alloc _ _ none) (by simp)
  have HW := Lib.hid (wrong_at (show DkAt (w.alloc (.cells #[.slice none 0 0, .int .i64 0] 75)) g (.map (some M)) s from hs1))
  have c0 : (w.alloc (.cells #[.slice none 0 0, .int .i64 0] 75)).cell? ⟨g, 0, none⟩ = some (.map (some M)) := (DkAt.box hs1).1
  have hgl : g ≠ w.heap.size := by have : g < w.heap.size := Row.lt hs; omega
  rw [hdown] at HW
  have hr0 := hr
  have Hr := Lib.hid hr
  have Hb := Lib.hid hb
  have HD1 := Lib.hid hD1
  have HV := Lib.hid hV
  have HN := Lib.hid hn
  have HFl := Lib.hid hd.files
  clear hs hk hD hV hdown hr hb hs1 hD1 hd hn
  obtain ⟨R, hR⟩ : ∃ R, R = findR V l r nm := ⟨_, rfl⟩
  rw [← hR]
  unfold findR at hR
  by_cases h0 : r = 0
  · have HWd : Hid (Calls Tryd.prog 31 #[.pointer (some ⟨g, 0, none⟩)] (w.alloc (.cells #[.slice none 0 0, .int .i64 0] 75)) fun e w' => e = .returned (.int .i64 8) ∧ (w.alloc (.cells #[.slice none 0 0, .int .i64 0] 75)) = w') := Lib.hid (by have := HW.out; rw [h0] at this; exact this)
    rw [if_pos h0] at hR
    subst hR
    clear h0 HW
    go_enter Tryd.func39, Tryd.ntmps39
    go_wp2_with fail
    refine HWd.out.mono ?_
    rintro _ w2 ⟨rfl, rfl⟩
    go_wp2_with fail
    refine bodyPost_ret (results_row9 rfl _ _ (w.heap.size) 75 _ _ rfl Hr.out Tryd.underlying75 rfl (by kernel_rfl) _ rfl) rfl ⟨rfl, Hb.out⟩
  · have HWd : Hid (Calls Tryd.prog 31 #[.pointer (some ⟨g, 0, none⟩)] (w.alloc (.cells #[.slice none 0 0, .int .i64 0] 75)) fun e w' => e = .returned (.int .i64 0) ∧ (w.alloc (.cells #[.slice none 0 0, .int .i64 0] 75)) = w') := Lib.hid (by have := HW.out; rw [decide_eq_false h0] at this; exact this)
    rw [if_neg h0] at hR
    have HR := Lib.hid hR
    clear h0 HW hR
    go_enter Tryd.func39, Tryd.ntmps39
    go_wp2_with fail
    refine HWd.out.mono ?_
    rintro _ w2 ⟨rfl, rfl⟩
    rcases hf : Fl.find l nm with _ | f
    · have Hf := Lib.hid hf
      have HR2 : Hid (R = (.slice none 0 0, 0, 34)) := Lib.hid (by have := HR.out; rw [hf] at this; exact this)
      clear hf HR
      have hr2 := hr0.below (Below.alloc (Below.refl _ _) (Nat.le_refl _) (.cells #[.slice none 0 0, .int .i64 0] 75))
      have hb2 : Below w.heap.size w ((w.alloc (.cells #[.slice none 0 0, .int .i64 0] 75)).alloc (.cells #[.slice none 0 0, .int .i64 0] 75)) := Hb.out.alloc Hb.out.size _
      have Hr2 := Lib.hid hr2
      have Hb2 := Lib.hid hb2
      clear hr2 hb2 hr0
      go_wp2_with (at_lookup; refine wpList_look9_none _ rfl _ _ rfl nm rfl HD1.out HV.out rfl HN.out Hf.out ?_)
      rw [HR2.out]
      refine bodyPost_ret (results_row9 rfl _ _ (w.heap.size) 75 _ _ rfl Hr2.out Tryd.underlying75 rfl (by kernel_rfl) _ rfl) rfl ⟨rfl, Hb2.out⟩
    · have Hf := Lib.hid hf
      obtain ⟨A, c, hv⟩ := own_form9 (HFl.out f (Fl.find_mem hf))
      rw [Fl.find_name hf] at hv
      have HR2 : Hid (R = (.slice A f.b.length c, f.safe, 0)) := Lib.hid (by have := HR.out; rw [hf, hv] at this; exact this)
      have Hv := Lib.hid hv
      generalize f.b.length = n at *
      obtain ⟨sf, hsf⟩ : ∃ sf, f.safe = sf := ⟨_, rfl⟩
      rw [hsf] at HR2
      have Hsf := Lib.hid hsf
      clear hf HR hv hsf
      have hr2 : Row ((w.alloc (.cells #[.slice A n c, .int .i64 sf] 75)).alloc (.cells #[.slice A n c, .int .i64 sf] 75)) w.heap.size 75 [.slice A n c, .int .i64 sf] :=
        (Row.new w 75 [.slice A n c, .int .i64 sf]).below (Below.alloc (Below.refl _ _) (Nat.le_refl _) _)
      have hb2 : Below w.heap.size w ((w.alloc (.cells #[.slice A n c, .int .i64 sf] 75)).alloc (.cells #[.slice A n c, .int .i64 sf] 75)) := ((Below.refl _ _).alloc (Nat.le_refl _) _).alloc (by simp) _
      have Hr2 := Lib.hid hr2
      have Hb2 := Lib.hid hb2
      clear hr2 hb2 hr0
      go_wp2_with (at_lookup; refine wpList_look9_some _ rfl _ _ rfl nm rfl HD1.out HV.out rfl HN.out f Hf.out _ _ Hv.out Hsf.out ?_)
      rw [HR2.out]
      refine bodyPost_ret (results_row9 rfl _ _ (w.heap.size) 75 _ _ rfl Hr2.out Tryd.underlying75 rfl (by kernel_rfl) _ rfl) rfl ⟨rfl, Hb2.out⟩
end Go.Proofs.YtpphljdnnlfjhaaDoor
