/- What later texts need of the earlier layers. -/
import Derived.Test.YtalfnadejpmjnaaGreatDoorNSlO
import Derived.Test.YtalfnadejpmjnaaGreatDoorNSlS
import Derived.Test.YtalfnadejpmjnaaGreatDoorNSlT
import Derived.Test.YtalfnadejpmjnaaGreatDoorNDkA
import Derived.Maps.RangeWalk
import Derived.Maps.OwnSet
import Derived.Maps.Views
import Derived.StringKeys
import Derived.Laws.ResultCell
import Derived.Laws.Rows
import Derived.Sort.KeysCollected
import Derived.Deep.DeepAppendWide
import Derived.Shelf.Sort.Plain
import Derived.Shelf.Slices.In.SortNone
import Derived.Deep.AppendSrc
import Derived.OwnWalk
import Derived.Below
import Derived.WalkKit
import Derived.Laws.BytesArg
import Derived.Laws.IdiomStrings
import Derived.Lib.ConvBytes
import Derived.Sort.OwnSorted
/- ---- DiskIn ---- -/
/- disk: its files in memory. -/
namespace Go.Proofs.YtalfnadejpmjnaaGreatDoor.Jn
set_option maxRecDepth 100000
open Go.RowKit Go.Maps
set_option linter.unusedVariables false
set_option linter.unusedSimpArgs false

/-- bytes as cells -/
abbrev cel8 (bs : List UInt8) : List Value := bs.map fun b => Value.int .u8 (b.toNat : Int)
/-- an element of the map reads as itself -/
def heldV (v : Value) : Option (DataW Value × List MemPlace) := some (.held v, [])
/-- a file -/
abbrev Fv (v : Value) (s : Int) : Value := .agg #[v, .int .i64 s]
theorem lawS : Keyed Tryz.prog 9 := string_keyed Tryz.underlying9
abbrev KS (x : List UInt8) : Lit := .string x
theorem KS_ne {x y : List UInt8} (h : x ≠ y) : KS x ≠ KS y := fun e => h (by injection e)
theorem keyS (x : List UInt8) (h : x.length ≤ maxLen) : keyOf Tryz.prog 9 (Sb x) = some (KS x) := Go.WideMaps.keyOf_string_mk Tryz.underlying9 (s := ⟨x.toArray⟩) (show x.toArray.size ≤ maxLen by simpa using h)
/-- only blocks of S and new ones have changed -/
structure Chg (S : Nat → Prop) (w w' : World) : Prop where
  os : w'.os = w.os
  tape : w'.tape = w.tape
  output : w'.output = w.output
  size : w.heap.size ≤ w'.heap.size
  block : ∀ k, k < w.heap.size → ¬ S k → w'.heap[k]? = w.heap[k]?
theorem Chg.refl (S : Nat → Prop) (w : World) : Chg S w w := ⟨rfl, rfl, rfl, Nat.le_refl _, fun _ _ _ => rfl⟩
theorem Chg.trans {S S2 : Nat → Prop} {a b c : World} (h : Chg S a b) (k : Chg S2 b c) (hS : ∀ i, S2 i → S i ∨ a.heap.size ≤ i) : Chg S a c :=
  ⟨k.os.trans h.os, k.tape.trans h.tape, k.output.trans h.output, Nat.le_trans h.size k.size, fun i hi hn =>
    (k.block i (Nat.lt_of_lt_of_le hi h.size) (fun h2 => by rcases hS i h2 with h3 | h3 <;> first | exact hn h3 | omega)).trans (h.block i hi hn)⟩
theorem Chg.mono {S S2 : Nat → Prop} {a b : World} (h : Chg S a b) (hS : ∀ i, S i → S2 i) : Chg S2 a b := ⟨h.os, h.tape, h.output, h.size, fun i hi hn => h.block i hi (fun h2 => hn (hS i h2))⟩
theorem Chg.of_grown {S : Nat → Prop} {w w' : World} {r : Option Nat} (h : w.grownBy w' r) (hr : ∀ k, r = some k → S k ∨ w.heap.size ≤ k) : Chg S w w' :=
  ⟨h.os, h.tape, h.output, h.size, fun i hi hn => h.block i hi (fun e => by rcases hr i e.symm with h3 | h3 <;> first | exact hn h3 | omega)⟩
theorem Chg.of_below {S : Nat → Prop} {w w' : World} (h : Below w.heap.size w w') : Chg S w w' := ⟨h.os, h.tape, h.output, h.size, fun i hi _ => h.block i hi⟩
theorem Chg.below {S : Nat → Prop} {w w' : World} {B : Nat} (h : Chg S w w') (hB : B ≤ w.heap.size) (hS : ∀ k, S k → B ≤ k) : Below B w w' :=
  ⟨h.os, h.tape, h.output, h.size, fun i hi => h.block i (by omega) (fun h2 => by have := hS i h2; omega)⟩
theorem Chg.grown {S : Nat → Prop} {w w' : World} (h : Chg S w w') {r : Option Nat} (hS : ∀ k, S k → some k = r) : w.grownBy w' r :=
  ⟨h.os, h.tape, h.output, h.size, fun i hi hn => h.block i hi (fun h2 => hn (hS i h2))⟩
/-- what each name has in the map at M -/
def View (D : DataW Value) (l : List Fl) (V : Fl.Nm → Value) : Prop :=
  IsMap D ∧ ∀ nm, (∀ f, Fl.find l nm = some f → has D (KS nm) = true ∧ ∀ z, D.atKey (KS nm) z = .held (Fv (V nm) f.safe)) ∧ (Fl.find l nm = none → has D (KS nm) = false)
theorem View.empty (V : Fl.Nm → Value) : View (.map []) [] V := ⟨isMap_empty, fun nm => ⟨fun f h => (by rw [Fl.find_nil] at h; cases h), fun _ => rfl⟩⟩
theorem View.put {D : DataW Value} {l : List Fl} {V : Fl.Nm → Value} (h : View D l V) (hs : Fl.Sorted l) (f : Fl) (v : Value) :
    View (D.put (KS f.name) (.held (Fv v f.safe))) (Fl.put l f) (fun x => if x = f.name then v else V x) := by
  refine ⟨h.1.put _ _, fun nm => ?_⟩
  rw [Fl.find_put hs]
  by_cases hn : f.name = nm
  · subst hn
    simp only [↓reduceIte]
    refine ⟨fun g hg => ?_, fun hg => (by cases hg)⟩
    cases hg
    exact ⟨has_put_same (k := KS f.name) h.1 trivial _, fun z => atKey_put_same (k := KS f.name) h.1 trivial _ _⟩
  · have hn2 : ¬ nm = f.name := fun e => hn e.symm
    simp only [if_neg hn, if_neg hn2]
    refine ⟨fun g hg => ?_, fun hg => ?_⟩
    · obtain ⟨h1, h2⟩ := (h.2 nm).1 g hg
      exact ⟨(has_put_other (KS_ne hn2) _).trans h1, fun z => by rw [atKey_put_other (KS_ne hn2)]; exact h2 z⟩
    · exact (has_put_other (KS_ne hn2) _).trans ((h.2 nm).2 hg)
theorem View.del {D : DataW Value} {l : List Fl} {V : Fl.Nm → Value} (h : View D l V) (x : Fl.Nm) : View (D.del (KS x)) (Fl.drop l x) V := by
  refine ⟨h.1.del _, fun nm => ?_⟩
  rw [Fl.find_drop]
  by_cases hn : nm = x
  · subst hn
    simp only [↓reduceIte]
    exact ⟨fun g hg => (by cases hg), fun _ => has_del_same⟩
  · simp only [if_neg hn]
    refine ⟨fun g hg => ?_, fun hg => ?_⟩
    · obtain ⟨h1, h2⟩ := (h.2 nm).1 g hg
      exact ⟨(has_del_other (KS_ne hn)).trans h1, fun z => by rw [atKey_del_other (KS_ne hn)]; exact h2 z⟩
    · exact (has_del_other (KS_ne hn)).trans ((h.2 nm).2 hg)
theorem View.congr {D : DataW Value} {l : List Fl} {V V2 : Fl.Nm → Value} (h : View D l V) (e : ∀ f ∈ l, V f.name = V2 f.name) : View D l V2 := by
  refine ⟨h.1, fun nm => ⟨fun f hf => ?_, (h.2 nm).2⟩⟩
  obtain ⟨h1, h2⟩ := (h.2 nm).1 f hf
  refine ⟨h1, fun z => ?_⟩
  have := e f (Fl.find_mem hf)
  rw [Fl.find_name hf] at this
  rw [← this]; exact h2 z
theorem View.has {D : DataW Value} {l : List Fl} {V : Fl.Nm → Value} (h : View D l V) (nm : Fl.Nm) : has D (KS nm) = (Fl.find l nm).isSome := by
  rcases hf : Fl.find l nm with _ | f
  · exact (h.2 nm).2 hf
  · exact ((h.2 nm).1 f hf).1
/-- the names are the keys -/
theorem View.perm {w : World} {M n : Nat} {D : DataW Value} {l : List Fl} {V : Fl.Nm → Value} (hown : w.ownsMap Tryz.prog 9 heldV M n D) (h : View D l V) (hs : Fl.Sorted l) : (Fl.names l).Perm (strKeys D) := by
  obtain ⟨es, hD, hpw, _⟩ := hown.entries lawS
  obtain ⟨es', hD', hko⟩ := hown.keysOf
  obtain rfl : es = es' := by rw [hD] at hD'; simpa using hD'
  subst hD
  exact perm_strKeys hpw (fun p hp => by obtain ⟨v, hv⟩ := hko p hp; obtain ⟨x, _, hx, _⟩ := Maps.keyOf_str Tryz.underlying9 hv; exact ⟨x, hx⟩) hs.nodup (fun x => by rw [h.has, Fl.find_some_iff])
theorem View.size {w : World} {M n : Nat} {D : DataW Value} {l : List Fl} {V : Fl.Nm → Value} (hown : w.ownsMap Tryz.prog 9 heldV M n D) (h : View D l V) (hs : Fl.Sorted l) : Maps.size D = l.length := by
  have hp := (View.perm hown h hs).length_eq
  obtain ⟨es, rfl⟩ := h.1
  rw [size_eq]
  simpa [strKeys, Fl.names] using hp.symm
theorem own_least {w : World} {M n : Nat} {D : DataW Value} (h : w.ownsMap Tryz.prog 9 heldV M n D) : w.ownsMap Tryz.prog 9 heldV M (Maps.size D) D := by
  obtain ⟨es, clock, hb, F, hs, rfl⟩ := h
  exact ⟨es, clock, hb, F, by simp [Maps.size, DataW.length_sorted], rfl⟩
def MapAt (w : World) (M : Nat) (l : List Fl) (V : Fl.Nm → Value) : Prop := ∃ D, w.ownsMap Tryz.prog 9 heldV M l.length D ∧ View D l V
theorem MapAt.mk {w : World} {M n : Nat} {D : DataW Value} {l : List Fl} {V : Fl.Nm → Value} (hown : w.ownsMap Tryz.prog 9 heldV M n D) (h : View D l V) (hs : Fl.Sorted l) : MapAt w M l V :=
  ⟨D, by have := own_least hown; rwa [View.size hown h hs] at this, h⟩
theorem MapAt.lt {w : World} {M : Nat} {l : List Fl} {V : Fl.Nm → Value} (h : MapAt w M l V) : M < w.heap.size := by
  obtain ⟨D, hD, _⟩ := h
  exact hD.lt
theorem MapAt.kept {w w' : World} {M : Nat} {l : List Fl} {V : Fl.Nm → Value} {r : Option Nat} (h : MapAt w M l V) (hg : w.grownBy w' r) (hr : some M ≠ r) : MapAt w' M l V := by
  obtain ⟨D, hD, hV⟩ := h
  exact ⟨D, hD.kept hg hr, hV⟩
/-- how many operations are left: below 0: nobody counts -/
def DkOk (s : Dk) (r : Int) : Prop := (s.armed = false ∧ s.down = false ∧ r = -1) ∨ (s.armed = true ∧ s.left = r ∧ 0 ≤ r ∧ r ≤ 9223372036854775807 ∧ s.down = decide (r = 0))
theorem DkOk.down {s : Dk} {r : Int} (h : DkOk s r) : s.down = decide (r = 0) := by
  rcases h with ⟨_, h, rfl⟩ | ⟨_, _, _, _, h⟩
  · rw [h]; simp
  · exact h
def FileOk (f : Fl) : Prop := 0 ≤ f.safe ∧ f.safe ≤ f.b.length ∧ f.b.length ≤ 1048576 ∧ f.name.length ≤ 16
/-- a disk in memory: its block g, its map M, its files' bytes -/
structure DiskIn (w : World) (B g M : Nat) (V : Fl.Nm → Value) (l : List Fl) (r : Int) : Prop where
  row : ∃ s : Dk, DkAt w g (.map (some M)) s ∧ DkOk s r
  map : MapAt w M l V
  files : ∀ f ∈ l, w.ownsRow B 5 1 (V f.name) f.b.length (cel8 f.b)
  apart : ∀ f ∈ l, ∀ f' ∈ l, f.name ≠ f'.name → ∀ k, (V f.name).ownBlock = some k → (V f'.name).ownBlock ≠ some k
  sorted : Fl.Sorted l
  len : l.length ≤ 8
  ok : ∀ f ∈ l, FileOk f
  lo : B ≤ g ∧ B ≤ M
def DiskOwn (g M : Nat) (l : List Fl) (V : Fl.Nm → Value) (k : Nat) : Prop := k = g ∨ k = M ∨ ∃ f ∈ l, (V f.name).ownBlock = some k
/-- a disk all of whose blocks lie in S -/
def DiskS (w : World) (B : Nat) (S : Nat → Prop) (g : Nat) (l : List Fl) (r : Int) : Prop :=
  (∀ k, S k → B ≤ k ∧ k < w.heap.size) ∧ ∃ M V, DiskIn w B g M V l r ∧ ∀ k, DiskOwn g M l V k → S k
theorem Chg.ownsRow {S : Nat → Prop} {w w' : World} (h : Chg S w w') {B : Nat} {e : TypeId} {n sz : Nat} {v : Value} {xs : List Value} (ho : w.ownsRow B e sz v n xs) (hS : ∀ k, v.ownBlock = some k → ¬ S k) : w'.ownsRow B e sz v n xs := by
  obtain ⟨h1, h2⟩ := ho
  refine ⟨h1, ?_⟩
  rcases h2 with h2 | ⟨g, cap, cur, hv, hb, hh, rest⟩
  · exact .inl h2
  · refine .inr ⟨g, cap, cur, hv, hb, ?_, rest⟩
    rw [h.block g (lt_of_block hh) (hS g (by rw [hv]; rfl))]
    exact hh
theorem Chg.row {S : Nat → Prop} {w w' : World} (h : Chg S w w') {g : Nat} {T : TypeId} {xs : List Value} (hr : Row w g T xs) (hS : ¬ S g) : Row w' g T xs := (h.block g hr.lt hS).trans hr
theorem Chg.map {S : Nat → Prop} {w w' : World} (h : Chg S w w') {M n : Nat} {D : DataW Value} (hm : w.ownsMap Tryz.prog 9 heldV M n D) (hS : ¬ S M) : w'.ownsMap Tryz.prog 9 heldV M n D := by
  obtain ⟨es, clock, hb, rest⟩ := hm
  exact ⟨es, clock, (h.block M (lt_of_block hb) hS).trans hb, rest⟩
theorem DiskIn.kept {w w' : World} {B g M : Nat} {V : Fl.Nm → Value} {l : List Fl} {r : Int} {T : Nat → Prop} (h : DiskIn w B g M V l r) (hc : Chg T w w') (hT : ∀ k, DiskOwn g M l V k → ¬ T k) : DiskIn w' B g M V l r := by
  obtain ⟨⟨s, hs, hk⟩, ⟨D, hD, hV⟩, hf, ha, ho, hl, hok, hlo⟩ := h
  exact ⟨⟨s, hc.row hs (hT _ (.inl rfl)), hk⟩, ⟨D, hc.map hD (hT _ (.inr (.inl rfl))), hV⟩, fun f hm => hc.ownsRow (hf f hm) (fun k e => hT k (.inr (.inr ⟨f, hm, e⟩))), ha, ho, hl, hok, hlo⟩
theorem DiskS.kept {w w' : World} {B g : Nat} {S T : Nat → Prop} {l : List Fl} {r : Int} (h : DiskS w B S g l r) (hc : Chg T w w') (hT : ∀ k, S k → ¬ T k) : DiskS w' B S g l r := by
  obtain ⟨hz, M, V, hd, ho⟩ := h
  exact ⟨fun k hk => ⟨(hz k hk).1, Nat.lt_of_lt_of_le (hz k hk).2 hc.size⟩, M, V, hd.kept hc (fun k hk => hT k (ho k hk)), ho⟩
/-- S and what is new -/
def Plus (S : Nat → Prop) (w w' : World) (k : Nat) : Prop := S k ∨ (w.heap.size ≤ k ∧ k < w'.heap.size)
theorem DiskIn.apart_gM {w : World} {B g M : Nat} {V : Fl.Nm → Value} {l : List Fl} {r : Int} (h : DiskIn w B g M V l r) : g ≠ M := by
  rintro rfl
  obtain ⟨s, hs, _⟩ := h.row
  obtain ⟨D, ⟨es, clock, hb, _⟩, _⟩ := h.map
  unfold DkAt Row at hs
  rw [hs] at hb
  simp at hb
theorem DiskIn.apart_f {w : World} {B g M : Nat} {V : Fl.Nm → Value} {l : List Fl} {r : Int} (h : DiskIn w B g M V l r) {f : Fl} (hf : f ∈ l) {k : Nat} (hk : (V f.name).ownBlock = some k) : k ≠ g ∧ k ≠ M := by
  have ho := h.files f hf
  rcases ho.2 with ⟨e, _⟩ | ⟨q, cap, cur, hv, hb, hh, _⟩
  · rw [e] at hk; cases hk
  · rw [hv] at hk
    cases hk
    constructor
    · rintro rfl
      obtain ⟨s, hs, _⟩ := h.row
      unfold DkAt Row at hs
      rw [hs] at hh
      simp at hh
    · rintro rfl
      obtain ⟨D, ⟨es, clock, hb2, _⟩, _⟩ := h.map
      rw [hh] at hb2
      simp at hb2
theorem zeroF (w : World) : (zeroValue 87).run Tryz.prog w = .ok (Fv (.slice none 0 0) 0) w := by kernel_rfl
theorem results_row9 {P : Program} {fn : Func} {p u : Tmp} {ty : TypeId} (h : fn.results = #[.cell p ty, .tmp u]) (tmps : Array Value) (w : World) (g : Nat) (T : TypeId) (xs : List Value) (d : TypeDesc)
    (hp : tmps.getD p undef = .pointer (some ⟨g, 0, none⟩)) (hg : Row w g T xs)
    (hu : P.underlying ty = some d) (hd : (match d with | .struct _ | .array _ _ => true | _ => false) = true) (hi : (P.info? ty).map (·.size) = some xs.toArray.size) (x : Value) (hx : tmps.getD u undef = x) :
    (results fn tmps).run P w = .ok (.tuple #[.agg xs.toArray, x]) w := by
  rw [results_cell_tmp h, hp]
  have hl := run_loadVar_row w g T ty xs.toArray (0, 0) d hg hu hd hi
  have ha : (asAddr (.pointer (some ⟨g, 0, none⟩))).run P w = .ok ⟨g, 0, none⟩ w := rfl
  rw [ha]
  simp only [Result.andThen, hl, hx]
end Go.Proofs.YtalfnadejpmjnaaGreatDoor.Jn

/- ---- DiskFind ---- -/
/- disk: find. -/
namespace Go.Proofs.YtalfnadejpmjnaaGreatDoor.Jn
set_option maxRecDepth 100000
open Go.RowKit Go.Maps
set_option linter.unusedVariables false
set_option linter.unusedSimpArgs false

/-- what a look into the map gives -/
theorem run_look9 {w : World} {M n : Nat} {D : DataW Value} {l : List Fl} {V : Fl.Nm → Value} (hown : w.ownsMap Tryz.prog 9 heldV M n D) (hV : View D l V) (c : Bool) (nm : Fl.Nm) (hn : nm.length ≤ maxLen) :
    (Instr.lookup 71 (.map (some M)) (Sb nm) c).run Tryz.prog w =
      .ok (if c then .tuple #[(match Fl.find l nm with | none => Fv (.slice none 0 0) 0 | some f => Fv (V nm) f.safe), .bool (Fl.find l nm).isSome] else (match Fl.find l nm with | none => Fv (.slice none 0 0) 0 | some f => Fv (V nm) f.safe)) w := by
  obtain ⟨es, clock, hb, F, _, rfl⟩ := hown
  rcases Maps.fit_look c lawS Tryz.underlying71 (zeroF w) hb F (keyS nm hn) with ⟨hrun, _, hat⟩ | ⟨e0, y, _, _, hrun, hRv, hat, _⟩
  · rcases hf : Fl.find l nm with _ | f
    · rw [hrun]; rfl
    · have h1 := ((hV.2 nm).1 f hf).2 .nil
      rw [hat] at h1
      cases h1
  · rcases hf : Fl.find l nm with _ | f
    · have h1 := (hV.2 nm).2 hf
      rw [Maps.has_true_of_atKey hat] at h1
      cases h1
    · have h1 := ((hV.2 nm).1 f hf).2 .nil
      rw [hat] at h1
      unfold heldV at hRv
      injection hRv with hRv
      rw [← hRv] at h1
      injection h1 with h1
      rw [hrun, h1]; rfl
theorem wpList_look9 (w : World) {ops : Array Oper} {rest : List Oper} {o : Oper} {a : Act} {Q : Exit → Act → World → Prop} (hg : o.guard = none) (m x : Operand) (c : Bool) (hop : o.op = Op.lookup 71 m x c)
    {M n : Nat} {D : DataW Value} {l : List Fl} {V : Fl.Nm → Value} (nm : Fl.Nm) (hm : a.eval m = .map (some M)) (hown : w.ownsMap Tryz.prog 9 heldV M n D) (hV : View D l V) (hx : a.eval x = Sb nm) (hn : nm.length ≤ maxLen)
    (hK : wpList Tryz.prog ops Q rest (a.put o.dst (if c then .tuple #[(match Fl.find l nm with | none => Fv (.slice none 0 0) 0 | some f => Fv (V nm) f.safe), .bool (Fl.find l nm).isSome] else (match Fl.find l nm with | none => Fv (.slice none 0 0) 0 | some f => Fv (V nm) f.safe))) w) :
    wpList Tryz.prog ops Q (o :: rest) a w := by
  refine wpList_plain hg fun K' hK' => ?_
  have hrun := run_look9 hown hV c nm hn
  unfold Oper.wp
  simp [execOp, hop, hm, hx, hrun, Result.andThen]
  exact hK' _ _ hK
theorem wpList_look9_none (w : World) {ops : Array Oper} {rest : List Oper} {o : Oper} {a : Act} {Q : Exit → Act → World → Prop} (hg : o.guard = none) (m x : Operand) (hop : o.op = Op.lookup 71 m x true)
    {M n : Nat} {D : DataW Value} {l : List Fl} {V : Fl.Nm → Value} (nm : Fl.Nm) (hm : a.eval m = .map (some M)) (hown : w.ownsMap Tryz.prog 9 heldV M n D) (hV : View D l V) (hx : a.eval x = Sb nm) (hn : nm.length ≤ maxLen) (hf : Fl.find l nm = none)
    (hK : wpList Tryz.prog ops Q rest (a.put o.dst (.tuple #[Fv (.slice none 0 0) 0, .bool false])) w) :
    wpList Tryz.prog ops Q (o :: rest) a w := by
  refine wpList_look9 w hg m x true hop nm hm hown hV hx hn ?_
  rw [hf]; exact hK
theorem wpList_look9_some (w : World) {ops : Array Oper} {rest : List Oper} {o : Oper} {a : Act} {Q : Exit → Act → World → Prop} (hg : o.guard = none) (m x : Operand) (hop : o.op = Op.lookup 71 m x true)
    {M n : Nat} {D : DataW Value} {l : List Fl} {V : Fl.Nm → Value} (nm : Fl.Nm) (hm : a.eval m = .map (some M)) (hown : w.ownsMap Tryz.prog 9 heldV M n D) (hV : View D l V) (hx : a.eval x = Sb nm) (hn : nm.length ≤ maxLen) (f : Fl) (hf : Fl.find l nm = some f)
    (v : Value) (s : Int) (hv : V nm = v) (hs : f.safe = s) (hK : wpList Tryz.prog ops Q rest (a.put o.dst (.tuple #[Fv v s, .bool true])) w) :
    wpList Tryz.prog ops Q (o :: rest) a w := by
  refine wpList_look9 w hg m x true hop nm hm hown hV hx hn ?_
  rw [hf]; subst hv; subst hs; exact hK
theorem own_form9 {w : World} {base n : Nat} {e : TypeId} {v : Value} {xs : List Value} (h : w.ownsRow base e 1 v n xs) : ∃ a c, v = .slice a n c := by
  rcases h.2 with ⟨rfl, h0⟩ | ⟨g, cap, cur, rfl, _⟩
  · exact ⟨none, 0, by rw [h0]⟩
  · exact ⟨_, _, rfl⟩
/-- what find answers: a slice, how much of it is safe, an error's number -/
def findR (V : Fl.Nm → Value) (l : List Fl) (r : Int) (nm : Fl.Nm) : Value × Int × Int :=
  if r = 0 then (.slice none 0 0, 0, 8) else match Fl.find l nm with | none => (.slice none 0 0, 0, 34) | some f => (V nm, f.safe, 0)
theorem find_nil (nm : Fl.Nm) (w : World) : Calls Tryz.prog 83 #[.pointer none, Sb nm] w fun e w' => e = .returned (.tuple #[Fv (.slice none 0 0) 0, .int .i64 1]) ∧ Below w.heap.size w w' := by
  have hr := Row.new w 87 [.slice none 0 0, .int .i64 0]
  have hb : Below w.heap.size w (w.alloc (.cells #[.slice none 0 0, .int .i64 0] 87)) := (Below.refl _ _).alloc (Nat.le_refl _) _
  have Hr := Lib.hid hr
  have Hb := Lib.hid hb
  clear hr hb
  go_enter Tryz.func83, Tryz.ntmps83
  go_wp2_with fail
  refine (wrong_nil _).mono ?_
  rintro _ w1 ⟨rfl, rfl⟩
  go_wp2_with fail
  refine bodyPost_ret (results_row9 rfl _ _ (w.heap.size) 87 _ _ rfl Hr.out Tryz.underlying87 rfl (by kernel_rfl) _ rfl) rfl ⟨rfl, Hb.out⟩
set_option maxHeartbeats 800000 in
theorem find_at {w : World} {B g M : Nat} {V : Fl.Nm → Value} {l : List Fl} {r : Int} (nm : Fl.Nm) (hd : DiskIn w B g M V l r) (hn : nm.length ≤ maxLen) :
    Calls Tryz.prog 83 #[.pointer (some ⟨g, 0, none⟩), Sb nm] w fun e w' => e = .returned (.tuple #[Fv (findR V l r nm).1 (findR V l r nm).2.1, .int .i64 (findR V l r nm).2.2]) ∧ Below w.heap.size w w' := by
  obtain ⟨s, hs, hk⟩ := hd.row
  obtain ⟨D, hD, hV⟩ := hd.map
  have hdown := hk.down
  have hr := Row.new w 87 [.slice none 0 0, .int .i64 0]
  have hb : Below w.heap.size w (w.alloc (.cells #[.slice none 0 0, .int .i64 0] 87)) := (Below.refl _ _).alloc (Nat.le_refl _) _
  have hs1 := hs.below hb
  have hD1 : (w.alloc (.cells #[.slice none 0 0, .int .i64 0] 87)).ownsMap Tryz.prog 9 heldV M l.length D := hD.kept (grownBy_alloc _ _ none) (by simp)
  have HW := Lib.hid (wrong_at (show DkAt (w.alloc (.cells #[.slice none 0 0, .int .i64 0] 87)) g (.map (some M)) s from hs1))
  have c0 : (w.alloc (.cells #[.slice none 0 0, .int .i64 0] 87)).cell? ⟨g, 0, none⟩ = some (.map (some M)) := (DkAt.box hs1).1
  have hgl : g ≠ w.heap.size := by have : g < w.heap.size := Row.lt hs; omega
  rw [hdown] at HW
  have hr0 := hr
  have Hr := Lib.hid hr
  have Hb := Lib.hid hb
  have HD1 := Lib.hid hD1
  have HV := Lib.hid hV
  have HN := Lib.hid hn
  have HFl := Lib.hid hd.files
  clear hs hk hD hV hdown hr hb hs1 hD1 hd hn
  obtain ⟨R, hR⟩ : ∃ R, R = findR V l r nm := ⟨_, rfl⟩
  rw [← hR]
  unfold findR at hR
  by_cases h0 : r = 0
  · have HWd : Hid (Calls Tryz.prog 35 #[.pointer (some ⟨g, 0, none⟩)] (w.alloc (.cells #[.slice none 0 0, .int .i64 0] 87)) fun e w' => e = .returned (.int .i64 8) ∧ (w.alloc (.cells #[.slice none 0 0, .int .i64 0] 87)) = w') := Lib.hid (by have := HW.out; rw [h0] at this; exact this)
    rw [if_pos h0] at hR
    subst hR
    clear h0 HW
    go_enter Tryz.func83, Tryz.ntmps83
    go_wp2_with fail
    refine HWd.out.mono ?_
    rintro _ w2 ⟨rfl, rfl⟩
    go_wp2_with fail
    refine bodyPost_ret (results_row9 rfl _ _ (w.heap.size) 87 _ _ rfl Hr.out Tryz.underlying87 rfl (by kernel_rfl) _ rfl) rfl ⟨rfl, Hb.out⟩
  · have HWd : Hid (Calls Tryz.prog 35 #[.pointer (some ⟨g, 0, none⟩)] (w.alloc (.cells #[.slice none 0 0, .int .i64 0] 87)) fun e w' => e = .returned (.int .i64 0) ∧ (w.alloc (.cells #[.slice none 0 0, .int .i64 0] 87)) = w') := Lib.hid (by have := HW.out; rw [decide_eq_false h0] at this; exact this)
    rw [if_neg h0] at hR
    have HR := Lib.hid hR
    clear h0 HW hR
    go_enter Tryz.func83, Tryz.ntmps83
    go_wp2_with fail
    refine HWd.out.mono ?_
    rintro _ w2 ⟨rfl, rfl⟩
    rcases hf : Fl.find l nm with _ | f
    · have Hf := Lib.hid hf
      have HR2 : Hid (R = (.slice none 0 0, 0, 34)) := Lib.hid (by have := HR.out; rw [hf] at this; exact this)
      clear hf HR
      have hr2 := hr0.below (Below.alloc (Below.refl _ _) (Nat.le_refl _) (.cells #[.slice none 0 0, .int .i64 0] 87))
      have hb2 : Below w.heap.size w ((w.alloc (.cells #[.slice none 0 0, .int .i64 0] 87)).alloc (.cells #[.slice none 0 0, .int .i64 0] 87)) := Hb.out.alloc Hb.out.size _
      have Hr2 := Lib.hid hr2
      have Hb2 := Lib.hid hb2
      clear hr2 hb2 hr0
      go_wp2_with (at_lookup; refine wpList_look9_none _ rfl _ _ rfl nm rfl HD1.out HV.out rfl HN.out Hf.out ?_)
      rw [HR2.out]
      refine bodyPost_ret (results_row9 rfl _ _ (w.heap.size) 87 _ _ rfl Hr2.out Tryz.underlying87 rfl (by kernel_rfl) _ rfl) rfl ⟨rfl, Hb2.out⟩
    · have Hf := Lib.hid hf
      obtain ⟨A, c, hv⟩ := own_form9 (HFl.out f (Fl.find_mem hf))
      rw [Fl.find_name hf] at hv
      have HR2 : Hid (R = (.slice A f.b.length c, f.safe, 0)) := Lib.hid (by have := HR.out; rw [hf, hv] at this; exact this)
      have Hv := Lib.hid hv
      generalize f.b.length = n at *
      obtain ⟨sf, hsf⟩ : ∃ sf, f.safe = sf := ⟨_, rfl⟩
      rw [hsf] at HR2
      have Hsf := Lib.hid hsf
      clear hf HR hv hsf
      have hr2 : Row ((w.alloc (.cells #[.slice A n c, .int .i64 sf] 87)).alloc (.cells #[.slice A n c, .int .i64 sf] 87)) w.heap.size 87 [.slice A n c, .int .i64 sf] :=
        (Row.new w 87 [.slice A n c, .int .i64 sf]).below (Below.alloc (Below.refl _ _) (Nat.le_refl _) _)
      have hb2 : Below w.heap.size w ((w.alloc (.cells #[.slice A n c, .int .i64 sf] 87)).alloc (.cells #[.slice A n c, .int .i64 sf] 87)) := ((Below.refl _ _).alloc (Nat.le_refl _) _).alloc (by simp) _
      have Hr2 := Lib.hid hr2
      have Hb2 := Lib.hid hb2
      clear hr2 hb2 hr0
      go_wp2_with (at_lookup; refine wpList_look9_some _ rfl _ _ rfl nm rfl HD1.out HV.out rfl HN.out f Hf.out _ _ Hv.out Hsf.out ?_)
      rw [HR2.out]
      refine bodyPost_ret (results_row9 rfl _ _ (w.heap.size) 87 _ _ rfl Hr2.out Tryz.underlying87 rfl (by kernel_rfl) _ rfl) rfl ⟨rfl, Hb2.out⟩
end Go.Proofs.YtalfnadejpmjnaaGreatDoor.Jn

/- ---- DiskRead ---- -/
/- disk: New, Read, Safe. -/
namespace Go.Proofs.YtalfnadejpmjnaaGreatDoor.Jn
set_option maxRecDepth 100000
open Go.RowKit Go.Maps
set_option linter.unusedVariables false
set_option linter.unusedSimpArgs false

theorem own_text9 {P : Program} {w : World} {base e n : Nat} {v : Value} {bs : List UInt8} (h : w.ownsRow base e 1 v n (cel8 bs)) (hn : n = bs.length) (src : TypeId) (hs : P.underlying src = some (.slice e)) (he : P.underlying e = some (.int .u8))
    (dst : TypeId) (hd : P.underlying dst = some .string) : (convert src dst v).run P w = .ok (Sb bs) w := by
  subst hn
  rcases h.2 with ⟨rfl, h0⟩ | ⟨g, cap, cur, rfl, _⟩
  · have hb : bs = [] := List.eq_nil_of_length_eq_zero h0
    subst hb
    exact run_convert_bytes_nil (P := P) w src e hs he 0 0 dst hd
  · have hc := h.cells (g := g) rfl
    have hr := run_convert_bytes_arg (P := P) w src e hs he g 0 bs.length cap (bs.map fun b => (b.toNat : Int)) (by simp) (fun i hi => by
      have hi' : i < bs.length := hi
      have h1 := hc i (.int .u8 (bs[i].toNat : Int)) (by simp [cel8, hi'])
      have e1 : (⟨g, 0, none⟩ : Addr).add i = ⟨g, 0 + i, none⟩ := by simp [Addr.add]; try omega
      rw [e1] at h1
      rw [h1]; simp [List.getD, hi']) dst hd
    rw [hr]
    congr 2
    unfold strOfNums
    congr 2
    rw [List.map_map]
    conv => rhs; rw [← List.map_id bs]
    apply List.map_congr_left
    intro b _
    simp
/-- the code that find answers, the bytes, how many are safe -/
def codeR (l : List Fl) (r : Int) (nm : Fl.Nm) : Int := if r = 0 then 8 else if (Fl.find l nm).isSome = true then 0 else 34
def bytesR (l : List Fl) (r : Int) (nm : Fl.Nm) : List UInt8 := if r = 0 then [] else match Fl.find l nm with | none => [] | some f => f.b
def safeR (l : List Fl) (r : Int) (nm : Fl.Nm) : Int := if r = 0 then 0 else match Fl.find l nm with | none => 0 | some f => f.safe
theorem findR_eq (V : Fl.Nm → Value) (l : List Fl) (r : Int) (nm : Fl.Nm) : (findR V l r nm).2.2 = codeR l r nm ∧ (findR V l r nm).2.1 = safeR l r nm := by
  unfold findR codeR safeR
  by_cases h : r = 0
  · simp [h]
  · rcases hf : Fl.find l nm with _ | f <;> simp [h, hf]
theorem findR_own {w : World} {B g M : Nat} {V : Fl.Nm → Value} {l : List Fl} {r : Int} (hd : DiskIn w B g M V l r) (nm : Fl.Nm) :
    w.ownsRow B 5 1 (findR V l r nm).1 (bytesR l r nm).length (cel8 (bytesR l r nm)) := by
  unfold findR bytesR
  by_cases h : r = 0
  · simp only [h, ↓reduceIte]; exact World.ownsRow_nil _ _ _ _
  · rcases hf : Fl.find l nm with _ | f
    · simp only [h, ↓reduceIte]; exact World.ownsRow_nil _ _ _ _
    · simp only [h, ↓reduceIte]
      have := hd.files f (Fl.find_mem hf)
      rw [Fl.find_name hf] at this
      exact this
theorem bytesR_le {w : World} {B g M : Nat} {V : Fl.Nm → Value} {l : List Fl} {r : Int} (hd : DiskIn w B g M V l r) (nm : Fl.Nm) : (bytesR l r nm).length ≤ 1048576 := by
  unfold bytesR
  by_cases h : r = 0
  · simp [h]
  · rcases hf : Fl.find l nm with _ | f
    · simp [h]
    · simp only [h, ↓reduceIte]; exact (hd.ok f (Fl.find_mem hf)).2.2.1
theorem safeR_le {w : World} {B g M : Nat} {V : Fl.Nm → Value} {l : List Fl} {r : Int} (hd : DiskIn w B g M V l r) (nm : Fl.Nm) : 0 ≤ safeR l r nm ∧ safeR l r nm ≤ (bytesR l r nm).length := by
  unfold bytesR safeR
  by_cases h : r = 0
  · simp [h]
  · rcases hf : Fl.find l nm with _ | f
    · simp [h]
    · simp only [h, ↓reduceIte]; exact ⟨(hd.ok f (Fl.find_mem hf)).1, (hd.ok f (Fl.find_mem hf)).2.1⟩
/-- find, in plain words -/
theorem find9 {w : World} {B g M : Nat} {V : Fl.Nm → Value} {l : List Fl} {r : Int} (nm : Fl.Nm) (hd : DiskIn w B g M V l r) (hn : nm.length ≤ maxLen) :
    Calls Tryz.prog 83 #[.pointer (some ⟨g, 0, none⟩), Sb nm] w fun e w' => ∃ A n c, e = .returned (.tuple #[Fv (.slice A n c) (safeR l r nm), .int .i64 (codeR l r nm)]) ∧ Below w.heap.size w w' ∧
      n = (bytesR l r nm).length ∧ w'.ownsRow B 5 1 (.slice A n c) (bytesR l r nm).length (cel8 (bytesR l r nm)) ∧ findR V l r nm = (.slice A n c, safeR l r nm, codeR l r nm) := by
  have hown := findR_own hd nm
  obtain ⟨e1, e2⟩ := findR_eq V l r nm
  refine (find_at nm hd hn).mono ?_
  rintro e w' ⟨rfl, hb⟩
  obtain ⟨A, c, hv⟩ := own_form9 hown
  refine ⟨A, _, c, ?_, hb, rfl, ?_, ?_⟩
  · rw [hv, e1, e2]
  · rw [← hv]; exact hown.kept (grownBy_of_below hb none) (by cases (findR V l r nm).1.ownBlock <;> simp)
  · rw [← hv, ← e1, ← e2]
theorem new9 (w : World) (B : Nat) (hB : B ≤ w.heap.size) : Calls Tryz.prog 34 #[] w fun e w' => e = .returned (.pointer (some ⟨w.heap.size + 1, 0, none⟩)) ∧ DiskS w' B (Plus (fun _ => False) w w') (w.heap.size + 1) [] (-1) ∧ Below w.heap.size w w' ∧ w'.heap.size = w.heap.size + 2 := by
  have hmm := @run_makeMap Tryz.prog
  go_enter Tryz.func34, Tryz.ntmps34
  go_wp2_with fail
  go_ret
  have hm := World.ownsMap_made (H := Value) w Tryz.prog 9 heldV
  have e1 : (w.alloc (.map #[] 0)).heap.size = w.heap.size + 1 := by simp
  have hr := Row.new (w.alloc (.map #[] 0)) 73 [.map (some w.heap.size), .bool false, .int .i64 0, .bool false]
  rw [e1] at hr
  refine ⟨rfl, ⟨fun k hk => ?_, w.heap.size, fun _ => .slice none 0 0, ⟨⟨⟨false, 0, false⟩, hr, .inl ⟨rfl, rfl, rfl⟩⟩, ⟨_, hm.kept (grownBy_alloc _ _ none) (by simp), View.empty _⟩, fun f hf => (by cases hf), fun f hf => (by cases hf), List.Pairwise.nil, by simp, fun f hf => (by cases hf), by omega, hB⟩, fun k hk => ?_⟩, ?_, by simp⟩
  · rcases hk with hk | hk
    · exact hk.elim
    · exact ⟨by omega, hk.2⟩
  · rcases hk with rfl | rfl | ⟨f, hf, _⟩
    · exact .inr ⟨by omega, by simp⟩
    · exact .inr ⟨Nat.le_refl _, by simp; omega⟩
    · cases hf
  · exact (((Below.refl _ _).alloc (Nat.le_refl _) _).alloc (by simp) _)
theorem read_at9 {w : World} {B g M : Nat} {V : Fl.Nm → Value} {l : List Fl} {r : Int} (nm : Fl.Nm) (hd : DiskIn w B g M V l r) (hn : nm.length ≤ maxLen) :
    Calls Tryz.prog 55 #[.pointer (some ⟨g, 0, none⟩), Sb nm] w fun e w' => e = .returned (.tuple #[Sb (bytesR l r nm), .int .i64 (codeR l r nm)]) ∧ Below w.heap.size w w' := by
  have HF := Lib.hid (find9 nm hd hn)
  clear hd
  generalize safeR l r nm = s at *
  generalize codeR l r nm = k at *
  generalize bytesR l r nm = bs at *
  go_enter Tryz.func55, Tryz.ntmps55
  go_wp2_with fail
  refine HF.out.mono ?_
  rintro _ w1 ⟨A, n, c, rfl, hb, hnl, hown, _⟩
  have hb2 := hb.alloc hb.size (.cells #[.slice A n c, .int .i64 s] 87)
  have hcv := own_text9 (P := Tryz.prog) (hown.alloc (.cells #[.slice A n c, .int .i64 s] 87)) rfl 85 Tryz.underlying85 Tryz.underlying5 9 Tryz.underlying9
  have Hb2 := Lib.hid hb2
  clear hb hb2 hown HF hnl
  go_wp2_with fail
  go_ret2
  exact ⟨rfl, Hb2.out⟩
end Go.Proofs.YtalfnadejpmjnaaGreatDoor.Jn

/- ---- DiskNames ---- -/
/- disk: names, Names. -/
namespace Go.Proofs.YtalfnadejpmjnaaGreatDoor.Jn
set_option maxRecDepth 100000
open Go.RowKit Go.Maps Go.Sort
set_option linter.unusedVariables false
set_option linter.unusedSimpArgs false

theorem parts9 {i : Option TypeInfo} {z : Option Value} {a b : Nat} (h : i.map (fun i => (i.zero, i.size, i.bytes)) = some (z, a, b)) : ∃ i0, i = some i0 ∧ i0.zero = z ∧ i0.size = a ∧ i0.bytes = b := by
  obtain ⟨i0, hi, h2⟩ := Option.map_eq_some_iff.1 h
  simp only [Prod.mk.injEq] at h2
  exact ⟨i0, hi, h2.1, h2.2.1, h2.2.2⟩
end Go.Proofs.YtalfnadejpmjnaaGreatDoor.Jn
