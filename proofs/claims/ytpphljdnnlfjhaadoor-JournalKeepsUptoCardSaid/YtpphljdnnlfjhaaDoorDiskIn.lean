/- disk: its files in memory. -/
import Derived.Test.YtpphljdnnlfjhaaDoorDiskMath
import Derived.Test.YtpphljdnnlfjhaaDoorOwnApp
import Derived.Test.YtpphljdnnlfjhaaDoorShelf
import Derived.Maps.RangeWalk
import Derived.Maps.OwnSet
import Derived.Maps.Views
import Derived.StringKeys
import Derived.Laws.ResultCell
import Derived.Laws.Rows
import Derived.Sort.KeysCollected
namespace Go.Proofs.YtpphljdnnlfjhaaDoor
open Go.RowKit Go.Maps
set_option linter.unusedVariables false
set_option linter.unusedSimpArgs false

/-- bytes as cells -/
abbrev cel8 (bs : List UInt8) : List Value := bs.map fun b => Value.int .u8 (b.toNat : Int)
/-- an element of the map reads as itself -/
def heldV (v : Value) : Option (DataW Value × List MemPlace) := some (.held v, [])
/-- a file -/
abbrev Fv (v : Value) (s : Int) : Value := .agg #[v, .int .i64 s]
theorem lawS : Keyed Tryd.prog 9 := string_keyed Tryd.underlying9
abbrev KS (x : List UInt8) : Lit := .string x
theorem KS_ne {x y : List UInt8} (h : x ≠ y) : KS x ≠ KS y := fun e => h (by injection e)
theorem keyS (x : List UInt8) (h : x.length ≤ maxLen) : keyOf Tryd.prog 9 (Sb x) = some (KS x) := Go.WideMaps.keyOf_string_mk Tryd.underlying9 (s := ⟨x.toArray⟩) (show x.toArray.size ≤ maxLen by simpa using h)

/-- only blocks of S and new ones have changed -/
structure Chg (S : Nat → Prop) (w w' : World) : Prop where
  os : w'.os = w.os
  tape : w'.tape = w.tape
  output : w'.output = w.output
  size : w.heap.size ≤ w'.heap.size
  block : ∀ k, k < w.heap.size → ¬ S k → w'.heap[k]? = w.heap[k]?
theorem Chg.refl (S : Nat → Prop) (w : World) : Chg S w w := ⟨rfl, rfl, rfl, Nat.le_refl _, fun _ _ _ => rfl⟩
theorem Chg.trans {S S2 : Nat → Prop} {a b c : World} (h : Chg S a b) (k : Chg S2 b c) (hS : ∀ i, S2 i → S i ∨ a.heap.size ≤ i) : Chg S a c :=
  ⟨k.os.trans h.os, k.tape.trans h.tape, k.output.trans h.output, Nat.le_trans h.size k.size, fun i hi hn =>
    (k.block i (Nat.lt_of_lt_of_le hi h.size) (fun h2 => by rcases hS i h2 with h3 | h3 <;> first | exact hn h3 | omega)).trans (h.block i hi hn)⟩
theorem Chg.mono {S S2 : Nat → Prop} {a b : World} (h : Chg S a b) (hS : ∀ i, S i → S2 i) : Chg S2 a b := ⟨h.os, h.tape, h.output, h.size, fun i hi hn => h.block i hi (fun h2 => hn (hS i h2))⟩
theorem Chg.of_grown {S : Nat → Prop} {w w' : World} {r : Option Nat} (h : w.grownBy w' r) (hr : ∀ k, r = some k → S k ∨ w.heap.size ≤ k) : Chg S w w' :=
  ⟨h.os, h.tape, h.output, h.size, fun i hi hn => h.block i hi (fun e => by rcases hr i e.symm with h3 | h3 <;> first | exact hn h3 | omega)⟩
theorem Chg.of_below {S : Nat → Prop} {w w' : World} (h : Below w.heap.size w w') : Chg S w w' := ⟨h.os, h.tape, h.output, h.size, fun i hi _ => h.block i hi⟩
theorem Chg.below {S : Nat → Prop} {w w' : World} {B : Nat} (h : Chg S w w') (hB : B ≤ w.heap.size) (hS : ∀ k, S k → B ≤ k) : Below B w w' :=
  ⟨h.os, h.tape, h.output, h.size, fun i hi => h.block i (by omega) (fun h2 => by have := hS i h2; omega)⟩
theorem Chg.grown {S : Nat → Prop} {w w' : World} (h : Chg S w w') {r : Option Nat} (hS : ∀ k, S k → some k = r) : w.grownBy w' r :=
  ⟨h.os, h.tape, h.output, h.size, fun i hi hn => h.block i hi (fun h2 => hn (hS i h2))⟩

/-- what each name has in the map at M -/
def View (D : DataW Value) (l : List Fl) (V : Fl.Nm → Value) : Prop :=
  IsMap D ∧ ∀ nm, (∀ f, Fl.find l nm = some f → has D (KS nm) = true ∧ ∀ z, D.atKey (KS nm) z = .held (Fv (V nm) f.safe)) ∧ (Fl.find l nm = none → has D (KS nm) = false)
theorem View.empty (V : Fl.Nm → Value) : View (.map []) [] V := ⟨isMap_empty, fun nm => ⟨fun f h => (by rw [Fl.find_nil] at h; cases h), fun _ => rfl⟩⟩
theorem View.put {D : DataW Value} {l : List Fl} {V : Fl.Nm → Value} (h : View D l V) (hs : Fl.Sorted l) (f : Fl) (v : Value) :
    View (D.put (KS f.name) (.held (Fv v f.safe))) (Fl.put l f) (fun x => if x = f.name then v else V x) := by
  refine ⟨h.1.put _ _, fun nm => ?_⟩
  rw [Fl.find_put hs]
  by_cases hn : f.name = nm
  · subst hn
    simp only [↓reduceIte]
    refine ⟨fun g hg => ?_, fun hg => (by cases hg)⟩
    cases hg
    exact ⟨has_put_same (k := KS f.name) h.1 trivial _, fun z => atKey_put_same (k := KS f.name) h.1 trivial _ _⟩
  · have hn2 : ¬ nm = f.name := fun e => hn e.symm
    simp only [if_neg hn, if_neg hn2]
    refine ⟨fun g hg => ?_, fun hg => ?_⟩
    · obtain ⟨h1, h2⟩ := (h.2 nm).1 g hg
      exact ⟨(has_put_other (KS_ne hn2) _).trans h1, fun z => by rw [atKey_put_other (KS_ne hn2)]; exact h2 z⟩
    · exact (has_put_other (KS_ne hn2) _).trans ((h.2 nm).2 hg)
theorem View.del {D : DataW Value} {l : List Fl} {V : Fl.Nm → Value} (h : View D l V) (x : Fl.Nm) : View (D.del (KS x)) (Fl.drop l x) V := by
  refine ⟨h.1.del _, fun nm => ?_⟩
  rw [Fl.find_drop]
  by_cases hn : nm = x
  · subst hn
    simp only [↓reduceIte]
    exact ⟨fun g hg => (by cases hg), fun _ => has_del_same⟩
  · simp only [if_neg hn]
    refine ⟨fun g hg => ?_, fun hg => ?_⟩
    · obtain ⟨h1, h2⟩ := (h.2 nm).1 g hg
      exact ⟨(has_del_other (KS_ne hn)).trans h1, fun z => by rw [atKey_del_other (KS_ne hn)]; exact h2 z⟩
    · exact (has_del_other (KS_ne hn)).trans ((h.2 nm).2 hg)
theorem View.congr {D : DataW Value} {l : List Fl} {V V2 : Fl.Nm → Value} (h : View D l V) (e : ∀ f ∈ l, V f.name = V2 f.name) : View D l V2 := by
  refine ⟨h.1, fun nm => ⟨fun f hf => ?_, (h.2 nm).2⟩⟩
  obtain ⟨h1, h2⟩ := (h.2 nm).1 f hf
  refine ⟨h1, fun z => ?_⟩
  have := e f (Fl.find_mem hf)
  rw [Fl.find_name hf] at this
  rw [← this]; exact h2 z
theorem View.has {D : DataW Value} {l : List Fl} {V : Fl.Nm → Value} (h : View D l V) (nm : Fl.Nm) : has D (KS nm) = (Fl.find l nm).isSome := by
  rcases hf : Fl.find l nm with _ | f
  · exact (h.2 nm).2 hf
  · exact ((h.2 nm).1 f hf).1
/-- the names are the keys -/
theorem View.perm {w : World} {M n : Nat} {D : DataW Value} {l : List Fl} {V : Fl.Nm → Value} (hown : w.ownsMap Tryd.prog 9 heldV M n D) (h : View D l V) (hs : Fl.Sorted l) : (Fl.names l).Perm (strKeys D) := by
  obtain ⟨es, hD, hpw, _⟩ := hown.entries lawS
  obtain ⟨es', hD', hko⟩ := hown.keysOf
  obtain rfl : es = es' := by rw [hD] at hD'; simpa using hD'
  subst hD
  exact perm_strKeys hpw (fun p hp => by obtain ⟨v, hv⟩ := hko p hp; obtain ⟨x, _, hx, _⟩ := Maps.keyOf_str Tryd.underlying9 hv; exact ⟨x, hx⟩) hs.nodup (fun x => by rw [h.has, Fl.find_some_iff])
theorem View.size {w : World} {M n : Nat} {D : DataW Value} {l : List Fl} {V : Fl.Nm → Value} (hown : w.ownsMap Tryd.prog 9 heldV M n D) (h : View D l V) (hs : Fl.Sorted l) : Maps.size D = l.length := by
  have hp := (View.perm hown h hs).length_eq
  obtain ⟨es, rfl⟩ := h.1
  rw [size_eq]
  simpa [strKeys, Fl.names] using hp.symm
theorem own_least {w : World} {M n : Nat} {D : DataW Value} (h : w.ownsMap Tryd.prog 9 heldV M n D) : w.ownsMap Tryd.prog 9 heldV M (Maps.size D) D := by
  obtain ⟨es, clock, hb, F, hs, rfl⟩ := h
  exact ⟨es, clock, hb, F, by simp [Maps.size, DataW.length_sorted], rfl⟩
def MapAt (w : World) (M : Nat) (l : List Fl) (V : Fl.Nm → Value) : Prop := ∃ D, w.ownsMap Tryd.prog 9 heldV M l.length D ∧ View D l V
theorem MapAt.mk {w : World} {M n : Nat} {D : DataW Value} {l : List Fl} {V : Fl.Nm → Value} (hown : w.ownsMap Tryd.prog 9 heldV M n D) (h : View D l V) (hs : Fl.Sorted l) : MapAt w M l V :=
  ⟨D, by have := own_least hown; rwa [View.size hown h hs] at this, h⟩
theorem MapAt.lt {w : World} {M : Nat} {l : List Fl} {V : Fl.Nm → Value} (h : MapAt w M l V) : M < w.heap.size := by
  obtain ⟨D, hD, _⟩ := h
  exact hD.lt
theorem MapAt.kept {w w' : World} {M : Nat} {l : List Fl} {V : Fl.Nm → Value} {r : Option Nat} (h : MapAt w M l V) (hg : w.grownBy w' r) (hr : some M ≠ r) : MapAt w' M l V := by
  obtain ⟨D, hD, hV⟩ := h
  exact ⟨D, hD.kept hg hr, hV⟩

/-- how many operations are left: below 0: nobody counts -/
def DkOk (s : Dk) (r : Int) : Prop := (s.armed = false ∧ s.down = false ∧ r = -1) ∨ (s.armed = true ∧ s.left = r ∧ 0 ≤ r ∧ r ≤ 9223372036854775807 ∧ s.down = decide (r = 0))
theorem DkOk.down {s : Dk} {r : Int} (h : DkOk s r) : s.down = decide (r = 0) := by
  rcases h with ⟨_, h, rfl⟩ | ⟨_, _, _, _, h⟩
  · rw [h]; simp
  · exact h
def FileOk (f : Fl) : Prop := 0 ≤ f.safe ∧ f.safe ≤ f.b.length ∧ f.b.length ≤ 1048576 ∧ f.name.length ≤ 16
/-- a disk in memory: its block g, its map M, its files' bytes -/
structure DiskIn (w : World) (B g M : Nat) (V : Fl.Nm → Value) (l : List Fl) (r : Int) : Prop where
  row : ∃ s : Dk, DkAt w g (.map (some M)) s ∧ DkOk s r
  map : MapAt w M l V
  files : ∀ f ∈ l, w.ownsRow B 5 1 (V f.name) f.b.length (cel8 f.b)
  apart : ∀ f ∈ l, ∀ f' ∈ l, f.name ≠ f'.name → ∀ k, (V f.name).ownBlock = some k → (V f'.name).ownBlock ≠ some k
  sorted : Fl.Sorted l
  len : l.length ≤ 8
  ok : ∀ f ∈ l, FileOk f
  lo : B ≤ g ∧ B ≤ M
def DiskOwn (g M : Nat) (l : List Fl) (V : Fl.Nm → Value) (k : Nat) : Prop := k = g ∨ k = M ∨ ∃ f ∈ l, (V f.name).ownBlock = some k
/-- a disk all of whose blocks lie in S -/
def DiskS (w : World) (B : Nat) (S : Nat → Prop) (g : Nat) (l : List Fl) (r : Int) : Prop :=
  (∀ k, S k → B ≤ k ∧ k < w.heap.size) ∧ ∃ M V, DiskIn w B g M V l r ∧ ∀ k, DiskOwn g M l V k → S k
theorem Chg.ownsRow {S : Nat → Prop} {w w' : World} (h : Chg S w w') {B : Nat} {e : TypeId} {n sz : Nat} {v : Value} {xs : List Value} (ho : w.ownsRow B e sz v n xs) (hS : ∀ k, v.ownBlock = some k → ¬ S k) : w'.ownsRow B e sz v n xs := by
  obtain ⟨h1, h2⟩ := ho
  refine ⟨h1, ?_⟩
  rcases h2 with h2 | ⟨g, cap, cur, hv, hb, hh, rest⟩
  · exact .inl h2
  · refine .inr ⟨g, cap, cur, hv, hb, ?_, rest⟩
    rw [h.block g (lt_of_block hh) (hS g (by rw [hv]; rfl))]
    exact hh
theorem Chg.row {S : Nat → Prop} {w w' : World} (h : Chg S w w') {g : Nat} {T : TypeId} {xs : List Value} (hr : Row w g T xs) (hS : ¬ S g) : Row w' g T xs := (h.block g hr.lt hS).trans hr
theorem Chg.map {S : Nat → Prop} {w w' : World} (h : Chg S w w') {M n : Nat} {D : DataW Value} (hm : w.ownsMap Tryd.prog 9 heldV M n D) (hS : ¬ S M) : w'.ownsMap Tryd.prog 9 heldV M n D := by
  obtain ⟨es, clock, hb, rest⟩ := hm
  exact ⟨es, clock, (h.block M (lt_of_block hb) hS).trans hb, rest⟩
theorem DiskIn.kept {w w' : World} {B g M : Nat} {V : Fl.Nm → Value} {l : List Fl} {r : Int} {T : Nat → Prop} (h : DiskIn w B g M V l r) (hc : Chg T w w') (hT : ∀ k, DiskOwn g M l V k → ¬ T k) : DiskIn w' B g M V l r := by
  obtain ⟨⟨s, hs, hk⟩, ⟨D, hD, hV⟩, hf, ha, ho, hl, hok, hlo⟩ := h
  exact ⟨⟨s, hc.row hs (hT _ (.inl rfl)), hk⟩, ⟨D, hc.map hD (hT _ (.inr (.inl rfl))), hV⟩, fun f hm => hc.ownsRow (hf f hm) (fun k e => hT k (.inr (.inr ⟨f, hm, e⟩))), ha, ho, hl, hok, hlo⟩
theorem DiskS.kept {w w' : World} {B g : Nat} {S T : Nat → Prop} {l : List Fl} {r : Int} (h : DiskS w B S g l r) (hc : Chg T w w') (hT : ∀ k, S k → ¬ T k) : DiskS w' B S g l r := by
  obtain ⟨hz, M, V, hd, ho⟩ := h
  exact ⟨fun k hk => ⟨(hz k hk).1, Nat.lt_of_lt_of_le (hz k hk).2 hc.size⟩, M, V, hd.kept hc (fun k hk => hT k (ho k hk)), ho⟩
/-- S and what is new -/
def Plus (S : Nat → Prop) (w w' : World) (k : Nat) : Prop := S k ∨ (w.heap.size ≤ k ∧ k < w'.heap.size)
theorem DiskIn.apart_gM {w : World} {B g M : Nat} {V : Fl.Nm → Value} {l : List Fl} {r : Int} (h : DiskIn w B g M V l r) : g ≠ M := by
  rintro rfl
  obtain ⟨s, hs, _⟩ := h.row
  obtain ⟨D, ⟨es, clock, hb, _⟩, _⟩ := h.map
  unfold DkAt Row at hs
  rw [hs] at hb
  simp at hb
theorem DiskIn.apart_f {w : World} {B g M : Nat} {V : Fl.Nm → Value} {l : List Fl} {r : Int} (h : DiskIn w B g M V l r) {f : Fl} (hf : f ∈ l) {k : Nat} (hk : (V f.name).ownBlock = some k) : k ≠ g ∧ k ≠ M := by
  have ho := h.files f hf
  rcases ho.2 with ⟨e, _⟩ | ⟨q, cap, cur, hv, hb, hh, _⟩
  · rw [e] at hk; cases hk
  · rw [hv] at hk
    cases hk
    constructor
    · rintro rfl
      obtain ⟨s, hs, _⟩ := h.row
      unfold DkAt Row at hs
      rw [hs] at hh
      simp at hh
    · rintro rfl
      obtain ⟨D, ⟨es, clock, hb2, _⟩, _⟩ := h.map
      rw [hh] at hb2
      simp at hb2
theorem fileInfo : (Tryd.prog.info? 75).map (fun i => (i.zero, i.size, i.bytes)) = some (some (.agg #[.slice none 0 0, .int .i64 0]), 2, 32) := by kernel_rfl
theorem zeroF (w : World) : (zeroValue 75).run Tryd.prog w = .ok (Fv (.slice none 0 0) 0) w := by kernel_rfl
theorem results_row9 {P : Program} {fn : Func} {p u : Tmp} {ty : TypeId} (h : fn.results = #[.cell p ty, .tmp u]) (tmps : Array Value) (w : World) (g : Nat) (T : TypeId) (xs : List Value) (d : TypeDesc)
    (hp : tmps.getD p undef = .pointer (some ⟨g, 0, none⟩)) (hg : Row w g T xs)
    (hu : P.underlying ty = some d) (hd : (match d with | .struct _ | .array _ _ => true | _ => false) = true) (hi : (P.info? ty).map (·.size) = some xs.toArray.size) (x : Value) (hx : tmps.getD u undef = x) :
    (results fn tmps).run P w = .ok (.tuple #[.agg xs.toArray, x]) w := by
  rw [results_cell_tmp h, hp]
  have hl := run_loadVar_row w g T ty xs.toArray (0, 0) d hg hu hd hi
  have ha : (asAddr (.pointer (some ⟨g, 0, none⟩))).run P w = .ok ⟨g, 0, none⟩ w := rfl
  rw [ha]
  simp only [Result.andThen, hl, hx]
end Go.Proofs.YtpphljdnnlfjhaaDoor
