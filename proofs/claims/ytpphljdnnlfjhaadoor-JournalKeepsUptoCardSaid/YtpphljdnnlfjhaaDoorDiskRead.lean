/- disk: New, Read, Safe. -/
import Derived.Test.YtpphljdnnlfjhaaDoorDiskFind
import Derived.Laws.BytesArg
import Derived.Laws.IdiomStrings
import Derived.Lib.ConvBytes
namespace Go.Proofs.YtpphljdnnlfjhaaDoor
open Go.RowKit Go.Maps
set_option maxRecDepth 100000
set_option linter.unusedVariables false
set_option linter.unusedSimpArgs false

theorem own_text9 {P : Program} {w : World} {base e n : Nat} {v : Value} {bs : List UInt8} (h : w.ownsRow base e 1 v n (cel8 bs)) (hn : n = bs.length) (src : TypeId) (hs : P.underlying src = some (.slice e)) (he : P.underlying e = some (.int .u8))
    (dst : TypeId) (hd : P.underlying dst = some .string) : (convert src dst v).run P w = .ok (Sb bs) w := by
  subst hn
  rcases h.2 with ⟨rfl, h0⟩ | ⟨g, cap, cur, rfl, _⟩
  · have hb : bs = [] := List.eq_nil_of_length_eq_zero h0
    subst hb
    exact run_convert_bytes_nil (P := P) w src e hs he 0 0 dst hd
  · have hc := h.cells (g := g) rfl
    have hr := run_convert_bytes_arg (P := P) w src e hs he g 0 bs.length cap (bs.map fun b => (b.toNat : Int)) (by simp) (fun i hi => by
      have hi' : i < bs.length := hi
      have h1 := hc i (.int .u8 (bs[i].toNat : Int)) (by simp [cel8, hi'])
      have e1 : (⟨g, 0, none⟩ : Addr).add i = ⟨g, 0 + i, none⟩ := by simp [Addr.add]; try omega
      rw [e1] at h1
      rw [h1]; simp [List.getD, hi']) dst hd
    rw [hr]
    congr 2
    unfold strOfNums
    congr 2
    rw [List.map_map]
    conv => rhs; rw [← List.map_id bs]
    apply List.map_congr_left
    intro b _
    simp
/-- the code that find answers, the bytes, how many are safe -/
def codeR (l : List Fl) (r : Int) (nm : Fl.Nm) : Int := if r = 0 then 8 else if (Fl.find l nm).isSome = true then 0 else 34
def bytesR (l : List Fl) (r : Int) (nm : Fl.Nm) : List UInt8 := if r = 0 then [] else match Fl.find l nm with | none => [] | some f => f.b
def safeR (l : List Fl) (r : Int) (nm : Fl.Nm) : Int := if r = 0 then 0 else match Fl.find l nm with | none => 0 | some f => f.safe
theorem findR_eq (V : Fl.Nm → Value) (l : List Fl) (r : Int) (nm : Fl.Nm) : (findR V l r nm).2.2 = codeR l r nm ∧ (findR V l r nm).2.1 = safeR l r nm := by
  unfold findR codeR safeR
  by_cases h : r = 0
  · simp [h]
  · rcases hf : Fl.find l nm with _ | f <;> simp [h, hf]
theorem findR_own {w : World} {B g M : Nat} {V : Fl.Nm → Value} {l : List Fl} {r : Int} (hd : DiskIn w B g M V l r) (nm : Fl.Nm) :
    w.ownsRow B 5 1 (findR V l r nm).1 (bytesR l r nm).length (cel8 (bytesR l r nm)) := by
  unfold findR bytesR
  by_cases h : r = 0
  · simp only [h, ↓reduceIte]; exact World.ownsRow_nil _ _ _ _
  · rcases hf : Fl.find l nm with _ | f
    · simp only [h, ↓reduceIte]; exact World.ownsRow_nil _ _ _ _
    · simp only [h, ↓reduceIte]
      have := hd.files f (Fl.find_mem hf)
      rw [Fl.find_name hf] at this
      exact this
theorem bytesR_le {w : World} {B g M : Nat} {V : Fl.Nm → Value} {l : List Fl} {r : Int} (hd : DiskIn w B g M V l r) (nm : Fl.Nm) : (bytesR l r nm).length ≤ 1048576 := by
  unfold bytesR
  by_cases h : r = 0
  · simp [h]
  · rcases hf : Fl.find l nm with _ | f
    · simp [h]
    · simp only [h, ↓reduceIte]; exact (hd.ok f (Fl.find_mem hf)).2.2.1
theorem safeR_le {w : World} {B g M : Nat} {V : Fl.Nm → Value} {l : List Fl} {r : Int} (hd : DiskIn w B g M V l r) (nm : Fl.Nm) : 0 ≤ safeR l r nm ∧ safeR l r nm ≤ (bytesR l r nm).length := by
  unfold bytesR safeR
  by_cases h : r = 0
  · simp [h]
  · rcases hf : Fl.find l nm with _ | f
    · simp [h]
    · simp only [h, ↓reduceIte]; exact ⟨(hd.ok f (Fl.find_mem hf)).1, (hd.ok f (Fl.find_mem hf)).2.1⟩
/-- find, in plain words -/
theorem find9 {w : World} {B g M : Nat} {V : Fl.Nm → Value} {l : List Fl} {r : Int} (nm : Fl.Nm) (hd : DiskIn w B g M V l r) (hn : nm.length ≤ maxLen) :
    Calls Tryd.prog 39 #[.pointer (some ⟨g, 0, none⟩), Sb nm] w fun e w' => ∃ A n c, e = .returned (.tuple #[Fv (.slice A n c) (safeR l r nm), .int .i64 (codeR l r nm)]) ∧ Below w.heap.size w w' ∧
      n = (bytesR l r nm).length ∧ w'.ownsRow B 5 1 (.slice A n c) (bytesR l r nm).length (cel8 (bytesR l r nm)) ∧ findR V l r nm = (.slice A n c, safeR l r nm, codeR l r nm) := by
  have hown := findR_own hd nm
  obtain ⟨e1, e2⟩ := findR_eq V l r nm
  refine (find_at nm hd hn).mono ?_
  rintro e w' ⟨rfl, hb⟩
  obtain ⟨A, c, hv⟩ := own_form9 hown
  refine ⟨A, _, c, ?_, hb, rfl, ?_, ?_⟩
  · rw [hv, e1, e2]
  · rw [← hv]; exact hown.kept (grownBy_of_below hb none) (by cases (findR V l r nm).1.ownBlock <;> simp)
  · rw [← hv, ← e1, ← e2]
theorem new9 (w : World) (B : Nat) (hB : B ≤ w.heap.size) : Calls Tryd.prog 12 #[] w fun e w' => e = .returned (.pointer (some ⟨w.heap.size + 1, 0, none⟩)) ∧ DiskS w' B (Plus (fun _ => False) w w') (w.heap.size + 1) [] (-1) ∧ Below w.heap.size w w' ∧ w'.heap.size = w.heap.size + 2 := by
  have hmm := @run_makeMap Tryd.prog
  go_enter Tryd.func12, Tryd.ntmps12
  go_wp2_with fail
  go_ret
  have hm := World.ownsMap_made (H := Value) w Tryd.prog 9 heldV
  have e1 : (w.alloc (.map #[] 0)).heap.size = w.heap.size + 1 := by simp
  have hr := Row.new (w.alloc (.map #[] 0)) 60 [.map (some w.heap.size), .bool false, .int .i64 0, .bool false]
  rw [e1] at hr
  refine ⟨rfl, ⟨fun k hk => ?_, w.heap.size, fun _ => .slice none 0 0, ⟨⟨⟨false, 0, false⟩, hr, .inl ⟨rfl, rfl, rfl⟩⟩, ⟨_, hm.kept (grownBy_alloc _ _ none) (by simp), View.empty _⟩, fun f hf => (by cases hf), fun f hf => (by cases hf), List.Pairwise.nil, by simp, fun f hf => (by cases hf), by omega, hB⟩, fun k hk => ?_⟩, ?_, by simp⟩
  · rcases hk with hk | hk
    · exact hk.elim
    · exact ⟨by omega, hk.2⟩
  · rcases hk with rfl | rfl | ⟨f, hf, _⟩
    · exact .inr ⟨by omega, by simp⟩
    · exact .inr ⟨Nat.le_refl _, by simp; omega⟩
    · cases hf
  · exact (((Below.refl _ _).alloc (Nat.le_refl _) _).alloc (by simp) _)
theorem read_nil9 (nm : Fl.Nm) (w : World) : Calls Tryd.prog 22 #[.pointer none, Sb nm] w fun e w' => e = .returned (.tuple #[Sb [], .int .i64 1]) ∧ Below w.heap.size w w' := by
  go_enter Tryd.func22, Tryd.ntmps22
  go_wp2_with fail
  refine (find_nil _ _).mono ?_
  rintro _ w1 ⟨rfl, hb⟩
  have hb2 := hb.alloc hb.size (.cells #[.slice none 0 0, .int .i64 0] 75)
  have Hb2 := Lib.hid hb2
  have hcv := run_convert_bytes_nil (P := Tryd.prog) (w1.alloc (.cells #[.slice none 0 0, .int .i64 0] 75)) 65 5 Tryd.underlying65 Tryd.underlying5 0 0 9 Tryd.underlying9
  clear hb hb2
  go_wp2_with fail
  go_ret2
  exact ⟨rfl, Hb2.out⟩
theorem read_at9 {w : World} {B g M : Nat} {V : Fl.Nm → Value} {l : List Fl} {r : Int} (nm : Fl.Nm) (hd : DiskIn w B g M V l r) (hn : nm.length ≤ maxLen) :
    Calls Tryd.prog 22 #[.pointer (some ⟨g, 0, none⟩), Sb nm] w fun e w' => e = .returned (.tuple #[Sb (bytesR l r nm), .int .i64 (codeR l r nm)]) ∧ Below w.heap.size w w' := by
  have HF := Lib.hid (find9 nm hd hn)
  clear hd
  generalize safeR l r nm = s at *
  generalize codeR l r nm = k at *
  generalize bytesR l r nm = bs at *
  go_enter Tryd.func22, Tryd.ntmps22
  go_wp2_with fail
  refine HF.out.mono ?_
  rintro _ w1 ⟨A, n, c, rfl, hb, hnl, hown, _⟩
  have hb2 := hb.alloc hb.size (.cells #[.slice A n c, .int .i64 s] 75)
  have hcv := own_text9 (P := Tryd.prog) (hown.alloc (.cells #[.slice A n c, .int .i64 s] 75)) rfl 65 Tryd.underlying65 Tryd.underlying5 9 Tryd.underlying9
  have Hb2 := Lib.hid hb2
  clear hb hb2 hown HF hnl
  go_wp2_with fail
  go_ret2
  exact ⟨rfl, Hb2.out⟩
end Go.Proofs.YtpphljdnnlfjhaaDoor
