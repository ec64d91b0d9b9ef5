/- disk: what a store into its map, a delete, a counted operation leave. -/
import Derived.Test.YtpphljdnnlfjhaaDoorDiskNames
namespace Go.Proofs.YtpphljdnnlfjhaaDoor
open Go.RowKit Go.Maps
set_option maxRecDepth 100000
set_option linter.unusedVariables false
set_option linter.unusedSimpArgs false

theorem own_not_map {w : World} {B n : Nat} {e : TypeId} {v : Value} {xs : List Value} (h : w.ownsRow B e 1 v n xs) {M n2 : Nat} {D : DataW Value} (hm : w.ownsMap Tryd.prog 9 heldV M n2 D) : some M ≠ v.ownBlock := by
  intro e1
  rcases h.2 with ⟨e2, _⟩ | ⟨q, cap, cur, hv, hb, hh, _⟩
  · rw [e2] at e1; cases e1
  · rw [hv] at e1
    obtain ⟨es, clock, hb2, _⟩ := hm
    have : M = q := by injection e1
    subst this
    rw [hh] at hb2
    cases hb2
theorem DiskIn.stored {w w2 w3 : World} {B g M : Nat} {V : Fl.Nm → Value} {l : List Fl} {r : Int} (hd : DiskIn w B g M V l r) {f : Fl} {v : Value} {T : Nat → Prop} {n : Nat} {D : DataW Value}
    (h12 : Chg T w w2) (hT : ∀ k, T k → k ≠ g ∧ k ≠ M ∧ ∀ x ∈ l, x.name ≠ f.name → (V x.name).ownBlock ≠ some k)
    (hown : w2.ownsRow B 5 1 v f.b.length (cel8 f.b)) (hvb : ∀ k, v.ownBlock = some k → ∀ x ∈ l, x.name ≠ f.name → (V x.name).ownBlock ≠ some k)
    (hV : View D l V) (hmap : w3.ownsMap Tryd.prog 9 heldV M n (D.put (KS f.name) (.held (Fv v f.safe)))) (h23 : w2.grownBy w3 (some M)) (hlen : (Fl.put l f).length ≤ 8) (hok : FileOk f) :
    DiskIn w3 B g M (fun x => if x = f.name then v else V x) (Fl.put l f) r := by
  have hgM := hd.apart_gM
  obtain ⟨D0, hD0, hV0⟩ := hd.map
  have hm2 := h12.map hD0 (fun h => (hT M h).2.1 rfl)
  obtain ⟨s, hs, hk⟩ := hd.row
  refine ⟨⟨s, (h12.row hs (fun h => (hT g h).1 rfl)).kept h23 (by simpa using hgM), hk⟩, MapAt.mk hmap (hV.put hd.sorted f v) (hd.sorted.put f), fun x hx => ?_, fun x hx y hy hxy k hk1 hk2 => ?_, hd.sorted.put f, hlen, fun x hx => ?_, hd.lo⟩
  · rcases Fl.mem_put_of_find hd.sorted hx with rfl | ⟨hx, hne⟩
    · simp only [↓reduceIte]
      exact hown.kept h23 (.inr (fun e => own_not_map hown hm2 e.symm))
    · simp only [if_neg hne]
      have h1 := h12.ownsRow (hd.files x hx) (fun k e h => (hT k h).2.2 x hx hne e)
      exact h1.kept h23 (.inr (fun e => own_not_map h1 hm2 e.symm))
  · rcases Fl.mem_put_of_find hd.sorted hx with ex | ⟨hx', hnx⟩
    · rcases Fl.mem_put_of_find hd.sorted hy with ey | ⟨hy', hny⟩
      · exact hxy (by rw [ex, ey])
      · rw [if_pos (by rw [ex])] at hk1
        rw [if_neg hny] at hk2
        exact hvb k hk1 y hy' hny hk2
    · rcases Fl.mem_put_of_find hd.sorted hy with ey | ⟨hy', hny⟩
      · rw [if_neg hnx] at hk1
        rw [if_pos (by rw [ey])] at hk2
        exact hvb k hk2 x hx' hnx hk1
      · rw [if_neg hnx] at hk1
        rw [if_neg hny] at hk2
        exact hd.apart x hx' y hy' hxy k hk1 hk2
  · rcases Fl.mem_put hx with rfl | hx
    · exact hok
    · exact hd.ok x hx
theorem DiskOwn.put {g M : Nat} {l : List Fl} {V : Fl.Nm → Value} {f : Fl} {v : Value} (hs : Fl.Sorted l) {k : Nat} (h : DiskOwn g M (Fl.put l f) (fun x => if x = f.name then v else V x) k) : DiskOwn g M l V k ∨ v.ownBlock = some k := by
  rcases h with h | h | ⟨x, hx, hk⟩
  · exact .inl (.inl h)
  · exact .inl (.inr (.inl h))
  · rcases Fl.mem_put_of_find hs hx with rfl | ⟨hx, hne⟩
    · simp only [↓reduceIte] at hk; exact .inr hk
    · simp only [if_neg hne] at hk
      exact .inl (.inr (.inr ⟨x, hx, hk⟩))
theorem DiskIn.dropped {w w2 : World} {B g M : Nat} {V : Fl.Nm → Value} {l : List Fl} {r : Int} (hd : DiskIn w B g M V l r) {nm : Fl.Nm} {n : Nat} {D : DataW Value}
    (hV : View D l V) (hmap : w2.ownsMap Tryd.prog 9 heldV M n (D.del (KS nm))) (h12 : w.grownBy w2 (some M)) : DiskIn w2 B g M V (Fl.drop l nm) r := by
  have hgM := hd.apart_gM
  obtain ⟨D0, hD0, hV0⟩ := hd.map
  obtain ⟨s, hs, hk⟩ := hd.row
  refine ⟨⟨s, Row.kept hs h12 (by simpa using hgM), hk⟩, MapAt.mk hmap (hV.del nm) (hd.sorted.drop nm), fun x hx => ?_, fun x hx y hy hxy => ?_, hd.sorted.drop nm, Nat.le_trans (Fl.length_drop _ _) hd.len, fun x hx => ?_, hd.lo⟩
  · have h1 := hd.files x (Fl.mem_drop.1 hx).1
    exact h1.kept h12 (.inr (fun e => own_not_map h1 hD0 e.symm))
  · exact hd.apart x (Fl.mem_drop.1 hx).1 y (Fl.mem_drop.1 hy).1 hxy
  · exact hd.ok x (Fl.mem_drop.1 hx).1
theorem DiskOwn.dropped {g M : Nat} {l : List Fl} {V : Fl.Nm → Value} {nm : Fl.Nm} {k : Nat} (h : DiskOwn g M (Fl.drop l nm) V k) : DiskOwn g M l V k := by
  rcases h with h | h | ⟨x, hx, hk⟩
  · exact .inl h
  · exact .inr (.inl h)
  · exact .inr (.inr ⟨x, (Fl.mem_drop.1 hx).1, hk⟩)
/-- an operation counted -/
def oneR (r : Int) : Int := if 0 < r then r - 1 else r
theorem DkOk.one {s : Dk} {r : Int} (h : DkOk s r) (h0 : r ≠ 0) : DkOk s.one (oneR r) := by
  unfold Dk.one oneR
  rcases h with ⟨h1, h2, rfl⟩ | ⟨h1, h2, h3, h4, h5⟩
  · rw [h1]
    simp only [Bool.false_eq_true, ↓reduceIte]
    rw [if_neg (by omega)]
    exact .inl ⟨h1, h2, rfl⟩
  · rw [if_pos h1, if_pos (by omega), h2]
    exact .inr ⟨rfl, rfl, by omega, by omega, rfl⟩
theorem DiskIn.turn {w w2 : World} {B g M : Nat} {V : Fl.Nm → Value} {l : List Fl} {r r2 : Int} (hd : DiskIn w B g M V l r) {s : Dk} (hs : DkAt w2 g (.map (some M)) s) (hk : DkOk s r2) (hg : w.grownBy w2 (some g)) : DiskIn w2 B g M V l r2 := by
  have hgM := hd.apart_gM
  obtain ⟨D, hD, hV⟩ := hd.map
  exact ⟨⟨s, hs, hk⟩, ⟨D, hD.kept hg (by simpa using hgM.symm), hV⟩, fun x hx => (hd.files x hx).kept hg (.inr (fun e => (hd.apart_f hx e).1 rfl)), hd.apart, hd.sorted, hd.len, hd.ok, hd.lo⟩
theorem done9 {w : World} {B g M : Nat} {V : Fl.Nm → Value} {l : List Fl} {r : Int} (hd : DiskIn w B g M V l r) (h0 : r ≠ 0) :
    Calls Tryd.prog 41 #[.pointer (some ⟨g, 0, none⟩)] w fun e w' => e = .returned (.int .i64 0) ∧ DiskIn w' B g M V l (oneR r) ∧ w.grownBy w' (some g) := by
  obtain ⟨s, hs, hk⟩ := hd.row
  refine (done_at hs (fun ha => ?_)).mono ?_
  · rcases hk with ⟨h1, _, _⟩ | ⟨h1, h2, h3, h4, h5⟩
    · rw [h1] at ha; cases ha
    · rw [h2]; omega
  · rintro e w' ⟨rfl, h1, h2⟩
    exact ⟨rfl, hd.turn h1 (hk.one h0) h2, h2⟩
end Go.Proofs.YtpphljdnnlfjhaaDoor
