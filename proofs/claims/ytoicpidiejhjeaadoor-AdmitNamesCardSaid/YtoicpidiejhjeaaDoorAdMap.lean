/- A set of names of 32 bytes in memory. -/
import Derived.Test.YtoicpidiejhjeaaDoorSlD
import Derived.DeepKeys4
import Derived.Maps.Keyed
import Derived.Maps.RangeWalk
import Derived.Maps.OwnSet
import Derived.Maps.Views
namespace Go.Proofs.YtoicpidiejhjeaaDoor
open Go.RowKit Go.Maps
set_option linter.unusedVariables false
set_option linter.unusedSimpArgs false
set_option maxRecDepth 100000

theorem laidOutH : laidOutB Tryd.prog = true := by kernel_rfl
theorem rowH : (33 : TypeId) < Tryd.prog.types.size := of_decide_eq_true (by kernel_rfl)
theorem wideH : (match Tryd.prog.underlying 33 with | some (.array _ _) | some (.struct _) => true | _ => false) = true := by rw [Tryd.underlying33]
theorem lawH0 : WideMaps.KeyLaw Tryd.prog 33 := deep_law_laid laidOutH (m := 2) (by omega) rowH (by kernel_rfl) wideH
theorem lawH : Keyed Tryd.prog 33 := Keyed.of_law lawH0
theorem wfU8 (a : UInt8) : (Lit.int .u8 (a.toNat : Int)).wf = true := by
  have := a.toNat_lt
  simp [Lit.wf, IntKind.min, IntKind.max, IntKind.signed, IntKind.bits]
  omega
theorem litsU8 (m : Nat) (a : UInt8) : Tryd.prog.keyLits (m + 1) 5 [.int .u8 (a.toNat : Int)] = some [.int .u8 (a.toNat : Int)] := by
  unfold Program.keyLits
  rw [Tryd.underlying5]
  show (if _ ∧ _ then _ else _) = _
  rw [if_pos ⟨rfl, wfU8 a⟩]
theorem mapM_somes {α β : Type} {f : α → Option β} {g : α → β} : ∀ l : List α, (∀ a ∈ l, f a = some (g a)) → l.mapM f = some (l.map g)
  | [], _ => rfl
  | a :: l, h => by
    rw [List.mapM_cons, h a List.mem_cons_self, mapM_somes l (fun b hb => h b (List.mem_cons_of_mem _ hb))]
    rfl
def litH (x : List UInt8) : Lit := .string (keyBytes (((List.range 32).map fun i => [Lit.int .u8 ((x.getD i 0).toNat : Int)]).flatten))
theorem bRow_list {x : List UInt8} (hx : x.length = 32) : (bRow x).toList = x.map fun (b : UInt8) => Value.int .u8 (b.toNat : Int) := by
  unfold bRow
  rw [hx]
  simp
theorem keyH {x : List UInt8} (hx : x.length = 32) : keyOf Tryd.prog 33 (.agg (bRow x)) = some (litH x) := by
  have h4 : Tryd.prog.cellsOf 33 = 32 := by kernel_rfl
  have h1 : Tryd.prog.cellsOf 5 = 1 := by kernel_rfl
  have hk : Tryd.prog.keyType 33 = true := by kernel_rfl
  obtain ⟨m, hm⟩ : ∃ m, Tryd.prog.types.size = m + 1 := ⟨_, (Nat.succ_pred_eq_of_pos (Nat.lt_of_le_of_lt (Nat.zero_le _) rowH)).symm⟩
  have hf : (Value.agg (bRow x)).formed Tryd.prog 33 = true := by simp [Value.formed, Tryd.underlying33, h4, bRow_size x (by omega)]
  have hl : Tryd.prog.keyLits (Tryd.prog.types.size + 1) 33 (Value.agg (bRow x)).cells.toList = some (((List.range 32).map fun i => [Lit.int .u8 ((x.getD i 0).toNat : Int)]).flatten) := by
    rw [hm]
    unfold Program.keyLits
    rw [Tryd.underlying33]
    have ec : (Value.agg (bRow x)).cells.toList = x.map fun (b : UInt8) => Value.int .u8 (b.toNat : Int) := bRow_list hx
    rw [ec]
    simp only [h4, h1, List.length_map, hx, ↓reduceIte]
    rw [mapM_somes (g := fun i => [Lit.int .u8 ((x.getD i 0).toNat : Int)])]
    · rfl
    · intro i hi
      have hi2 : i < 32 := List.mem_range.1 hi
      have e : (List.drop (i * 1) (x.map fun (b : UInt8) => Value.int .u8 (b.toNat : Int))).take 1 = [.int .u8 ((x.getD i 0).toNat : Int)] := by
        rw [Nat.mul_one]
        rw [List.drop_eq_getElem_cons (by rw [List.length_map, hx]; exact hi2)]
        simp [List.getElem?_eq_getElem (show i < x.length by omega)]
      rw [e]
      exact litsU8 m _
  unfold keyOf
  rw [Tryd.underlying33]
  simp only [hk, hf, hl, Bool.and_self, ↓reduceIte]
  rfl
theorem keyH_is {x : List UInt8} (hx : x.length = 32) : WideAt.IsKeyLit (litH x) := lawH.key (keyH hx)
theorem bRow_inj32 {x y : List UInt8} (hx : x.length = 32) (hy : y.length = 32) (h : bRow x = bRow y) : x = y := by
  have h2 := congrArg Array.toList h
  rw [bRow_list hx, bRow_list hy] at h2
  refine (List.map_inj_right fun a b hab => ?_).1 h2
  injection hab with _ hab
  have : a.toNat = b.toNat := by omega
  exact UInt8.toNat_inj.1 this
theorem litH_ne {x y : List UInt8} (hx : x.length = 32) (hy : y.length = 32) (h : x ≠ y) : litH x ≠ litH y := by
  intro e
  have h1 := keyH hx
  rw [e] at h1
  have h2 := lawH.inj h1 (keyH hy)
  injection h2 with h2
  exact h (bRow_inj32 hx hy h2)
/-- the names that a map has -/
structure ReadsS (D : DataW Unit) (S : List (List UInt8)) : Prop where
  tidy : Tidy D
  len : ∀ x ∈ S, x.length = 32
  apart : S.Nodup
  mem : ∀ x : List UInt8, x.length = 32 → has D (litH x) = decide (x ∈ S)
  size : Maps.size D = S.length
theorem ReadsS.empty : ReadsS (.map []) [] := ⟨tidy_empty, by simp, List.nodup_nil, fun x _ => rfl, rfl⟩
theorem ReadsS.put {D : DataW Unit} {S : List (List UInt8)} (h : ReadsS D S) {x : List UInt8} (hx : x.length = 32) (hn : x ∉ S) : ReadsS (D.put (litH x) (.agg [])) (S ++ [x]) := by
  refine ⟨h.tidy.put (keyH_is hx) _, ?_, ?_, fun y hy => ?_, ?_⟩
  · intro y hy
    rcases List.mem_append.1 hy with hy | hy
    · exact h.len y hy
    · rw [List.mem_singleton.1 hy]; exact hx
  · refine List.nodup_append.2 ⟨h.apart, by simp, ?_⟩
    intro a ha b hb e
    rw [List.mem_singleton.1 hb] at e
    exact hn (e ▸ ha)
  · by_cases e : x = y
    · subst e
      rw [has_put_same h.tidy.isMap (keyH_is hx)]
      simp
    · have e2 : y ≠ x := fun q => e q.symm
      rw [has_put_other (litH_ne hy hx e2), h.mem y hy]
      simp [e2]
  · rw [size_put h.tidy, h.mem x hx, h.size]
    simp [hn]
theorem ReadsS.del {D : DataW Unit} {S : List (List UInt8)} (h : ReadsS D S) {x : List UInt8} (hx : x ∈ S) : ReadsS (D.del (litH x)) (S.erase x) := by
  have hl := h.len x hx
  refine ⟨h.tidy.del _, fun y hy => h.len y (List.mem_of_mem_erase hy), h.apart.erase _, fun y hy => ?_, ?_⟩
  · by_cases e : x = y
    · subst e
      rw [has_del_same]
      simp [h.apart.mem_erase_iff]
    · have e2 : y ≠ x := fun q => e q.symm
      rw [has_del_other (litH_ne hy hl e2), h.mem y hy]
      simp [h.apart.mem_erase_iff, e2]
  · have := size_del (k := litH x) h.tidy
    rw [h.mem x hl, h.size] at this
    simp only [hx, decide_true, ↓reduceIte] at this
    rw [List.length_erase_of_mem hx]
    omega
end Go.Proofs.YtoicpidiejhjeaaDoor
