/- What later texts need of the earlier layers. -/
import Derived.Test.YtjeooegkfjlejaaDoorEarO
import Derived.Test.YtjeooegkfjlejaaDoorEarS
import Derived.Test.YtjeooegkfjlejaaDoorEarT
import Derived.Test.YtjeooegkfjlejaaDoorEarC
import Derived.Test.YtjeooegkfjlejaaDoorEarA
import Derived.Test.YtjeooegkfjlejaaDoorEarB
import Derived.Test.YtjeooegkfjlejaaDoorIbA
import Derived.Test.YtjeooegkfjlejaaDoorTrMath
import Derived.Test.YtjeooegkfjlejaaDoorTrTm
import Derived.Test.YtjeooegkfjlejaaDoorTrHash
import Derived.Test.YtjeooegkfjlejaaDoorTrMem
import Derived.Test.YtjeooegkfjlejaaDoorTrLv
import Derived.Test.YtjeooegkfjlejaaDoorTrLink
import Derived.Test.YtjeooegkfjlejaaDoorTrBeh
import Derived.Test.YtjeooegkfjlejaaDoorTrCh
import Derived.Test.YtjeooegkfjlejaaDoorTrAt
import Derived.Test.YtjeooegkfjlejaaDoorTrNew
import Derived.Test.YtjeooegkfjlejaaDoorTrMine
import Derived.Test.YtjeooegkfjlejaaDoorTrAll
import Derived.Test.YtjeooegkfjlejaaDoorTrFind
import Derived.Test.YtjeooegkfjlejaaDoorTrAwk
import Derived.Test.YtjeooegkfjlejaaDoorTrLaw2
import Derived.Test.YtjeooegkfjlejaaDoorTrRch
import Derived.Test.YtjeooegkfjlejaaDoorTrRnew
import Derived.Test.YtjeooegkfjlejaaDoorTrFew
import Derived.Test.YtjeooegkfjlejaaDoorTrUpd
import Derived.Test.YtjeooegkfjlejaaDoorTrUpto
import Derived.Test.YtjeooegkfjlejaaDoorEarD
import Derived.Test.YtjeooegkfjlejaaDoorInbOpen
import Derived.Test.YtjeooegkfjlejaaDoorTrTurn
import Derived.Test.YtjeooegkfjlejaaDoorTrSame
import Derived.Test.YtjeooegkfjlejaaDoorTrSt
/- ---- TrOpen2 ---- -/
/- What comes in at layer 11: acts, with their blocks. -/
namespace Go.Proofs.YtjeooegkfjlejaaDoor
open Go.ChangeShapes Go.WideShapes Go.ChangeAt Go.RowKit Go.Joins Go.Deep
set_option linter.unusedVariables false
set_option linter.unusedSimpArgs false
set_option maxRecDepth 100000

theorem bulk_mem {H : Type} {d : DataW H} : ∀ {l : List (DataW H)}, d ∈ l → Rows.uptoBulk d ≤ Rows.uptoBulkAll l
  | x :: l, h => by
    unfold Rows.uptoBulkAll
    rcases List.mem_cons.1 h with rfl | h
    · omega
    · have := bulk_mem h
      omega
section
variable {H : Type} {enc : TypeId × Value → H} {fuel : Nat}
theorem sv_cells {W : World} {cs : List Value} {x : DataW H × List MemPlace} (h : DataW.trod enc Tryd.prog W 0 (fun _ => true) true fuel 43 cs = some x) :
    ∃ y : Sv, cs = [y.v] ∧ (Rows.uptoBulk x.1 ≤ 1048576 → SlIn W W.heap.size y.A y.cap y.its) := by
  have e : ∃ A n cap, cs = [.slice A n cap] ∧ (A = none → n = 0 ∧ cap = 0) := by
    rcases open_slice Tryd.underlying43 h with ⟨e, _⟩ | ⟨a, _, _, _, _, _, _, e, _⟩
    · exact ⟨_, _, _, e, fun _ => ⟨rfl, rfl⟩⟩
    · exact ⟨_, _, _, e, fun h => by cases h⟩
  obtain ⟨A, n, cap, rfl, hn⟩ := e
  obtain ⟨its, hk, hI, hcap, hbk⟩ := items_cells h
  subst hk
  exact ⟨⟨A, cap, its⟩, rfl, fun hb => ⟨hI, fun e => ⟨List.length_eq_zero_iff.1 (hn e).1, (hn e).2⟩, hcap, by show its.length ≤ _; omega⟩⟩
theorem ls_cells {W : World} {A : Option Addr} {n cap : Nat} {x : DataW H × List MemPlace} (h : DataW.trod enc Tryd.prog W 0 (fun _ => true) true fuel 32 [.slice A n cap] = some x) :
    ∃ L : List Sv, L.length = n ∧ (Rows.uptoBulk x.1 ≤ 1048576 → LsIn W W.heap.size A cap L) := by
  have hC : Tryd.prog.cellsOf 43 = 1 := by kernel_rfl
  rcases open_slice Tryd.underlying32 h with ⟨hcs, hx⟩ | ⟨a, len, cap', m, n', D, Pl, hcs, _, hlc, hcm, hm, hx, hi⟩
  · have hcs' : Value.slice A n cap = .slice none 0 0 := by injection hcs
    injection hcs' with e1 e2 e3
    subst e1 e2 e3
    exact ⟨[], rfl, fun _ => ⟨fun hne => absurd rfl hne, fun _ => ⟨rfl, rfl⟩, Nat.le_refl _, by simp⟩⟩
  · have hcs' : Value.slice A n cap = .slice (some a) len cap' := by injection hcs
    injection hcs' with e1 e2 e3
    subst e1 e2 e3
    rw [if_pos rfl] at hm
    subst hm
    obtain ⟨f, hf1, hf2⟩ := pick_list W a n m 1 hlc (fun x : Sv => [x.v]) (fun i y => Rows.uptoBulk (D i) ≤ 1048576 → SlIn W W.heap.size y.A y.cap y.its) (fun x => ⟨_, rfl⟩) Sv.none (fun i him => by
      obtain ⟨cs', hc, ht⟩ := hi i him
      rw [hC] at hc
      obtain ⟨_, hcl, hat⟩ := World.cells?_some hc
      obtain ⟨y, e, hy⟩ := sv_cells ht
      refine ⟨y, fun j v hv => ?_, hy⟩
      have hv : cs'[j]? = some v := by rw [e]; exact hv
      rw [hat j (by have := (List.getElem?_eq_some_iff.1 hv).1; omega), hv])
    refine ⟨(List.range n).map f, by simp, fun hb => ⟨fun hne => ?_, fun e => (by cases e), by simp; exact hlc, fun x hx2 => ?_⟩⟩
    · have hpos : 0 < n := by
        rcases Nat.eq_zero_or_pos n with h0 | h0
        · subst h0; simp at hne
        · exact h0
      obtain ⟨b, off, e, hb, hr⟩ := hf2 hpos
      refine ⟨b, off, by rw [e], hb, fun i hi2 => ?_⟩
      have hi3 : i < n := by simpa using hi2
      simp only [List.getElem_map, List.getElem_range]
      have := hr i hi3 0 _ rfl
      rwa [Nat.mul_one, Nat.add_zero] at this
    · obtain ⟨i, hi1, rfl⟩ := List.mem_map.1 hx2
      have hin := List.mem_range.1 hi1
      refine hf1 i hin ?_
      have h2 : Rows.uptoBulk (D i) ≤ Rows.uptoBulkAll ((List.range n).map D) := bulk_mem (List.mem_map.2 ⟨i, hi1, rfl⟩)
      have h3 : Rows.uptoBulkAll ((List.range n).map D) ≤ Rows.uptoBulk x.1 := by
        rw [(Prod.mk.inj hx).1]
        simp only [Rows.uptoBulk]
        omega
      omega
theorem act_cells {W : World} {cs : List Value} {x : DataW H × List MemPlace} (hcs : cs.length = 4) (h : DataW.trod enc Tryd.prog W 0 (fun _ => true) true fuel 34 cs = some x) :
    ∃ y : Ac, cs = y.cells ∧ (Rows.uptoBulk x.1 ≤ 1048576 → y.In W W.heap.size) := by
  have hcl : Tryd.prog.cellsOf 32 = 1 := by kernel_rfl
  obtain ⟨xs, n, _, hx, _, hlen, hg⟩ := DataW.trod_struct Tryd.underlying34 h
  have h0 : DataW.trod enc Tryd.prog W 0 (fun _ => true) true n 3 ((cs.drop 0).take (Tryd.prog.cellsOf 3)) = xs[0]? := hg 0 _ rfl
  have h1 : DataW.trod enc Tryd.prog W 0 (fun _ => true) true n 3 ((cs.drop 1).take (Tryd.prog.cellsOf 3)) = xs[1]? := hg 1 _ rfl
  have h2 : DataW.trod enc Tryd.prog W 0 (fun _ => true) true n 3 ((cs.drop 2).take (Tryd.prog.cellsOf 3)) = xs[2]? := hg 2 _ rfl
  have h3 : DataW.trod enc Tryd.prog W 0 (fun _ => true) true n 32 ((cs.drop 3).take (Tryd.prog.cellsOf 32)) = xs[3]? := hg 3 _ rfl
  rw [cellsI] at h0 h1 h2
  rw [hcl] at h3
  match xs, hlen with
  | [y0, y1, y2, y3], _ =>
    obtain ⟨n0, e0, f0, w0⟩ := DataW.trod_int Tryd.underlying3 h0
    obtain ⟨n1, e1, f1, w1⟩ := DataW.trod_int Tryd.underlying3 h1
    obtain ⟨n2, e2, f2, w2⟩ := DataW.trod_int Tryd.underlying3 h2
    have e3 : ∃ A k c, (cs.drop 3).take 1 = [.slice A k c] := by
      rcases open_slice Tryd.underlying32 h3 with ⟨e, _⟩ | ⟨_, _, _, _, _, _, _, e, _⟩
      · exact ⟨_, _, _, e⟩
      · exact ⟨_, _, _, e⟩
    obtain ⟨A, k, c, e3⟩ := e3
    rw [e3] at h3
    obtain ⟨L, hk, hL⟩ := ls_cells h3
    subst hk
    have hde : x.1 = .agg [y0.1, y1.1, y2.1, y3.1] := by rw [hx]; rfl
    refine ⟨⟨n0, n1, n2, A, c, L⟩, four_cells cs hcs e0 e1 e2 e3, fun hb => ⟨hL ?_, bounds_i64 w0, bounds_i64 w1, bounds_i64 w2⟩⟩
    rw [hde] at hb
    simp only [Rows.uptoBulk, Rows.uptoBulkAll] at hb
    show Rows.uptoBulk y3.1 ≤ _
    omega
end
section
variable {H : Type} {enc : TypeId × Value → H} {W : World} {r : Reach} {b0 : Nat} {v : Value} {d : DataW H} {ps : List MemPlace}
/-- a list of acts -/
theorem open_acts11 (hv : Value.okWide Tryd.prog W r b0 22 v) (h : DataW.Trod enc Tryd.prog W 0 (fun _ => true) true 22 v d ps) :
    ∃ (A : Option Addr) (c : Nat) (l : List Ac), v = .slice A l.length c ∧ (Rows.uptoBulk d ≤ 1048576 → AcsIn W W.heap.size A c l) := by
  obtain ⟨A, n, cap, rfl⟩ := okWide_slice Tryd.underlying22 hv
  obtain ⟨fuel, hf⟩ := h
  have hC : Tryd.prog.cellsOf 34 = 4 := by kernel_rfl
  rcases open_slice Tryd.underlying22 hf with ⟨hcs, hx⟩ | ⟨a, len, cap', m, n', D, Pl, hcs, _, hlc, hcm, hm, hx, hi⟩
  · have hcs' : Value.slice A n cap = .slice none 0 0 := by simpa [Value.cells] using hcs
    injection hcs' with e1 e2 e3
    subst e1 e2 e3
    exact ⟨none, 0, [], rfl, fun _ => ⟨fun hne => absurd rfl hne, by simp, by simp⟩⟩
  · have hcs' : Value.slice A n cap = .slice (some a) len cap' := by simpa [Value.cells] using hcs
    injection hcs' with e1 e2 e3
    subst e1 e2 e3
    rw [if_pos rfl] at hm
    subst hm
    obtain ⟨rfl, _⟩ := Prod.mk.inj hx
    obtain ⟨f, hf1, hf2⟩ := pick_list W a n m 4 hlc Ac.cells (fun i y => Rows.uptoBulk (D i) ≤ 1048576 → y.In W W.heap.size) (fun x => ⟨_, rfl⟩) ⟨0, 0, 0, none, 0, []⟩ (fun i him => by
      obtain ⟨cs', hc, ht⟩ := hi i him
      rw [hC] at hc
      obtain ⟨_, hcl, hat⟩ := World.cells?_some hc
      obtain ⟨y, e, hy⟩ := act_cells hcl ht
      refine ⟨y, fun j v hv => ?_, hy⟩
      have hv : cs'[j]? = some v := by rw [e]; exact hv
      rw [hat j (by have := (List.getElem?_eq_some_iff.1 hv).1; omega), hv])
    refine ⟨some a, m, (List.range n).map f, by simp, fun hb => ⟨fun hne => ?_, ?_, fun x hx => ?_⟩⟩
    · have hpos : 0 < n := by
        rcases Nat.eq_zero_or_pos n with h0 | h0
        · subst h0; simp at hne
        · exact h0
      obtain ⟨b, off, e, hb, hr⟩ := hf2 hpos
      refine ⟨b, off, by rw [e], hb, fun i hi2 => ?_⟩
      have hi3 : i < n := by simpa using hi2
      simp only [List.getElem_map, List.getElem_range]
      exact hr i hi3
    · have h2 := bulk_len ((List.range n).map D)
      simp only [Rows.uptoBulk] at hb
      simp only [List.length_map, List.length_range] at h2 ⊢
      omega
    · obtain ⟨i, hi1, rfl⟩ := List.mem_map.1 hx
      refine hf1 i (List.mem_range.1 hi1) ?_
      have h2 : Rows.uptoBulk (D i) ≤ Rows.uptoBulkAll ((List.range n).map D) := bulk_mem (List.mem_map.2 ⟨i, hi1, rfl⟩)
      simp only [Rows.uptoBulk] at hb
      omega
/-- an act -/
theorem open_act11 (hv : Value.okWide Tryd.prog W r b0 34 v) (h : DataW.Trod enc Tryd.prog W 0 (fun _ => true) true 34 v d ps) :
    ∃ y : Ac, v = .agg y.cells.toArray ∧ (Rows.uptoBulk d ≤ 1048576 → y.In W W.heap.size) := by
  obtain ⟨cs, rfl, hcz⟩ := okWide_struct Tryd.underlying34 hv
  obtain ⟨fuel, hf⟩ := h
  have hc : Tryd.prog.cellsOf 34 = 4 := by kernel_rfl
  have hl : cs.toList.length = 4 := by rw [Array.length_toList, hcz, hc]
  obtain ⟨y, e, hy⟩ := act_cells hl hf
  refine ⟨y, ?_, hy⟩
  show Value.agg cs = .agg _
  congr 1
  exact Array.toList_inj.1 e
end
end Go.Proofs.YtjeooegkfjlejaaDoor
