/- An argument opened: a case of a proof. -/
import Derived.Test.YtdifbndpgbdkbaaDoorShaOpen
import Derived.Deep.Slices
namespace Go.Proofs.YtdifbndpgbdkbaaDoor
open Go.ChangeShapes Go.WideShapes Go.ChangeAt Go.RowKit Go.Deep
set_option linter.unusedVariables false
set_option linter.unusedSimpArgs false

theorem case_cells {α : Type} {R : List α} {a b c d : α} (l : List α) (hl : l.length = 36) (h0 : (l.drop 0).take 32 = R) (h1 : (l.drop 32).take 1 = [a]) (h2 : (l.drop 33).take 1 = [b]) (h3 : (l.drop 34).take 1 = [c]) (h4 : (l.drop 35).take 1 = [d]) : l = R ++ [a, b, c, d] := by
  have e : l = l.take 32 ++ l.drop 32 := (List.take_append_drop 32 l).symm
  have e2 : (l.drop 32).length = 4 := by rw [List.length_drop]; omega
  rw [show l.drop 33 = (l.drop 32).drop 1 by rw [List.drop_drop]] at h2
  rw [show l.drop 34 = (l.drop 32).drop 2 by rw [List.drop_drop]] at h3
  rw [show l.drop 35 = (l.drop 32).drop 3 by rw [List.drop_drop]] at h4
  rw [List.drop_zero] at h0
  rw [e, h0]
  congr 1
  match l.drop 32, e2, h1, h2, h3, h4 with
  | [x, y, z, u], _, h1, h2, h3, h4 =>
    simp at h1 h2 h3 h4
    rw [h1, h2, h3, h4]
theorem open_case {H : Type} {enc : TypeId × Value → H} {W : World} {r : Reach} {b0 : Nat} {v : Value} {d : DataW H} {ps : List MemPlace}
    (hv : Value.okWide Tryd.prog W r b0 41 v) (h : DataW.Trod enc Tryd.prog W 0 (fun _ => true) true 41 v d ps) (hlt : ∀ p ∈ ps, p.block < W.heap.size) :
    ∃ (root : List UInt8) (n i : Int) (s : ByteArray) (A : Option Addr) (P : List (List UInt8)) (cap : Nat) (x : DataW H) (y : DataW H), root.length = 32 ∧ v = .agg (caseRow root n i s (.slice A P.length cap)) ∧ d = .agg [x, .lit (.int .i64 n), .lit (.int .i64 i), .lit (.string s.data.toList), y] ∧
      (Lit.int .i64 n).wf = true ∧ (Lit.int .i64 i).wf = true ∧ P.length ≤ cap ∧ (∀ q ∈ P, q.length = 32) ∧ Hashes W A P ∧ (P = [] ∨ ∃ el sp, y = .slice el sp ∧ el.length = P.length) := by
  have hs := Tryd.underlying41
  obtain ⟨cs, rfl, hsz⟩ := okWide_struct hs hv
  obtain ⟨fuel, hf⟩ := h
  have hc : Tryd.prog.cellsOf 41 = 36 := by kernel_rfl
  obtain ⟨xs, m, _, hx, _, hlen, hg⟩ := DataW.trod_struct hs hf
  have hc3 : Tryd.prog.cellsOf 3 = 1 := by kernel_rfl
  have hc9 : Tryd.prog.cellsOf 9 = 1 := by kernel_rfl
  have hch : Tryd.prog.cellsOf 24 = 32 := by kernel_rfl
  have hcl : Tryd.prog.cellsOf 32 = 1 := by kernel_rfl
  have h0 : DataW.trod enc Tryd.prog W 0 (fun _ => true) true m 24 ((cs.toList.drop 0).take (Tryd.prog.cellsOf 24)) = xs[0]? := hg 0 _ rfl
  have h1 : DataW.trod enc Tryd.prog W 0 (fun _ => true) true m 3 ((cs.toList.drop 32).take (Tryd.prog.cellsOf 3)) = xs[1]? := hg 1 _ rfl
  have h2 : DataW.trod enc Tryd.prog W 0 (fun _ => true) true m 3 ((cs.toList.drop 33).take (Tryd.prog.cellsOf 3)) = xs[2]? := hg 2 _ rfl
  have h3 : DataW.trod enc Tryd.prog W 0 (fun _ => true) true m 9 ((cs.toList.drop 34).take (Tryd.prog.cellsOf 9)) = xs[3]? := hg 3 _ rfl
  have h4 : DataW.trod enc Tryd.prog W 0 (fun _ => true) true m 32 ((cs.toList.drop 35).take (Tryd.prog.cellsOf 32)) = xs[4]? := hg 4 _ rfl
  rw [hch] at h0
  rw [hc3] at h1 h2
  rw [hc9] at h3
  rw [hcl] at h4
  have hl36 : cs.toList.length = 36 := by rw [Array.length_toList, hsz, hc]
  match xs, hlen with
  | [y0, y1, y2, y3, y4], _ =>
    obtain ⟨root, hr, e0, _⟩ := hash_cells h0
    obtain ⟨n, e1, rfl, w1⟩ := DataW.trod_int Tryd.underlying3 h1
    obtain ⟨i, e2, rfl, w2⟩ := DataW.trod_int Tryd.underlying3 h2
    obtain ⟨s, e3, rfl, _⟩ := DataW.trod_string Tryd.underlying9 h3
    have hps : ∀ p ∈ y4.2, p.block < W.heap.size := fun p hp => hlt p (by rw [(Prod.mk.inj hx).2]; simp [hp])
    rcases open_slice Tryd.underlying32 h4 with ⟨e4, hy⟩ | ⟨a, len, cap, k, mm, D, Pl, e4, _, hl, hm, hk, hy, hel⟩
    · refine ⟨root, n, i, s, none, [], 0, y0.1, y4.1, hr, ?_, (Prod.mk.inj hx).1, w1, w2, Nat.le_refl _, (by intro q hq; cases hq), (by intro hne; exact absurd rfl hne), .inl rfl⟩
      have := case_cells cs.toList hl36 e0 e1 e2 e3 e4
      unfold caseRow
      rw [show (Value.slice none ([] : List (List UInt8)).length 0) = .slice none 0 0 from rfl, ← this]
    · rw [if_pos rfl] at hk
      have hR : ∀ j, ∃ R : List UInt8, j < len → R.length = 32 ∧ W.cells? 0 (a.add (j * 32)) 32 = some (bRow R).toList := by
        intro j
        by_cases hj : j < len
        · obtain ⟨cs', hc1, hc2⟩ := hel j (by omega)
          obtain ⟨R, hR1, hR2, _⟩ := hash_cells hc2
          rw [hch] at hc1
          exact ⟨R, fun _ => ⟨hR1, by rw [← hR2]; exact hc1⟩⟩
        · exact ⟨[], fun h => absurd h hj⟩
      obtain ⟨f, hf2⟩ := Classical.axiomOfChoice hR
      have hPl : ((List.range len).map f).length = len := by simp
      refine ⟨root, n, i, s, some a, (List.range len).map f, cap, y0.1, y4.1, hr, ?_, (Prod.mk.inj hx).1, w1, w2, by rw [hPl]; exact hl, ?_, ?_, .inr ⟨_, _, congrArg Prod.fst hy, by simp⟩⟩
      · have := case_cells cs.toList hl36 e0 e1 e2 e3 e4
        unfold caseRow
        rw [hPl, ← this]
      · intro q hq
        obtain ⟨j, hj, rfl⟩ := List.mem_map.1 hq
        exact (hf2 j (List.mem_range.1 hj)).1
      · intro hne
        have hpos : 0 < len := by
          rcases Nat.eq_zero_or_pos len with h0' | h0'
          · subst h0'; simp at hne
          · exact h0'
        have hat : ∀ j, j < len → ∀ x u, (bRow (f j)).toList[x]? = some u → W.cell? ((a.add (j * 32)).add x) = some u := by
          intro j hj x u hu
          obtain ⟨hj1, hj2⟩ := hf2 j hj
          obtain ⟨_, hcl2, hat2⟩ := World.cells?_some hj2
          have hxl := (List.getElem?_eq_some_iff.1 hu).1
          rw [Array.length_toList, bRow_size _ (by omega)] at hxl
          rw [hat2 x hxl]; exact hu
        have hz32 : (bRow (f 0)).toList.length = 32 := by rw [Array.length_toList, bRow_size _ (by have := (hf2 0 hpos).1; omega)]
        have hc0 := hat 0 hpos 0 ((bRow (f 0)).toList[0]'(by omega)) (List.getElem?_eq_getElem (by omega))
        rw [show (a.add (0 * 32)).add 0 = a by simp [Addr.add]] at hc0
        have hsp := World.cell?_spot hc0
        obtain ⟨b, off, sp⟩ := a
        subst hsp
        refine ⟨b, off, rfl, ?_, fun j hj x u hu => ?_⟩
        · have := hps (.cell b (off + 0)) (by rw [hy]; refine List.mem_append_left _ ?_; unfold MemPlace.row; exact List.mem_map.2 ⟨0, List.mem_range.2 (by rw [hch]; omega), rfl⟩)
          exact this
        · rw [hPl] at hj
          have e : ((List.range len).map f).getD j [] = f j := by simp [List.getD, hj]
          rw [e] at hu
          have := hat j hj x u hu
          rw [add0, add0] at this
          exact this
/-- the text and the proof of a case are as long as may come in -/
theorem sized_case {H : Type} {ts : List TypeId} {ds : List (DataW H)} {j : Nat} {a b : Lit} {s : List UInt8} {x y : DataW H} {P : List (List UInt8)} (h : (DataW.weightsEach Tryd.prog ts ds).all (· ≤ reachBytes) = true)
    (ht : ts[j]? = some 41) (hd : ds[j]? = some (.agg [x, .lit a, .lit b, .lit (.string s), y])) (hy : P = [] ∨ ∃ el sp, y = .slice el sp ∧ el.length = P.length) : s.length ≤ 140737488351232 ∧ P.length ≤ 140737488351232 := by
  have h1 := List.all_eq_true.1 h _ (DataW.weights_mem_each ht hd s.length (by simp [DataW.weights, Tryd.underlying41, DataW.weightsEach]))
  have h2 : s.length ≤ reachBytes := by simpa using h1
  refine ⟨h2, ?_⟩
  rcases hy with rfl | ⟨el, sp, rfl, hl⟩
  · exact Nat.zero_le _
  · have h3 := List.all_eq_true.1 h _ (DataW.weights_mem_each ht hd ((el.length + sp.length) * Tryd.prog.bytesOf 24) (by simp [DataW.weights, Tryd.underlying41, DataW.weightsEach, Tryd.underlying32]))
    have h4 : (el.length + sp.length) * Tryd.prog.bytesOf 24 ≤ reachBytes := by simpa using h3
    have h5 : Tryd.prog.bytesOf 24 = 32 := by kernel_rfl
    rw [h5] at h4
    have h6 : reachBytes = 140737488351232 := rfl
    omega
end Go.Proofs.YtdifbndpgbdkbaaDoor
