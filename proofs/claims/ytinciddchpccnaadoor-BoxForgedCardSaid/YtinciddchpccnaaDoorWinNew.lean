/- What later texts need of the earlier layers. -/
import Derived.Test.YtinciddchpccnaaDoorBxO
import Derived.Test.YtinciddchpccnaaDoorBxS
import Derived.Test.YtinciddchpccnaaDoorBxT
import Derived.Test.YtinciddchpccnaaDoorBxC
import Derived.Test.YtinciddchpccnaaDoorBxA
import Derived.Test.YtinciddchpccnaaDoorWinMath
import Derived.Test.YtinciddchpccnaaDoorWinNum
import Derived.Test.YtinciddchpccnaaDoorWinSame
import Derived.Test.YtinciddchpccnaaDoorOwnApp
import Derived.Test.YtinciddchpccnaaDoorWinOwn
import Derived.Test.YtinciddchpccnaaDoorWinOwn8
import Derived.Test.YtinciddchpccnaaDoorWinKey
import Derived.Test.YtinciddchpccnaaDoorWinPack
import Derived.Test.YtinciddchpccnaaDoorWinUn
import Derived.Test.YtinciddchpccnaaDoorWinAgain
import Derived.Test.YtinciddchpccnaaDoorWinUp
import Derived.Test.YtinciddchpccnaaDoorWinFour
import Derived.Test.YtinciddchpccnaaDoorWinML
import Derived.Test.YtinciddchpccnaaDoorWinKnown
import Derived.Test.YtinciddchpccnaaDoorWinCP
import Derived.Test.YtinciddchpccnaaDoorWinFar
import Derived.Test.YtinciddchpccnaaDoorWinLong
import Derived.Test.YtinciddchpccnaaDoorWinRup
import Derived.Laws.RangeString
import Derived.Laws.Concat
set_option maxRecDepth 100000
/- ---- WinNew ---- -/
/- window: newKnown. -/
namespace Go.Proofs.YtinciddchpccnaaDoor
open Go.RowKit Go.Maps
set_option linter.unusedVariables false
set_option linter.unusedSimpArgs false

/-- the iterator over a string, in any block -/
def iterTo (w : World) (R : Nat) (s : ByteArray) (pos : Nat) : World := { w with heap := w.heap.setIfInBounds R (.stringIter s pos) }
theorem iterTo_grown (w : World) (R : Nat) (s : ByteArray) (pos : Nat) : w.grownBy (iterTo w R s pos) (some R) :=
  ⟨rfl, rfl, rfl, by simp [iterTo], fun k _ hk => by
    show (w.heap.setIfInBounds R _)[k]? = _
    exact Array.getElem?_setIfInBounds_ne (fun e => hk (by rw [e]))⟩
theorem iterTo_at {w : World} {R : Nat} (h : R < w.heap.size) (s : ByteArray) (pos : Nat) : (iterTo w R s pos).heap[R]? = some (.stringIter s pos) := by
  show (w.heap.setIfInBounds R _)[R]? = _
  simp [Array.getElem?_setIfInBounds, h]
theorem next_ascii {P : Program} (w : World) (R : Nat) (s : ByteArray) (pos : Nat) (ty : TypeId) (hR : w.heap[R]? = some (.stringIter s pos)) (h : pos < s.size) (ha : (s[pos]'h).toNat < 128) :
    (Instr.next (.pointer (some ⟨R, 0, none⟩)) true ty).run P w = .ok (.tuple #[.bool true, .int .i64 pos, .int .i32 (s[pos]'h).toNat]) (iterTo w R s (pos + 1)) := by
  simp only [Instr.next, getObj, setObj, Sem.run_bind, Sem.run, hR, Result.andThen, h, if_true, decode_ascii s pos h ha]
  simp [goInt, Sem.run, hR, iterTo]
theorem next_end {P : Program} (w : World) (R : Nat) (s : ByteArray) (pos : Nat) (ty : TypeId) (hR : w.heap[R]? = some (.stringIter s pos)) (h : ¬ pos < s.size) :
    (Instr.next (.pointer (some ⟨R, 0, none⟩)) true ty).run P w = .ok (.tuple #[.bool false]) w := by
  simp [Instr.next, getObj, Sem.run, hR, h]
theorem made_ints (n : Nat) : madeCells (Value.int .i64 0).cells (n * 1) = (Is (List.replicate n 0)).toArray := by
  unfold madeCells
  apply Array.ext
  · simp [Is]
  · intro i h1 h2
    simp [Is, Value.cells, Nat.mod_one]
theorem int_info : (Tryd.prog.info? 3).map (fun i => (i.zero, i.size, i.bytes)) = some (some (.int .i64 0), 1, 8) := by kernel_rfl
theorem make_ints (n : Nat) (hn : n ≤ 17592186044416) (w : World) : (Instr.makeSlice 101 (.int .i64 (n : Int)) (.int .i64 (n : Int))).run Tryd.prog w = .ok (.slice (some ⟨w.heap.size, 0, none⟩) n n) (w.alloc (.cells (Is (List.replicate n 0)).toArray 3)) := by
  obtain ⟨i0, hi, hz, hs, hb⟩ := info_parts int_info
  have hr := run_make (P := Tryd.prog) w 101 3 i0 _ Tryd.underlying101 hi hz .i64 .i64 n n (by omega) (by omega) (by rw [hb]; omega) (by omega)
  simp only [Int.toNat_natCast] at hr
  rw [hs, made_ints] at hr
  exact hr
theorem known_fresh (w : World) (kn : ByteArray) (W : World) (hW : W = (((w.alloc (.map #[] 0)).alloc (.cells #[.string kn, .map (some w.heap.size), .slice (some ⟨w.heap.size + 1 + 1, 0, none⟩) kn.size kn.size] 129)).alloc (.cells (Array.replicate kn.size (I 0)) 3))) :
    KAt W (w.heap.size + 1) w.heap.size (w.heap.size + 2) kn 0 ∧ Below w.heap.size w W ∧ W.heap.size = w.heap.size + 3 := by
  have hm := World.ownsMap_made (H := Unit) w Tryd.prog 141 (plainElem Tryd.prog 3)
  have e1 : (w.alloc (.map #[] 0)).heap.size = w.heap.size + 1 := by simp
  have hr := Row.new (w.alloc (.map #[] 0)) 129 [.string kn, .map (some w.heap.size), .slice (some ⟨w.heap.size + 1 + 1, 0, none⟩) kn.size kn.size]
  rw [e1] at hr
  have hg : ∀ (u : World) (o : Obj), u.grownBy (u.alloc o) none := fun u o => grownBy_alloc u o none
  have hl : Row W (w.heap.size + 2) 3 (Is (List.replicate kn.size 0)) := by
    have h := Row.new ((w.alloc (.map #[] 0)).alloc (.cells #[.string kn, .map (some w.heap.size), .slice (some ⟨w.heap.size + 1 + 1, 0, none⟩) kn.size kn.size] 129)) 3 (Is (List.replicate kn.size 0))
    have e : (Is (List.replicate kn.size 0)).toArray = Array.replicate kn.size (I 0) := by simp [Is]
    have e2 : ((w.alloc (.map #[] 0)).alloc (.cells #[.string kn, .map (some w.heap.size), .slice (some ⟨w.heap.size + 1 + 1, 0, none⟩) kn.size kn.size] 129)).heap.size = w.heap.size + 2 := by simp
    rw [e, e2] at h
    rw [hW]
    exact h
  refine ⟨⟨?_, ⟨_, 0, Nat.le_refl _, ?_, Reads4.empty⟩, ⟨_, hl, by simp, fun i hi => by omega⟩⟩, ?_, ?_⟩
  · rw [hW]; exact hr.kept (hg _ _) (by simp)
  · rw [hW]; exact (hm.kept (hg _ _) (by simp)).kept (hg _ _) (by simp)
  · rw [hW]; exact (((Below.refl _ _).alloc (Nat.le_refl w.heap.size) _).alloc (by simp) _).alloc (by simp; omega) _
  · rw [hW]; simp
def leftIn (w : World) (R : Nat) : Nat := match w.heap[R]? with | some (.stringIter s p) => s.size - p | _ => 0
theorem leftIn_eq {w : World} {R : Nat} {s : ByteArray} {p : Nat} (h : w.heap[R]? = some (.stringIter s p)) : leftIn w R = s.size - p := by unfold leftIn; rw [h]
set_option maxRecDepth 20000 in
set_option maxHeartbeats 800000 in
theorem newKnown_any (s : ByteArray) (w : World) (hs : s.size ≤ 10000000000) :
    Calls Tryd.prog 99 #[.string s] w fun e w' => ∃ B M G, e = .returned (.pointer (some ⟨B, 0, none⟩)) ∧ KAt w' B M G (stB ++ s) 68 ∧ Below w.heap.size w w' ∧ w.heap.size ≤ B ∧ w.heap.size ≤ M ∧ w.heap.size ≤ G := by
  have hmm := @run_makeMap Tryd.prog
  obtain ⟨st, hst⟩ : ∃ st, stB = st := ⟨_, rfl⟩
  have hstz : st.size = 68 := by rw [← hst]; rfl
  have hsta : ∀ i (h : i < st.size), (st[i]'h).toNat < 128 := by
    subst hst
    exact fun i h => by
      have : ∀ x ∈ Win.static, x.toNat < 128 := by decide
      exact this _ (List.getElem_mem (l := Win.static) (n := i) h)
  obtain ⟨kn, hkn⟩ : ∃ kn, st ++ s = kn := ⟨_, rfl⟩
  have hknz : kn.size = 68 + s.size := by rw [← hkn, ByteArray.size_append, hstz]
  have Hst := Lib.hid hst
  have Hkn := Lib.hid hkn
  go_enter Tryd.func99, Tryd.ntmps99
  rw [show ({ data := ([116, 114, 97, 110, 115, 102, 101, 114, 32, 112, 97, 121, 32, 116, 111, 32, 102, 114, 111, 109, 32, 108, 97, 110, 101, 32, 98, 105, 100, 32, 102, 101, 101, 32].append [110, 111, 110, 99, 101, 32, 114, 111, 117, 110, 100, 32, 98, 97, 116, 99, 104, 32, 100, 101, 108, 97, 121, 101, 100, 32, 48, 49, 50, 51, 52, 53, 54, 55]).toArray } : ByteArray) = st from hst]
  clear hst
  have Hknz := Lib.hid hknz
  have Hsta := Lib.hid hsta
  have hmk := make_ints kn.size (by omega)
  have hkz : kn.size ≤ 140737488351232 := by omega
  have h68 : 68 ≤ kn.size := by omega
  clear hknz hsta
  go_wp2_with fail
  obtain ⟨W, hW⟩ : ∃ W, W = (((w.alloc (.map #[] 0)).alloc (.cells #[.string kn, .map (some w.heap.size), .slice (some ⟨w.heap.size + 1 + 1, 0, none⟩) kn.size kn.size] 129)).alloc (.cells (Array.replicate kn.size (I 0)) 3)) := ⟨_, rfl⟩
  have hf := known_fresh w kn W hW
  rw [← hW]
  obtain ⟨hK, hb, hz⟩ := hf
  have hit : W.iter st 0 = W.alloc (.stringIter st 0) := rfl
  rw [hit, show w.heap.size + 1 + 1 + 1 = W.heap.size from hz.symm]
  have hbW := (Below.refl W.heap.size W).alloc (Nat.le_refl W.heap.size) (.stringIter st 0)
  have hK0 := hK.below hbW
  have hR0 : (W.alloc (.stringIter st 0)).heap[W.heap.size]? = some (.stringIter st 0) := heap_alloc_new _ _
  have hb0 := hb.trans (hbW.mono hb.size)
  have hz0 : W.heap.size < (W.alloc (.stringIter st 0)).heap.size := by simp
  have Hn := Lib.hid (show w.heap.size + 2 < W.heap.size by omega)
  generalize W.alloc (.stringIter st 0) = W0 at *
  generalize W.heap.size = R at *
  have HK0 := Lib.hid hK0
  have HR0 := Lib.hid hR0
  have Hb0 := Lib.hid hb0
  clear hK hb hz hit hbW hK0 hR0 hb0 hW W hmk hmm hz0
  go_loopw [4] (fun v wr => ∃ i, i ≤ 68 ∧ KAt wr (w.heap.size + 1) w.heap.size (w.heap.size + 2) kn i ∧ wr.heap[R]? = some (.stringIter st i) ∧ Below w.heap.size w wr) (fun _ wr => leftIn wr R)
  case atStart => exact ⟨0, by omega, HK0.out, HR0.out, Hb0.out⟩
  case round =>
    obtain ⟨i, hi, hKi, hRi, hbi⟩ := hrel
    have HKi := Lib.hid hKi
    have Hbi := Lib.hid hbi
    have HRi := Lib.hid hRi
    by_cases h68i : i < 68
    · have hlt : i < st.size := by omega
      have hnx := fun ty => next_ascii (P := Tryd.prog) wr R st i ty hRi hlt (Hsta.out i hlt)
      have hRlt := lt_of_block hRi
      have hgi := iterTo_grown wr R st (i + 1)
      have hR1 := iterTo_at hRlt st (i + 1)
      have hc1 : Chg (fun k => k = R) wr (iterTo wr R st (i + 1)) := Chg.of_grown hgi (fun k e => by cases e; exact .inl rfl)
      have HK1 := Lib.hid (hKi.kept hc1 (by have := Hn.out; omega) (by have := Hn.out; omega) (by have := Hn.out; omega))
      have HR1 := Lib.hid hR1
      have Hb1 := Lib.hid (hbi.trans (Chg.below hc1 hbi.size (fun k e => by have := Hn.out; omega)))
      have hput := put_any kn (w.heap.size + 1) w.heap.size (w.heap.size + 2) i (iterTo wr R st (i + 1)) HK1.out hkz (by omega)
      have Hleft := Lib.hid (leftIn_eq hRi)
      generalize iterTo wr R st (i + 1) = w1 at *
      have Hput := Lib.hid hput
      clear hput hKi hbi hRi hgi hR1 hc1 hRlt
      go_wp2_with fail
      refine Hput.out.mono ?_
      rintro e w2 ⟨rfl, hK2, hc2⟩
      have HK2 := Lib.hid hK2
      have Hc2 := Lib.hid hc2
      clear hK2 hc2
      have hR2 : w2.heap[R]? = some (.stringIter st (i + 1)) := (Hc2.out.block R (lt_of_block HR1.out) (by have := Hn.out; omega)).trans HR1.out
      have Hl2 := Lib.hid (leftIn_eq hR2)
      have HR2 := Lib.hid hR2
      clear hR2
      go_wp2_with fail
      refine ⟨⟨i + 1, by omega, HK2.out, HR2.out, Hb1.out.trans (Chg.below Hc2.out Hb1.out.size (fun k e => by rcases e with rfl | rfl <;> omega))⟩, ?_⟩
      rw [Hleft.out, Hl2.out]
      omega
    · obtain rfl : i = 68 := by omega
      have hnx := fun ty => next_end (P := Tryd.prog) wr R st 68 ty hRi (by omega)
      clear hKi hbi hRi
      go_wp2_with fail
      go_ret
      rw [← Hkn.out, ← Hst.out] at HKi
      exact ⟨_, _, _, rfl, HKi.out, Hbi.out, by omega, by omega, by omega⟩
end Go.Proofs.YtinciddchpccnaaDoor
