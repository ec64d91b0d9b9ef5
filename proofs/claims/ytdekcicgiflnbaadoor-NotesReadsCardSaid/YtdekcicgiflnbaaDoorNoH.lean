/- notes: read. -/
/- What is held over a drawn region: a row, and all that was there. -/
import Derived.Test.YtdekcicgiflnbaaDoorNoMath
import Derived.Deep.DeepAppendWide
import Derived.Deep.Onto
namespace Go.Proofs.YtdekcicgiflnbaaDoor
open Go.RowKit
set_option linter.unusedVariables false
set_option linter.unusedSimpArgs false

namespace No
/-- pointers to a block's first cells -/
def ptrs (g n : Nat) : List Value := (List.range n).map fun i => .pointer (some ⟨g, i, none⟩)
theorem ptrs_len (g n : Nat) : (ptrs g n).length = n := by simp [ptrs]
theorem ptrs_at {w : World} {g pb n : Nat} {T : TypeId} (h : Row w pb T (ptrs g n)) (k : Nat) (hk : k < n) : w.cell? ⟨pb, k, none⟩ = some (.pointer (some ⟨g, k, none⟩)) := by
  rw [h.cell k (by rw [ptrs_len]; exact hk)]
  simp [ptrs]
theorem nums_short : ∀ (n : Nat) (l : List T8), l.length < n → nums n l = none
  | 0, _, h => by omega
  | n + 1, [], _ => rfl
  | n + 1, s :: r, h => by
    unfold nums
    rw [nums_short n r (by simp at h; omega)]
    cases Tx.numAll s with
    | none => rfl
    | some x => simp
theorem nums_none {l : List T8} {n k : Nat} (h : k < n) (hk : k < l.length) (hx : Tx.numAll l[k] = none) : nums (n - k) (l.drop k) = none := by
  obtain ⟨j, hj⟩ : ∃ j, n - k = j + 1 := ⟨n - k - 1, by omega⟩
  rw [hj, List.drop_eq_getElem_cons hk, nums, hx]
theorem nums_bad {l : List T8} {n k : Nat} {x : Int} (h : k < n) (hk : k < l.length) (hx : Tx.numAll l[k] = some x) (hn : Tx.num x = false) : nums (n - k) (l.drop k) = none := by
  obtain ⟨j, hj⟩ : ∃ j, n - k = j + 1 := ⟨n - k - 1, by omega⟩
  rw [hj, List.drop_eq_getElem_cons hk, nums, hx]
  simp only
  rw [if_neg (by rw [hn]; simp)]
theorem nums_go {l : List T8} {n k : Nat} {x : Int} (h : k < n) (hk : k < l.length) (hx : Tx.numAll l[k] = some x) (hn : Tx.num x = true) : nums (n - k) (l.drop k) = (nums (n - (k + 1)) (l.drop (k + 1))).map (x :: ·) := by
  obtain ⟨j, hj⟩ : ∃ j, n - k = j + 1 := ⟨n - k - 1, by omega⟩
  rw [hj, List.drop_eq_getElem_cons hk, nums, hx]
  simp only
  rw [if_pos hn, show n - (k + 1) = j by omega]
theorem map_app {α : Type} (o : Option (List α)) (a : List α) (x : α) : (o.map (x :: ·)).map (a ++ ·) = o.map ((a ++ [x]) ++ ·) := by
  cases o <;> simp
/-- what read leaves -/
def ReadOf (F : Option (List Int)) (l : List T8) (n g : Nat) (T : TypeId) (xs : List Value) (e : Ending) (w' : World) : Prop :=
  match F with
  | some ns => ∃ A' c', e = .returned (.tuple #[.slice A' (l.length - n) c', .bool true]) ∧ l.length - n ≤ c' ∧ Texts w' g A' (l.drop n) ∧ Row w' g T (Is ns ++ xs.drop n)
  | none => ∃ v, e = .returned (.tuple #[v, .bool false])
end No
theorem sliceN (W : World) (b off m n c : Nat) (hn : n ≤ m) (hc : m ≤ c) : ∃ A', (Instr.slice 73 (.slice (some ⟨b, off, none⟩) m c) (some (.int .i64 n)) none none).run Tryd.prog W = .ok (.slice A' (m - n) (c - n)) W ∧ (n < m → A' = some ⟨b, off + n, none⟩) := by
  have hz : (sizeOf (Tryd.prog.elem 73)).run Tryd.prog W = .ok 1 W := by kernel_rfl
  have e := run_slice_l (P := Tryd.prog) (w := W) (t := 73) (a := some ⟨b, off, none⟩) (len := m) (cap := c) (by kernel_rfl) (kl := .i64) (l := (n : Int)) (by omega) (by omega)
  rw [hz] at e
  simp only [Result.andThen, Int.toNat_natCast] at e
  unfold sliced at e
  refine ⟨_, e, fun h => ?_⟩
  rw [if_neg (by omega)]
  simp [Addr.add]

set_option maxRecDepth 20000 in
set_option maxHeartbeats 800000 in
theorem noRead_any (l : List No.T8) (A : Option Addr) (c n : Nat) (xs : List Value) (T : TypeId) (w : World) (g pb cp : Nat)
    (hl : ∀ x ∈ l, x.length ≤ 65536) (hll : l.length ≤ 2000) (hc : l.length ≤ c) (hT : Texts w g A l) (hg : Row w g T xs) (hp : Row w pb 104 (No.ptrs g n)) (hgp : g < pb) (hn : n ≤ xs.length) (h0 : 0 < n) (hn4 : n ≤ 100) :
    Calls Tryd.prog 88 #[.slice A l.length c, .slice (some ⟨pb, 0, none⟩) n cp] w fun e w' => No.ReadOf (No.nums n l) l n g T xs e w' ∧ Below g w w' := by
  by_cases hlt : l.length < n
  · rw [No.nums_short n l hlt]
    have hd : ((l.length : Int) < (n : Int)) := by omega
    clear hT hg hp
    go_enter Tryd.func88, Tryd.ntmps88
    go_wp2_with fail
    go_ret2
    exact ⟨⟨_, rfl⟩, Below.refl _ _⟩
  obtain ⟨b, off, rfl, hbg, hct⟩ := hT (by intro e; rw [e] at hlt; simp at hlt; omega)
  obtain ⟨m, hm⟩ : ∃ m, m = l.length := ⟨_, rfl⟩
  rw [← hm] at hlt hc hll ⊢
  have hnm : ¬ ((m : Int) < (n : Int)) := by omega
  have hgw : g < w.heap.size := hg.lt
  have HM := Lib.hid hm
  have Hl := Lib.hid hl
  have Hct := Lib.hid hct
  have Hg := Lib.hid hg
  have Hp := Lib.hid hp
  obtain ⟨F, hF⟩ : ∃ F, F = No.nums n l := ⟨_, rfl⟩
  rw [← hF]
  have HF := Lib.hid hF
  clear hm hl hct hT hg hp hF
  go_enter Tryd.func88, Tryd.ntmps88
  go_wp2_with fail
  go_loopw [18] (fun i wr => ∃ (k : Nat) (ns : List Int), k ≤ n ∧ i = .int .i64 k ∧ ns.length = k ∧ F = (No.nums (n - k) (l.drop k)).map (ns ++ ·) ∧ Row wr g T (Is ns ++ xs.drop k) ∧ Row wr pb 104 (No.ptrs g n) ∧ (∀ i (h : i < l.length), wr.cell? ⟨b, off + i, none⟩ = some (S l[i])) ∧ Below g w wr) (fun i _ => n - (intOf i).toNat)
  case atStart => exact ⟨0, [], Nat.zero_le _, rfl, rfl, by rw [HF.out]; simp, by simpa [Is] using Hg.out, Hp.out, Hct.out, Below.refl _ _⟩
  case round =>
    obtain ⟨k, ns, hk, rfl, hns, hFk, hru, hpk, hck, hbk⟩ := hrel
    have HFk := Lib.hid hFk
    have Hru := Lib.hid hru
    have Hpk := Lib.hid hpk
    have Hck := Lib.hid hck
    have Hbk := Lib.hid hbk
    have Hns := Lib.hid hns
    clear hFk hru hpk hck hbk hns Hg Hp Hct HF
    by_cases hkn : k < n
    · have hki : (k : Int) < (n : Int) := by omega
      have hkm : (k : Int) < (m : Int) := by omega
      have hkl : k < l.length := by rw [← HM.out]; omega
      have ctx := Hck.out k hkl
      have cp := No.ptrs_at Hpk.out k hkn
      obtain ⟨x, hx⟩ : ∃ x, x = l[k] := ⟨_, rfl⟩
      rw [← hx] at ctx
      have hxl : x.length ≤ 65536 := by rw [hx]; exact Hl.out _ (List.getElem_mem _)
      have RL : Hid (∀ W, Calls Tryd.prog 114 #[S x, .int .i64 0] W fun e w' => e = .returned (three (Oct.rdNum x 0).1 (Oct.rdNum x 0).2.1 (Oct.rdNum x 0).2.2) ∧ W = w') := fun W => by
        have := readNumber_any ⟨x.toArray⟩ 0 W (by show x.length ≤ _; omega)
        unfold rdNumV at this
        exact this
      have hall : Tx.numAll x = if (Oct.rdNum x 0).2.2 = 0 ∧ (Oct.rdNum x 0).2.1 = x.length then some (Oct.rdNum x 0).1 else none := rfl
      generalize (Oct.rdNum x 0).2.1 = q at *
      generalize (Oct.rdNum x 0).2.2 = er at *
      generalize (Oct.rdNum x 0).1 = y at *
      unfold three at RL
      by_cases he : er = 0
      · subst he
        by_cases hq : q = (x.length : Int)
        · rw [if_pos ⟨rfl, hq⟩] at hall
          have hqd : (q != (x.length : Int)) = false := by simpa using hq
          have hyb := Tx.num_numAll hall
          rcases Bool.eq_false_or_eq_true (Tx.num y) with hy | hy
          · have hgo := No.nums_go hkn hkl (by rw [← hx]; exact hall) hy
            have hF2 : F = (No.nums (n - (k + 1)) (l.drop (k + 1))).map ((ns ++ [y]) ++ ·) := by rw [HFk.out, hgo, No.map_app]
            have hlx : k < (Is ns ++ xs.drop k).length := by rw [List.length_append, List.length_drop]; unfold Is; rw [List.length_map, Hns.out]; omega
            have co := Hru.out.cell k hlx
            have fo := Hru.out.free k
            have hrn := Hru.out.set k (.int .i64 y) hlx
            have hset : (Is ns ++ xs.drop k).set k (.int .i64 y) = Is (ns ++ [y]) ++ xs.drop (k + 1) := by
              have hlI : (Is ns).length = k := by unfold Is; rw [List.length_map, Hns.out]
              rw [List.set_append_right _ _ (by omega), hlI, Nat.sub_self, List.drop_eq_getElem_cons (by omega : k < xs.length), List.set_cons_zero]
              unfold Is
              rw [List.map_append, List.append_assoc]
              rfl
            rw [hset] at hrn
            have NN : Hid (∀ W, Calls Tryd.prog 112 #[.int .i64 y] W fun e w' => e = .returned (.bool true) ∧ W = w') := fun W => by have := nnumber_any y W; rw [hy] at this; exact this
            have hbn : Below g w (wr.setCell ⟨g, k, none⟩ (.int .i64 y)) := below_put Hbk.out (Nat.le_refl _) (by have := Hbk.out.size; omega)
            have hpn := Hpk.out.kept (grownBy_set wr g k (.int .i64 y)) (by simp; omega)
            have hcn : ∀ i (h : i < l.length), (wr.setCell ⟨g, k, none⟩ (.int .i64 y)).cell? ⟨b, off + i, none⟩ = some (S l[i]) := fun i h => (grownBy_set wr g k (.int .i64 y)).cell (Hck.out i h) (by simp; omega)
            have HF2 := Lib.hid hF2
            have Hrn := Lib.hid hrn
            have Hbn := Lib.hid hbn
            have Hpn := Lib.hid hpn
            have Hcn := Lib.hid hcn
            have hnl : (ns ++ [y]).length = k + 1 := by rw [List.length_append, Hns.out]; rfl
            have Hnl := Lib.hid hnl
            generalize (Is ns ++ xs.drop k)[k] = ov at co
            clear hgo hF2 hrn hset hbn hpn hcn hall hx hq hy hnl
            go_wp2_with fail
            refine (RL.out _).mono ?_
            rintro _ w5 ⟨rfl, rfl⟩
            go_wp2_with fail
            refine (NN.out _).mono ?_
            rintro _ w5 ⟨rfl, rfl⟩
            go_wp2_with fail
            refine ⟨⟨k + 1, ns ++ [y], hkn, by go_num, Hnl.out, HF2.out, Hrn.out, Hpn.out, Hcn.out, Hbn.out⟩, by simp [intOf]; omega⟩
          · have hFn : F = none := by rw [HFk.out, No.nums_bad hkn hkl (by rw [← hx]; exact hall) hy]; rfl
            have NN : Hid (∀ W, Calls Tryd.prog 112 #[.int .i64 y] W fun e w' => e = .returned (.bool false) ∧ W = w') := fun W => by have := nnumber_any y W; rw [hy] at this; exact this
            have HFn := Lib.hid hFn
            clear hFn hall hx hq hy
            go_wp2_with fail
            refine (RL.out _).mono ?_
            rintro _ w5 ⟨rfl, rfl⟩
            go_wp2_with fail
            refine (NN.out _).mono ?_
            rintro _ w5 ⟨rfl, rfl⟩
            go_wp2_with fail
            go_ret2
            rw [HFn.out]
            exact ⟨⟨_, rfl⟩, Hbk.out⟩
        · rw [if_neg (fun h => hq h.2)] at hall
          have hFn : F = none := by rw [HFk.out, No.nums_none hkn hkl (by rw [← hx]; exact hall)]; rfl
          have hqd : (q != (x.length : Int)) = true := by simpa using hq
          have HFn := Lib.hid hFn
          clear hFn hall hx hq
          go_wp2_with fail
          refine (RL.out _).mono ?_
          rintro _ w5 ⟨rfl, rfl⟩
          go_wp2_with fail
          go_ret2
          rw [HFn.out]
          exact ⟨⟨_, rfl⟩, Hbk.out⟩
      · rw [if_neg (fun h => he h.1)] at hall
        have hFn : F = none := by rw [HFk.out, No.nums_none hkn hkl (by rw [← hx]; exact hall)]; rfl
        have hed : (er != 0) = true := by simpa using he
        have HFn := Lib.hid hFn
        clear hFn hall hx he
        go_wp2_with fail
        refine (RL.out _).mono ?_
        rintro _ w5 ⟨rfl, rfl⟩
        go_wp2_with fail
        go_ret2
        rw [HFn.out]
        exact ⟨⟨_, rfl⟩, Hbk.out⟩
    · have hki : (n : Int) ≤ (k : Int) := by omega
      obtain rfl : k = n := by omega
      have hFe : F = some ns := by rw [HFk.out, Nat.sub_self]; simp [No.nums]
      obtain ⟨A', hsl, hA'⟩ := sliceN wr b off m k c (by omega) hc
      have hlm := HM.out
      have htx : Texts wr g A' (l.drop k) := fun hne => by
        have hkm : k < m := by
          rw [hlm]
          exact Nat.lt_of_not_le fun h => hne (List.drop_of_length_le h)
        refine ⟨b, off + k, hA' hkm, hbg, fun i hi => ?_⟩
        rw [List.length_drop] at hi
        have := Hck.out (k + i) (by omega)
        rw [show off + k + i = off + (k + i) by omega, this]
        simp
      have HFe := Lib.hid hFe
      have Htx := Lib.hid htx
      clear hFe hA' hlm htx
      go_wp2_with fail
      go_ret2
      rw [HFe.out]
      exact ⟨⟨A', c - k, by rw [← HM.out]; rfl, by rw [← HM.out]; omega, Htx.out, Hru.out⟩, Hbk.out⟩
end Go.Proofs.YtdekcicgiflnbaaDoor
namespace Go.Proofs.YtdekcicgiflnbaaDoor
open Go.RowKit
set_option linter.unusedVariables false
set_option linter.unusedSimpArgs false

/-- a block as it was, and all below w0 -/
def RowIn (w0 W : World) (g : Nat) (T : TypeId) (C : List Value) : Prop := Row W g T C ∧ Below w0.heap.size w0 W
theorem RowIn.step {w0 W W' : World} {g : Nat} {T : TypeId} {C : List Value} (h : RowIn w0 W g T C) (hb : Below W.heap.size W W') : RowIn w0 W' g T C :=
  ⟨h.1.kept (grownBy_of_below hb none) (by simp), two_below' h.2 hb⟩
theorem RowIn.grown {w0 W W' : World} {g : Nat} {T : TypeId} {C : List Value} {r : Option Nat} (h : RowIn w0 W g T C) (hg : W.grownBy W' r) (hr : ∀ k, r = some k → w0.heap.size ≤ k) (hne : some g ≠ r) : RowIn w0 W' g T C :=
  ⟨h.1.kept hg hne, h.2.grown hg h.2.size hr⟩
theorem RowIn.drew {w0 W : World} {g : Nat} {T : TypeId} {C : List Value} (h : RowIn w0 W g T C) : RowIn w0 W.drew g T C := h.step (Below.refl _ _).drew
theorem RowIn.size {w0 W : World} {g : Nat} {T : TypeId} {C : List Value} (h : RowIn w0 W g T C) : w0.heap.size ≤ W.heap.size := h.2.size
/-- behind a call that makes memory, ahead of which a value was boxed -/
theorem rowIn_call {w w1 : World} {T : TypeId} {C : List Value} (h : Below (w.alloc (.cells C.toArray T)).heap.size (w.alloc (.cells C.toArray T)) w1) : RowIn w w1 w.heap.size T C :=
  ⟨(Row.new w T C).kept (grownBy_of_below h none) (by simp), tx_below (grownBy_of_below h none)⟩
theorem row_news {W : World} {g : Nat} {T : TypeId} {xs : List Value} (h : Row W g T xs) : ∀ j u, xs[j]? = some u → W.cell? ((⟨g, 0, none⟩ : Addr).add j) = some u := by
  intro j u hj
  obtain ⟨hlt, he⟩ := List.getElem?_eq_some_iff.1 hj
  have e : (⟨g, 0, none⟩ : Addr).add j = ⟨g, j, none⟩ := by unfold Addr.add; split <;> simp_all
  rw [e, h.cell j hlt, he]
theorem texts_one (L : List (List UInt8)) : ∀ u ∈ L.map S, u.oneCell' = true := by
  intro u hu
  obtain ⟨s, _, rfl⟩ := List.mem_map.1 hu
  rfl
theorem own_keeps {w0 W W' : World} {base n : Nat} {v : Value} {xs : List Value} {g : Nat} {T : TypeId} {C : List Value} (h : RowIn w0 W g T C) (hT : T ≠ 9) (hown : W.ownsRow base 9 1 v n xs) (hb : w0.heap.size ≤ base) (hg : W.grownBy W' v.ownBlock) : RowIn w0 W' g T C :=
  h.grown hg (fun k hk => Nat.le_trans hb (hown.lt k hk).1) (apart_of h.1 hT hown)
theorem list_owned (L : List (List UInt8)) {base k : Nat} {v : Value} {W : World} {xs : List Value} (hx : xs = L.map S) (h : W.ownsRow base 9 1 v (k + 1) xs) (hk : k + 1 = L.length) :
    Calls Tryd.prog 56 #[v] W fun e w' => e = .returned (.tuple #[S (Oct.listE L).1, .int .i64 (Oct.listE L).2]) ∧ Below W.heap.size W w' := by
  subst hx
  obtain ⟨g, cap, rfl⟩ := ownsRow_succ h
  exact list_own L base g (k + 1) cap W h hk
theorem no_row_below {base k : Nat} {W W' : World} {T : TypeId} {xs : List Value} (h : Row W k T xs) (hb : Below base W W') (hk : k < base) : Row W' k T xs := (hb.block k hk).trans h
end Go.Proofs.YtdekcicgiflnbaaDoor
