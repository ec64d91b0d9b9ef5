/- disk: names, Names. -/
import Derived.Test.YtpphljdnnlfjhaaDoorDiskRead
import Derived.Sort.OwnSorted
namespace Go.Proofs.YtpphljdnnlfjhaaDoor
open Go.RowKit Go.Maps Go.Sort
set_option maxRecDepth 100000
set_option linter.unusedVariables false
set_option linter.unusedSimpArgs false

theorem strInfo : (Tryd.prog.info? 9).map (fun i => (i.zero, i.size, i.bytes)) = some (some (.string ⟨#[]⟩), 1, 16) := by kernel_rfl
theorem parts9 {i : Option TypeInfo} {z : Option Value} {a b : Nat} (h : i.map (fun i => (i.zero, i.size, i.bytes)) = some (z, a, b)) : ∃ i0, i = some i0 ∧ i0.zero = z ∧ i0.size = a ∧ i0.bytes = b := by
  obtain ⟨i0, hi, h2⟩ := Option.map_eq_some_iff.1 h
  simp only [Prod.mk.injEq] at h2
  exact ⟨i0, hi, h2.1, h2.2.1, h2.2.2⟩
theorem one_new9 (w : World) (x : Value) (e : TypeId) : ∀ (j : Nat) (u : Value), [x][j]? = some u → (w.alloc (.cells #[x] e)).cell? ((⟨w.heap.size, 0, none⟩ : Addr).add j) = some u := by
  intro j u hj
  match j, hj with
  | 0, hj => simp at hj; subst hj; simp [Addr.add]
set_option maxRecDepth 20000 in
set_option maxHeartbeats 1600000 in
theorem names_in9 {w : World} {B g M : Nat} {V : Fl.Nm → Value} {l : List Fl} {r : Int} (hd : DiskIn w B g M V l r) :
    Calls Tryd.prog 38 #[.pointer (some ⟨g, 0, none⟩)] w fun e w' => ∃ v, e = .returned v ∧ w'.ownsRow w.heap.size 9 1 v l.length ((Fl.names l).map encStr) ∧ Below w.heap.size w w' := by
  obtain ⟨i0, hi, hz0, hz1, hz2⟩ := parts9 strInfo
  have Hi := Lib.hid hi; clear hi
  have Hz0 := Lib.hid hz0; clear hz0
  have Hz1 := Lib.hid hz1; clear hz1
  have Hz2 := Lib.hid hz2; clear hz2
  obtain ⟨s, hs, hk⟩ := hd.row
  obtain ⟨D, hD, hV⟩ := hd.map
  have hsz := View.size hD hV hd.sorted
  have hperm := View.perm hD hV hd.sorted
  have hlen := hd.len
  have hMl : M < w.heap.size := hD.lt
  have c0 : w.cell? ⟨g, 0, none⟩ = some (.map (some M)) := (DkAt.box hs).1
  have HS := Lib.hid hd.sorted
  have HD := Lib.hid hD
  have Hsz := Lib.hid hsz
  have Hperm := Lib.hid hperm
  clear hs hk hD hV hsz hperm hd
  go_enter Tryd.func38, Tryd.ntmps38
  go_wp2_with (first
    | (at_range; refine wpList_range_own _ rfl _ 58 rfl 9 75 lawS Tryd.underlying58 _ M l.length _ rfl HD.out ?_; intro w0 hrg0 hg0 hs0)
    | fail)
  have Hrg0 := Lib.hid hrg0
  have Hg0 := Lib.hid hg0
  clear hrg0 hg0 hs0
  try go_frame
  go_loopw [3] (fun v wr => ∃ (left : Lit → Bool) (cnt : Nat) (ss : List (List UInt8)), wr.ranges Tryd.prog 9 heldV M w.heap.size l.length D left cnt ∧ ss.length + cnt ≤ Maps.size D ∧
      wr.ownsRow w.heap.size 9 1 v ss.length (ss.map encStr) ∧ Collected D left ss ∧ Below w.heap.size w wr)
    (fun _ wr => wr.rangeLeft M w.heap.size)
  case atStart =>
    exact ⟨_, _, [], Hrg0.out, by simp, World.ownsRow_nil _ _ _ _, Collected.start D, (Below.refl _ _).grown Hg0.out (Nat.le_refl _) (fun j hj => by cases hj)⟩
  case round =>
    obtain ⟨left, cnt, ss, hrg, hcs, hrow, hC, hnx⟩ := hrel
    have Hrg := Lib.hid hrg
    have Hcs := Lib.hid hcs
    have Hrow := Lib.hid hrow
    have HC := Lib.hid hC
    have Hnx := Lib.hid hnx
    clear hrg hcs hrow hC hnx
    go_wp2_with (first
      | (at_next; refine wpList_next_ranges _ rfl _ rfl 9 lawS heldV encStr (fun v : Value => v) (fun key kl hk => by obtain ⟨x, hx, _⟩ := Maps.keyOf_str Tryd.underlying9 hk; exact ⟨x, hx⟩) (fun v y _ => ⟨v, rfl⟩) M w.heap.size l.length _ _ _ rfl Hrg.out ?_ ?_)
      | fail)
    · intro hc0 hl0
      have hp := HC.out.perm HD.out lawS Tryd.underlying9 hl0
      have hlen2 : ss.length = l.length := by
        have := (hp.trans Hperm.out.symm).length_eq
        simpa [Fl.names] using this
      have hms := HS.out.mergeSort (hp.trans Hperm.out.symm)
      rcases Hrow.out.2 with ⟨rfl, h0⟩ | ⟨q, cap, cur, rfl, hbase, hb, h1, h2, h3, h4⟩
      · have hl : l.length = 0 := by omega
        have hln : l = [] := List.eq_nil_of_length_eq_zero hl
        subst hln
        clear hp hlen2 hms hl0 hc0
        go_wp2_with fail
        refine (Tryd.slices_Sort_string_none none 0 _).mono ?_
        rintro _ w2 ⟨rfl, rfl⟩
        go_wp2_with fail
        go_ret
        exact ⟨_, rfl, World.ownsRow_nil _ _ _ _, Hnx.out⟩
      · have hH : Holds encStr wr q 0 ss.toArray := holds_of_block hb (by simpa using h4)
        have hgl : q < wr.heap.size := (Array.getElem?_eq_some_iff.1 hb).1
        have hc := Tryd.slices_Sort_string q 0 cap ss wr hH hgl (by omega)
        rw [hms, hlen2] at hc
        have hown2 : ∀ n os, (grow (putRow encStr (Sort.ahead wr n) q 0 (Fl.names l).toArray) os).ownsRow w.heap.size 9 1 (.slice (some ⟨q, 0, none⟩) ss.length cap) ss.length ((Fl.names l).map encStr) := fun n os =>
          ownsRow_sorted (by simp [Fl.names, hlen2]) hbase hb h1 h2 h3
        have hbel : ∀ n os, Below w.heap.size w (grow (putRow encStr (Sort.ahead wr n) q 0 (Fl.names l).toArray) os) := fun n os => Hnx.out.grown (grownBy_sorted _) Hnx.out.size (fun j hj => by cases hj; exact hbase)
        rw [hlen2] at hown2 ⊢
        have Hc := Lib.hid hc
        have Hown2 := Lib.hid hown2
        have Hbel := Lib.hid hbel
        clear hp hlen2 hms hl0 hc0 hb h1 h2 h3 h4 hH hc hown2 hbel
        go_wp2_with fail
        refine Hc.out.mono ?_
        rintro _ w2 ⟨rfl, nn, os, rfl⟩
        have ho := Hown2.out nn os
        have hb2 := Hbel.out nn os
        generalize grow (putRow encStr (Sort.ahead wr nn) q 0 (Fl.names l).toArray) os = w3 at *
        have Ho := Lib.hid ho
        have Hb2 := Lib.hid hb2
        clear ho hb2
        go_wp2_with fail
        go_ret
        exact ⟨_, rfl, Ho.out, Hb2.out⟩
    · intro x c kl yd yp w2 cnt2 hkey hlk hv hat hrg2 hlt hg2 hs2 hen
      obtain ⟨x', ex, rfl, _⟩ := Maps.keyOf_str Tryd.underlying9 hkey
      obtain rfl : x = x' := encStr_inj ex
      have hrow2 := Hrow.out.kept hg2 (Or.inr (row_ne_iter Hrow.out Hrg.out).symm)
      have hnx2 := Hnx.out.grown hg2 Hnx.out.size (fun j hj => by cases hj; exact Nat.le_refl _)
      have hC2 := HC.out.step hlk hat
      have hcs := Hcs.out
      have hsz := Hsz.out
      have hq9 : ss.length + 1 ≤ 9 := by omega
      have hq63 : ss.length + 1 ≤ maxLen := by unfold maxLen; omega
      have hwsz := hnx2.size
      have hwsz2 : w.heap.size ≤ (w2.alloc (.cells #[encStr x] 9)).heap.size := by simp; omega
      have Hrow2 := Lib.hid (hrow2.alloc (.cells #[encStr x] 9))
      have Hnx2 := Lib.hid hnx2
      have HC2 := Lib.hid hC2
      have Hrg2 := Lib.hid hrg2
      have Hlt := Lib.hid hlt
      have Hone := Lib.hid (one_new9 w2 (encStr x) 9)
      clear hkey hlk hv hat hrg2 hlt hg2 hs2 hrow2 hnx2 hC2 hcs hsz hwsz ex
      go_wp2_with (first
        | (at_builtin; refine wpList_append_own _ rfl _ _ 22 rfl w.heap.size 9 i0 (.string ⟨#[]⟩) 1 16 Tryd.underlying22 Hi.out Hz0.out Hz1.out Hz2.out rfl (by decide) _ _ _ rfl Hrow2.out ⟨w2.heap.size, 0, none⟩ 1 1 [encStr x] rfl rfl Hone.out (by simp [Value.oneCell', encStr]) hq63 (by omega) hwsz2 ?_; intro v' w3 hown' hg3 hnil3; go_frame)
        | fail)
      have hg4 : (w2.alloc (.cells #[encStr x] 9)).grownBy w3 u3.ownBlock := hg3
      have hrg3 := (Hrg2.out.alloc _).kept hg4 (row_ne_low Hrow2.out hMl) (row_ne_iter Hrow2.out (Hrg2.out.alloc _))
      have hcs := Hcs.out
      have hlt := Hlt.out
      refine ⟨⟨_, cnt2, ss ++ [x], hrg3, by simp; omega, by simpa using hown', HC2.out, ?_⟩, by rw [hrg3.left_eq, Hrg.out.left_eq]; exact hlt⟩
      exact (Hnx2.out.alloc Hnx2.out.size _).grown hg4 hwsz2 (fun j hj => (Hrow2.out.lt j hj).1)
/-- what Names tells -/
def namesR (l : List Fl) (r : Int) : List Fl.Nm := if r = 0 then [] else Fl.names l
theorem wrong9 {w : World} {B g M : Nat} {V : Fl.Nm → Value} {l : List Fl} {r : Int} (hd : DiskIn w B g M V l r) : Calls Tryd.prog 31 #[.pointer (some ⟨g, 0, none⟩)] w fun e w' => e = .returned (.int .i64 (if r = 0 then 8 else 0)) ∧ w = w' := by
  obtain ⟨s, hs, hk⟩ := hd.row
  have := wrong_at hs
  rw [hk.down] at this
  by_cases h : r = 0
  · simpa [h] using this
  · simpa [h] using this
end Go.Proofs.YtpphljdnnlfjhaaDoor
