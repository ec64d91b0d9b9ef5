/- post: New, due. -/
import Derived.Test.YtedncgidjllapaaPostMap
namespace Go.Proofs.Ytedncgidjllapaa
open Go.RowKit Go.Maps
set_option linter.unusedVariables false
set_option linter.unusedSimpArgs false

def badNew (p win : Int) : Bool := decide (p < 1) || (decide (4096 < p) || (decide (win < 1) || decide (64 < win)))
theorem postNew_ok (p win : Int) (w : World) (h1 : 1 ≤ p) (h2 : p ≤ 4096) (h3 : 1 ≤ win) (h4 : win ≤ 64) :
    Calls Try.prog 7 #[.int .i64 p, .int .i64 win] w fun e w' =>
      e = .returned (.tuple #[.pointer (some ⟨w.heap.size + 1, 0, none⟩), .int .i64 0]) ∧ PosterAt w' (w.heap.size + 1) w.heap.size p win Post.none_ 0 ∧ w.grownBy w' none := by
  have d1 : decide (p < 1) = false := by simp only [decide_eq_false_iff_not]; omega
  have d2 : decide (4096 < p) = false := by simp only [decide_eq_false_iff_not]; omega
  have d3 : decide (win < 1) = false := by simp only [decide_eq_false_iff_not]; omega
  have d4 : decide (64 < win) = false := by simp only [decide_eq_false_iff_not]; omega
  have hmm := @run_makeMap Try.prog
  go_enter Try.func7, Try.ntmps7
  go_wp2_with fail
  go_ret2
  have hm := World.ownsMap_made (H := Unit) w Try.prog 3 (plainElem Try.prog 3)
  have e1 : (w.alloc (.map #[] 0)).heap.size = w.heap.size + 1 := by simp
  have hr := Row.new (w.alloc (.map #[] 0)) 40 [.int .i64 p, .int .i64 win, .map (some w.heap.size)]
  rw [e1] at hr
  exact ⟨rfl, ⟨hr, ⟨_, hm.kept (grownBy_alloc _ _ none) (by simp), Reads.empty⟩, Post.none_ok⟩, (grownBy_alloc _ _ _).trans (grownBy_alloc _ _ _)⟩

theorem lit_c {x : DataW Unit} {c c' : Int} (h : x = .lit (.int .i64 c)) (h' : x = .lit (.int .i64 c')) : c = c' := by
  rw [h] at h'
  injection h' with h'
  injection h'
theorem zeroI (w : World) : (zeroValue 3).run Try.prog w = .ok (.int .i64 0) w := by kernel_rfl

set_option maxHeartbeats 800000 in
theorem due_any (n h : Int) (w : World) (B M N : Nat) (p win : Int) (f : Post.Out) (hP : PosterAt w B M p win f N) (hn0 : -9223372036854775808 ≤ n) (hn1 : n ≤ 9223372036854775807) (hh0 : 0 ≤ h) (hh1 : h ≤ 9223372036854775807) :
    Calls Try.prog 12 #[.pointer (some ⟨B, 0, none⟩), .int .i64 n, .int .i64 h] w fun e w' => e = .returned (.bool (Post.dueB f p n h)) ∧ w = w' := by
  have c0 := hP.c0
  have c2 := hP.c2
  obtain ⟨D, hown, hR⟩ := hP.2.1
  have hkey := keyOf_int_mk (P := Try.prog) Try.underlying3 (wf_i64 hn0 hn1)
  have hRn := hR.2 n
  have hok := hP.2.2 n
  unfold Post.dueB
  rcases hf : f n with _ | c
  · rw [hf] at hRn
    have hh := hRn.1
    have Hh := Lib.hid hh
    have Hown := Lib.hid hown
    have Hkey := Lib.hid hkey
    clear hP hR hRn hok hf hown hkey hh
    go_enter Try.func12, Try.ntmps12
    go_wp2_with (at_lookup; refine wpList_lookup_own_ok_int _ rfl _ _ 38 rfl 3 3 .i64 lawI Try.underlying38 Try.underlying3 (zeroI _) M N D rfl Hown.out _ _ rfl Hkey.out ?_; intro c hat hwc; rw [Hh.out])
    go_ret
    exact ⟨rfl, rfl⟩
  · rw [hf] at hRn
    have hh := hRn.1
    have hat := hRn.2 c rfl
    have hc := hok c hf
    have Hh := Lib.hid hh
    have Hat := Lib.hid hat
    have Hown := Lib.hid hown
    have Hkey := Lib.hid hkey
    clear hP hR hRn hok hf hown hkey hh hat
    have hb : 0 ≤ h ∧ 0 ≤ c := ⟨hh0, hc.1⟩
    by_cases h1 : h < c
    · have d1 : decide (h < c) = true := by simpa using h1
      go_enter Try.func12, Try.ntmps12
      go_wp2_with (at_lookup; refine wpList_lookup_own_ok_int _ rfl _ _ 38 rfl 3 3 .i64 lawI Try.underlying38 Try.underlying3 (zeroI _) M N D rfl Hown.out _ _ rfl Hkey.out ?_; intro c' hat hwc; rw [Hh.out]; obtain rfl := lit_c (Hat.out _) hat; clear hat hwc)
      go_ret
      refine ⟨?_, rfl⟩
      first | rfl | (rw [d1]; rfl)
    · have d1 : decide (h < c) = false := by simpa using h1
      go_enter Try.func12, Try.ntmps12
      go_wp2_with (at_lookup; refine wpList_lookup_own_ok_int _ rfl _ _ 38 rfl 3 3 .i64 lawI Try.underlying38 Try.underlying3 (zeroI _) M N D rfl Hown.out _ _ rfl Hkey.out ?_; intro c' hat hwc; rw [Hh.out]; obtain rfl := lit_c (Hat.out _) hat; clear hat hwc)
      go_ret
      refine ⟨?_, rfl⟩
      first | rfl | (rw [d1]; rfl)
end Go.Proofs.Ytedncgidjllapaa
