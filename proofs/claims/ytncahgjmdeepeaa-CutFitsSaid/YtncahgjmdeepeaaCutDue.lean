/- cut: Due. -/
import Derived.Test.YtncahgjmdeepeaaCutFits
import Derived.Laws.Rows
import Derived.Laws.Tables
namespace Go.Proofs.Ytncahgjmdeepeaa
open Go.RowKit
set_option linter.unusedVariables false
set_option linter.unusedSimpArgs false

namespace Cut
/-- is a receipt old? -/
def oldR (r : Rules) (now : Int) (x : Rc) : Bool := old x.time now r.age || (decide (x.kind = 2) && old x.time now r.lag)
def due (r : Rules) (now : Int) (l : List Rc) : Nat :=
  if fits r (lens l) = 0 ∨ fits r (lens l) < l.length ∨ (fits r (lens l) : Int) = r.parts then fits r (lens l) else if l.any (oldR r now) = true then fits r (lens l) else 0
end Cut
theorem rc_cells (x : Rc) (hr : x.rest.length = 64) (h1 : ∀ v ∈ x.rest, v.oneCell' = true) : (rcA x).size = 68 ∧ (rcA x).all (·.oneCell') = true := by
  refine ⟨by simp [rcA, rcL, hr], ?_⟩
  rw [Array.all_eq_true']
  intro v hv
  have hv' : v ∈ rcL x := by simpa [rcA] using hv
  unfold rcL at hv'
  rcases List.mem_append.1 hv' with h | h
  · simp at h
    rcases h with rfl | rfl | rfl | rfl <;> rfl
  · exact h1 v h
theorem wpList_store_rc {ops : Array Oper} {rest : List Oper} {o : Oper} {a : Act} {w : World} {Q : Exit → Act → World → Prop} (hgd : o.guard = none) (x y : Operand) (ho : o.op = .store 44 x y)
    (g : Nat) (z : Rc) (hx : a.eval x = .pointer (some ⟨g, 0, none⟩)) (hy : a.eval y = .agg (rcA z)) (hz : z.rest.length = 64) (h1 : ∀ v ∈ z.rest, v.oneCell' = true)
    (t : TypeId) (old : Array Value) (hg : w.heap[g]? = some (.cells old t (0, 0))) (hold : old.size = 68)
    (h : ∀ w', Row w' g t (rcL z) → w.grownBy w' (some g) → wpList Try.prog ops Q rest (a.put o.dst undef) w') : wpList Try.prog ops Q (o :: rest) a w := by
  obtain ⟨hs, ha⟩ := rc_cells z hz h1
  refine wpList_store_row hgd 44 x y ho g (rcA z) hx hy t old hg (by rw [rc_size, hs]) (by rw [hold, hs]) ha (h _ ?_ ?_)
  · exact setRow_heap w g old (rcA z) t (0, 0) hg
  · exact ⟨rfl, rfl, rfl, by simp, fun k _ hk => setRow_other w g k _ (fun e => hk (by rw [e]))⟩

/-- a receipt of zeros -/
def rcZero : Array Value := ([Value.int .i64 0, Value.int .i64 0, Value.int .i64 0, Value.string ByteArray.empty] ++ List.replicate 64 (Value.int .u8 0)).toArray
theorem rcZero_size : rcZero.size = 68 := by kernel_rfl
theorem rc_zero (w : World) : (zeroValue 44).run Try.prog w = .ok (.agg rcZero) w := by kernel_rfl
theorem rules_kept {w w4 : World} {B : Nat} {o : Obj} {xs : List Value} {t : TypeId} (h : Row w B t xs) (hg : (w.alloc o).grownBy w4 (some w.heap.size)) (hB : B ≠ w.heap.size) : Row w4 B t xs :=
  (h.kept (grownBy_alloc w o none) (by simp)).kept hg (by simpa using hB)
theorem new_below {w0 w w4 : World} {o : Obj} (h : Below w0.heap.size w0 w) (hg : (w.alloc o).grownBy w4 (some w.heap.size)) (hs : w0.heap.size ≤ w.heap.size) : Below w0.heap.size w0 w4 :=
  (h.alloc hs o).grown hg (by simp; omega) (fun k hk => by cases hk; exact hs)
theorem rc_time {w : World} {B : Nat} {t : TypeId} {x : Rc} (h : Row w B t (rcL x)) : w.cell? ⟨B, 2, none⟩ = some (.int .i64 x.time) := h.cell 2 (by simp [rcL])
theorem rc_kind {w : World} {B : Nat} {t : TypeId} {x : Rc} (h : Row w B t (rcL x)) : w.cell? ⟨B, 1, none⟩ = some (.int .i64 x.kind) := h.cell 1 (by simp [rcL])
theorem rules_age {w : World} {B : Nat} {t : TypeId} {p b a l : Int} (h : Row w B t [.int .i64 p, .int .i64 b, .int .i64 a, .int .i64 l]) : w.cell? ⟨B, 2, none⟩ = some (.int .i64 a) := h.cell 2 (by simp)
theorem rules_lag {w : World} {B : Nat} {t : TypeId} {p b a l : Int} (h : Row w B t [.int .i64 p, .int .i64 b, .int .i64 a, .int .i64 l]) : w.cell? ⟨B, 3, none⟩ = some (.int .i64 l) := h.cell 3 (by simp)

set_option maxRecDepth 20000 in
set_option maxHeartbeats 1600000 in
theorem cutDue_any (A : Option Addr) (c : Nat) (l : List Rc) (now : Int) (r : Cut.Rules) (w : World) (hl : RcsAt w A l) (hlen : l.length ≤ 9223372036854775807) (hn1 : now ≤ 9223372036854775807) :
    Calls Try.prog 13 #[.slice A l.length c, .int .i64 now, r.v] w fun e w' => e = .returned (.int .i64 (Cut.due r now l)) ∧ Below w.heap.size w w' := by
  have HL := Lib.hid hl
  clear hl
  obtain ⟨n, hn⟩ : ∃ n, n = Cut.fits r (lens l) := ⟨_, rfl⟩
  have hnl : n ≤ l.length := by rw [hn]; have := Cut.fits_le r (lens l); simpa [lens] using this
  have hFi : ∀ W, RcsAt W A l → Calls Try.prog 11 #[.slice A l.length c, r.v] W fun e w' => e = .returned (.int .i64 (n : Int)) ∧ Below W.heap.size W w' := fun W hW => by
    have := cutFits_any A c l r W hW hlen
    rw [← hn] at this
    exact this
  have hdue : Cut.due r now l = if n = 0 ∨ n < l.length ∨ (n : Int) = r.parts then n else if l.any (Cut.oldR r now) = true then n else 0 := by unfold Cut.due; rw [← hn]
  have hokn : n ≠ 0 → Cut.okR r = true := by
    intro h0
    rcases Bool.eq_false_or_eq_true (Cut.okR r) with e | e
    · exact e
    · exact absurd (by rw [hn]; unfold Cut.fits; rw [if_neg (by rw [e]; simp)]) h0
  obtain ⟨rp, rb, ra, rl⟩ := r
  unfold Cut.Rules.v at hFi ⊢
  simp only at hFi hdue ⊢
  have HFi := Lib.hid hFi
  have Hdue := Lib.hid hdue
  have Hokn := Lib.hid hokn
  clear hFi hdue hokn hn
  have fin : ∀ v : Nat, Cut.due ⟨rp, rb, ra, rl⟩ now l = v → ∀ W, Below w.heap.size w W → ∀ e, e = Ending.returned (.int .i64 (v : Int)) → e = Ending.returned (.int .i64 (Cut.due ⟨rp, rb, ra, rl⟩ now l)) ∧ Below w.heap.size w W := fun v hv W hW e he => ⟨by rw [hv]; exact he, hW⟩
  have Fin := Lib.hid fin
  clear fin
  go_enter Try.func13, Try.ntmps13
  go_wp2_with fail
  refine (HFi.out _ (HL.out.below ((Below.refl _ _).alloc (Nat.le_refl _) _))).mono ?_
  rintro _ w1 ⟨rfl, hb1⟩
  have hb1' : Below w.heap.size w w1 := ((Below.refl w.heap.size w).alloc (Nat.le_refl _) _).trans (hb1.mono (by simp))
  have hrow1 : Row w1 w.heap.size 24 [.int .i64 rp, .int .i64 rb, .int .i64 ra, .int .i64 rl] := (Row.new w _ _).below hb1
  have q0 : w1.cell? ⟨w.heap.size, 0, none⟩ = some (.int .i64 rp) := hrow1.cell 0 (by simp)
  have Hrow1 := Lib.hid hrow1
  have Hb1 := Lib.hid hb1'
  clear hb1 hb1' hrow1
  by_cases h0 : n = 0
  · have hres : Cut.due ⟨rp, rb, ra, rl⟩ now l = n := by rw [Hdue.out, if_pos (.inl h0)]
    have Hres := Lib.hid hres
    subst h0
    clear hres
    go_wp2_with fail
    go_ret
    exact Fin.out 0 Hres.out _ Hb1.out _ rfl
  · have hd0 : ((n : Int) == 0) = false := by simp; omega
    by_cases h1 : n < l.length
    · have hres : Cut.due ⟨rp, rb, ra, rl⟩ now l = n := by rw [Hdue.out, if_pos (.inr (.inl h1))]
      have Hres := Lib.hid hres
      have hd1 : (n : Int) < (l.length : Int) := by omega
      clear hres
      go_wp2_with fail
      go_ret
      exact Fin.out n Hres.out _ Hb1.out _ rfl
    · have hd1 : (l.length : Int) ≤ (n : Int) := by omega
      by_cases h2 : (n : Int) = rp
      · have hres : Cut.due ⟨rp, rb, ra, rl⟩ now l = n := by rw [Hdue.out, if_pos (.inr (.inr h2))]
        have Hres := Lib.hid hres
        have hd2 : ((n : Int) == rp) = true := by simpa using h2
        clear hres h2
        go_wp2_with fail
        go_ret
        exact Fin.out n Hres.out _ Hb1.out _ rfl
      · have hd2 : ((n : Int) == rp) = false := by simpa using h2
        have hok := Cut.okR_iff.1 (Hokn.out h0)
        simp only at hok
        have hany : Cut.due ⟨rp, rb, ra, rl⟩ now l = if l.any (Cut.oldR ⟨rp, rb, ra, rl⟩ now) = true then n else 0 := by rw [Hdue.out, if_neg (by rintro (h | h | h) <;> omega)]
        have Hany := Lib.hid hany
        clear hany h2
        go_wp2_with fail
        go_loopw [30] (fun i wr => ∃ k : Nat, k ≤ l.length ∧ i = .int .i64 k ∧ (∀ j (h : j < l.length), j < k → Cut.oldR ⟨rp, rb, ra, rl⟩ now l[j] = false) ∧ Row wr w.heap.size 24 [.int .i64 rp, .int .i64 rb, .int .i64 ra, .int .i64 rl] ∧ Below w.heap.size w wr) (fun i _ => l.length - (intOf i).toNat)
        case atStart => exact ⟨0, Nat.zero_le _, rfl, fun j _ hj => absurd hj (by omega), Hrow1.out, Hb1.out⟩
        case round =>
          obtain ⟨k, hk, rfl, hall, hrow, hb⟩ := hrel
          have Hall := Lib.hid hall
          have Hrow := Lib.hid hrow
          have Hb := Lib.hid hb
          clear hall hrow hb q0
          by_cases hlt : k < l.length
          · have hki : (k : Int) < (l.length : Int) := by omega
            have hne : l ≠ [] := by intro e; rw [e] at hlt; simp at hlt
            obtain ⟨b, off, rfl, hblt, hc⟩ := (HL.out) hne
            obtain ⟨hra, hrest, hbody, hone⟩ := hc k hlt
            have hnext : Cut.oldR ⟨rp, rb, ra, rl⟩ now l[k] = false → ∀ j (h : j < l.length), j < k + 1 → Cut.oldR ⟨rp, rb, ra, rl⟩ now l[j] = false := by
              intro h j hj hjk
              by_cases e : j < k
              · exact Hall.out j hj e
              · obtain rfl : j = k := by omega
                exact h
            have hhit : Cut.oldR ⟨rp, rb, ra, rl⟩ now l[k] = true → Cut.due ⟨rp, rb, ra, rl⟩ now l = n := by
              intro h
              rw [Hany.out, if_pos (List.any_eq_true.2 ⟨l[k], List.getElem_mem hlt, h⟩)]
            obtain ⟨x, hxe⟩ : ∃ x, x = l[k] := ⟨_, rfl⟩
            rw [← hxe] at hra hrest hbody hone hnext hhit
            have hrr : wr.rangeAt b (off + k * 68) (rcL x) := fun j v hv => (Hb.out.cell (p := ⟨b, _, none⟩) hblt).trans (hra j v hv)
            have hlen68 : (Try.prog.info? 44).map (·.size) = some (rcL x).length := by rw [rc_size]; simp [rcL, hrest]
            have Hrr := Lib.hid hrr
            have H68 := Lib.hid hlen68
            have Hnext := Lib.hid hnext
            have Hhit := Lib.hid hhit
            have Hone := Lib.hid hone
            have Hrest := Lib.hid hrest
            have hsz := Hb.out.size
            have hrlt := Hrow.out.lt
            clear hc hra hrest hxe hrr hlen68 hne hnext hhit hone
            have hzv := rc_zero
            have hold : ∀ b1 b2 : Bool, Cut.old x.time now ra = b1 → (x.kind = 2 → Cut.old x.time now rl = b2) → Cut.oldR ⟨rp, rb, ra, rl⟩ now x = (b1 || (decide (x.kind = 2) && b2)) := by
              intro b1 b2 h1 h2
              unfold Cut.oldR
              simp only [h1]
              by_cases e : x.kind = 2
              · simp only [h2 e]
              · simp [e]
            rcases Bool.eq_false_or_eq_true (Cut.old x.time now ra) with o1 | o1
            · have hres := Hhit.out (by rw [hold true (Cut.old x.time now rl) o1 (fun _ => rfl)]; rfl)
              have Hres := Lib.hid hres
              have O1 := Lib.hid o1
              clear hold hres o1
              go_wp2_with (first
                | (refine wpList_load_rc rfl 44 (.tmp 32) rfl b (off + k * 68) rfl x _ Hrr.out Try.underlying44 rfl H68.out ?_)
                | (refine wpList_store_rc rfl (.tmp 9) (.tmp 33) rfl wr.heap.size x rfl rfl Hrest.out Hone.out 44 _ (heap_alloc_new _ _) rcZero_size ?_; intro w4 hx4 hg4; have hrow4 := rules_kept Hrow.out hg4 (by omega); have hb4 := new_below Hb.out hg4 hsz; have ct := rc_time hx4; have ck := rc_kind hx4; have qa := rules_age hrow4; have ql := rules_lag hrow4; have Hrow4 := Lib.hid hrow4; have Hb4 := Lib.hid hb4; clear hx4 hg4 hrow4 hb4))
              refine (old_any x.time now ra _ (by omega) (by omega) hn1).mono ?_
              rintro _ w5 ⟨rfl, rfl⟩
              rw [O1.out]
              go_wp2_with fail
              go_ret
              exact Fin.out n Hres.out _ Hb4.out _ rfl
            · by_cases hk2 : x.kind = 2
              · rcases Bool.eq_false_or_eq_true (Cut.old x.time now rl) with o2 | o2
                · have hres := Hhit.out (by rw [hold false true o1 (fun _ => o2), hk2]; rfl)
                  have Hres := Lib.hid hres
                  have O1 := Lib.hid o1
                  have O2 := Lib.hid o2
                  clear hold hres o1 o2
                  have dk : (x.kind == 2) = true := by rw [hk2]; rfl
                  clear hk2
                  go_wp2_with (first
                    | (refine wpList_load_rc rfl 44 (.tmp 32) rfl b (off + k * 68) rfl x _ Hrr.out Try.underlying44 rfl H68.out ?_)
                    | (refine wpList_store_rc rfl (.tmp 9) (.tmp 33) rfl wr.heap.size x rfl rfl Hrest.out Hone.out 44 _ (heap_alloc_new _ _) rcZero_size ?_; intro w4 hx4 hg4; have hrow4 := rules_kept Hrow.out hg4 (by omega); have hb4 := new_below Hb.out hg4 hsz; have ct := rc_time hx4; have ck := rc_kind hx4; have qa := rules_age hrow4; have ql := rules_lag hrow4; have Hrow4 := Lib.hid hrow4; have Hb4 := Lib.hid hb4; clear hx4 hg4 hrow4 hb4))
                  refine (old_any x.time now ra _ (by omega) (by omega) hn1).mono ?_
                  rintro _ w5 ⟨rfl, rfl⟩
                  rw [O1.out]
                  go_wp2_with fail
                  refine (old_any x.time now rl _ (by omega) (by omega) hn1).mono ?_
                  rintro _ w5 ⟨rfl, rfl⟩
                  rw [O2.out]
                  go_wp2_with fail
                  go_ret
                  exact Fin.out n Hres.out _ Hb4.out _ rfl
                · have hres := Hnext.out (by rw [hold false false o1 (fun _ => o2), hk2]; rfl)
                  have Hres := Lib.hid hres
                  have O1 := Lib.hid o1
                  have O2 := Lib.hid o2
                  clear hold hres o1 o2
                  have dk : (x.kind == 2) = true := by rw [hk2]; rfl
                  clear hk2
                  go_wp2_with (first
                    | (refine wpList_load_rc rfl 44 (.tmp 32) rfl b (off + k * 68) rfl x _ Hrr.out Try.underlying44 rfl H68.out ?_)
                    | (refine wpList_store_rc rfl (.tmp 9) (.tmp 33) rfl wr.heap.size x rfl rfl Hrest.out Hone.out 44 _ (heap_alloc_new _ _) rcZero_size ?_; intro w4 hx4 hg4; have hrow4 := rules_kept Hrow.out hg4 (by omega); have hb4 := new_below Hb.out hg4 hsz; have ct := rc_time hx4; have ck := rc_kind hx4; have qa := rules_age hrow4; have ql := rules_lag hrow4; have Hrow4 := Lib.hid hrow4; have Hb4 := Lib.hid hb4; clear hx4 hg4 hrow4 hb4))
                  refine (old_any x.time now ra _ (by omega) (by omega) hn1).mono ?_
                  rintro _ w5 ⟨rfl, rfl⟩
                  rw [O1.out]
                  go_wp2_with fail
                  refine (old_any x.time now rl _ (by omega) (by omega) hn1).mono ?_
                  rintro _ w5 ⟨rfl, rfl⟩
                  rw [O2.out]
                  go_wp2_with fail
                  exact ⟨⟨k + 1, hlt, by go_num, Hres.out, Hrow4.out, Hb4.out⟩, by simp [intOf]; omega⟩
              · have hres := Hnext.out (by rw [hold false false o1 (fun e => absurd e hk2)]; simp)
                have Hres := Lib.hid hres
                have O1 := Lib.hid o1
                have dk : (x.kind == 2) = false := by simpa using hk2
                clear hold hres o1 hk2
                go_wp2_with (first
                  | (refine wpList_load_rc rfl 44 (.tmp 32) rfl b (off + k * 68) rfl x _ Hrr.out Try.underlying44 rfl H68.out ?_)
                  | (refine wpList_store_rc rfl (.tmp 9) (.tmp 33) rfl wr.heap.size x rfl rfl Hrest.out Hone.out 44 _ (heap_alloc_new _ _) rcZero_size ?_; intro w4 hx4 hg4; have hrow4 := rules_kept Hrow.out hg4 (by omega); have hb4 := new_below Hb.out hg4 hsz; have ct := rc_time hx4; have ck := rc_kind hx4; have qa := rules_age hrow4; have ql := rules_lag hrow4; have Hrow4 := Lib.hid hrow4; have Hb4 := Lib.hid hb4; clear hx4 hg4 hrow4 hb4))
                refine (old_any x.time now ra _ (by omega) (by omega) hn1).mono ?_
                rintro _ w5 ⟨rfl, rfl⟩
                rw [O1.out]
                go_wp2_with fail
                exact ⟨⟨k + 1, hlt, by go_num, Hres.out, Hrow4.out, Hb4.out⟩, by simp [intOf]; omega⟩
          · have hki : (l.length : Int) ≤ (k : Int) := by omega
            have hres : Cut.due ⟨rp, rb, ra, rl⟩ now l = 0 := by
              rw [Hany.out, if_neg]
              intro h
              obtain ⟨y, hy, hyo⟩ := List.any_eq_true.1 h
              obtain ⟨j, hj, rfl⟩ := List.mem_iff_getElem.1 hy
              rw [Hall.out j hj (by omega)] at hyo
              cases hyo
            have Hres := Lib.hid hres
            clear hres
            go_wp2_with fail
            go_ret
            exact Fin.out 0 Hres.out _ Hb.out _ rfl
end Go.Proofs.Ytncahgjmdeepeaa
