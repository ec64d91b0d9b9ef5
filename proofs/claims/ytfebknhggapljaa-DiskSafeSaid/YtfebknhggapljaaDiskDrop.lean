/- The reference of layer 9: drop. -/
import Derived.Test.YtfebknhggapljaaDiskRef
import Derived.Deep.DeepAppendWide
namespace Go.Proofs.Ytfebknhggapljaa
open Go.RowKit
set_option linter.unusedVariables false
set_option linter.unusedSimpArgs false

namespace Fl
theorem flat_snoc (l : List Fl) (f : Fl) : flat (l ++ [f]) = flat l ++ [Sb f.name, Sb f.b, .int .i64 f.safe] := by
  unfold flat
  rw [List.flatMap_append]
  simp [cells]
end Fl
theorem fl_info : ∃ i0 : TypeInfo, Try.prog.info? 60 = some i0 ∧ i0.zero = some (.agg #[.string ByteArray.empty, .string ByteArray.empty, .int .i64 0]) ∧ i0.size = 3 ∧ i0.bytes = 40 := by
  obtain ⟨i0, hi, h2⟩ := Option.map_eq_some_iff.1 (by kernel_rfl : (Try.prog.info? 60).map (fun i => (i.zero, i.size, i.bytes)) = some (some (.agg #[.string ByteArray.empty, .string ByteArray.empty, .int .i64 0]), 3, 40))
  simp only [Prod.mk.injEq] at h2
  exact ⟨i0, hi, h2.1, h2.2.1, h2.2.2⟩
theorem row_news9 {W : World} {g : Nat} {T : TypeId} {xs : List Value} (h : Row W g T xs) : ∀ j u, xs[j]? = some u → W.cell? ((⟨g, 0, none⟩ : Addr).add j) = some u := by
  intro j u hj
  obtain ⟨hlt, he⟩ := List.getElem?_eq_some_iff.1 hj
  have e : (⟨g, 0, none⟩ : Addr).add j = ⟨g, j, none⟩ := by unfold Addr.add; split <;> simp_all
  rw [e, h.cell j hlt, he]
theorem below_row9 {w w1 w2 : World} {base n : Nat} {e : TypeId} {size : Nat} {v : Value} {xs : List Value} (hb : Below base w w1) (hs : base ≤ w1.heap.size) (hown : w1.ownsRow base e size v n xs) (hg : w1.grownBy w2 v.ownBlock) : Below base w w2 :=
  hb.grown hg hs (fun k hk => (hown.lt k hk).1)
theorem ownsRow_succ9 {w : World} {base n size : Nat} {e : TypeId} {v : Value} {xs : List Value} (h : w.ownsRow base e size v (n + 1) xs) : ∃ g cap, v = .slice (some ⟨g, 0, none⟩) (n + 1) cap := by
  rcases h.2 with ⟨_, h0⟩ | ⟨g, cap, cur, rfl, _⟩
  · omega
  · exact ⟨g, cap, rfl⟩
set_option maxRecDepth 20000 in
set_option maxHeartbeats 800000 in
theorem drop9_any {w : World} {g lo : Nat} {v : Value} {left : Int} {l : List Fl} (nm : List UInt8) (h : RkAt w g v left) (hf : FlsAt w lo v l) (hl : l.length ≤ 1000) :
    Calls Try.prog 41 #[.pointer (some ⟨g, 0, none⟩), Sb nm] w fun e w' => e = .returned (.tuple #[]) ∧ ∃ v', RkAt w' g v' left ∧ FlsAt w' w.heap.size v' (Fl.drop l nm) ∧ w.grownBy w' (some g) := by
  obtain ⟨i0, hi, hz, hs, hby⟩ := fl_info
  have Hi := Lib.hid hi
  have Hz := Lib.hid hz
  have Hs := Lib.hid hs
  have Hby := Lib.hid hby
  obtain ⟨A, c, rfl⟩ := hf.form
  have HF := Lib.hid hf
  have HK := Lib.hid h
  have hc0 : w.cell? ⟨g, 0, none⟩ = some (.slice A l.length c) := Row.cell h 0 (by simp)
  have hgl : g < w.heap.size := Row.lt h
  obtain ⟨n, hn⟩ : ∃ n, n = l.length := ⟨_, rfl⟩
  rw [← hn] at hc0 hl
  have HC := Lib.hid hc0
  have HN := Lib.hid hn
  have HB0 : Hid (Below w.heap.size w w) := Below.refl _ _
  clear hi hz hs hby h hf hn hc0
  go_enter Try.func41, Try.ntmps41
  go_wp2_with fail
  go_loopw [4, 5] (fun u i wr => ∃ k : Nat, k ≤ n ∧ i = .int .i64 k ∧ wr.ownsRow w.heap.size 60 3 u (Fl.drop (l.take k) nm).length (Fl.flat (Fl.drop (l.take k) nm)) ∧ Below w.heap.size w wr) (fun _ i _ => n - (intOf i).toNat)
  case atStart => exact ⟨0, Nat.zero_le _, rfl, World.ownsRow_nil _ _ _ _, HB0.out⟩
  case round =>
    obtain ⟨k, hk, rfl, hown, hbr⟩ := hrel
    have c0 := (hbr.cell (p := ⟨g, 0, none⟩) hgl).trans HC.out
    have Hown := Lib.hid hown
    have Hbr := Lib.hid hbr
    clear hown hbr
    by_cases hkn : k < n
    · have hki : (k : Int) < (n : Int) := by omega
      have hkl : k < l.length := by rw [← HN.out]; exact hkn
      obtain ⟨b, rfl, _, hb, c1, c2, c3⟩ := HF.out.at k hkl
      have c1 := (Hbr.out.cell (p := ⟨b, k * 3, none⟩) hb).trans c1
      have c2 := (Hbr.out.cell (p := ⟨b, k * 3 + 1, none⟩) hb).trans c2
      have c3 := (Hbr.out.cell (p := ⟨b, k * 3 + 2, none⟩) hb).trans c3
      have htk : Fl.drop (l.take (k + 1)) nm = Fl.drop (l.take k) nm ++ (if l[k].name = nm then [] else [l[k]]) := by
        rw [List.take_succ_eq_append_getElem hkl]
        unfold Fl.drop
        rw [List.filter_append]
        congr 1
        by_cases he : l[k].name = nm <;> simp [he]
      have hle : (Fl.drop (l.take k) nm).length ≤ k := by
        unfold Fl.drop
        exact Nat.le_trans (List.length_filter_le _ _) (by rw [List.length_take]; omega)
      have Htk := Lib.hid htk
      generalize l[k] = f at *
      obtain ⟨fn, fb, fs⟩ := f
      simp only at c1 c2 c3 Htk
      generalize Fl.drop (l.take k) nm = D at *
      clear htk
      obtain ⟨q, hq⟩ : ∃ q, q = D.length := ⟨_, rfl⟩
      rw [← hq] at Hown hle
      have HQ := Lib.hid hq
      clear hq
      by_cases he : fn = nm
      · have Ht := Lib.hid (Htk.out.trans (by rw [if_pos he, List.append_nil] : _ = D))
        subst he
        clear Htk
        go_wp2_with fail
        exact ⟨⟨k + 1, hkn, by go_num, by rw [Ht.out, ← HQ.out]; exact Hown.out, Hbr.out⟩, by simp [intOf]; omega⟩
      · have Ht := Lib.hid (Htk.out.trans (by rw [if_neg he] : _ = D ++ [⟨fn, fb, fs⟩]))
        have heb : (fn == nm) = false := by simpa using he
        have heb2 : (fn != nm) = true := by simpa using he
        have hown2 := Hown.out.alloc (.cells #[Sb fn, Sb fb, .int .i64 fs] 60)
        have hb2 : Below w.heap.size w (wr.alloc (.cells #[Sb fn, Sb fb, .int .i64 fs] 60)) := Hbr.out.alloc Hbr.out.size _
        have hsz2 := hb2.size
        have hk63 : q + 1 ≤ maxLen := by unfold maxLen; omega
        have hk48 : ((q + 1) + (q + 1) / 4 + 192) * 40 ≤ 281474976710656 := by omega
        have Hnew := Lib.hid (row_news9 (Row.new wr 60 [Sb fn, Sb fb, .int .i64 fs]))
        have Hown2 := Lib.hid hown2
        have Hb2 := Lib.hid hb2
        clear Htk he hown2 hb2
        go_wp2_with (at_builtin; refine wpList_append_own_wide _ rfl (.tmp 25) (.tmp 33) 54 rfl w.heap.size 60 i0 (.agg #[.string ByteArray.empty, .string ByteArray.empty, .int .i64 0]) 3 40 Try.underlying54 Hi.out Hz.out Hs.out Hby.out rfl (by decide) _ _ _ rfl Hown2.out ⟨wr.heap.size, 0, none⟩ 1 1 [Sb fn, Sb fb, .int .i64 fs] rfl rfl Hnew.out (by intro u hu; simp at hu; rcases hu with rfl | rfl | rfl <;> rfl) hk63 hk48 hsz2 ?_
                     intro v' w3 hown3 hgrow3 _
                     obtain ⟨g', cp, rfl⟩ := ownsRow_succ9 hown3
                     have Hb3 := Lib.hid (below_row9 Hb2.out hsz2 Hown2.out hgrow3)
                     have Hown3 := Lib.hid hown3
                     clear hown3 hgrow3)
        exact ⟨⟨k + 1, hkn, by go_num, by rw [Ht.out, Fl.flat_snoc, List.length_append, ← HQ.out]; exact Hown3.out, Hb3.out⟩, by simp [intOf]; omega⟩
    · have hki : (n : Int) ≤ (k : Int) := by omega
      obtain rfl : k = n := by omega
      have htk : l.take k = l := List.take_of_length_le (by rw [← HN.out]; exact Nat.le_refl _)
      have hown := Hown.out
      rw [htk] at hown
      obtain ⟨A', c', rfl⟩ := FlsAt.form (l := Fl.drop l nm) hown
      have hr := Row.below HK.out Hbr.out
      have f0 := Row.free hr 0
      have hset := Row.set hr 0 (.slice A' (Fl.drop l nm).length c') (by simp)
      have hgs := grownBy_set wr g 0 (.slice A' (Fl.drop l nm).length c')
      have HS := Lib.hid hset
      have HG := Lib.hid (World.grownBy.trans (grownBy_of_below Hbr.out (some g)) hgs)
      have HO := Lib.hid (World.ownsRow.kept hown hgs (.inr (fun e => by have := (hown.lt _ e).1; omega)))
      clear hown hr hset hgs htk
      obtain ⟨q, hq⟩ : ∃ q, q = (Fl.drop l nm).length := ⟨_, rfl⟩
      rw [← hq] at HS HG HO
      have HQ := Lib.hid hq
      simp only [← hq]
      clear hq
      go_wp2_with fail
      (try simp only [Exit.inBlock, Exit.then])
      (first | refine bodyPost_end (results_none rfl _ _ _) rfl ?_ | go_ret)
      exact ⟨rfl, _, HS.out, (by unfold FlsAt; rw [← HQ.out]; exact HO.out), HG.out⟩
end Go.Proofs.Ytfebknhggapljaa
