/- What a sequencer makes of all that comes, as plain data. -/
import Derived.Test.YtoicpidiejhjeaaPlOpen
namespace Go.Proofs.Ytoicpidiejhjeaa
open Go.RowKit
set_option linter.unusedVariables false
set_option linter.unusedSimpArgs false
set_option maxRecDepth 100000

namespace Pl
structure St where
  l : List Wt
  nx : List Int
  out : List Wt
  gone : List Wt
  now : Nat
  put : Nat
def nxf (N : List Int) (i : Int) : Int := N.getD i.toNat 0
/-- one more comes out, if any is ready -/
def one (s : St) : St := match best s.l s.now (nxf s.nx) s.l.length with
  | none => s
  | some b => { s with l := (s.l.eraseIdx (pos s.l b.ix)).map (raise b), nx := s.nx.set b.tx.frm.toNat (nxf s.nx b.tx.frm + 1), out := s.out ++ [b] }
def dr (s : St) : Nat → St
  | 0 => s
  | k + 1 => one (dr s k)
def wt (x : Come18) (i now : Nat) : Wt := ⟨x.tx, i, now + x.stay, now + x.delay, i⟩
def tickE (s : St) : St := { s with now := s.now + 1, gone := s.gone ++ old s.l (s.now + 1 : Nat), l := young s.l (s.now + 1 : Nat) }
def putS (size : Nat) (w : Wt) (s : St) : St :=
  { s with l := Pl.put size s.l w, put := if putE size s.l w = 0 then s.put + 1 else s.put, gone := if putF size s.l w = true then s.gone ++ [putG size s.l w] else s.gone }
def step (size n : Nat) (x : Come18) (i : Nat) (s : St) : St := if x.tick = true then tickE (dr s (n + 1)) else putS size (wt x i s.now) s
def init : St := ⟨[], List.replicate 64 0, [], [], 0, 0⟩
def cz : Come18 := ⟨false, Tx.none, 0, 0⟩
def runs (size : Nat) (L : List Come18) : Nat → St
  | 0 => init
  | k + 1 => step size L.length (L.getD k cz) k (runs size L k)
theorem one_none {s : St} (h : best s.l s.now (nxf s.nx) s.l.length = none) : one s = s := by unfold one; rw [h]
theorem one_some {s : St} {b : Wt} (h : best s.l s.now (nxf s.nx) s.l.length = some b) : one s = { s with l := (s.l.eraseIdx (pos s.l b.ix)).map (raise b), nx := s.nx.set b.tx.frm.toNat (nxf s.nx b.tx.frm + 1), out := s.out ++ [b] } := by unfold one; rw [h]
theorem one_now (s : St) : (one s).now = s.now := by unfold one; split <;> rfl
theorem one_put (s : St) : (one s).put = s.put := by unfold one; split <;> rfl
theorem one_gone (s : St) : (one s).gone = s.gone := by unfold one; split <;> rfl
theorem dr_now (s : St) (k : Nat) : (dr s k).now = s.now := by
  induction k with
  | zero => rfl
  | succ k ih => unfold dr; rw [one_now, ih]
theorem dr_put (s : St) (k : Nat) : (dr s k).put = s.put := by
  induction k with
  | zero => rfl
  | succ k ih => unfold dr; rw [one_put, ih]
theorem dr_stop (s : St) (k : Nat) (h : best (dr s k).l (dr s k).now (nxf (dr s k).nx) (dr s k).l.length = none) : ∀ m, k ≤ m → dr s m = dr s k := by
  intro m hm
  obtain ⟨j, rfl⟩ := Nat.exists_eq_add_of_le hm
  clear hm
  induction j with
  | zero => rfl
  | succ j ih =>
    show one (dr s (k + j)) = _
    rw [ih, one_none h]
/-- how many of somebody are in a list -/
def cnt (l : List Wt) (f : Int) : Nat := l.countP (fun w => decide (w.tx.frm = f))
/-- what always holds -/
structure Inv (size : Nat) (L : List Come18) (k : Nat) (s : St) : Prop where
  ok : Ok size s.l
  nx : s.nx.length = 64
  ix : ∀ w ∈ s.l, w.ix < k
  now : s.now ≤ k
  sum : s.out.length + s.gone.length + s.l.length = s.put
  put : s.put ≤ k
  ends : ((s.out ++ s.gone ++ s.l).map Wt.ix).Nodup
  whole : ∀ w ∈ s.out ++ s.gone ++ s.l, w.Ok ∧ May w ∧ w.ix < k ∧ w.tx = (L.getD w.ix.toNat cz).tx
  count : ∀ f : Int, 0 ≤ f → f ≤ 63 → nxf s.nx f = cnt s.out f
  nonce : ∀ i (hi : i < s.out.length), s.out[i].tx.nonce = cnt (s.out.take i) s.out[i].tx.frm
  ord : ∀ i (hi : i + 1 < s.out.length), ¬ Lt s.out[i + 1] s.out[i]
  lastAt : ∀ b, s.out.getLast? = some b → b.at_ ≤ s.now ∧ ∀ w ∈ s.l, nxf s.nx w.tx.frm = w.tx.nonce → ¬ Lt w b
theorem Inv.init (size : Nat) (L : List Come18) : Inv size L 0 Pl.init :=
  ⟨Ok.nil size, rfl, by simp [Pl.init], Nat.le_refl _, rfl, Nat.le_refl _, by simp [Pl.init], by simp [Pl.init], fun f h0 h1 => by
    unfold Pl.init nxf cnt
    simp only [List.countP_nil]
    rw [List.getD_eq_getElem?_getD, List.getElem?_replicate]
    split <;> rfl, by simp [Pl.init], by simp [Pl.init], by simp [Pl.init]⟩
theorem perm_erase {l : List Wt} {q : Nat} (h : q < l.length) : l.Perm (l[q] :: l.eraseIdx q) := by
  rw [List.eraseIdx_eq_take_drop_succ]
  have e : l = l.take q ++ l[q] :: l.drop (q + 1) := by rw [← List.drop_eq_getElem_cons h, List.take_append_drop]
  exact (List.Perm.of_eq e).trans List.perm_middle
theorem cnt_push (l : List Wt) (b : Wt) (f : Int) : cnt (l ++ [b]) f = cnt l f + if b.tx.frm = f then 1 else 0 := by
  unfold cnt
  rw [List.countP_append, List.countP_singleton]
  simp
theorem nxf_set {N : List Int} (hl : N.length = 64) {f g : Int} (hf : 0 ≤ f ∧ f ≤ 63) (hg : 0 ≤ g ∧ g ≤ 63) (z : Int) : nxf (N.set f.toNat z) g = if f = g then z else nxf N g := by
  unfold nxf
  rw [List.getD_eq_getElem?_getD, List.getElem?_set]
  by_cases h : f = g
  · subst h
    rw [if_pos rfl, if_pos rfl, if_pos (by omega)]
    rfl
  · rw [if_neg (by omega), if_neg h, List.getD_eq_getElem?_getD]
theorem raise_not {b w : Wt} : ¬ (raise b w ≠ w ∧ Lt (raise b w) b) := by
  rintro ⟨h1, h2⟩
  unfold raise at h1 h2
  split at h2
  · unfold Lt at h2; simp at h2
  · rename_i h; rw [if_neg h] at h1; exact h1 rfl
/-- one more comes out -/
theorem Inv.one {size k : Nat} {L : List Come18} {s : St} (h : Inv size L k s) : Inv size L k (Pl.one s) := by
  cases hb : best s.l s.now (nxf s.nx) s.l.length with
  | none => rw [one_none hb]; exact h
  | some b =>
    rw [one_some hb]
    obtain ⟨hm, hr⟩ := best_mem (Nat.le_refl _) hb
    have hbo := h.ok.may b hm
    obtain ⟨q, hq, hqe⟩ := List.getElem_of_mem hm
    have hpq : pos s.l b.ix = q := by rw [← hqe]; exact pos_has h.ok.srt hq
    have hp := perm_erase hq
    rw [hqe] at hp
    have hfr := hbo.2.frm
    have hmem : ∀ w, w ∈ s.l.eraseIdx q → w ∈ s.l := fun w hw => List.mem_of_mem_eraseIdx hw
    have hlen : (s.l.eraseIdx q).length + 1 = s.l.length := by rw [List.length_eraseIdx, if_pos hq]; omega
    rw [hpq]
    have hmp : ((s.out ++ s.gone ++ s.l).map Wt.ix).Perm (((s.out ++ [b]) ++ s.gone ++ (s.l.eraseIdx q).map (raise b)).map Wt.ix) := by
      have e : ((s.l.eraseIdx q).map (raise b)).map Wt.ix = (s.l.eraseIdx q).map Wt.ix := by
        rw [List.map_map]
        exact List.map_congr_left (fun w _ => raise_ix b w)
      rw [List.map_append, List.map_append, List.map_append, List.map_append, List.map_append, e]
      have h1 := hp.map Wt.ix
      refine (h1.append_left _).trans ?_
      simp only [List.map_cons, List.map_nil, List.append_assoc, List.singleton_append]
      refine List.Perm.append_left _ ?_
      exact List.perm_middle
    refine ⟨(h.ok.sub (List.eraseIdx_sublist _ _)).map_raise b hbo.1 hbo.2, by rw [List.length_set]; exact h.nx, fun w hw => ?_, h.now, ?_, h.put, hmp.nodup_iff.1 h.ends, fun w hw => ?_, fun f h0 h1 => ?_, fun i hi => ?_, fun i hi => ?_, fun c hc => ?_⟩
    · obtain ⟨y, hy, rfl⟩ := List.mem_map.1 hw
      rw [raise_ix]
      exact h.ix y (hmem y hy)
    · have := h.sum
      simp only [List.length_append, List.length_map, List.length_cons, List.length_nil]
      omega
    · simp only [List.mem_append, List.mem_cons, List.not_mem_nil, or_false] at hw
      rcases hw with ((hw | rfl) | hw) | hw
      · exact h.whole w (by simp [hw])
      · exact h.whole w (by simp [hm])
      · exact h.whole w (by simp [hw])
      · obtain ⟨y, hy, rfl⟩ := List.mem_map.1 hw
        have hy2 := h.whole y (by simp [hmem y hy])
        refine ⟨?_, ?_, by rw [raise_ix]; exact hy2.2.2.1, by rw [raise_tx, raise_ix]; exact hy2.2.2.2⟩
        · unfold raise
          split
          · exact ⟨hy2.1.tx, hy2.1.ix, hy2.1.till, hbo.1.at_, hbo.1.place⟩
          · exact hy2.1
        · unfold raise
          split
          · exact ⟨hy2.2.1.1, hy2.2.1.2.1, hy2.2.1.2.2.1, hbo.2.2.2.2.1, hbo.2.2.2.2.2⟩
          · exact hy2.2.1
    · rw [nxf_set h.nx hfr ⟨h0, h1⟩, cnt_push]
      by_cases e : b.tx.frm = f
      · rw [if_pos e, if_pos e, h.count _ hfr.1 hfr.2, e]; simp
      · rw [if_neg e, if_neg e, h.count f h0 h1]; simp
    · have hi' : i < (s.out ++ [b]).length := hi
      show ((s.out ++ [b])[i]'hi').tx.nonce = cnt ((s.out ++ [b]).take i) ((s.out ++ [b])[i]'hi').tx.frm
      by_cases hi2 : i < s.out.length
      · rw [List.getElem_append_left hi2, List.take_append_of_le_length (by omega)]
        exact h.nonce i hi2
      · have hi3 := hi'
        rw [List.length_append, List.length_cons, List.length_nil] at hi3
        have e : i = s.out.length := by omega
        have e1 : (s.out ++ [b])[i]'hi' = b := by simp [e]
        rw [e1, e, List.take_append_of_le_length (Nat.le_refl _), List.take_of_length_le (Nat.le_refl _), ← h.count _ hfr.1 hfr.2]
        exact hr.2.symm
    · have hi' : i + 1 < (s.out ++ [b]).length := hi
      show ¬ Lt ((s.out ++ [b])[i + 1]'hi') ((s.out ++ [b])[i]'(Nat.lt_of_succ_lt hi'))
      by_cases hi2 : i + 1 < s.out.length
      · rw [List.getElem_append_left hi2, List.getElem_append_left (Nat.lt_of_succ_lt hi2)]
        exact h.ord i hi2
      · have hi3 := hi'
        rw [List.length_append, List.length_cons, List.length_nil] at hi3
        have e : i + 1 = s.out.length := by omega
        have hil : i < s.out.length := by omega
        have e1 : (s.out ++ [b])[i + 1]'hi' = b := by simp [e]
        rw [e1, List.getElem_append_left hil]
        have hl : s.out.getLast? = some s.out[i] := by
          rw [List.getLast?_eq_getElem?]
          have : s.out.length - 1 = i := by omega
          rw [this, List.getElem?_eq_getElem hil]
        exact (h.lastAt _ hl).2 b hm hr.2
    · have hc' : (s.out ++ [b]).getLast? = some c := hc
      rw [List.getLast?_concat] at hc'
      injection hc' with hc'
      subst hc'
      refine ⟨hr.1, fun w hw hn => ?_⟩
      obtain ⟨y, hy, rfl⟩ := List.mem_map.1 hw
      have hyl := hmem y hy
      have hyo := h.ok.may y hyl
      rw [raise_tx] at hn
      rw [nxf_set h.nx hfr hyo.2.frm] at hn
      by_cases e : b.tx.frm = y.tx.frm
      · rw [if_pos e, hr.2] at hn
        intro hlt
        unfold raise at hlt
        by_cases c3 : Lt y b
        · rw [if_pos ⟨e.symm, hn.symm, c3⟩] at hlt
          unfold Lt at hlt
          simp at hlt
        · rw [if_neg (fun q => c3 q.2.2)] at hlt
          exact c3 hlt
      · rw [if_neg e] at hn
        intro hlt
        unfold raise at hlt
        rw [if_neg (fun q => e q.1.symm)] at hlt
        by_cases hat : y.at_ ≤ s.now
        · obtain ⟨j, hj, hje⟩ := List.getElem_of_mem hyl
          obtain ⟨b2, hb2, hnl⟩ := best_least (Nat.le_refl _) j hj hj (show Rdy s.now (nxf s.nx) s.l[j] by rw [hje]; exact ⟨hat, hn⟩)
          rw [hb] at hb2
          injection hb2 with hb2
          subst hb2
          rw [hje] at hnl
          exact hnl hlt
        · have := hr.1
          unfold Lt at hlt
          omega
theorem Inv.dr {size k : Nat} {L : List Come18} {s : St} (h : Inv size L k s) : ∀ m, Inv size L k (Pl.dr s m)
  | 0 => h
  | m + 1 => (Inv.dr h m).one
theorem Inv.mono {size k k' : Nat} {L : List Come18} {s : St} (h : Inv size L k s) (hk : k ≤ k') : Inv size L k' s :=
  ⟨h.ok, h.nx, fun w hw => by have := h.ix w hw; omega, Nat.le_trans h.now hk, h.sum, Nat.le_trans h.put hk, h.ends, fun w hw => by
    obtain ⟨a, b, c, d⟩ := h.whole w hw
    exact ⟨a, b, by omega, d⟩, h.count, h.nonce, h.ord, h.lastAt⟩
theorem old_young_perm (l : List Wt) (now : Int) : l.Perm (old l now ++ young l now) := by
  unfold old young
  exact (List.filter_append_perm (fun w => decide (w.till < now)) l).symm
theorem Inv.tick {size k : Nat} {L : List Come18} {s : St} (h : Inv size L k s) : Inv size L (k + 1) (tickE s) := by
  have hp := old_young_perm s.l (s.now + 1 : Nat)
  have hsub : ∀ w ∈ young s.l (s.now + 1 : Nat), w ∈ s.l := fun w hw => by unfold young at hw; exact (List.mem_filter.1 hw).1
  have hsub2 : ∀ w ∈ old s.l (s.now + 1 : Nat), w ∈ s.l := fun w hw => by unfold old at hw; exact (List.mem_filter.1 hw).1
  have hpp : (s.out ++ s.gone ++ s.l).Perm (s.out ++ (s.gone ++ old s.l (s.now + 1 : Nat)) ++ young s.l (s.now + 1 : Nat)) := by
    rw [List.append_assoc, List.append_assoc, List.append_assoc]
    exact (hp.append_left _).append_left _
  refine ⟨h.ok.young _, h.nx, fun w hw => by have := h.ix w (hsub w hw); omega, by show s.now + 1 ≤ k + 1; have := h.now; omega, ?_, Nat.le_succ_of_le h.put, (hpp.map Wt.ix).nodup_iff.1 h.ends, fun w hw => ?_, h.count, h.nonce, h.ord, fun b hb => ?_⟩
  · have h1 := hpp.length_eq
    have h2 := h.sum
    show s.out.length + (s.gone ++ old s.l (s.now + 1 : Nat)).length + (young s.l (s.now + 1 : Nat)).length = s.put
    simp only [List.length_append] at h1 ⊢
    omega
  · obtain ⟨a, b, c, d⟩ := h.whole w (hpp.mem_iff.2 hw)
    exact ⟨a, b, by omega, d⟩
  · obtain ⟨h1, h2⟩ := h.lastAt b hb
    refine ⟨?_, fun w hw => h2 w (hsub w hw)⟩
    show b.at_ ≤ ((s.now + 1 : Nat) : Int)
    omega
theorem Inv.putting {size k : Nat} {L : List Come18} {s : St} (hp : 0 < size) (hk : k ≤ 200) (h : Inv size L k s) (x : Come18) (hx : x.Fits) (hL : L.getD k cz = x) (hb : ∀ b, s.out.getLast? = some b → b.at_ < s.now) : Inv size L (k + 1) (putS size (wt x k s.now) s) := by
  have hnow := h.now
  have hw : (wt x k s.now).Ok := by
    refine ⟨hx.tx, ?_, ?_, ?_, ?_⟩ <;> (have := hx.delay; have := hx.stay; unfold wt Tx.fits; simp only; omega)
  have hgt : ∀ y ∈ s.l, ¬ Lt y (wt x k s.now) ∨ True := fun y _ => .inr trivial
  by_cases he : putE size s.l (wt x k s.now) = 0
  rotate_left
  · have e1 : Pl.put size s.l (wt x k s.now) = s.l := by unfold Pl.put; rw [if_neg he]
    have e2 : putF size s.l (wt x k s.now) = false := by unfold putF; simp [he]
    have e : putS size (wt x k s.now) s = s := by
      unfold putS
      rw [e1, if_neg he, e2]
      rfl
    rw [e]
    exact h.mono (Nat.le_succ k)
  · have hmay : May (wt x k s.now) := by
      by_cases q : May (wt x k s.now)
      · exact q
      · unfold putE at he; rw [if_pos q] at he; cases he
    -- what goes, what stays
    have key : ∃ L1 G, Pl.put size s.l (wt x k s.now) = ins L1 (wt x k s.now) ∧ (if putF size s.l (wt x k s.now) = true then s.gone ++ [putG size s.l (wt x k s.now)] else s.gone) = s.gone ++ G ∧ s.l.Perm (G ++ L1) ∧ L1.Sublist s.l := by
      by_cases hf : full size s.l = true
      · have hlt : poor s.l s.l.length < s.l.length := poor_lt _ _ (by unfold full at hf; simp at hf; omega)
        refine ⟨s.l.eraseIdx (poor s.l s.l.length), [g s.l (poor s.l s.l.length)], ?_, ?_, ?_, List.eraseIdx_sublist _ _⟩
        · unfold Pl.put; rw [if_pos he, if_pos hf]
        · rw [if_pos (by unfold putF; rw [he, hf]; rfl)]
          unfold putG
          rw [if_pos ⟨he, hf⟩]
        · rw [g_eq hlt]
          exact perm_erase hlt
      · refine ⟨s.l, [], ?_, ?_, List.Perm.refl _, List.Sublist.refl _⟩
        · unfold Pl.put; rw [if_pos he, if_neg hf]
        · rw [if_neg (by unfold putF; rw [he]; simpa using hf), List.append_nil]
    obtain ⟨L1, G, k1, k2, k3, k4⟩ := key
    have hok := h.ok.put hw hp
    unfold putS
    rw [k1] at hok ⊢
    rw [k2, if_pos he]
    generalize hW : wt x k s.now = W at *
    have hWix : W.ix = k := by rw [← hW]; rfl
    have hWtx : W.tx = x.tx := by rw [← hW]; rfl
    have hWat : (s.now : Int) ≤ W.at_ := by rw [← hW]; have := hx.delay; unfold wt; simp only; omega
    have hpp : (W :: (s.out ++ s.gone ++ s.l)).Perm (s.out ++ (s.gone ++ G) ++ ins L1 W) := by
      have p1 : (s.out ++ s.gone ++ s.l).Perm (s.out ++ (s.gone ++ G) ++ L1) := by
        rw [List.append_assoc, List.append_assoc, List.append_assoc]
        exact (k3.append_left _).append_left _
      refine (p1.cons W).trans ?_
      refine List.perm_middle.symm.trans ?_
      exact (ins_perm L1 W).symm.append_left _
    have hnew : ∀ w ∈ s.out ++ s.gone ++ s.l, w.ix < k := fun w hw => (h.whole w hw).2.2.1
    refine ⟨hok, h.nx, fun w hw => ?_, Nat.le_succ_of_le h.now, ?_, by show s.put + 1 ≤ k + 1; have := h.put; omega, ?_, fun w hw => ?_, h.count, h.nonce, h.ord, fun b hb2 => ?_⟩
    · rcases ins_mem.1 hw with rfl | hw
      · rw [hWix]; omega
      · have := h.ix w (k4.subset hw); omega
    · have := hpp.length_eq
      have h2 := h.sum
      show s.out.length + (s.gone ++ G).length + (ins L1 W).length = s.put + 1
      simp only [List.length_append, List.length_cons] at this ⊢
      omega
    · refine (hpp.map Wt.ix).nodup_iff.1 ?_
      rw [List.map_cons, List.nodup_cons]
      refine ⟨fun hm => ?_, h.ends⟩
      obtain ⟨y, hy, hye⟩ := List.mem_map.1 hm
      have := hnew y hy
      omega
    · have hw2 := hpp.mem_iff.2 hw
      rcases List.mem_cons.1 hw2 with rfl | hw2
      · refine ⟨‹_›, hmay, by rw [hWix]; omega, ?_⟩
        rw [hWix, hWtx]
        simp only [Int.toNat_natCast]
        rw [hL]
      · obtain ⟨a, b, c, d⟩ := h.whole w hw2
        exact ⟨a, b, by omega, d⟩
    · obtain ⟨h1, h2⟩ := h.lastAt b hb2
      refine ⟨h1, fun w hw hn => ?_⟩
      rcases ins_mem.1 hw with rfl | hw
      · have := hb b hb2
        unfold Lt
        omega
      · exact h2 w (k4.subset hw) hn
/-- what comes out, does so ahead of now -/
def Past (s : St) : Prop := ∀ b, s.out.getLast? = some b → b.at_ < s.now
/-- what holds behind each -/
theorem runs_inv {size : Nat} (hp : 0 < size) (L : List Come18) (hL : ∀ x ∈ L, x.Fits) : ∀ k, k ≤ 200 → k ≤ L.length → Inv size L k (runs size L k) ∧ Past (runs size L k) := by
  intro k
  induction k with
  | zero => intro _ _; exact ⟨Inv.init size L, by intro b hb; simp [runs, init] at hb⟩
  | succ k ih =>
    intro hk hkl
    obtain ⟨h1, h2⟩ := ih (by omega) (by omega)
    have hx : (L.getD k cz).Fits := by
      rw [List.getD_eq_getElem?_getD, List.getElem?_eq_getElem (by omega)]
      exact hL _ (List.getElem_mem (by omega))
    show Inv size L (k + 1) (step size L.length (L.getD k cz) k (runs size L k)) ∧ Past (step size L.length (L.getD k cz) k (runs size L k))
    unfold step
    by_cases ht : (L.getD k cz).tick = true
    · rw [if_pos ht]
      refine ⟨(h1.dr (L.length + 1)).tick, fun b hb => ?_⟩
      have := ((h1.dr (L.length + 1)).lastAt b hb).1
      show b.at_ < ((_ + 1 : Nat) : Int)
      omega
    · rw [if_neg ht]
      exact ⟨h1.putting hp (by omega) _ hx rfl h2, h2⟩
end Pl
end Go.Proofs.Ytoicpidiejhjeaa
