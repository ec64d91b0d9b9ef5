/- Layer 9's law DiskApart: what it returns. -/
import Derived.Test.YtfebknhggapljaaDiskDo
namespace Go.Proofs.Ytfebknhggapljaa
open Go.RowKit Go.Maps
set_option linter.unusedVariables false
set_option linter.unusedSimpArgs false

theorem find_crash {l : List Fl} (hs : Fl.Sorted l) (ks : List Int) {nm : Fl.Nm} {f : Fl} (h : Fl.find l nm = some f) (hf : f.safe = f.b.length) : Fl.find (Fl.crashL l ks) nm = some f := by
  obtain ⟨i, hi, rfl⟩ := List.getElem_of_mem (Fl.find_mem h)
  have hn := Fl.find_name h
  have hcs : Fl.crashS l[i] (ks.getD i 0) = (l[i]).b.length := by unfold Fl.crashS; omega
  have e : Fl.crashF l[i] (ks.getD i 0) = l[i] := by
    unfold Fl.crashF
    rw [hcs]
    have : (l[i]).b.take ((l[i]).b.length : Int).toNat = (l[i]).b := by simp
    rw [this, ← hf]
  have hsc : Fl.Sorted (Fl.crashL l ks) := Fl.sorted_names (by rw [← Fl.mid_all, Fl.names_mid]) hs
  have hil : i < (Fl.crashL l ks).length := by simpa [Fl.crashL] using hi
  have hmem : l[i] ∈ Fl.crashL l ks := by
    have h1 : (Fl.crashL l ks)[i]? = some l[i] := by
      unfold Fl.crashL
      rw [List.getElem?_mapIdx, List.getElem?_eq_getElem hi]
      show some (Fl.crashF l[i] (ks.getD i 0)) = _
      rw [e]
    exact List.mem_of_getElem? h1
  have := hsc.find_of_mem hmem
  rw [hn] at this
  exact this
/-- a call that names another file leaves this one as it is -/
theorem apart_step {l : List Fl} (hs : Fl.Sorted l) (x : Act9) {o : Fl.Nm} {f : Fl} (h : Fl.find l o = some f) (hf : f.safe = f.b.length) (h1 : x.a.name ≠ o) (h2 : x.a.to ≠ o) (h5 : x.a.kind ≠ 5) : Fl.find (act9 x (l, -1)).1.1 o = some f ∧ (act9 x (l, -1)).1.2 = -1 := by
  have hn1 : ¬ ((-1 : Int) = 0) := by omega
  have ho : oneR (-1) = -1 := by rfl
  unfold act9
  by_cases k0 : x.a.kind = 0 ∨ x.a.kind = 1
  · rw [if_pos k0]
    unfold appendR
    rw [if_neg hn1]
    split
    · exact ⟨h, rfl⟩
    · split
      · exact ⟨h, rfl⟩
      · split
        · exact ⟨h, rfl⟩
        · refine ⟨?_, ho⟩
          show Fl.find (Fl.put l _) o = some f
          rw [Fl.find_put hs, if_neg h1]
          exact h
  · rw [if_neg k0]
    by_cases k2 : x.a.kind = 2
    · rw [if_pos k2]
      unfold syncR
      rw [if_neg hn1]
      rcases hx : Fl.find l x.a.name with _ | y
      · exact ⟨h, rfl⟩
      · refine ⟨?_, ho⟩
        show Fl.find (Fl.put l _) o = some f
        rw [Fl.find_put hs, if_neg h1]
        exact h
    · rw [if_neg k2]
      by_cases k3 : x.a.kind = 3
      · rw [if_pos k3]
        unfold renameR
        rw [if_neg hn1]
        rcases hx : Fl.find l x.a.name with _ | y
        · exact ⟨h, rfl⟩
        · simp only
          split
          · refine ⟨?_, ho⟩
            show Fl.find (Fl.put (Fl.drop l x.a.name) _) o = some f
            rw [Fl.find_put (hs.drop _), if_neg h2, Fl.find_drop, if_neg (fun e => h1 e.symm)]
            exact h
          · exact ⟨h, rfl⟩
      · rw [if_neg k3]
        by_cases k4 : x.a.kind = 4
        · rw [if_pos k4]
          unfold removeR
          rw [if_neg hn1]
          rcases hx : Fl.find l x.a.name with _ | y
          · exact ⟨h, rfl⟩
          · refine ⟨?_, ho⟩
            show Fl.find (Fl.drop l x.a.name) o = some f
            rw [Fl.find_drop, if_neg (fun e => h1 e.symm)]
            exact h
        · rw [if_neg k4, if_neg h5]
          exact ⟨find_crash hs x.ks h hf, rfl⟩
theorem DiskS.sorted {w : World} {B g : Nat} {S : Nat → Prop} {l : List Fl} {r : Int} (h : DiskS w B S g l r) : Fl.Sorted l := by
  obtain ⟨_, M, V, hd, _⟩ := h
  exact hd.sorted
theorem DiskS.len8 {w : World} {B g : Nat} {S : Nat → Prop} {l : List Fl} {r : Int} (h : DiskS w B S g l r) : l.length ≤ 8 := by
  obtain ⟨_, M, V, hd, _⟩ := h
  exact hd.len
theorem DiskS.ok {w : World} {B g : Nat} {S : Nat → Prop} {l : List Fl} {r : Int} (h : DiskS w B S g l r) : ∀ f ∈ l, FileOk f := by
  obtain ⟨_, M, V, hd, _⟩ := h
  exact hd.ok
theorem Act9.Fits.below {x : Act9} {w W : World} (h : x.Fits w) (hb : Below w.heap.size w W) : x.Fits W := by
  obtain ⟨h1, h2, h3, h4, A, c, e, hc⟩ := h
  refine ⟨h1, h2, h3, h4, A, c, e, fun hne => ?_⟩
  obtain ⟨b, off, rfl, hbl, hcs⟩ := hc hne
  exact ⟨b, off, rfl, Nat.lt_of_lt_of_le hbl hb.size, fun i hi => (hb.cell (p := ⟨b, off + i, none⟩) hbl).trans (hcs i hi)⟩
/-- a disk, and a reference's disk made just now -/
def Ready (w : World) (S : Nat → Prop) (g : Nat) (fs : List Fl) (r : Int) (W : World) (xg : Nat) : Prop :=
  BothS W W S (fun k => k = xg) w.heap.size g xg (fs, r) ([], -1) ∧ (∀ k, S k ∨ k = xg → k < W.heap.size ∧ w.heap.size ≤ k) ∧ Below w.heap.size w W
theorem new_ready {w W : World} {S : Nat → Prop} {g : Nat} {fs : List Fl} {r : Int} (hd : DiskS W w.heap.size S g fs r) (hb : Below w.heap.size w W) : Calls Try.prog 9 #[] W fun e w' => ∃ xg, e = .returned (.pointer (some ⟨xg, 0, none⟩)) ∧ Ready w S g fs r w' xg := by
  refine (rnew9 W w.heap.size hb.size).mono ?_
  rintro e w' ⟨rfl, hr, hb', hs⟩
  have hd' := hd.below hb'
  refine ⟨W.heap.size, rfl, BothS.start (v := .slice none 0 0) hd' (fun k hk => ?_) hr (fun k hk => ?_) (fun k hk e => ?_), fun k hk => ?_, hb.trans (hb'.mono hb.size)⟩
  · subst hk; exact ⟨hb.size, by omega⟩
  · rcases hk with h | h
    · exact h
    · cases h
  · have := (hd.1 k hk).2; omega
  · rcases hk with hk | rfl
    · exact ⟨(hd'.1 k hk).2, (hd'.1 k hk).1⟩
    · exact ⟨by omega, hb.size⟩
theorem do_ready {w W : World} {S : Nat → Prop} {g xg : Nat} {fs : List Fl} {r : Int} {x : Act9} (hx : x.Fits w) (h : Ready w S g fs r W xg) :
    Calls Try.prog 11 #[.pointer (some ⟨g, 0, none⟩), .pointer (some ⟨xg, 0, none⟩), x.v] W fun e w' => ∃ res, e = .returned (.bool res) ∧ (∃ S', DiskS w' w.heap.size S' g (act9 x (fs, r)).1.1 (act9 x (fs, r)).1.2) ∧ Below w.heap.size w w' := by
  obtain ⟨hB, hz, hb⟩ := h
  refine (do9_any x (hx.below hb) hB (fun k hk => (hz k hk).1) (fun bb off n c e hp hk => ?_)).mono ?_
  · obtain ⟨A, c9, e9, hc⟩ := hx.2.2.2.2
    rw [e] at e9
    injection e9 with e1 e2 e3
    obtain ⟨b9, o9, e4, hb9, _⟩ := hc (by intro h; rw [h] at e2; simp at e2; omega)
    rw [← e1] at e4
    injection e4 with e4
    injection e4 with e4
    subst e4
    have := (hz _ hk).2
    omega
  · rintro e w' ⟨res, rfl, _, S', T', v', hd', _, _, _, _, hc', _, _⟩
    refine ⟨res, rfl, ⟨S', hd'⟩, hb.trans (hc'.below hb.size (fun k hk => (hz k hk).2))⟩
/-- the calls' cells -/
theorem acts_at {w W : World} {v : Value} {l : List Act9} {A : Option Addr} {c b off : Nat} (hc : ∀ i (h : i < l.length), ∀ q, q < 6 → w.cell? ⟨b, off + i * 6 + q, none⟩ = (l[i]).cells[q]?) (hbl : b < w.heap.size) (hb : Below w.heap.size w W) {k : Nat} (hk : k < l.length) :
    W.cell? ⟨b, off + k * 6, none⟩ = some (.int .i64 (l[k]).a.kind) ∧ W.cell? ⟨b, off + k * 6 + 1, none⟩ = some (Sb (l[k]).a.name) ∧ W.cell? ⟨b, off + k * 6 + 2, none⟩ = some (Sb (l[k]).a.to) ∧ W.cell? ⟨b, off + k * 6 + 3, none⟩ = some (Sb (l[k]).a.s) ∧ W.cell? ⟨b, off + k * 6 + 4, none⟩ = some (.int .i64 (l[k]).a.n) ∧ W.cell? ⟨b, off + k * 6 + 5, none⟩ = some (.slice (l[k]).kA (l[k]).ks.length (l[k]).kc) :=
  ⟨(hb.cell (p := ⟨b, _, none⟩) hbl).trans (hc k hk 0 (by omega)), (hb.cell (p := ⟨b, _, none⟩) hbl).trans (hc k hk 1 (by omega)), (hb.cell (p := ⟨b, _, none⟩) hbl).trans (hc k hk 2 (by omega)), (hb.cell (p := ⟨b, _, none⟩) hbl).trans (hc k hk 3 (by omega)), (hb.cell (p := ⟨b, _, none⟩) hbl).trans (hc k hk 4 (by omega)), (hb.cell (p := ⟨b, _, none⟩) hbl).trans (hc k hk 5 (by omega))⟩
abbrev ownN : List UInt8 := [111, 119, 110]
theorem own1 (s : List UInt8) (hs : s.length ≤ 1000) : appendR [] (-1) ownN s = ([⟨ownN, s, 0⟩], -1, 0) := by
  have hw : Disk.word ownN = true := by rfl
  unfold appendR
  rw [if_neg (by omega), if_neg (by rw [hw]; simp)]
  have e1 : bytesR [] (-1) ownN = [] := by rfl
  have e2 : safeR [] (-1) ownN = 0 := by rfl
  rw [e1, e2, if_neg (by simp; omega), if_neg (by simp)]
  rfl
theorem own2 (s : List UInt8) : syncR [⟨ownN, s, 0⟩] (-1) ownN = ([⟨ownN, s, (s.length : Int)⟩], -1, 0) := by
  have hf : Fl.find [⟨ownN, s, 0⟩] ownN = some ⟨ownN, s, 0⟩ := by rfl
  unfold syncR
  rw [if_neg (by omega), hf]
  simp only
  unfold Fl.put
  rw [if_neg (Fl.nm_irrefl _), if_pos rfl]
  rfl
set_option maxRecDepth 20000 in
set_option maxHeartbeats 3200000 in
theorem diskApart_any (v : Value) (l : List Act9) (s : List UInt8) (w : World) (hl : ActsV w v l) (hlen : l.length ≤ 9223372036854775807) (hs : s.length ≤ 140737488351232) :
    Calls Try.prog 6 #[v, Sb s] w fun e w' => e = .returned (.bool true) ∧ Below w.heap.size w w' := by
  obtain ⟨A, c, rfl, hfit, hL⟩ := hl
  by_cases hbig : 1000 < s.length
  · have d1 : decide ((1000 : Int) < (s.length : Int)) = true := by rw [decide_eq_true_eq]; omega
    clear hfit hL hlen
    go_enter Try.func6, Try.ntmps6
    go_wp2_with fail
    refine (new9 w w.heap.size (Nat.le_refl _)).mono ?_
    rintro _ w1 ⟨rfl, hd1, hb1, hs1⟩
    have Hb1 := Lib.hid hb1
    clear hd1 hb1 hs1
    go_wp2_with fail
    refine (awake9 _).mono ?_
    rintro _ w2 ⟨rfl, hb⟩
    have Hb2 := Lib.hid (Hb1.out.trans (hb.mono Hb1.out.size))
    clear hb
    go_wp2_with fail
    refine (awake9 _).mono ?_
    rintro _ w3 ⟨rfl, hb⟩
    have Hb3 := Lib.hid (Hb2.out.trans (hb.mono Hb2.out.size))
    clear hb
    go_wp2_with fail
    go_ret
    exact ⟨rfl, Hb3.out⟩
  · have d1 : decide ((1000 : Int) < (s.length : Int)) = false := by rw [decide_eq_false_iff_not]; omega
    have Hs : Hid (s.length ≤ 1000) := Lib.hid (by omega)
    have Hss := Lib.hid hs
    have HL := Lib.hid hL
    have HFit := Lib.hid hfit
    obtain ⟨n, hn⟩ : ∃ n, n = l.length := ⟨_, rfl⟩
    rw [← hn] at hlen ⊢
    have Hn := Lib.hid hn
    clear hbig hs hL hfit hn
    go_enter Try.func6, Try.ntmps6
    go_wp2_with fail
    refine (new9 w w.heap.size (Nat.le_refl _)).mono ?_
    rintro _ w1 ⟨rfl, hd1, hb1, hs1⟩
    obtain ⟨g, hg⟩ : ∃ g, g = w.heap.size + 1 := ⟨_, rfl⟩
    rw [← hg] at hd1 ⊢
    have Hd1 := Lib.hid hd1
    have Hb1 := Lib.hid hb1
    clear hd1 hb1 hs1 hg
    go_wp2_with fail
    refine (awake9 _).mono ?_
    rintro _ w2 ⟨rfl, hb⟩
    have Hd2 := Lib.hid (Hd1.out.below hb)
    have Hb2 := Lib.hid (Hb1.out.trans (hb.mono Hb1.out.size))
    clear hb
    go_wp2_with fail
    refine (append_S ownN s Hd2.out (by simp) Hss.out).mono ?_
    rintro _ w3 ⟨rfl, hd3, hc3⟩
    rw [own1 s Hs.out] at hd3 ⊢
    have Hd3 := Lib.hid hd3
    have Hb3 := Lib.hid (Hb2.out.trans (hc3.below Hd2.out.Ble (fun k hk => (Hd2.out.1 k hk).1)))
    clear hd3 hc3
    go_wp2_with fail
    refine (sync_S ownN Hd3.out (by unfold maxLen; simp)).mono ?_
    rintro _ w4 ⟨rfl, hd4, hc4⟩
    rw [own2 s] at hd4 ⊢
    have hz4 : ∃ S fs, DiskS w4 w.heap.size S g fs (-1) ∧ Fl.find fs ownN = some ⟨ownN, s, (s.length : Int)⟩ := ⟨_, _, hd4, by rfl⟩
    have Hz4 := Lib.hid hz4
    have Hb4 := Lib.hid (Hb3.out.trans (hc4.below Hd3.out.Ble (fun k hk => (Hd3.out.1 k hk).1)))
    clear hd4 hc4 hz4
    go_wp2_with fail
    go_loopw [6] (fun i wr => ∃ k : Nat, k ≤ n ∧ k ≤ 60 ∧ i = .int .i64 k ∧ (∃ S fs, DiskS wr w.heap.size S g fs (-1) ∧ Fl.find fs ownN = some ⟨ownN, s, (s.length : Int)⟩) ∧ Below w.heap.size w wr) (fun i _ => 60 - (intOf i).toNat)
    case atStart => exact ⟨0, Nat.zero_le _, Nat.zero_le _, rfl, Hz4.out, Hb4.out⟩
    case round =>
      obtain ⟨k, hk, hk60, rfl, ⟨S, fs, hd, hf⟩, hbr⟩ := hrel
      have Hd := Lib.hid hd
      have Hf := Lib.hid hf
      have Hbr := Lib.hid hbr
      clear hd hf hbr Hz4
      by_cases hlt : k < n ∧ k < 60
      · obtain ⟨hlt, hlt2⟩ := hlt
        have hki : (k : Int) < (n : Int) := by omega
        have hki2 : (k : Int) < 60 := by omega
        have hkl : k < l.length := by rw [← Hn.out]; exact hlt
        obtain ⟨b, off, rfl, hbl, hc⟩ := HL.out (by intro e; rw [e] at hkl; simp at hkl)
        have hcs := fun W (h : Below w.heap.size w W) => acts_at (v := .int .i64 0) (A := none) (c := 0) hc hbl h hkl
        have hfx := HFit.out _ (List.getElem_mem hkl)
        generalize hx : l[k] = x at *
        have Hfx := Lib.hid hfx
        have Hcs := Lib.hid hcs
        obtain ⟨q0, q1, q2, q3, q4, q5⟩ := hcs _ Hbr.out
        clear hc hcs hfx hx
        by_cases hskip : x.a.name ≠ ownN ∧ x.a.to ≠ ownN ∧ x.a.kind ≠ 5
        · obtain ⟨h1, h2, h5⟩ := hskip
          have hap := apart_step Hd.out.sorted x Hf.out rfl h1 h2 h5
          have b1 : (x.a.name == ownN) = false := by simpa using h1
          have b2 : (x.a.to == ownN) = false := by simpa using h2
          have b5 : (x.a.kind == 5) = false := by simpa using h5
          have Hap := Lib.hid hap
          have hN : Hid (∀ W, DiskS W w.heap.size S g fs (-1) → Below w.heap.size w W → Calls Try.prog 9 #[] W fun e w' => ∃ xg, e = .returned (.pointer (some ⟨xg, 0, none⟩)) ∧ Ready w S g fs (-1) w' xg) := Lib.hid fun W h1 h2 => new_ready h1 h2
          have hD : Hid (∀ W xg, Ready w S g fs (-1) W xg → Calls Try.prog 11 #[.pointer (some ⟨g, 0, none⟩), .pointer (some ⟨xg, 0, none⟩), .agg #[.int .i64 x.a.kind, Sb x.a.name, Sb x.a.to, Sb x.a.s, .int .i64 x.a.n, .slice x.kA x.ks.length x.kc]] W fun e w' => ∃ res, e = .returned (.bool res) ∧ (∃ S', DiskS w' w.heap.size S' g (act9 x (fs, -1)).1.1 (act9 x (fs, -1)).1.2) ∧ Below w.heap.size w w') := Lib.hid fun W xg h => do_ready Hfx.out h
          obtain ⟨R, hR⟩ : ∃ R, R = (act9 x (fs, -1)).1 := ⟨_, rfl⟩
          rw [← hR] at hD Hap
          have hF : Hid (∀ W, Below w.heap.size w W → W.cell? ⟨b, off + k * 6, none⟩ = some (.int .i64 x.a.kind) ∧ W.cell? ⟨b, off + k * 6 + 1, none⟩ = some (Sb x.a.name) ∧ W.cell? ⟨b, off + k * 6 + 2, none⟩ = some (Sb x.a.to) ∧ W.cell? ⟨b, off + k * 6 + 3, none⟩ = some (Sb x.a.s) ∧ W.cell? ⟨b, off + k * 6 + 4, none⟩ = some (.int .i64 x.a.n) ∧ W.cell? ⟨b, off + k * 6 + 5, none⟩ = some (.slice x.kA x.ks.length x.kc)) := Lib.hid fun W h => Hcs.out W h
          clear hR hap h1 h2 h5
          generalize x.a.kind = ak at *
          generalize x.a.name = an at *
          generalize x.a.to = at_ at *
          generalize x.a.s = as_ at *
          generalize x.a.n = am at *
          generalize x.kA = kA at *
          generalize x.kc = kc at *
          obtain ⟨kn, hkn⟩ : ∃ kn, kn = x.ks.length := ⟨_, rfl⟩
          rw [← hkn] at hD hF q5
          clear hkn Hcs Hfx
          go_wp2_with fail
          have hS0 := hF.out _ Hbr.out.drew
          have hd0 : DiskS wr.drew w.heap.size S g fs (-1) := Hd.out.below (Below.refl _ _).drew
          have hb0 := Hbr.out.drew
          clear q0 q1 q2 q3 q4 q5
          go_region_held3 (fun w' => w'.cell? ⟨b, off + k * 6, none⟩ = some (.int .i64 ak) ∧ w'.cell? ⟨b, off + k * 6 + 1, none⟩ = some (Sb an) ∧ w'.cell? ⟨b, off + k * 6 + 2, none⟩ = some (Sb at_) ∧ w'.cell? ⟨b, off + k * 6 + 3, none⟩ = some (Sb as_) ∧ w'.cell? ⟨b, off + k * 6 + 4, none⟩ = some (.int .i64 am) ∧ w'.cell? ⟨b, off + k * 6 + 5, none⟩ = some (.slice kA kn kc))
            (first | assumption | exact hS0 | exact (hF.out _ (And.right (And.right (by assumption)))) | exact (hF.out _ (by assumption)))
            (first
              | (go_at_call 9; with_reducible refine Calls.mono (hN.out _ hd0 hb0) ?_; rintro e w' ⟨xg, rfl, hrd⟩)
              | (go_at_call 11; with_reducible refine Calls.mono (hD.out _ _ (by assumption)) ?_; rintro e w' ⟨res, rfl, hds, hbs⟩))
          all_goals
            obtain ⟨S', hds'⟩ := hds
            have hnext : ∃ S fs, DiskS w' w.heap.size S g fs (-1) ∧ Fl.find fs ownN = some ⟨ownN, s, (s.length : Int)⟩ := ⟨S', R.1, by have := Hap.out.2; rw [this] at hds'; exact hds', Hap.out.1⟩
            have Hnext := Lib.hid hnext
            have Hbs := Lib.hid hbs
            clear hds' hnext hbs hrd
            rename_i hHeld
            clear hHeld
            go_wp2_with fail
            exact ⟨⟨k + 1, hlt, hlt2, by go_num, Hnext.out, Hbs.out⟩, by simp [intOf]; omega⟩
        · have hw : x.a.name = ownN ∨ (x.a.name ≠ ownN ∧ x.a.to = ownN) ∨ (x.a.name ≠ ownN ∧ x.a.to ≠ ownN ∧ x.a.kind = 5) := by
            by_cases e1 : x.a.name = ownN
            · exact .inl e1
            · by_cases e2 : x.a.to = ownN
              · exact .inr (.inl ⟨e1, e2⟩)
              · refine .inr (.inr ⟨e1, e2, ?_⟩)
                by_cases e3 : x.a.kind = 5
                · exact e3
                · exact absurd ⟨e1, e2, e3⟩ hskip
          have Hnext : Hid (∃ S fs, DiskS wr w.heap.size S g fs (-1) ∧ Fl.find fs ownN = some ⟨ownN, s, (s.length : Int)⟩) := Lib.hid ⟨S, fs, Hd.out, Hf.out⟩
          clear hskip Hcs Hfx q3 q4 q5
          rcases hw with e1 | ⟨e1, e2⟩ | ⟨e1, e2, e3⟩
          · rw [e1] at q1
            clear e1 q2
            go_wp2_with fail
            exact ⟨⟨k + 1, hlt, hlt2, by go_num, Hnext.out, Hbr.out⟩, by simp [intOf]; omega⟩
          · have b1 : (x.a.name == ownN) = false := by simpa using e1
            rw [e2] at q2
            clear e1 e2
            generalize x.a.name = an at *
            go_wp2_with fail
            exact ⟨⟨k + 1, hlt, hlt2, by go_num, Hnext.out, Hbr.out⟩, by simp [intOf]; omega⟩
          · have b1 : (x.a.name == ownN) = false := by simpa using e1
            have b2 : (x.a.to == ownN) = false := by simpa using e2
            rw [e3] at q0
            clear e1 e2 e3
            generalize x.a.name = an at *
            generalize x.a.to = at_ at *
            go_wp2_with fail
            exact ⟨⟨k + 1, hlt, hlt2, by go_num, Hnext.out, Hbr.out⟩, by simp [intOf]; omega⟩
      · have hsel : (n : Int) ≤ (k : Int) ∨ ((k : Int) < (n : Int) ∧ (60 : Int) ≤ (k : Int)) := by omega
        have e1 : bytesR fs (-1) ownN = s := by unfold bytesR; rw [if_neg (by omega), Hf.out]
        have e2 : codeR fs (-1) ownN = 0 := by unfold codeR; rw [if_neg (by omega), Hf.out]; rfl
        have e3 : safeR fs (-1) ownN = (s.length : Int) := by unfold safeR; rw [if_neg (by omega), Hf.out]
        have hR := fun (W : World) (h : Below wr.heap.size wr W) => read_S ownN (Hd.out.below h) (by unfold maxLen; simp)
        have hS := fun (W : World) (h : Below wr.heap.size wr W) => safe_S ownN (Hd.out.below h) (by unfold maxLen; simp)
        rw [e1, e2] at hR
        rw [e2, e3] at hS
        have HR := Lib.hid hR
        have HS := Lib.hid hS
        clear e1 e2 e3 hR hS hlt
        rcases hsel with hki | ⟨hki, hki2⟩
        all_goals
          go_wp2_with fail
          refine (HR.out _ (Below.refl _ _)).mono ?_
          rintro _ w5 ⟨rfl, hb5⟩
          have Hb5 := Lib.hid hb5
          clear hb5
          go_wp2_with fail
          refine (HS.out _ Hb5.out).mono ?_
          rintro _ w6 ⟨rfl, hb6⟩
          have Hb6 := Lib.hid (Hbr.out.trans ((Hb5.out.trans (hb6.mono Hb5.out.size)).mono Hbr.out.size))
          clear hb6
          go_wp2_with fail
          go_ret
          exact ⟨by simp, Hb6.out⟩
theorem diskApart_open (v : Value) (l : List Act9) (s : ByteArray) (W : World) (hl : ActsV W v l) (hn : l.length ≤ 9223372036854775807) (hs : s.size ≤ 140737488351232) : Calls Try.prog 6 #[v, .string s] W fun e w' => e = .returned (.bool true) ∧ Below W.heap.size W w' := by
  have h := diskApart_any v l s.data.toList W hl hn (show s.data.size ≤ _ from hs)
  rw [Sb_eq] at h
  exact h
end Go.Proofs.Ytfebknhggapljaa
