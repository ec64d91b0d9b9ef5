/- Layer 9's law DiskSafe: what it returns. -/
import Derived.Test.YtfebknhggapljaaDiskDoes
namespace Go.Proofs.Ytfebknhggapljaa
open Go.RowKit Go.Maps
set_option linter.unusedVariables false
set_option linter.unusedSimpArgs false

/-- nothing arms a disk but Arm -/
theorem noarm_step (l : List Fl) (x : Act9) (h5 : x.a.kind ≠ 5) : (act9 x (l, -1)).1.2 = -1 := by
  have hn1 : ¬ ((-1 : Int) = 0) := by omega
  have ho : oneR (-1) = -1 := by rfl
  unfold act9
  by_cases k0 : x.a.kind = 0 ∨ x.a.kind = 1
  · rw [if_pos k0]
    unfold appendR
    rw [if_neg hn1]
    split
    · rfl
    · split
      · rfl
      · split
        · rfl
        · exact ho
  · rw [if_neg k0]
    by_cases k2 : x.a.kind = 2
    · rw [if_pos k2]
      unfold syncR
      rw [if_neg hn1]
      rcases hx : Fl.find l x.a.name with _ | y
      · rfl
      · exact ho
    · rw [if_neg k2]
      by_cases k3 : x.a.kind = 3
      · rw [if_pos k3]
        unfold renameR
        rw [if_neg hn1]
        rcases hx : Fl.find l x.a.name with _ | y
        · rfl
        · simp only
          split
          · exact ho
          · rfl
      · rw [if_neg k3]
        by_cases k4 : x.a.kind = 4
        · rw [if_pos k4]
          unfold removeR
          rw [if_neg hn1]
          rcases hx : Fl.find l x.a.name with _ | y
          · rfl
          · exact ho
        · rw [if_neg k4, if_neg h5]
theorem names_crash (l : List Fl) (ks : List Int) : Fl.names (Fl.crashL l ks) = Fl.names l := by rw [← Fl.mid_all, Fl.names_mid]
theorem find_at9 {l : List Fl} (hs : Fl.Sorted l) {k : Nat} (hk : k < l.length) : Fl.find l (l[k]).name = some l[k] := hs.find_of_mem (List.getElem_mem hk)
theorem find_crash_at {l : List Fl} (hs : Fl.Sorted l) (ks : List Int) {k : Nat} (hk : k < l.length) : Fl.find (Fl.crashL l ks) (l[k]).name = some (Fl.crashF l[k] (ks.getD k 0)) := by
  have hsc : Fl.Sorted (Fl.crashL l ks) := Fl.sorted_names (names_crash l ks).symm hs
  have h1 : (Fl.crashL l ks)[k]? = some (Fl.crashF l[k] (ks.getD k 0)) := by
    unfold Fl.crashL
    rw [List.getElem?_mapIdx, List.getElem?_eq_getElem hk]
    rfl
  have := hsc.find_of_mem (List.mem_of_getElem? h1)
  exact this
theorem own_int9 {w : World} {B n c : Nat} {A : Option Addr} {L : List Int} (h : w.ownsRow B 3 1 (.slice A n c) n (Is L)) {k : Nat} (hk : k < n) (hkl : k < L.length) : ∃ b, A = some ⟨b, 0, none⟩ ∧ b < w.heap.size ∧ w.cell? ⟨b, k, none⟩ = some (.int .i64 L[k]) := by
  rcases h.2 with ⟨hv, h0⟩ | ⟨q, cap, cur, hv, hb, hh, _⟩
  · omega
  · injection hv with e1 e2 e3
    subst e1
    have hc := h.cells (g := q) rfl k (.int .i64 L[k]) (by simp [hkl, Is])
    have e9 : (⟨q, 0, none⟩ : Addr).add k = ⟨q, k, none⟩ := by unfold Addr.add; split <;> simp_all
    rw [e9] at hc
    exact ⟨q, rfl, lt_of_block hh, hc⟩
theorem own_kinds9 {w : World} {B1 B2 n1 n2 : Nat} {v1 v2 : Value} {L1 L2 : List Value} (h1 : w.ownsRow B1 9 1 v1 n1 L1) (h2 : w.ownsRow B2 3 1 v2 n2 L2) : v2.ownBlock = none ∨ v2.ownBlock ≠ v1.ownBlock := by
  rcases h2.2 with ⟨hv, h0⟩ | ⟨q, cap, cur, hv, hb, hh, _⟩
  · left; rw [hv]; rfl
  · right
    intro e
    rw [hv] at e
    rcases h1.2 with ⟨hv1, _⟩ | ⟨q1, cap1, cur1, hv1, hb1, hh1, _⟩
    · rw [hv1] at e; cases e
    · rw [hv1] at e
      have : q = q1 := by injection e
      subst this
      rw [hh] at hh1
      simp at hh1
theorem i64Info : (Try.prog.info? 3).map (fun i => (i.zero, i.size, i.bytes)) = some (some (.int .i64 0), 1, 8) := by kernel_rfl
/-- what the law has collected of k files: their bytes in u, how many are safe in v -/
def Took (w2 W : World) (fs : List Fl) (u v : Value) (k : Nat) : Prop :=
  W.ownsRow w2.heap.size 9 1 u k (((fs.map (·.b)).take k).map encStr) ∧ W.ownsRow w2.heap.size 3 1 v k (Is ((fs.map (·.safe)).take k)) ∧ Below w2.heap.size w2 W
theorem KeepV.below {w W : World} {v : Value} {ks : List Int} (h : KeepV w v ks) (hb : Below w.heap.size w W) : KeepV W v ks := by
  obtain ⟨A, c, e, hc⟩ := h
  refine ⟨A, c, e, fun hne => ?_⟩
  obtain ⟨b, off, rfl, hbl, hcs⟩ := hc hne
  exact ⟨b, off, rfl, Nat.lt_of_lt_of_le hbl hb.size, fun i hi => (hb.cell (p := ⟨b, off + i, none⟩) hbl).trans (hcs i hi)⟩
theorem KeepV.apart {w : World} {v : Value} {ks : List Int} (h : KeepV w v ks) {S : Nat → Prop} (hS : ∀ k, S k → w.heap.size ≤ k) : KeepA v S := by
  intro bb off n c e hp hk
  obtain ⟨A, c9, e9, hc⟩ := h
  rw [e] at e9
  injection e9 with e1 e2 e3
  obtain ⟨b9, o9, e4, hb9, _⟩ := hc (by intro h; rw [h] at e2; simp at e2; omega)
  rw [← e1] at e4
  injection e4 with e4
  injection e4 with e4
  subst e4
  have := hS _ hk
  omega
theorem at_plain9 {l : List Fl} (hs : Fl.Sorted l) {k : Nat} (hk : k < l.length) : bytesR l (-1) (l[k]).name = (l[k]).b ∧ codeR l (-1) (l[k]).name = 0 ∧ safeR l (-1) (l[k]).name = (l[k]).safe := by
  have h := find_at9 hs hk
  exact ⟨by unfold bytesR; rw [if_neg (by omega), h], by unfold codeR; rw [if_neg (by omega), h]; rfl, by unfold safeR; rw [if_neg (by omega), h]⟩
theorem at_crash9 {l : List Fl} (hs : Fl.Sorted l) (ks : List Int) {k : Nat} (hk : k < l.length) : bytesR (Fl.crashL l ks) (-1) (l[k]).name = (Fl.crashF l[k] (ks.getD k 0)).b ∧ codeR (Fl.crashL l ks) (-1) (l[k]).name = 0 ∧ safeR (Fl.crashL l ks) (-1) (l[k]).name = Fl.crashS l[k] (ks.getD k 0) := by
  have h := find_crash_at hs ks hk
  exact ⟨by unfold bytesR; rw [if_neg (by omega), h], by unfold codeR; rw [if_neg (by omega), h]; rfl, by unfold safeR; rw [if_neg (by omega), h]; rfl⟩
theorem take_str9 (l : List Fl.Nm) {k : Nat} (hk : k < l.length) : (l.take (k + 1)).map encStr = (l.take k).map encStr ++ [encStr l[k]] := by
  rw [List.take_succ_eq_append_getElem hk, List.map_append]
  rfl
theorem take_int9 (l : List Int) {k : Nat} (hk : k < l.length) : Is (l.take (k + 1)) = Is (l.take k) ++ [.int .i64 l[k]] := by
  show (l.take (k + 1)).map I = (l.take k).map I ++ [I l[k]]
  rw [List.take_succ_eq_append_getElem hk, List.map_append]
  rfl
set_option maxRecDepth 20000 in
set_option maxHeartbeats 6400000 in
theorem diskSafe_any (v kv : Value) (l : List Act9) (ks : List Int) (w : World) (hl : ActsV w v l) (hlen : l.length ≤ 9223372036854775807) (hkv : KeepV w kv ks) :
    Calls Try.prog 4 #[v, kv] w fun e w' => e = .returned (.bool true) ∧ Below w.heap.size w w' := by
  obtain ⟨A, c, rfl, hfit, hL⟩ := hl
  have HL := Lib.hid hL
  have HFit := Lib.hid hfit
  have HKv := Lib.hid hkv
  obtain ⟨n, hn⟩ : ∃ n, n = l.length := ⟨_, rfl⟩
  rw [← hn] at hlen ⊢
  have Hn := Lib.hid hn
  clear hL hfit hn hkv
  obtain ⟨j0, hj0, hj1, hj2, hj3⟩ := parts9 i64Info
  have Hj0 := Lib.hid hj0; clear hj0
  have Hj1 := Lib.hid hj1; clear hj1
  have Hj2 := Lib.hid hj2; clear hj2
  have Hj3 := Lib.hid hj3; clear hj3
  obtain ⟨i0, hi0, hi1, hi2, hi3⟩ := parts9 strInfo
  have Hi0 := Lib.hid hi0; clear hi0
  have Hi1 := Lib.hid hi1; clear hi1
  have Hi2 := Lib.hid hi2; clear hi2
  have Hi3 := Lib.hid hi3; clear hi3
  go_enter Try.func4, Try.ntmps4
  go_wp2_with fail
  refine (new9 w w.heap.size (Nat.le_refl _)).mono ?_
  rintro _ w1 ⟨rfl, hd1, hb1, hs1⟩
  obtain ⟨g, hg⟩ : ∃ g, g = w.heap.size + 1 := ⟨_, rfl⟩
  rw [← hg] at hd1 ⊢
  have Hd1 := Lib.hid hd1
  have Hb1 := Lib.hid hb1
  clear hd1 hb1 hs1 hg
  go_wp2_with fail
  refine (awake9 _).mono ?_
  rintro _ w2 ⟨rfl, hb⟩
  have hz2 : ∃ S fs, DiskS w2 w.heap.size S g fs (-1) := ⟨_, _, Hd1.out.below hb⟩
  have Hz2 := Lib.hid hz2
  have Hb2 := Lib.hid (Hb1.out.trans (hb.mono Hb1.out.size))
  clear hb hz2
  go_wp2_with fail
  go_loopw [6] (fun i wr => ∃ k : Nat, k ≤ n ∧ k ≤ 60 ∧ i = .int .i64 k ∧ (∃ S fs, DiskS wr w.heap.size S g fs (-1)) ∧ Below w.heap.size w wr) (fun i _ => 60 - (intOf i).toNat)
  case atStart => exact ⟨0, Nat.zero_le _, Nat.zero_le _, rfl, Hz2.out, Hb2.out⟩
  case round =>
    obtain ⟨k, hk, hk60, rfl, ⟨S, fs, hd⟩, hbr⟩ := hrel
    have Hd := Lib.hid hd
    have Hbr := Lib.hid hbr
    clear hd hbr Hz2
    by_cases hlt : k < n ∧ k < 60
    · obtain ⟨hlt, hlt2⟩ := hlt
      have hki : (k : Int) < (n : Int) := by omega
      have hki2 : (k : Int) < 60 := by omega
      have hkl : k < l.length := by rw [← Hn.out]; exact hlt
      obtain ⟨b, off, rfl, hbl, hc⟩ := HL.out (by intro e; rw [e] at hkl; simp at hkl)
      have hcs := fun W (h : Below w.heap.size w W) => acts_at (v := .int .i64 0) (A := none) (c := 0) hc hbl h hkl
      have hfx := HFit.out _ (List.getElem_mem hkl)
      generalize hx : l[k] = x at *
      have Hfx := Lib.hid hfx
      have Hcs := Lib.hid hcs
      obtain ⟨q0, q1, q2, q3, q4, q5⟩ := hcs _ Hbr.out
      clear hc hcs hfx hx q1 q2 q3 q4 q5
      by_cases h5 : x.a.kind = 5
      · rw [h5] at q0
        have Hnext : Hid (∃ S fs, DiskS wr w.heap.size S g fs (-1)) := Lib.hid ⟨S, fs, Hd.out⟩
        clear h5 Hcs Hfx
        go_wp2_with fail
        exact ⟨⟨k + 1, hlt, hlt2, by go_num, Hnext.out, Hbr.out⟩, by simp [intOf]; omega⟩
      · have hap := noarm_step fs x h5
        have b5 : (x.a.kind == 5) = false := by simpa using h5
        have Hap := Lib.hid hap
        have hN : Hid (∀ W, DiskS W w.heap.size S g fs (-1) → Below w.heap.size w W → Calls Try.prog 9 #[] W fun e w' => ∃ xg, e = .returned (.pointer (some ⟨xg, 0, none⟩)) ∧ Ready w S g fs (-1) w' xg) := Lib.hid fun W h1 h2 => new_ready h1 h2
        have hD : Hid (∀ W xg, Ready w S g fs (-1) W xg → Calls Try.prog 11 #[.pointer (some ⟨g, 0, none⟩), .pointer (some ⟨xg, 0, none⟩), .agg #[.int .i64 x.a.kind, Sb x.a.name, Sb x.a.to, Sb x.a.s, .int .i64 x.a.n, .slice x.kA x.ks.length x.kc]] W fun e w' => ∃ res, e = .returned (.bool res) ∧ (∃ S', DiskS w' w.heap.size S' g (act9 x (fs, -1)).1.1 (act9 x (fs, -1)).1.2) ∧ Below w.heap.size w w') := Lib.hid fun W xg h => do_ready Hfx.out h
        obtain ⟨R, hR⟩ : ∃ R, R = (act9 x (fs, -1)).1 := ⟨_, rfl⟩
        rw [← hR] at hD Hap
        have hF : Hid (∀ W, Below w.heap.size w W → W.cell? ⟨b, off + k * 6, none⟩ = some (.int .i64 x.a.kind) ∧ W.cell? ⟨b, off + k * 6 + 1, none⟩ = some (Sb x.a.name) ∧ W.cell? ⟨b, off + k * 6 + 2, none⟩ = some (Sb x.a.to) ∧ W.cell? ⟨b, off + k * 6 + 3, none⟩ = some (Sb x.a.s) ∧ W.cell? ⟨b, off + k * 6 + 4, none⟩ = some (.int .i64 x.a.n) ∧ W.cell? ⟨b, off + k * 6 + 5, none⟩ = some (.slice x.kA x.ks.length x.kc)) := Lib.hid fun W h => Hcs.out W h
        clear hR hap h5
        generalize x.a.kind = ak at *
        generalize x.a.name = an at *
        generalize x.a.to = at_ at *
        generalize x.a.s = as_ at *
        generalize x.a.n = am at *
        generalize x.kA = kA at *
        generalize x.kc = kc at *
        obtain ⟨kn, hkn⟩ : ∃ kn, kn = x.ks.length := ⟨_, rfl⟩
        rw [← hkn] at hD hF
        clear hkn Hcs Hfx
        go_wp2_with fail
        have hS0 := hF.out _ Hbr.out.drew
        have hd0 : DiskS wr.drew w.heap.size S g fs (-1) := Hd.out.below (Below.refl _ _).drew
        have hb0 := Hbr.out.drew
        clear q0
        go_region_held3 (fun w' => w'.cell? ⟨b, off + k * 6, none⟩ = some (.int .i64 ak) ∧ w'.cell? ⟨b, off + k * 6 + 1, none⟩ = some (Sb an) ∧ w'.cell? ⟨b, off + k * 6 + 2, none⟩ = some (Sb at_) ∧ w'.cell? ⟨b, off + k * 6 + 3, none⟩ = some (Sb as_) ∧ w'.cell? ⟨b, off + k * 6 + 4, none⟩ = some (.int .i64 am) ∧ w'.cell? ⟨b, off + k * 6 + 5, none⟩ = some (.slice kA kn kc))
          (first | assumption | exact hS0 | exact (hF.out _ (And.right (And.right (by assumption)))) | exact (hF.out _ (by assumption)))
          (first
            | (go_at_call 9; with_reducible refine Calls.mono (hN.out _ hd0 hb0) ?_; rintro e w' ⟨xg, rfl, hrd⟩)
            | (go_at_call 11; with_reducible refine Calls.mono (hD.out _ _ (by assumption)) ?_; rintro e w' ⟨res, rfl, hds, hbs⟩))
        all_goals
          obtain ⟨S', hds'⟩ := hds
          have hnext : ∃ S fs, DiskS w' w.heap.size S g fs (-1) := ⟨S', R.1, by have := Hap.out; rw [this] at hds'; exact hds'⟩
          have Hnext := Lib.hid hnext
          have Hbs := Lib.hid hbs
          clear hds' hnext hbs hrd
          rename_i hHeld
          clear hHeld
          go_wp2_with fail
          exact ⟨⟨k + 1, hlt, hlt2, by go_num, Hnext.out, Hbs.out⟩, by simp [intOf]; omega⟩
    · have hsel : (n : Int) ≤ (k : Int) ∨ ((k : Int) < (n : Int) ∧ (60 : Int) ≤ (k : Int)) := by omega
      have hlen8 := Hd.out.len8
      have hnm : namesR fs (-1) = Fl.names fs := by unfold namesR; rw [if_neg (by omega)]
      have hN1 := fun (W : World) (h : DiskS W w.heap.size S g fs (-1)) => names_S h
      rw [hnm] at hN1
      obtain ⟨m, hm⟩ : ∃ m, m = fs.length := ⟨_, rfl⟩
      have hlm : (Fl.names fs).length = m := by rw [hm]; simp [Fl.names]
      rw [hlm] at hN1
      have HN1 := Lib.hid hN1
      have Hm := Lib.hid hm
      rw [← hm] at hlen8
      clear hlt hnm hN1 hm hlm
      rcases hsel with hki | ⟨hki, hki2⟩
      all_goals
        go_wp2_with fail
        refine (HN1.out _ Hd.out).mono ?_
        rintro _ w2' ⟨nv, rfl, hno, hnb⟩
        obtain ⟨NA, nc, rfl⟩ := own_form9 hno
        have Hd2 := Lib.hid (Hd.out.below hnb)
        have Hno := Lib.hid hno
        have Hnb := Lib.hid hnb
        have Hb2' := Lib.hid (Hbr.out.trans (hnb.mono Hbr.out.size))
        clear hno hnb
        go_wp2_with fail
        have hSlt : ∀ q, S q → q < wr.heap.size := fun q hq => (Hd.out.1 q hq).2
        have hSge : ∀ q, S q → w.heap.size ≤ q := fun q hq => (Hd.out.1 q hq).1
        have HSlt := Lib.hid hSlt
        have HSge := Lib.hid hSge
        have HSo := Lib.hid Hd.out.sorted
        have HOk := Lib.hid Hd.out.ok
        have ht0 : Took w2' w2' fs (.slice none 0 0) (.slice none 0 0) 0 := ⟨World.ownsRow_nil _ _ _ _, World.ownsRow_nil _ _ _ _, Below.refl _ _⟩
        have Ht0 := Lib.hid ht0
        clear hSlt hSge ht0
        generalize wr = wo at *
        go_loopw [8, 9, 10] (fun u v i wr => ∃ j : Nat, j ≤ m ∧ i = .int .i64 j ∧ Took w2' wr fs u v j) (fun _ _ i _ => m - (intOf i).toNat)
        case atStart => exact ⟨0, Nat.zero_le _, rfl, Ht0.out⟩
        case round =>
          obtain ⟨j, hj, rfl, htk⟩ := hrel
          have Htk := Lib.hid htk
          clear htk
          by_cases hjm : j < m
          · have hji : (j : Int) < (m : Int) := by omega
            have hjl : j < fs.length := by rw [← Hm.out]; exact hjm
            have hnrow := Hno.out.kept (grownBy_of_below (Htk.out.2.2) none) (by cases NA <;> simp [Value.ownBlock])
            obtain ⟨nb, rfl, hnbl, hnc⟩ := own_str9 hnrow hjm (by simpa [Fl.names] using hjl)
            have hnm : (Fl.names fs)[j]'(by simpa [Fl.names] using hjl) = (fs[j]).name := by simp [Fl.names]
            rw [hnm] at hnc
            obtain ⟨e1, e2, e3⟩ := at_plain9 HSo.out hjl
            have hok := HOk.out _ (List.getElem_mem hjl)
            have hnl : (fs[j]).name.length ≤ maxLen := by have := hok.2.2.2; unfold maxLen; omega
            have hRd := fun (W : World) (h : Below w2'.heap.size w2' W) => read_S (fs[j]).name (Hd2.out.below h) hnl
            have hSf := fun (W : World) (h : Below w2'.heap.size w2' W) => safe_S (fs[j]).name (Hd2.out.below h) hnl
            rw [e1, e2] at hRd
            rw [e2, e3] at hSf
            have hts := take_str9 (fs.map (·.b)) (k := j) (by simpa using hjl)
            have hti := take_int9 (fs.map (·.safe)) (k := j) (by simpa using hjl)
            rw [List.getElem_map] at hts hti
            generalize (fs[j]).name = x at *
            generalize (fs[j]).b = fb at *
            generalize (fs[j]).safe = sf at *
            have HRd := Lib.hid hRd
            have HSf := Lib.hid hSf
            have Hts := Lib.hid hts
            have Hti := Lib.hid hti
            have Hnbl := Lib.hid hnbl
            clear hnrow hnm e1 e2 e3 hok hnl hRd hSf hts hti hnbl
            go_wp2_with fail
            refine (HRd.out _ Htk.out.2.2).mono ?_
            rintro _ w3 ⟨rfl, hb3⟩
            have Hb3 := Lib.hid (Htk.out.2.2.trans (hb3.mono Htk.out.2.2.size))
            have Hw3 := Lib.hid hb3
            have hnc := (hb3.cell (p := ⟨nb, j, none⟩) Hnbl.out).trans hnc
            clear hb3
            go_wp2_with fail
            refine (HSf.out _ Hb3.out).mono ?_
            rintro _ w4 ⟨rfl, hb4⟩
            have hb34 := Hw3.out.trans (hb4.mono Hw3.out.size)
            have hu4 := Htk.out.1.kept (grownBy_of_below hb34 none) (by cases Value.ownBlock _ <;> simp)
            have hv4 := Htk.out.2.1.kept (grownBy_of_below hb34 none) (by cases Value.ownBlock _ <;> simp)
            have hbw4 := Hb3.out.trans (hb4.mono Hb3.out.size)
            have Hu4 := Lib.hid (hu4.alloc (.cells #[encStr fb] 9))
            have Hv4 := Lib.hid (hv4.alloc (.cells #[encStr fb] 9))
            have hsz4 : w2'.heap.size ≤ (w4.alloc (.cells #[encStr fb] 9)).heap.size := by have := hbw4.size; simp; omega
            have Hsz4 := Lib.hid hsz4
            have Hbw4 := Lib.hid (hbw4.alloc hbw4.size (.cells #[encStr fb] 9))
            have Hone := Lib.hid (one_new9 w4 (encStr fb) 9)
            have hq63 : j + 1 ≤ maxLen := by unfold maxLen; omega
            clear hb4 hb34 hu4 hv4 hbw4 hsz4 hnc
            go_wp2_with (first
              | (at_builtin; refine wpList_append_own _ rfl _ _ 33 rfl w2'.heap.size 9 i0 (.string ⟨#[]⟩) 1 16 Try.underlying33 Hi0.out Hi1.out Hi2.out Hi3.out rfl (by decide) _ _ _ rfl Hu4.out ⟨w4.heap.size, 0, none⟩ 1 1 [encStr fb] rfl rfl Hone.out (by simp [Value.oneCell', encStr]) hq63 (by omega) Hsz4.out ?_; intro v5 w5 hown5 hg5 hnil5
                 have hv5 := Hv4.out.kept hg5 (own_kinds9 Hu4.out Hv4.out)
                 have hb5 := Hbw4.out.grown hg5 Hsz4.out (fun q hq => (Hu4.out.lt q hq).1)
                 have hsz5 : w2'.heap.size ≤ (w5.alloc (.cells #[.int .i64 sf] 3)).heap.size := by have := hb5.size; simp; omega
                 have Hv5 := Lib.hid (hv5.alloc (.cells #[.int .i64 sf] 3))
                 have Hu5 := Lib.hid (hown5.alloc (.cells #[.int .i64 sf] 3))
                 have Hsz5 := Lib.hid hsz5
                 have Hb5 := Lib.hid (hb5.alloc hb5.size (.cells #[.int .i64 sf] 3))
                 have Hone5 := Lib.hid (one_new9 w5 (.int .i64 sf) 3)
                 clear hown5 hg5 hnil5 hv5 hb5 hsz5
                 go_frame)
              | (at_builtin; refine wpList_append_own _ rfl _ _ 29 rfl w2'.heap.size 3 j0 (.int .i64 0) 1 8 Try.underlying29 Hj0.out Hj1.out Hj2.out Hj3.out rfl (by decide) _ _ _ rfl Hv5.out ⟨w5.heap.size, 0, none⟩ 1 1 [.int .i64 sf] rfl rfl Hone5.out (by simp [Value.oneCell']) hq63 (by omega) Hsz5.out ?_; intro v6 w6 hown6 hg6 hnil6
                 have Hown6 := Lib.hid hown6
                 have hg6' : (w5.alloc (.cells #[.int .i64 sf] 3)).grownBy w6 u9.ownBlock := hg6
                 have Hu6 := Lib.hid (Hu5.out.kept hg6' (by
                   rcases own_kinds9 Hu5.out Hv5.out with h | h
                   · rw [h]; cases Value.ownBlock _ <;> simp
                   · exact .inr (fun e => h e.symm)))
                 clear hg6'
                 have Hb6 := Lib.hid (Hb5.out.grown hg6 Hsz5.out (fun q hq => (Hv5.out.lt q hq).1))
                 clear hown6 hg6 hnil6
                 go_frame)
              | fail)
            exact ⟨⟨j + 1, by omega, by go_num, by rw [Hts.out]; exact Hu6.out, by rw [Hti.out]; exact Hown6.out, Hb6.out⟩, by simp [intOf]; omega⟩
          · obtain rfl : j = m := by omega
            have hji : (j : Int) ≤ (j : Int) := by omega
            have htk := Htk.out
            have hd3 := Hd2.out.below htk.2.2
            have hk3 := HKv.out.below (Hb2'.out.trans (htk.2.2.mono Hb2'.out.size))
            have hka := HKv.out.apart (S := S) HSge.out
            have hno3 := Hno.out.kept (grownBy_of_below htk.2.2 none) (by cases NA <;> simp [Value.ownBlock])
            have HC := Lib.hid (crash_S kv ks hd3 hk3 hka)
            have Hno3 := Lib.hid hno3
            have hgeo : wo.heap.size ≤ w2'.heap.size := Hnb.out.size
            have Hgeo := Lib.hid hgeo
            have Hbw3 := Lib.hid (Hb2'.out.trans (htk.2.2.mono Hb2'.out.size))
            have hnmc : namesR (Fl.crashL fs ks) (-1) = Fl.names fs := by unfold namesR; rw [if_neg (by omega), names_crash]
            have hlm : (Fl.names fs).length = j := by rw [Hm.out]; simp [Fl.names]
            have Hnmc := Lib.hid hnmc
            have Hlm := Lib.hid hlm
            have hd3B := hd3.Ble
            have Hd3 := Lib.hid hd3
            clear htk hd3 hk3 hka hno3 hgeo hnmc hlm Ht0 hd3B
            go_wp2_with fail
            refine HC.out.mono ?_
            rintro _ w5 ⟨rfl, hd5, hc5⟩
            have hnS : ∀ q, wo.heap.size ≤ q → ¬ S q := fun q hq h => by have := HSlt.out q h; omega
            have hno5 := hc5.ownsRow Hno3.out (fun q hq => hnS q (Hno3.out.lt q hq).1)
            have hu5 := hc5.ownsRow Htk.out.1 (fun q hq => hnS q (by have := (Htk.out.1.lt q hq).1; have := Hgeo.out; omega))
            have hv5 := hc5.ownsRow Htk.out.2.1 (fun q hq => hnS q (by have := (Htk.out.2.1.lt q hq).1; have := Hgeo.out; omega))
            have hb5 := Hbw3.out.trans (hc5.below Hd3.out.Ble (fun q hq => HSge.out q hq))
            have HN5 := names_S hd5
            rw [Hnmc.out, Hlm.out] at HN5
            have Hd5 := Lib.hid hd5
            have Hno5 := Lib.hid hno5
            have Hu5 := Lib.hid hu5
            have Hv5 := Lib.hid hv5
            have Hb5 := Lib.hid hb5
            have HNm5 := Lib.hid HN5
            clear hd5 hc5 hnS hno5 hu5 hv5 hb5 HN5
            go_wp2_with fail
            refine HNm5.out.mono ?_
            rintro _ w6 ⟨v6, rfl, ho6, hb6⟩
            obtain ⟨A6, c6, rfl⟩ := own_form9 ho6
            have hno6 := Hno5.out.kept (grownBy_of_below hb6 none) (by cases NA <;> simp [Value.ownBlock])
            have hu6 := Hu5.out.kept (grownBy_of_below hb6 none) (by cases Value.ownBlock _ <;> simp)
            have hv6 := Hv5.out.kept (grownBy_of_below hb6 none) (by cases Value.ownBlock _ <;> simp)
            have Hsm := Lib.hid (same9 hno6 ho6 (by omega))
            have Hd6 := Lib.hid (Hd5.out.below hb6)
            have Hno6 := Lib.hid hno6
            have Hu6 := Lib.hid hu6
            have Hv6 := Lib.hid hv6
            have Hb6 := Lib.hid (Hb5.out.trans (hb6.mono Hb5.out.size))
            clear ho6 hb6 hno6 hu6 hv6
            go_wp2_with fail
            refine Hsm.out.mono ?_
            rintro _ w7 ⟨rfl, m7, rfl⟩
            have hb67 := below_drewN' (Below.refl w6.heap.size w6) m7
            have Hd7 := Lib.hid (Hd6.out.below hb67)
            have Hno7 := Lib.hid (Hno6.out.kept (grownBy_of_below hb67 none) (by cases NA <;> simp [Value.ownBlock]))
            have Hu7 := Lib.hid (Hu6.out.kept (grownBy_of_below hb67 none) (by cases Value.ownBlock _ <;> simp))
            have Hv7 := Lib.hid (Hv6.out.kept (grownBy_of_below hb67 none) (by cases Value.ownBlock _ <;> simp))
            have Hb7 := Lib.hid (Hb6.out.trans (hb67.mono Hb6.out.size))
            clear hb67
            generalize w6.drewN m7 = w7 at *
            obtain ⟨ua, uc, hue⟩ := own_form9 Hu7.out
            obtain ⟨va, vc, hve⟩ := own_form9 Hv7.out
            subst hue
            subst hve
            go_wp2_with fail
            generalize wr = wp at *
            go_loopw [15] (fun i wr => ∃ q : Nat, q ≤ j ∧ i = .int .i64 q ∧ Below w7.heap.size w7 wr) (fun i _ => j - (intOf i).toNat)
            case atStart => exact ⟨0, Nat.zero_le _, rfl, Below.refl _ _⟩
            case round =>
              obtain ⟨q, hq, rfl, hbq⟩ := hrel
              have Hbq := Lib.hid hbq
              clear hbq
              by_cases hqj : q < j
              · have hqi : (q : Int) < (j : Int) := by omega
                have hql : q < fs.length := by rw [← Hm.out]; exact hqj
                have hnrow := Hno7.out.kept (grownBy_of_below (Hbq.out) none) (by cases NA <;> simp [Value.ownBlock])
                have hurow := Hu7.out.kept (grownBy_of_below (Hbq.out) none) (by cases ua <;> simp [Value.ownBlock])
                have hvrow := Hv7.out.kept (grownBy_of_below (Hbq.out) none) (by cases va <;> simp [Value.ownBlock])
                rw [List.take_of_length_le (by simp [← Hm.out])] at hurow hvrow
                obtain ⟨nb, rfl, hnbl, hnc⟩ := own_str9 hnrow hqj (by simpa [Fl.names] using hql)
                obtain ⟨ub, rfl, hubl, huc⟩ := own_str9 hurow hqj (by simpa using hql)
                obtain ⟨vb, rfl, hvbl, hvc⟩ := own_int9 hvrow hqj (by simpa using hql)
                have hnm : (Fl.names fs)[q]'(by simpa [Fl.names] using hql) = (fs[q]).name := by simp [Fl.names]
                rw [hnm] at hnc
                rw [List.getElem_map] at huc hvc
                obtain ⟨e1, e2, e3⟩ := at_crash9 HSo.out ks hql
                have hok := HOk.out _ (List.getElem_mem hql)
                have hle := Fl.crashS_le fs[q] (ks.getD q 0) hok
                have hnl : (fs[q]).name.length ≤ maxLen := by have := hok.2.2.2; unfold maxLen; omega
                have hb20 := hok.2.2.1
                have h0s := hok.1
                obtain ⟨s2, hs2⟩ : ∃ s2 : Nat, Fl.crashS fs[q] (ks.getD q 0) = (s2 : Int) := ⟨(Fl.crashS fs[q] (ks.getD q 0)).toNat, by omega⟩
                have hcb : (Fl.crashF fs[q] (ks.getD q 0)).b = (fs[q]).b.take s2 := by show (fs[q]).b.take (Fl.crashS fs[q] (ks.getD q 0)).toNat = _; rw [hs2]; rfl
                rw [hcb] at e1
                rw [hs2] at e3 hle
                have hRd := fun (W : World) (h : Below w7.heap.size w7 W) => read_S (fs[q]).name (Hd7.out.below h) hnl
                have hSf := fun (W : World) (h : Below w7.heap.size w7 W) => safe_S (fs[q]).name (Hd7.out.below h) hnl
                rw [e1, e2] at hRd
                rw [e2, e3] at hSf
                have htl : ((fs[q]).b.take s2).length = s2 := by rw [List.length_take]; omega
                have hcut := run_cutS9 (fs[q]).b s2 (by omega)
                have hs2l : s2 ≤ (fs[q]).b.length := by omega
                have hd4 : decide ((s2 : Int) < (fs[q]).safe) = false := by rw [decide_eq_false_iff_not]; omega
                have hd5 : decide (((fs[q]).b.length : Int) < (s2 : Int)) = false := by rw [decide_eq_false_iff_not]; omega
                generalize (fs[q]).b.take s2 = tb at *
                generalize (fs[q]).name = x at *
                generalize (fs[q]).b = fb at *
                generalize (fs[q]).safe = sf at *
                have HRd := Lib.hid hRd
                have HSf := Lib.hid hSf
                have Hnbl := Lib.hid hnbl
                have Hubl := Lib.hid hubl
                have Hvbl := Lib.hid hvbl
                have Hle := Lib.hid hle
                clear hnrow hurow hvrow hnm e1 e2 e3 hok hnl hRd hSf hnbl hubl hvbl hs2 hcb hle hb20 h0s
                go_wp2_with fail
                refine (HRd.out _ Hbq.out).mono ?_
                rintro _ w8 ⟨rfl, hb8⟩
                have Hb8 := Lib.hid (Hbq.out.trans (hb8.mono Hbq.out.size))
                have Hw8 := Lib.hid hb8
                have hnc := (hb8.cell (p := ⟨nb, q, none⟩) Hnbl.out).trans hnc
                clear hb8
                go_wp2_with fail
                refine (HSf.out _ Hb8.out).mono ?_
                rintro _ w9 ⟨rfl, hb9⟩
                have hb89 := Hw8.out.trans (hb9.mono Hw8.out.size)
                have huc := (hb89.cell (p := ⟨ub, q, none⟩) Hubl.out).trans huc
                have hvc := (hb89.cell (p := ⟨vb, q, none⟩) Hvbl.out).trans hvc
                have Hb9 := Lib.hid (Hb8.out.trans (hb9.mono Hb8.out.size))
                clear hb9 hb89 hnc
                go_wp2_with fail
                all_goals first
                  | exact ⟨⟨q + 1, by omega, by go_num, Hb9.out⟩, by simp [intOf]; omega⟩
                  | (exfalso; omega)
              · obtain rfl : q = j := by omega
                have hqi : (q : Int) ≤ (q : Int) := by omega
                have Hfin := Lib.hid (Hb7.out.trans (Hbq.out.mono Hb7.out.size))
                go_wp2_with fail
                go_ret
                exact ⟨rfl, Hfin.out⟩
end Go.Proofs.Ytfebknhggapljaa
