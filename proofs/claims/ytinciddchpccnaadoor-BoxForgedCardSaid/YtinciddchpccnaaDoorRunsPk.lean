/- What later texts need of the earlier layers. -/
import Derived.Test.YtinciddchpccnaaDoorOwnApp
import Derived.Test.YtinciddchpccnaaDoorRunsMath
import Derived.Test.YtinciddchpccnaaDoorRunsNum
import Derived.Test.YtinciddchpccnaaDoorRunsES
import Derived.Test.YtinciddchpccnaaDoorRunsPut
import Derived.Test.YtinciddchpccnaaDoorChecked
set_option maxRecDepth 100000
/- ---- RunsPk ---- -/
/- runs.Pack: what it returns. -/
namespace Go.Proofs.YtinciddchpccnaaDoor.Rn
open Go.RowKit
set_option linter.unusedVariables false
set_option linter.unusedSimpArgs false

theorem lead_isRun {x : UInt8} {r : List UInt8} (h : 3 ≤ Runs.lead x (x :: r) 130) : Runs.isRun (x :: r) = true := by
  match r, h with
  | [], h => simp [Runs.lead] at h
  | [a], h =>
    by_cases ha : a = x
    · simp [Runs.lead, ha] at h
    · simp [Runs.lead, ha] at h
  | a :: b :: r', h =>
    by_cases ha : a = x
    · by_cases hb : b = x
      · simp [Runs.isRun, ha, hb]
      · simp [Runs.lead, ha, hb] at h
    · simp [Runs.lead, ha] at h
theorem equal_list (s : ByteArray) (w : World) (hs : s.size ≤ 9223372036854775807) (x : UInt8) (r : List UInt8) (hl : s.data.toList = x :: r) :
    Calls Tryd.prog 97 #[.string s] w fun e w' => e = .returned (.int .i64 (Runs.lead x (x :: r) 130)) ∧ ∃ n, w' = w.drewN n := by
  obtain ⟨⟨l⟩⟩ := s
  have hl : l = x :: r := hl
  subst hl
  exact equal_any _ w hs (by show 0 < (x :: r).length; simp)
/-- what is packed so far, and what stands behind -/
def Upto (l : List UInt8) (k : Nat) (done : List UInt8) : Prop := k ≤ l.length ∧ ∃ f, (l.drop k).length ≤ f ∧ done ++ Runs.packF f (l.drop k) = Runs.pack l
theorem Upto.start (l : List UInt8) : Upto l 0 [] := ⟨Nat.zero_le _, l.length, by simp, by simp [Runs.pack]⟩
theorem Upto.stop {l : List UInt8} {k : Nat} {done : List UInt8} (h : Upto l k done) (hk : l.length ≤ k) : done = Runs.pack l := by
  obtain ⟨_, f, _, h2⟩ := h
  rw [← h2, List.drop_of_length_le hk]
  cases f <;> simp [Runs.packF]
theorem Upto.len {l : List UInt8} {k : Nat} {done : List UInt8} (h : Upto l k done) : done.length ≤ l.length + (l.length + 127) / 128 := by
  obtain ⟨_, f, _, h2⟩ := h
  have := Runs.pack_little l.length l (Nat.le_refl _)
  have e : (Runs.pack l).length = (done ++ Runs.packF f (l.drop k)).length := by rw [h2]
  rw [List.length_append] at e
  have e2 : (Runs.pack l) = Runs.packF l.length l := rfl
  rw [e2] at e
  omega
theorem Upto.run {l : List UInt8} {k : Nat} {done : List UInt8} (h : Upto l k done) {x : UInt8} {r : List UInt8} (hx : l.drop k = x :: r) {n : Nat} (hn : n = Runs.lead x (x :: r) 130) (h3 : 3 ≤ n) :
    Upto l (k + n) (done ++ UInt8.ofNat (125 + n) :: [x]) ∧ n ≤ 130 ∧ k + n ≤ l.length := by
  obtain ⟨h1, f, h4, h2⟩ := h
  have hr := lead_isRun (hn ▸ h3)
  have hle := Runs.lead_le x (x :: r) 130
  rw [← hn] at hle
  have hl : (l.drop k).length = (x :: r).length := by rw [hx]
  rw [List.length_drop] at hl
  refine ⟨⟨by omega, ?_⟩, hle.1, by omega⟩
  cases f with
  | zero => rw [hx] at h4; simp at h4
  | succ f =>
    refine ⟨f, ?_, ?_⟩
    · rw [List.length_drop] at h4 ⊢; omega
    · rw [← h2, hx, Runs.packF_run hr, ← hn, ← hx, List.drop_drop]; simp
theorem Upto.lit {l : List UInt8} {k : Nat} {done : List UInt8} (h : Upto l k done) {x : UInt8} {r : List UInt8} (hx : l.drop k = x :: r) {m : Nat} (hm : m = Runs.lead x (x :: r) 130) (h3 : m < 3)
    {n : Nat} (hn : n = Runs.still (x :: r) 128) :
    Upto l (k + n) (done ++ UInt8.ofNat (n - 1) :: (l.drop k).take n) ∧ 1 ≤ n ∧ n ≤ 128 ∧ k + n ≤ l.length ∧ Runs.isRun (x :: r) = false := by
  obtain ⟨h1, f, h4, h2⟩ := h
  have hr : ¬ Runs.isRun (x :: r) = true := fun e => by have := Runs.lead_run e; omega
  have hp := Runs.still_pos hr
  have hle := Runs.still_le (x :: r) 128
  rw [← hn] at hle hp
  have hl : (l.drop k).length = (x :: r).length := by rw [hx]
  rw [List.length_drop] at hl
  refine ⟨⟨by omega, ?_⟩, hp, hle.1, by omega, by simpa using hr⟩
  cases f with
  | zero => rw [hx] at h4; simp at h4
  | succ f =>
    refine ⟨f, ?_, ?_⟩
    · rw [List.length_drop] at h4 ⊢; omega
    · rw [← h2, hx, Runs.packF_lit hr, ← hn, ← hx, List.drop_drop]; simp
abbrev S (l : List UInt8) : Value := .string ⟨l.toArray⟩
theorem extract_list (s : ByteArray) (k m : Nat) : s.extract k (k + m) = ⟨((s.data.toList.drop k).take m).toArray⟩ := by
  have h := ByteArray.extract_mk s.data.toList k (k + m)
  rw [Nat.add_sub_cancel_left] at h
  exact h
theorem cut_run {P : Program} (t : TypeId) (ht : P.underlying t = some .string) (s : ByteArray) (k m : Nat) (h : k + m ≤ s.size) (W : World) :
    (Instr.slice t (.string s) (some (.int .i64 (k : Int))) (some (.int .i64 ((k : Int) + (m : Int)))) none).run P W = .ok (S ((s.data.toList.drop k).take m)) W := by
  rw [run_slice_string W t s .i64 .i64 _ _ ht (by omega) (by omega) (by omega)]
  have e : ((k : Int) + (m : Int)).toNat = k + m := by omega
  rw [e, Int.toNat_natCast, extract_list]
theorem VarB.drewN {w : World} {base B : Nat} {bs : List UInt8} (h : VarB w base B bs) (n : Nat) : VarB (w.drewN n) base B bs := by
  obtain ⟨v, hv, ho⟩ := h
  have e : (w.drewN n).heap = w.heap := rfl
  exact ⟨v, by rw [e]; exact hv, by unfold World.ownsRow at ho ⊢; rw [e]; exact ho⟩
theorem bel_drewN {B : Nat} {a w : World} (h : Below B a w) (n : Nat) : Below B a (w.drewN n) := by
  exact ⟨h.os, h.tape, h.output, h.size, h.block⟩
theorem own_text {P : Program} {w : World} {base e n : Nat} {v : Value} {bs : List UInt8} (h : w.ownsRow base e 1 v n (bytesV bs)) (hn : n = bs.length) (src : TypeId) (hs : P.underlying src = some (.slice e)) (he : P.underlying e = some (.int .u8))
    (dst : TypeId) (hd : P.underlying dst = some .string) : (convert src dst v).run P w = .ok (S bs) w := by
  subst hn
  rcases h.2 with ⟨rfl, h0⟩ | ⟨g, cap, cur, rfl, _⟩
  · have hb : bs = [] := List.eq_nil_of_length_eq_zero h0
    subst hb
    exact run_convert_bytes_nil (P := P) w src e hs he 0 0 dst hd
  · have hc := h.cells (g := g) rfl
    have hr := run_convert_bytes_arg (P := P) w src e hs he g 0 bs.length cap (bs.map fun b => (b.toNat : Int)) (by simp) (fun i hi => by
      have hi' : i < bs.length := hi
      have h1 := hc i (.int .u8 (bs[i].toNat : Int)) (by simp [bytesV, hi'])
      have e1 : (⟨g, 0, none⟩ : Addr).add i = ⟨g, 0 + i, none⟩ := by simp [Addr.add]; try omega
      rw [e1] at h1
      rw [h1]; simp [List.getD, hi']) dst hd
    rw [hr]
    congr 2
    unfold strOfNums
    congr 2
    rw [List.map_map]
    conv => rhs; rw [← List.map_id bs]
    apply List.map_congr_left
    intro b _
    simp
set_option maxHeartbeats 800000 in
theorem pack_any (s : ByteArray) (w : World) (hs : s.size ≤ 140737488351232) :
    Calls Tryd.prog 86 #[.string s] w fun e w' => e = .returned (.string ⟨(Runs.pack s.data.toList).toArray⟩) ∧ Below w.heap.size w w' := by
  obtain ⟨i0, hi, hz0, hz1, hz2⟩ := info_parts r8_info
  have Hi := Lib.hid hi; clear hi
  have Hz0 := Lib.hid hz0; clear hz0
  have Hz1 := Lib.hid hz1; clear hz1
  have Hz2 := Lib.hid hz2; clear hz2
  have hmf : ∀ (fn : Fn) (first cap : Array Value) (w : World), (Instr.makeFunc fn first cap).run Tryd.prog w = .ok (.func fn first cap) w := fun _ _ _ _ => rfl
  have hlen : s.data.toList.length = s.size := rfl
  go_enter Tryd.func86, Tryd.ntmps86
  go_wp2_with (at_make; refine wpList_make_own _ rfl _ _ 48 rfl w.heap.size 5 i0 (.int .u8 0) 1 Tryd.underlying48 Hi.out Hz0.out Hz1.out .i64 .i64 _ (s.size + s.size / 128 + 1) rfl rfl (by omega) (by rw [Hz2.out]; omega) (by unfold maxLen; omega) (Nat.le_refl _) ?_)
  intro w1 hown hgrow
  have hsz : w.heap.size ≤ w1.heap.size := hgrow.size
  have hst : VarB (w1.alloc (.cells #[.slice (some ⟨w.heap.size, 0, none⟩) 0 (s.size + s.size / 128 + 1)] 48)) w.heap.size w1.heap.size [] := ⟨_, heap_alloc_new _ _, hown.alloc _⟩
  have hb0 : Below w.heap.size w (w1.alloc (.cells #[.slice (some ⟨w.heap.size, 0, none⟩) 0 (s.size + s.size / 128 + 1)] 48)) := ((Below.refl _ _).grown hgrow (Nat.le_refl _) (fun j hj => by cases hj)).alloc hsz _
  have Hst := Lib.hid hst
  have Hown := Lib.hid hown
  clear hst hown hgrow
  go_wp2_with fail
  go_loopw [5] (fun i wr => ∃ (k : Nat) (done : List UInt8), i = .int .i64 k ∧ Upto s.data.toList k done ∧ VarB wr w.heap.size w1.heap.size done ∧ Below w.heap.size w wr) (fun i _ => s.size - (intOf i).toNat)
  case atStart => exact ⟨0, [], rfl, Upto.start _, Hst.out, hb0⟩
  case round =>
    obtain ⟨k, done, rfl, hup, hvar, hbel⟩ := hrel
    have hk := hup.1
    rw [hlen] at hk
    have Hvar := Lib.hid hvar
    have Hbel := Lib.hid hbel
    clear hvar hbel hb0
    by_cases hlt : k < s.size
    · have hle' : k ≤ s.size := hk
      have hds := drop_str s k hk
      have hdz := drop_size s k hk
      obtain ⟨x, r, hx⟩ : ∃ x r, s.data.toList.drop k = x :: r := ⟨_, _, List.drop_eq_getElem_cons (by rw [hlen]; exact hlt)⟩
      rw [hx] at hds
      obtain ⟨m, hm⟩ : ∃ m, m = Runs.lead x (x :: r) 130 := ⟨_, rfl⟩
      have Hm := Lib.hid hm
      have Hds := Lib.hid hds
      have Hdz := Lib.hid hdz
      have Hx := Lib.hid hx
      have Hup := Lib.hid hup
      clear hds hdz hx hm hup
      go_wp2_with fail
      refine (equal_list _ _ (by rw [Hdz.out]; omega) x r Hds.out).mono ?_
      rintro e w2 ⟨rfl, n2, rfl⟩
      rw [← Hm.out]
      by_cases h3 : 3 ≤ m
      · obtain ⟨hup2, hm2, hk2⟩ := Hup.out.run Hx.out Hm.out h3
        have hul := hup2.len
        have Hup2 := Lib.hid hup2
        clear hup2
        rw [hlen] at hk2 hul
        have hcut := cut_run (P := Tryd.prog) 9 (by kernel_rfl) s k 1 (by omega)
        rw [Hx.out] at hcut
        have hcut' := fun W : World => (show (Instr.slice 9 (.string s) (some (.int .i64 (k : Int))) (some (.int .i64 ((k : Int) + 1))) none).run Tryd.prog W = .ok (S [x]) W from hcut W)
        clear hcut
        have ec : (128 + (m : Int) - 3) = 125 + (m : Int) := by omega
        have ec2 : 125 + (m : Int) = ((125 + m : Nat) : Int) := by omega
        have Hec2 := Lib.hid ec2
        clear ec2
        rw [List.length_append] at hul
        simp only [List.length_cons, List.length_nil] at hul
        go_wp2_with fail
        rw [Hec2.out]
        refine (put_any (125 + m) (by omega) ⟨[x].toArray⟩ (wr.drewN n2) w.heap.size w1.heap.size done (Hvar.out.drewN n2) hsz (by show done.length + 1 + 1 ≤ _; omega)).mono ?_
        rintro e w3 ⟨rfl, hv3, hb3⟩
        have hb4 := ((bel_drewN Hbel.out n2).trans hb3)
        have Hv3 := Lib.hid hv3
        clear hv3 hb3 ec hcut'
        go_wp2_with fail
        refine ⟨⟨k + m, _, by go_num, Hup2.out, Hv3.out, hb4⟩, by simp [intOf]; omega⟩
      · obtain ⟨n, hn⟩ : ∃ n, n = Runs.still (x :: r) 128 := ⟨_, rfl⟩
        obtain ⟨hup2, hn1, hn2, hk2, hir⟩ := Hup.out.lit Hx.out Hm.out (by omega) hn
        have hul := hup2.len
        have Hup2 := Lib.hid hup2
        have Hn := Lib.hid hn
        have Hir := Lib.hid hir
        clear hup2 hn hir
        go_wp2_with fail
        refine (stretch_any _ _ (by rw [Hdz.out]; omega) (by rw [Hdz.out]; omega) (by rw [Hds.out]; exact Hir.out)).mono ?_
        rintro e w3 ⟨rfl, n3, rfl⟩
        rw [Hds.out, ← Hn.out]
        rw [hlen] at hk2 hul
        have hcut := cut_run (P := Tryd.prog) 9 (by kernel_rfl) s k n (by omega)
        rw [Hx.out] at hcut hul Hup2
        have ec2 : (n : Int) - 1 = ((n - 1 : Nat) : Int) := by omega
        have Hec2 := Lib.hid ec2
        clear ec2
        rw [List.length_append, List.length_cons] at hul
        go_wp2_with fail
        rw [Hec2.out]
        refine (put_any (n - 1) (by omega) ⟨((x :: r).take n).toArray⟩ (wr.drewN (n2 + n3)) w.heap.size w1.heap.size done (Hvar.out.drewN _) hsz (by show done.length + 1 + ((x :: r).take n).length ≤ _; omega)).mono ?_
        rintro e w4 ⟨rfl, hv3, hb3⟩
        have hb4 := ((bel_drewN Hbel.out (n2 + n3)).trans hb3)
        have Hv3 := Lib.hid hv3
        clear hv3 hb3 hcut
        go_wp2_with fail
        refine ⟨⟨k + n, _, by go_num, Hup2.out, Hv3.out, hb4⟩, by simp [intOf]; omega⟩
    · have hfin := hup.stop (by rw [hlen]; omega)
      obtain ⟨v, hv, hown⟩ := Hvar.out
      have cB := cell_of_one hv
      have hcv := own_text (P := Tryd.prog) hown rfl 48 Tryd.underlying48 (by kernel_rfl) 9 (by kernel_rfl)
      have Hfin := Lib.hid hfin
      clear hfin hup hv hown
      go_wp2_with fail
      go_ret
      rw [Hfin.out]
      exact ⟨rfl, Hbel.out⟩
end Go.Proofs.YtinciddchpccnaaDoor.Rn
