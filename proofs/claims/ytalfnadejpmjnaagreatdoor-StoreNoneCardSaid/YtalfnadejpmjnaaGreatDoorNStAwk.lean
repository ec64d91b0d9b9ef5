/- What later texts need of the earlier layers. -/
import Derived.Test.YtalfnadejpmjnaaGreatDoorNSlO
import Derived.Test.YtalfnadejpmjnaaGreatDoorNSlS
import Derived.Test.YtalfnadejpmjnaaGreatDoorNSlT
import Derived.Test.YtalfnadejpmjnaaGreatDoorNDkA
import Derived.Test.YtalfnadejpmjnaaGreatDoorNDkB
import Derived.Test.YtalfnadejpmjnaaGreatDoorNDkC
import Derived.Test.YtalfnadejpmjnaaGreatDoorNDkD
import Derived.Test.YtalfnadejpmjnaaGreatDoorNJrA
import Derived.Test.YtalfnadejpmjnaaGreatDoorNJrB
import Derived.Test.YtalfnadejpmjnaaGreatDoorNJrAdd
import Derived.Test.YtalfnadejpmjnaaGreatDoorNSlC
import Derived.Test.YtalfnadejpmjnaaGreatDoorNSlA
import Derived.Test.YtalfnadejpmjnaaGreatDoorNSlB
import Derived.Test.YtalfnadejpmjnaaGreatDoorNSlD
import Derived.Test.YtalfnadejpmjnaaGreatDoorNTxBack
import Derived.Test.YtalfnadejpmjnaaGreatDoorNOdA
import Derived.Test.YtalfnadejpmjnaaGreatDoorNRwA
import Derived.Test.YtalfnadejpmjnaaGreatDoorNOdB
import Derived.Test.YtalfnadejpmjnaaGreatDoorNOdAsk
import Derived.Test.YtalfnadejpmjnaaGreatDoorNOdLink
import Derived.Test.YtalfnadejpmjnaaGreatDoorNOdPut
import Derived.Test.YtalfnadejpmjnaaGreatDoorNOdAdd
import Derived.Test.YtalfnadejpmjnaaGreatDoorNStMem
import Derived.Test.YtalfnadejpmjnaaGreatDoorNOdTake
import Derived.Test.YtalfnadejpmjnaaGreatDoorNStA
import Derived.Test.YtalfnadejpmjnaaGreatDoorNShelfB
import Derived.Test.YtalfnadejpmjnaaGreatDoorNJrBld
import Derived.Test.YtalfnadejpmjnaaGreatDoorNJrC
import Derived.Test.YtalfnadejpmjnaaGreatDoorNStB
import Derived.Deep.AppendSrc
import Derived.Deep.DeepAppendWide
import Derived.OwnWalk
import Derived.Below
import Derived.WalkKit
import Derived.Shelf.Sort.Plain
import Derived.Shelf.Slices.In.SortNone
import Derived.Deep.QuietTactic
import Derived.BigQuiet
/- ---- StAwk ---- -/
/- Calls of a store that is up; made and awake of layer 20. -/
namespace Go.Proofs.YtalfnadejpmjnaaGreatDoor
open Go.RowKit
set_option linter.unusedVariables false
set_option linter.unusedSimpArgs false
set_option maxRecDepth 100000

theorem addR_up (o : Option (List UInt8 × Int)) (n m : Nat) (s : List UInt8) (hs : s.length ≤ 1000) (ho : (Jn.Jr.by_ o).length ≤ 1000000) : Jn.Jr.addR (Jn.Jr.St o none) (-1) ⟨n, m, false⟩ s = (Jn.Jr.St (some (Jn.Jr.by_ o ++ Jn.Jr.lay n s, Jn.Jr.sf o)) none, -1, ⟨n + 1, m, false⟩, 0) := by
  have hl := Jn.Jr.lay_le n s
  have ha : Jn.appendR (Jn.Jr.St o none) (-1) Jn.Jr.nj (Jn.Jr.lay n s) = (Jn.Jr.St (some (Jn.Jr.by_ o ++ Jn.Jr.lay n s, Jn.Jr.sf o)) none, -1, 0) := by
    rw [Jn.Jr.append_j (by decide), if_neg (by omega)]
    rfl
  unfold Jn.Jr.addR
  rw [if_neg (by simp), if_neg (by omega), ha, if_neg (by simp)]
theorem syncJ_up (p : List UInt8 × Int) (n m : Nat) (hn : n ≠ 0) : Jn.Jr.syncJ (Jn.Jr.St (some p) none) (-1) ⟨n, m, false⟩ = (Jn.Jr.St (some (p.1, (p.1.length : Int))) none, -1, ⟨n, n, false⟩, 0) := by
  have ha : Jn.syncR (Jn.Jr.St (some p) none) (-1) Jn.Jr.nj = (Jn.Jr.St (some (p.1, (p.1.length : Int))) none, -1, 0) := by
    rw [Jn.Jr.sync_j (by decide)]
    rfl
  unfold Jn.Jr.syncJ
  rw [if_neg (by simp), if_neg hn, ha, if_neg (by simp)]
/-- a store on a disk that is up, with a file of so many bytes at most -/
def StUp (w0 W : World) (p : Nat) (N : Nat) (n : Nat) (rs : List Rp) (cs : List Ct) (rel : Int) (rows : Rws) : Prop :=
  ∃ o m, (Jn.Jr.by_ o).length ≤ N ∧ (n ≠ 0 → o ≠ none) ∧ St w0 W p (Jn.Jr.St o none) (-1) ⟨n, m, false⟩ rs cs rel false rows
section
variable {w0 W W' : World} {p N n : Nat} {rs : List Rp} {cs : List Ct} {rel : Int} {rows rows' : Rws}
theorem StUp.low (h : StUp w0 W p N n rs cs rel rows) : Below w0.heap.size w0 W := by
  obtain ⟨o, m, _, _, h⟩ := h
  exact h.low
theorem StUp.below (h : StUp w0 W p N n rs cs rel rows) (hb : Below W.heap.size W W') : StUp w0 W' p N n rs cs rel rows := by
  obtain ⟨o, m, h1, h2, h⟩ := h
  exact ⟨o, m, h1, h2, h.below hb⟩
theorem StUp.brow (h : StUp w0 W p N n rs cs rel rows) {gx : Nat} {T : TypeId} {X : List Value} (hx : (gx, T, X) ∈ rows) : Row W gx T X := by
  obtain ⟨o, m, h1, h2, h⟩ := h
  exact h.brow hx
theorem StUp.less (h : StUp w0 W p N n rs cs rel rows) (hs : ∀ x ∈ rows', x ∈ rows) : StUp w0 W p N n rs cs rel rows' := by
  obtain ⟨o, m, h1, h2, h⟩ := h
  exact ⟨o, m, h1, h2, h.less hs⟩
theorem StUp.alloc (h : StUp w0 W p N n rs cs rel rows) (T : TypeId) (X : List Value) : StUp w0 (W.alloc (.cells X.toArray T)) p N n rs cs rel ((W.heap.size, T, X) :: rows) := by
  obtain ⟨o, m, h1, h2, h⟩ := h
  exact ⟨o, m, h1, h2, h.alloc T X⟩
theorem StUp.box {T : TypeId} {X Z : List Value} (h : StUp w0 W p N n rs cs rel rows) (hg : (W.alloc (.cells Z.toArray T)).grownBy W' (some W.heap.size)) (hr : Row W' W.heap.size T X) : StUp w0 W' p N n rs cs rel ((W.heap.size, T, X) :: rows) := by
  obtain ⟨o, m, h1, h2, h⟩ := h
  exact ⟨o, m, h1, h2, h.box hg hr⟩
theorem StUp.add (h : StUp w0 W p N n rs cs rel rows) (hT : Tab w0) (hrl : rs.length < 1000) (hN : N ≤ 1000000) (hn : n ≤ 1000000) (kind time : Int) (body : ByteArray) (hbs : body.size ≤ 140737488351232) (R : Rp) (hm : (Od.mk rs kind body time).1 = R) (he : (Od.mk rs kind body time).2.2 = 0) :
    Calls Tryz.prog 30 #[.pointer (some ⟨p, 0, none⟩), .int .i64 kind, .string body, .int .i64 time] W fun e w' => e = .returned (.tuple #[.agg R.cells.toArray, .int .i64 0]) ∧ StUp w0 w' p (N + 2000) (n + 1) (rs ++ [R]) cs rel rows := by
  obtain ⟨o, m, h1, h2, h⟩ := h
  have hg : Od.Good rs := by
    obtain ⟨q, B, g, Z, v, dv, cv, h⟩ := h
    exact h.lg.good
  have hf := Od.mk_fits20 hg kind body time
  have hr := Rp.rcd_len hf.prev hf.hash
  have ha := addR_up o n m (Od.mk rs kind body time).1.rcd hr (by omega)
  refine (h.add_ok hT hrl (by show n ≤ _; omega) kind time body hbs he (by rw [ha])).mono ?_
  rintro e w' ⟨rfl, hs⟩
  rw [ha, hm] at hs
  rw [hm]
  rw [hm] at hr
  refine ⟨rfl, some (Jn.Jr.by_ o ++ Jn.Jr.lay n R.rcd, Jn.Jr.sf o), m, ?_, fun _ => by simp, hs⟩
  have := Jn.Jr.lay_le n R.rcd
  show (Jn.Jr.by_ o ++ Jn.Jr.lay n R.rcd).length ≤ _
  rw [List.length_append]
  omega
theorem StUp.cutY (h : StUp w0 W p N n rs cs rel rows) (hc : CtsOk cs) (hrl : rs.length ≤ 1000) (hN : N ≤ 1000000) (hn : n ≤ 1000000) (nn : Int) (c : Ct) (hm : ctNext rs cs nn = (c, 0)) :
    Calls Tryz.prog 31 #[.pointer (some ⟨p, 0, none⟩), .int .i64 nn] W fun e w' => e = .returned (.tuple #[.agg c.cells.toArray, .int .i64 0]) ∧ StUp w0 w' p (N + 2000) (n + 1) rs (cs ++ [c]) rel rows := by
  obtain ⟨o, m, h1, h2, h⟩ := h
  have hr := Ct.rcd_len (ctNext rs cs nn).1
  have ha := addR_up o n m (ctNext rs cs nn).1.rcd hr (by omega)
  refine (h.cut_ok hc hrl (by show n ≤ _; omega) nn (by rw [hm]) (by rw [ha])).mono ?_
  rintro e w' ⟨rfl, hs⟩
  rw [ha, hm] at hs
  rw [hm]
  rw [hm] at hr
  refine ⟨rfl, some (Jn.Jr.by_ o ++ Jn.Jr.lay n c.rcd, Jn.Jr.sf o), m, ?_, fun _ => by simp, hs⟩
  have := Jn.Jr.lay_le n c.rcd
  show (Jn.Jr.by_ o ++ Jn.Jr.lay n c.rcd).length ≤ _
  rw [List.length_append]
  simp only at hr
  omega
theorem StUp.cutN (h : StUp w0 W p N n rs cs rel rows) (hc : CtsOk cs) (nn : Int) (x : Int) (hm : (ctNext rs cs nn).2 = x) (hx : x ≠ 0) :
    Calls Tryz.prog 31 #[.pointer (some ⟨p, 0, none⟩), .int .i64 nn] W fun e w' => e = .returned (.tuple #[.agg Ct.zero.cells.toArray, .int .i64 x]) ∧ StUp w0 w' p N n rs cs rel rows := by
  obtain ⟨o, m, h1, h2, h⟩ := h
  refine (h.cut_no hc nn (by rw [hm]; exact hx)).mono ?_
  rintro e w' ⟨rfl, hs⟩
  rw [hm]
  exact ⟨rfl, o, m, h1, h2, hs⟩
theorem StUp.sync (h : StUp w0 W p N n rs cs rel rows) (hn : n ≠ 0) :
    Calls Tryz.prog 26 #[.pointer (some ⟨p, 0, none⟩)] W fun e w' => e = .returned (.int .i64 0) ∧ StUp w0 w' p N n rs cs rs.length rows := by
  obtain ⟨o, m, h1, h2, h⟩ := h
  cases o with
  | none => exact absurd rfl (h2 hn)
  | some pr =>
    have ha := syncJ_up pr n m hn
    refine (h.sync_ok (by rw [ha])).mono ?_
    rintro e w' ⟨rfl, hs⟩
    rw [ha] at hs
    exact ⟨rfl, some (pr.1, (pr.1.length : Int)), n, h1, fun _ => by simp, hs⟩
theorem StUp.released (h : StUp w0 W p N n rs cs rel rows) : Calls Tryz.prog 17 #[.pointer (some ⟨p, 0, none⟩)] W fun e w' => e = .returned (.int .i64 rel) ∧ W = w' := by
  obtain ⟨o, m, h1, h2, q, B, g, Z, v, dv, cv, h⟩ := h
  exact h.released
end
theorem wt_cells (g p : Nat) : True := trivial
/-- the law's world: its cells -/
def WC (g p : Nat) : List Value := [.pointer (some ⟨g, 0, none⟩), .pointer (some ⟨p, 0, none⟩), .slice none 0 0, .slice none 0 0, .int .i64 0, .int .i64 0, .bool false]
set_option maxHeartbeats 3200000 in
theorem made20_any (w : World) : Calls Tryz.prog 9 #[] w fun e w' => ∃ g p m, e = .returned (.pointer (some ⟨m, 0, none⟩)) ∧ StUp w w' p 0 0 [] [] 0 [(m, 32, WC g p)] := by
  have DN := Lib.hid (Jn.new9 w w.heap.size (Nat.le_refl _))
  go_enter Tryz.func9, Tryz.ntmps9
  go_wp2_with fail
  refine DN.out.mono ?_
  rintro _ w1 ⟨rfl, hd, hb, _⟩
  have OP := Lib.hid (open20_new hd hb)
  clear hd hb DN
  generalize w.heap.size + 1 = g at *
  go_wp2_with fail
  refine OP.out.mono ?_
  rintro _ w2 ⟨p, rfl, hs⟩
  have HU : Hid (StUp w w2 p 0 0 [] [] 0 []) := Lib.hid ⟨none, 0, Nat.le_refl _, fun q => absurd rfl q, hs⟩
  clear hs OP
  go_wp2_with fail
  go_ret
  exact ⟨g, p, w2.heap.size, rfl, HU.out.alloc 32 (WC g p)⟩
theorem awake_facts20 : ∃ (R1 R2 : Rp) (c : Ct), (Od.mk [] 2 ⟨#[97]⟩ 3).1 = R1 ∧ (Od.mk [] 2 ⟨#[97]⟩ 3).2.2 = 0 ∧ (Od.mk [R1] 2 ⟨#[98]⟩ 3).1 = R2 ∧ (Od.mk [R1] 2 ⟨#[98]⟩ 3).2.2 = 0 ∧ R1.Fits ∧ R2.Fits ∧ R1.index = 0 ∧ ctNext [R1, R2] [] 1 = (c, 0) ∧ c.count = 1 ∧ CtsOk [c] ∧ (ctNext [R1, R2] [c] 2).2 = 4 := by
  have hask : (Od.ask [] 2 ⟨#[97]⟩) = (-1, 0) := rfl
  have hok : (Od.raw [] 2 ⟨#[97]⟩ 3).ok = true := by
    rw [Rp.ok_iff]
    exact ⟨.inr rfl, ⟨by decide, by decide⟩, ⟨by decide, by decide⟩, by decide⟩
  have hm : Od.mk [] 2 ⟨#[97]⟩ 3 = ((Od.raw [] 2 ⟨#[97]⟩ 3).linked, -1, 0) := by
    rw [Od.mk_link (fun h => h.1 rfl) (by rw [hask]), hask]
    unfold Rp.linkE
    rw [if_pos hok]
  obtain ⟨R1, hR1⟩ : ∃ R1, (Od.raw [] 2 ⟨#[97]⟩ 3).linked = R1 := ⟨_, rfl⟩
  rw [hR1] at hm
  have ht := Od.mk_took hm
  have hf1 := ht.fits (by rfl)
  have hi1 : R1.index = 0 := by rw [ht.index]; rfl
  have hti : R1.time = 3 := ht.timeE
  have hb1 : Od.by_ R1 = -1 := ht.by
  have hask2 : (Od.ask [R1] 2 ⟨#[98]⟩) = (-1, 0) := by unfold Od.ask; rw [if_neg (by decide)]
  have hok2 : (Od.raw [R1] 2 ⟨#[98]⟩ 3).ok = true := by
    rw [Rp.ok_iff]
    exact ⟨.inr rfl, ⟨by show (0 : Int) ≤ (([R1] : List Rp).length : Int); simp, by show (([R1] : List Rp).length : Int) ≤ _; simp⟩, ⟨by show (0 : Int) ≤ 3; decide, by show (3 : Int) ≤ _; decide⟩, by show ((⟨#[98]⟩ : ByteArray).size : Int) ≤ _; decide⟩
  have hl1 : Od.last [R1] = 3 := hti
  have hm2 : Od.mk [R1] 2 ⟨#[98]⟩ 3 = ((Od.raw [R1] 2 ⟨#[98]⟩ 3).linked, -1, 0) := by
    rw [Od.mk_link (fun h => by rw [hl1] at h; exact absurd h.2 (by decide)) (by rw [hask2]), hask2]
    unfold Rp.linkE
    rw [if_pos hok2]
  obtain ⟨R2, hR2⟩ : ∃ R2, (Od.raw [R1] 2 ⟨#[98]⟩ 3).linked = R2 := ⟨_, rfl⟩
  rw [hR2] at hm2
  have hg1 : Od.Good [R1] := by
    have := Od.Good.nil.push hm
    rwa [List.nil_append] at this
  have hf2 := (Od.mk_took hm2).fits hg1.head
  refine ⟨R1, R2, ⟨0, 0, Od.taken [R1, R2] 0, 1⟩, by rw [hm], by rw [hm], by rw [hm2], by rw [hm2], hf1, hf2, hi1, rfl, rfl, ⟨by simp, fun c hc => ?_⟩, rfl⟩
  rw [List.mem_singleton] at hc
  subst hc
  exact ⟨Int.le_refl _, by simp, by simp, by simp⟩
set_option maxHeartbeats 6400000 in
theorem awake20_any (w : World) (hT : Tab w) : Calls Tryz.prog 10 #[] w fun e w' => e = .returned (.bool true) ∧ Below w.heap.size w w' := by
  obtain ⟨R1, R2, c, m1, e1, m2, e2, f1, f2, i1, k1, n1, ok1, k2⟩ := awake_facts20
  have MD := Lib.hid (made20_any w)
  have A1 : Hid (∀ W p rows, StUp w W p 0 0 [] [] 0 rows → Calls Tryz.prog 30 #[.pointer (some ⟨p, 0, none⟩), .int .i64 2, .string ⟨#[97]⟩, .int .i64 3] W fun e w' => e = .returned (.tuple #[.agg R1.cells.toArray, .int .i64 0]) ∧ StUp w w' p 2000 1 [R1] [] 0 rows) := Lib.hid (fun W p rows h => h.add hT (by simp) (by omega) (by omega) 2 3 ⟨#[97]⟩ (by decide) R1 m1 e1)
  have A2 : Hid (∀ W p rows, StUp w W p 2000 1 [R1] [] 0 rows → Calls Tryz.prog 30 #[.pointer (some ⟨p, 0, none⟩), .int .i64 2, .string ⟨#[98]⟩, .int .i64 3] W fun e w' => e = .returned (.tuple #[.agg R2.cells.toArray, .int .i64 0]) ∧ StUp w w' p 4000 2 [R1, R2] [] 0 rows) := Lib.hid (fun W p rows h => h.add hT (by simp) (by omega) (by omega) 2 3 ⟨#[98]⟩ (by decide) R2 m2 e2)
  have C1 : Hid (∀ W p rows, StUp w W p 4000 2 [R1, R2] [] 0 rows → Calls Tryz.prog 31 #[.pointer (some ⟨p, 0, none⟩), .int .i64 1] W fun e w' => e = .returned (.tuple #[.agg c.cells.toArray, .int .i64 0]) ∧ StUp w w' p 6000 3 [R1, R2] [c] 0 rows) := Lib.hid (fun W p rows h => h.cutY ⟨by simp, by simp⟩ (by simp) (by omega) (by omega) 1 c k1)
  have C2 : Hid (∀ W p rows, StUp w W p 6000 3 [R1, R2] [c] 0 rows → Calls Tryz.prog 31 #[.pointer (some ⟨p, 0, none⟩), .int .i64 2] W fun e w' => e = .returned (.tuple #[.agg Ct.zero.cells.toArray, .int .i64 4]) ∧ StUp w w' p 6000 3 [R1, R2] [c] 0 rows) := Lib.hid (fun W p rows h => h.cutN ok1 2 4 k2 (by decide))
  have SY : Hid (∀ W p rows, StUp w W p 6000 3 [R1, R2] [c] 0 rows → Calls Tryz.prog 26 #[.pointer (some ⟨p, 0, none⟩)] W fun e w' => e = .returned (.int .i64 0) ∧ StUp w w' p 6000 3 [R1, R2] [c] 2 rows) := Lib.hid (fun W p rows h => h.sync (by decide))
  have RL : Hid (∀ W p rows rel, StUp w W p 6000 3 [R1, R2] [c] rel rows → Calls Tryz.prog 17 #[.pointer (some ⟨p, 0, none⟩)] W fun e w' => e = .returned (.int .i64 rel) ∧ W = w') := Lib.hid (fun W p rows rel h => h.released)
  have HX1 : Hid (∀ (W : World) gq, Row W gq 64 R1.cells → W.cell? ⟨gq, 0, none⟩ = some (.int .i64 0)) := Lib.hid (fun W gq h => by have := row_range h 0 _ rfl; rw [i1] at this; exact this)
  have HX2 : Hid (∀ (W : World) gq, Row W gq 52 c.cells → W.cell? ⟨gq, 3, none⟩ = some (.int .i64 1)) := Lib.hid (fun W gq h => by have := row_range h 3 _ rfl; rw [n1] at this; exact this)
  have HF1 := Lib.hid (Rp.cells_len f1.prev f1.hash)
  have HF2 := Lib.hid (Rp.cells_len f2.prev f2.hash)
  have HO1 := Lib.hid (Rp.cells_one f1.prev f1.hash)
  have HO2 := Lib.hid (Rp.cells_one f2.prev f2.hash)
  have HC4 : Hid (c.cells.length = 4) := Lib.hid rfl
  have HC1 := Lib.hid (Ct.one c)
  have hzv := rp_zv
  have HBt : Hid (Tryz.prog.built 64 [] = some Rp.zero.cells.toArray) := Lib.hid Rp.zero_built0
  have HZ68 := Lib.hid (Rp.cells_len Rp.zero_fits.prev Rp.zero_fits.hash)
  have HZ1 := Lib.hid (Rp.cells_one Rp.zero_fits.prev Rp.zero_fits.hash)
  obtain ⟨ZT, hZT⟩ : ∃ ZT, Rp.zero.cells = ZT := ⟨_, rfl⟩
  rw [hZT] at hzv HBt HZ68 HZ1
  have HZT := Lib.hid hZT
  clear hZT
  have hz := ct_zv
  have HZ4 : Hid (Ct.zero.cells.length = 4) := Lib.hid rfl
  have HZc := Lib.hid (Ct.one Ct.zero)
  obtain ⟨ZC, hZC⟩ : ∃ ZC, Ct.zero.cells = ZC := ⟨_, rfl⟩
  rw [hZC] at hz HZ4 HZc C2
  generalize R1.cells = X1 at *
  generalize R2.cells = X2 at *
  generalize c.cells = XC at *
  clear hZC m1 e1 m2 e2 f1 f2 i1 k1 n1 ok1 k2 hT
  go_enter Tryz.func10, Tryz.ntmps10
  go_wp2_with fail
  refine MD.out.mono ?_
  rintro _ w1 ⟨g, p, m, rfl, h1⟩
  have D1 := Lib.hid h1
  clear h1 MD
  have cw1 := (D1.out.brow (gx := m) (T := 32) (X := WC g p) (by simp)).cell 1 (by simp [WC])
  simp only [WC, List.getElem_cons_zero, List.getElem_cons_succ] at cw1
  go_wp2_with fail
  refine (A1.out _ _ _ D1.out).mono ?_
  rintro _ w2 ⟨rfl, h2⟩
  have D2 := Lib.hid h2
  clear h2 A1 D1 cw1
  go_wp2_with (first
    | (
       with_reducible show wpList _ _ _ (⟨_, .store 64 (.tmp 2) _, _, _, _, _⟩ :: _) _ _
       refine wpList_store_at rfl 64 (.tmp 2) (.tmp 19) rfl w2.heap.size 0 X1 ZT _ rfl rfl (Row.new w2 64 ZT) (by have := HZ68.out; have := HF1.out; omega) (by rw [rp_info, HF1.out]) HO1.out ?_
       intro w3 hr hg
       rw [splice_all (HF1.out.trans HZ68.out.symm)] at hr
       have D3 := Lib.hid (D2.out.box hg hr)
       have cw2 := (D3.out.brow (gx := m) (T := 32) (X := WC g p) (by simp)).cell 1 (by simp [WC])
       simp only [WC, List.getElem_cons_zero, List.getElem_cons_succ] at cw2
       clear hr hg))
  generalize w2.heap.size = g2 at *
  refine (A2.out _ _ _ D3.out).mono ?_
  rintro _ w4 ⟨rfl, h4⟩
  have D4 := Lib.hid h4
  clear h4 A2 D3 D2 cw2
  go_wp2_with (first
    | (
       with_reducible show wpList _ _ _ (⟨_, .store 64 (.tmp 4) _, _, _, _, _⟩ :: _) _ _
       refine wpList_store_at rfl 64 (.tmp 4) (.tmp 27) rfl w4.heap.size 0 X2 ZT _ rfl rfl (Row.new w4 64 ZT) (by have := HZ68.out; have := HF2.out; omega) (by rw [rp_info, HF2.out]) HO2.out ?_
       intro w5 hr hg
       rw [splice_all (HF2.out.trans HZ68.out.symm)] at hr
       have D5 := Lib.hid (D4.out.box hg hr)
       have cw3 := (D5.out.brow (gx := m) (T := 32) (X := WC g p) (by simp)).cell 1 (by simp [WC])
       simp only [WC, List.getElem_cons_zero, List.getElem_cons_succ] at cw3
       clear hr hg))
  generalize w4.heap.size = g4 at *
  refine (C1.out _ _ _ D5.out).mono ?_
  rintro _ w6 ⟨rfl, h6⟩
  have D6 := Lib.hid h6
  clear h6 C1 D5 D4 cw3
  go_wp2_with (first
    | (
       with_reducible show wpList _ _ _ (⟨_, .store 52 (.tmp 6) _, _, _, _, _⟩ :: _) _ _
       refine wpList_store_at rfl 52 (.tmp 6) (.tmp 35) rfl w6.heap.size 0 XC ZC _ rfl rfl (Row.new w6 52 ZC) (by have := HZ4.out; have := HC4.out; omega) (by rw [ct_info, HC4.out]) HC1.out ?_
       intro w7 hr hg
       rw [splice_all (HC4.out.trans HZ4.out.symm)] at hr
       have D7 := Lib.hid (D6.out.box hg hr)
       have cw4 := (D7.out.brow (gx := m) (T := 32) (X := WC g p) (by simp)).cell 1 (by simp [WC])
       simp only [WC, List.getElem_cons_zero, List.getElem_cons_succ] at cw4
       clear hr hg))
  generalize w6.heap.size = g6 at *
  refine (C2.out _ _ _ D7.out).mono ?_
  rintro _ w8 ⟨rfl, h8⟩
  have D8 := Lib.hid h8
  clear h8 C2 D7 D6 cw4
  go_wp2_with (first
    | (
       with_reducible show wpList _ _ _ (⟨_, .store 52 (.tmp 8) _, _, _, _, _⟩ :: _) _ _
       refine wpList_store_at rfl 52 (.tmp 8) (.tmp 43) rfl w8.heap.size 0 ZC ZC _ rfl rfl (Row.new w8 52 ZC) (by have := HZ4.out; have := HZ4.out; omega) (by rw [ct_info, HZ4.out]) HZc.out ?_
       intro w9 hr hg
       rw [splice_all (HZ4.out.trans HZ4.out.symm)] at hr
       have D9 := Lib.hid (D8.out.box hg hr)
       have cw5 := (D9.out.brow (gx := m) (T := 32) (X := WC g p) (by simp)).cell 1 (by simp [WC])
       simp only [WC, List.getElem_cons_zero, List.getElem_cons_succ] at cw5
       have x0 := HX1.out _ _ (D9.out.brow (gx := g2) (T := 64) (X := X1) (by simp))
       have x3 := HX2.out _ _ (D9.out.brow (gx := g6) (T := 52) (X := XC) (by simp))
       clear hr hg))
  generalize w8.heap.size = g8 at *
  refine (RL.out _ _ _ _ D9.out).mono ?_
  rintro _ _ ⟨rfl, rfl⟩
  go_wp2_with fail
  refine (SY.out _ _ _ D9.out).mono ?_
  rintro _ w10 ⟨rfl, h10⟩
  have D10 := Lib.hid h10
  clear h10 SY D9 cw5 x0 x3
  have cw6 := (D10.out.brow (gx := m) (T := 32) (X := WC g p) (by simp)).cell 1 (by simp [WC])
  simp only [WC, List.getElem_cons_zero, List.getElem_cons_succ] at cw6
  go_wp2_with fail
  refine (RL.out _ _ _ _ D10.out).mono ?_
  rintro _ _ ⟨rfl, rfl⟩
  go_wp2_with fail
  go_ret
  exact ⟨rfl, D10.out.low⟩
end Go.Proofs.YtalfnadejpmjnaaGreatDoor
