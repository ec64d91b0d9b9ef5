/- What later texts need of the earlier layers. -/
import Derived.Test.YtalfnadejpmjnaaGreatDoorNSlO
import Derived.Test.YtalfnadejpmjnaaGreatDoorNSlS
import Derived.Test.YtalfnadejpmjnaaGreatDoorNSlT
import Derived.Test.YtalfnadejpmjnaaGreatDoorNDkA
import Derived.Test.YtalfnadejpmjnaaGreatDoorNDkB
import Derived.Test.YtalfnadejpmjnaaGreatDoorNDkC
import Derived.Test.YtalfnadejpmjnaaGreatDoorChecked
import Derived.Deep.AppendSrc
import Derived.Deep.DeepAppendWide
import Derived.OwnWalk
import Derived.Below
import Derived.WalkKit
import Derived.Shelf.Sort.Plain
import Derived.Shelf.Slices.In.SortNone
/- ---- OwnAt9 ---- -/
/- disk: append onto a row (and where it then lies) of bytes of the call's own, of whatever is appended (a string, a slice), up to growslice's own bound. -/
namespace Go.Proofs.YtalfnadejpmjnaaGreatDoor.Jn
set_option maxRecDepth 100000
open Go.RowKit
set_option linter.unusedVariables false
set_option linter.unusedSimpArgs false

theorem run_own_at9 {P : Program} (w : World) (base : Nat) (t tx ty e : TypeId) (i : TypeInfo) (ht : P.underlying t = some (.slice e)) (hi : P.info? e = some i) (hz : i.zero = some (.int .u8 0)) (hsize : i.size = 1) (hby : i.bytes = 1)
    (v : Value) (n : Nat) (xs : List Value) (hown : w.ownsRow base e 1 v n xs) (x : Value) (m : Nat) (news : List Value) (hs : Src P 1 tx x m news w)
    (hbytes : (n + m) + (n + m) / 4 + 192 ≤ 281474976710656) (hbase : base ≤ w.heap.size) :
    ∃ v' w', (Builtin.append_ #[t, tx] ty #[v, x]).run P w = .ok v' w' ∧ w'.ownsRow base e 1 v' (n + m) (xs ++ news) ∧ w.grownBy w' v.ownBlock ∧ (v'.ownBlock = v.ownBlock ∨ v'.ownBlock = some w.heap.size) := by
  have hxl : xs.length = n := by simpa using hown.1
  have hnl : news.length = m := by simpa using hs.newsLen
  have hlen : (xs ++ news).length = (n + m) * 1 := by rw [List.length_append, hxl, hnl, Nat.mul_one]
  have hs' : Src P i.size tx x m news w := by rw [hsize]; exact hs
  have grown : ∀ (old : Nat), old < n + m → ∀ (row : Option Nat),
      (w.drew.alloc (.cells ((xs ++ news).toArray ++ Builtin.zeroCells (Value.int .u8 0).cells (grownCap w (n + m) old e - (n + m))) e)).ownsRow base e 1
        (.slice (some ⟨w.heap.size, 0, none⟩) (n + m) (grownCap w (n + m) old e)) (n + m) (xs ++ news) ∧
      w.grownBy (w.drew.alloc (.cells ((xs ++ news).toArray ++ Builtin.zeroCells (Value.int .u8 0).cells (grownCap w (n + m) old e - (n + m))) e)) row := by
    intro old ho row
    have hge := grownCap_ge w (n + m) old e
    have hcm : grownCap w (n + m) old e ≤ maxLen := grownCap_le_maxLen w (n + m) old e (by unfold maxLen; omega)
    refine ⟨⟨hlen, .inr ⟨w.heap.size, _, _, rfl, hbase, heap_alloc_new w.drew _, hge, hcm, ?_, ?_⟩⟩, ⟨rfl, rfl, rfl, by simp, fun k hk _ => Below.heap_alloc w.drew _ k hk⟩⟩
    · have hz1 : (Value.int IntKind.u8 0).cells.size = 1 := rfl
      simp only [Array.size_append, List.size_toArray, size_zeroCells, hz1, List.length_append, hxl, hnl]
      omega
    · rw [Array.toList_append, ← hlen]
      exact List.take_left
  rcases hown.2 with ⟨rfl, rfl⟩ | ⟨g, cap, cur, rfl, hbg, hg, hnc, hcm, hcs, htake⟩
  · have hx : xs = [] := List.eq_nil_of_length_eq_zero hxl
    subst hx
    by_cases hm : m = 0
    · subst hm
      have hn : news = [] := List.eq_nil_of_length_eq_zero hnl
      subst hn
      refine ⟨.slice none 0 0, w, ?_, World.ownsRow_nil w base e 1, ⟨rfl, rfl, rfl, Nat.le_refl _, fun _ _ _ => rfl⟩, .inl rfl⟩
      rcases hs'.kind with ⟨e', hk⟩ | hk <;> simp [Builtin.append_, run_underlying ht, run_underlying hk, sizeOf, typeInfo, hi, hs'.len, hs'.cells]
    · have hr := run_append_grow_src (P := P) w t tx ty e i (.int .u8 0) ht hi hz none 0 0 [] (run_firstCells_none w.drew i.size 0 0 0) x m news hs' (by omega) (by omega) (by
        have := nextslicecap_le_wide (need := 0 + m) (old := 0) (by omega)
        rw [hby]; omega)
      have hgr := grown 0 (by omega) (Value.ownBlock (.slice none 0 0))
      exact ⟨_, _, hr, hgr.1, hgr.2, .inr rfl⟩
  · have hcs' : cur.size = cap := by simpa using hcs
    by_cases hroom : n + m ≤ cap
    · have hst := run_storeCells_at P g n e news 0 cur w hg (by omega) hs.one
      have hrun : (Builtin.append_ #[t, tx] ty #[.slice (some ⟨g, 0, none⟩) n cap, x]).run P w =
          .ok (.slice (some ⟨g, 0, none⟩) (n + m) cap) (w.setRow g (cur.toList.take n ++ news ++ cur.toList.drop (n + m)).toArray) := by
        simp only [Nat.add_zero, hnl] at hst
        rcases hs.kind with ⟨e', hk⟩ | hk <;> simp [Builtin.append_, run_underlying ht, run_underlying hk, sizeOf, typeInfo, hi, hsize, hs.len, hroom, hs.cells, Addr.add_lit, hst]
      refine ⟨_, _, hrun, ⟨hlen, .inr ⟨g, cap, _, rfl, hbg, setRow_heap w g cur _ e _ hg, hroom, hcm, ?_, ?_⟩⟩, ⟨rfl, rfl, rfl, by simp, fun k _ hk => setRow_other w g k _ (fun e => hk (by simp [Value.ownBlock, e]))⟩, .inl rfl⟩
      · simp only [List.size_toArray, List.length_append, List.length_take, List.length_drop, Array.length_toList, hnl]
        omega
      · have ht' : cur.toList.take n = xs := by simpa using htake
        rw [ht', ← hlen]
        exact List.take_left
    · have holds : ∀ j u, xs[j]? = some u → w.cell? ((⟨g, 0, none⟩ : Addr).add j) = some u := hown.cells (g := g) rfl
      have hr := run_append_grow_src (P := P) w t tx ty e i (.int .u8 0) ht hi hz (some ⟨g, 0, none⟩) n cap xs
        (run_firstCells_some w.drew i.size n ⟨g, 0, none⟩ n cap xs (by rw [hsize]; simpa using hxl) (by simpa using holds)) x m news hs' (by omega) (by omega) (by
        have := nextslicecap_le_wide (need := n + m) (old := cap) (by omega)
        rw [hby]; omega)
      have hgr := grown cap (by omega) (Value.ownBlock (.slice (some ⟨g, 0, none⟩) n cap))
      exact ⟨_, _, hr, hgr.1, hgr.2, .inr rfl⟩
/-- at the operation -/
theorem wpList_own_at9 {P : Program} (w : World) {ops : Array Oper} {rest : List Oper} {o : Oper} {a : Act} {Q : Exit → Act → World → Prop} (hgd : o.guard = none) (sl x : Operand) (t tx : TypeId)
    (ho : o.op = .call { callee := .builtin .append, args := #[sl, x], argTypes := #[t, tx] }) (base : Nat) (e : TypeId) (i : TypeInfo) (ht : P.underlying t = some (.slice e)) (hi : P.info? e = some i) (hz : i.zero = some (.int .u8 0)) (hsize : i.size = 1) (hby : i.bytes = 1)
    (v : Value) (n : Nat) (xs : List Value) (hv : a.eval sl = v) (hown : w.ownsRow base e 1 v n xs) (u : Value) (m : Nat) (news : List Value) (hx : a.eval x = u) (hs : Src P 1 tx u m news w)
    (hbytes : (n + m) + (n + m) / 4 + 192 ≤ 281474976710656) (hbase : base ≤ w.heap.size)
    (h : ∀ v' w', w'.ownsRow base e 1 v' (n + m) (xs ++ news) → w.grownBy w' v.ownBlock → (v'.ownBlock = v.ownBlock ∨ v'.ownBlock = some w.heap.size) → wpList P ops Q rest (a.put o.dst v') w') : wpList P ops Q (o :: rest) a w := by
  refine wpList_plain hgd fun K hK => ?_
  obtain ⟨v', w', hr, h2, h3, h4⟩ := run_own_at9 (P := P) w base t tx o.type e i ht hi hz hsize hby v n xs hown u m news hs hbytes hbase
  unfold Oper.wp execOp
  simp only [ho, resolve, invoke, builtin, Sem.run_bind, Sem.run_pure, Result.andThen_ok, List.map_toArray, List.map_cons, List.map_nil, hv, hx, hr]
  exact hK _ _ (h v' w' h2 h3 h4)
end Go.Proofs.YtalfnadejpmjnaaGreatDoor.Jn

/- ---- DiskApp ---- -/
/- disk: Append. -/
namespace Go.Proofs.YtalfnadejpmjnaaGreatDoor.Jn
set_option maxRecDepth 100000
open Go.RowKit Go.Maps
set_option linter.unusedVariables false
set_option linter.unusedSimpArgs false

def appendR (l : List Fl) (r : Int) (nm : Fl.Nm) (s : List UInt8) : List Fl × Int × Int :=
  if r = 0 then (l, r, 8) else if Disk.word nm = false then (l, r, 2) else if 1048576 < (bytesR l r nm).length + s.length then (l, r, 3)
  else if Fl.find l nm = none ∧ 8 ≤ l.length then (l, r, 25) else (Fl.put l ⟨nm, bytesR l r nm ++ s, safeR l r nm⟩, oneR r, 0)
theorem r8Info : (Tryz.prog.info? 5).map (fun i => (i.zero, i.size, i.bytes)) = some (some (.int .u8 0), 1, 1) := by kernel_rfl
theorem DiskTo.grownto {w w4 w5 w6 : World} {B g M : Nat} {V : Fl.Nm → Value} {l : List Fl} {r r5 : Int} (hd : DiskIn w B g M V l r) {f : Fl} {v : Value}
    (h14 : Chg (DiskOwn g M l V) w w4) (hv2 : ∀ k, v.ownBlock = some k → DiskOwn g M l V k ∨ w.heap.size ≤ k) (h45 : w4.grownBy w5 (some M))
    (h6 : DiskIn w6 B g M (fun x => if x = f.name then v else V x) (Fl.put l f) r5) (h56 : w5.grownBy w6 (some g)) : DiskTo w w6 B g M V l (Fl.put l f) r5 := by
  refine ⟨_, h6, ?_, fun k hk => ?_⟩
  · refine (h14.trans (Chg.of_grown (S := DiskOwn g M l V) h45 (fun k e => by cases e; exact .inl (.inr (.inl rfl)))) (fun k h => .inl h)).trans (Chg.of_grown (S := DiskOwn g M l V) h56 (fun k e => by cases e; exact .inl (.inl rfl))) (fun k h => .inl h)
  · rcases DiskOwn.put hd.sorted hk with h | h
    · exact .inl h
    · exact hv2 k h
theorem DiskIn.lt_f {w : World} {B g M : Nat} {V : Fl.Nm → Value} {l : List Fl} {r : Int} (h : DiskIn w B g M V l r) {f : Fl} (hf : f ∈ l) {k : Nat} (hk : (V f.name).ownBlock = some k) : k < w.heap.size := ((h.files f hf).lt k hk).2
/-- where the slice that find told lies -/
theorem findR_apart {w : World} {B g M : Nat} {V : Fl.Nm → Value} {l : List Fl} {r : Int} (hd : DiskIn w B g M V l r) (nm : Fl.Nm) : ∀ k, (findR V l r nm).1.ownBlock = some k → (k ≠ g ∧ k ≠ M ∧ ∀ x ∈ l, x.name ≠ nm → (V x.name).ownBlock ≠ some k) ∧ DiskOwn g M l V k := by
  intro k hk
  unfold findR at hk
  by_cases h0 : r = 0
  · rw [if_pos h0] at hk; cases hk
  · rw [if_neg h0] at hk
    rcases hf : Fl.find l nm with _ | f
    · rw [hf] at hk; cases hk
    · rw [hf] at hk
      exact hd.own_apart hf k hk
set_option maxRecDepth 20000 in
set_option maxHeartbeats 3200000 in
theorem append_at9 {w : World} {B g M : Nat} {V : Fl.Nm → Value} {l : List Fl} {r : Int} (nm s : Fl.Nm) (hd : DiskIn w B g M V l r) (hn : nm.length ≤ 140737488351232) (ht : s.length ≤ 140737488351232) :
    Calls Tryz.prog 61 #[.pointer (some ⟨g, 0, none⟩), Sb nm, Sb s] w fun e w' => e = .returned (.int .i64 (appendR l r nm s).2.2) ∧ DiskTo w w' B g M V l (appendR l r nm s).1 (appendR l r nm s).2.1 := by
  obtain ⟨i0, hi, hz0, hz1, hz2⟩ := parts9 r8Info
  have Hi := Lib.hid hi; clear hi
  have Hz0 := Lib.hid hz0; clear hz0
  have Hz1 := Lib.hid hz1; clear hz1
  have Hz2 := Lib.hid hz2; clear hz2
  have hnm : nm.length ≤ maxLen := by unfold maxLen; omega
  have HF := Lib.hid (find9 nm hd hnm)
  have HD := Lib.hid hd
  have HN := Lib.hid hnm
  obtain ⟨R, hR⟩ : ∃ R, R = appendR l r nm s := ⟨_, rfl⟩
  rw [← hR]
  unfold appendR at hR
  have HI : Hid (∀ w, Calls Tryz.prog 89 #[Sb nm] w fun e w' => e = .returned (.bool (Disk.word nm)) ∧ w = w') := Lib.hid fun w => isName_any ⟨nm.toArray⟩ w (show nm.toArray.size ≤ _ by simpa using hn)
  have hsl : (⟨s.toArray⟩ : ByteArray).size = s.length := by show s.toArray.size = _; simp
  have HSL := Lib.hid hsl
  have hbl := bytesR_le hd nm
  have Hbl := Lib.hid hbl
  clear hd hn hnm hsl hbl
  rcases codeR_cases l r nm with ⟨h0, hc⟩ | ⟨h0, hf, hc⟩ | ⟨h0, f, hf, hc, hbs, hsf, hfr⟩
  · rw [if_pos h0] at hR
    rw [hc] at HF
    have HR := Lib.hid hR
    generalize safeR l r nm = sf at *
    clear h0 hR hc
    go_enter Tryz.func61, Tryz.ntmps61
    go_wp2_with fail
    refine HF.out.mono ?_
    rintro _ w1 ⟨A, n, c, rfl, hb, hx1, hx2, hx3⟩
    clear hx1 hx2 hx3
    have Hb := Lib.hid (hb.alloc hb.size (.cells #[.slice A n c, .int .i64 sf] 87))
    clear hb
    go_wp2_with fail
    go_ret
    exact ⟨by rw [HR.out]; rfl, by rw [HR.out]; exact .same HD.out Hb.out⟩
  · have hfull : (Fl.find l nm = none ∧ 8 ≤ l.length) ↔ 8 ≤ l.length := ⟨fun h => h.2, fun h => ⟨hf, h⟩⟩
    rw [if_neg h0] at hR
    rw [hc] at HF
    by_cases hw : Disk.word nm = true
    · rw [hw] at HI
      rw [if_neg (by rw [hw]; simp)] at hR
      by_cases hbig : 1048576 < (bytesR l r nm).length + s.length
      · rw [if_pos hbig] at hR
        have HR := Lib.hid hR
        have Hbig := Lib.hid hbig
        obtain ⟨sf, hsf9⟩ : ∃ sf, sf = safeR l r nm := ⟨_, rfl⟩
        rw [← hsf9] at HF
        clear h0 hR hc hw hbig hsf9 hf hfull
        go_enter Tryz.func61, Tryz.ntmps61
        go_wp2_with fail
        refine HF.out.mono ?_
        rintro _ w1 ⟨A, n, c, rfl, hb, hx1, hx2, hx3⟩
        have d1 : decide ((1048576 : Int) - (n : Int) < (s.length : Int)) = true := by rw [decide_eq_true_eq, hx1]; have := Hbig.out; omega
        have hw1 : IntKind.i64.wrap ((1048576 : Int) - (n : Int)) = (1048576 : Int) - (n : Int) := IntWalk.i64_in _ (by have := Hbl.out; rw [hx1]; omega)
        clear hx1 hx2 hx3
        have Hb := Lib.hid (hb.alloc hb.size (.cells #[.slice A n c, .int .i64 sf] 87))
        clear hb
        go_wp2_with fail
        refine (HI.out _).mono ?_
        rintro _ w2 ⟨rfl, rfl⟩
        go_wp2_with fail
        go_ret
        exact ⟨by rw [HR.out]; rfl, by rw [HR.out]; exact .same HD.out Hb.out⟩
      · rw [if_neg hbig] at hR
        by_cases hfl : 8 ≤ l.length
        · rw [if_pos (hfull.2 hfl)] at hR
          have HR := Lib.hid hR
          have Hbig := Lib.hid hbig
          obtain ⟨sf, hsf9⟩ : ∃ sf, sf = safeR l r nm := ⟨_, rfl⟩
          rw [← hsf9] at HF
          have d2 : decide ((8 : Int) ≤ (l.length : Int)) = true := by rw [decide_eq_true_eq]; omega
          clear h0 hR hc hw hbig hsf9 hf hfull hfl
          go_enter Tryz.func61, Tryz.ntmps61
          go_wp2_with fail
          refine HF.out.mono ?_
          rintro _ w1 ⟨A, n, c, rfl, hb, hx1, hx2, hx3⟩
          have d1 : decide ((1048576 : Int) - (n : Int) < (s.length : Int)) = false := by rw [decide_eq_false_iff_not, hx1]; have := Hbig.out; omega
          have hw1 : IntKind.i64.wrap ((1048576 : Int) - (n : Int)) = (1048576 : Int) - (n : Int) := IntWalk.i64_in _ (by have := Hbl.out; rw [hx1]; omega)
          have hb2 := hb.alloc hb.size (.cells #[.slice A n c, .int .i64 sf] 87)
          obtain ⟨sk, hsk, hkk⟩ := HD.out.row
          obtain ⟨D, hD, hV⟩ := HD.out.map
          have c0 : (w1.alloc (.cells #[.slice A n c, .int .i64 sf] 87)).cell? ⟨g, 0, none⟩ = some (.map (some M)) := (DkAt.box (hsk.below hb2)).1
          have hDk : (w1.alloc (.cells #[.slice A n c, .int .i64 sf] 87)).ownsMap Tryz.prog 9 heldV M l.length D := hD.kept (grownBy_of_below hb2 none) (by simp)
          have hlen : ∀ ty, (Builtin.len_ #[71] ty #[.map (some M)]).run Tryz.prog (w1.alloc (.cells #[.slice A n c, .int .i64 sf] 87)) = .ok (.int .i64 (l.length : Int)) (w1.alloc (.cells #[.slice A n c, .int .i64 sf] 87)) := fun ty => by
            rw [← View.size hD hV HD.out.sorted]; exact hDk.len Tryz.underlying71 ty
          have Hb := Lib.hid hb2
          clear hb hb2 hx1 hx2 hx3 hsk hkk hD hV hDk
          go_wp2_with fail
          refine (HI.out _).mono ?_
          rintro _ w2 ⟨rfl, rfl⟩
          go_wp2_with fail
          go_ret
          exact ⟨by rw [HR.out]; rfl, by rw [HR.out]; exact .same HD.out Hb.out⟩
        · rw [if_neg (fun h => hfl (hfull.1 h))] at hR
          have HR := Lib.hid hR
          have Hbig := Lib.hid hbig
          have H0 := Lib.hid h0
          have Hw := Lib.hid hw
          obtain ⟨sf, hsf9⟩ : ∃ sf, sf = safeR l r nm := ⟨_, rfl⟩
          rw [← hsf9] at HF HR
          have Hsf9 := Lib.hid hsf9
          have d2 : decide ((8 : Int) ≤ (l.length : Int)) = false := by rw [decide_eq_false_iff_not]; omega
          have hpl : ∀ f : Fl, f.name = nm → (Fl.put l f).length ≤ 8 := fun f hfn => by
            have := Fl.length_put l HD.out.sorted f
            rw [hfn, hf] at this
            rw [this]; simp; omega
          have HPL := Lib.hid hpl
          clear h0 hR hc hw hbig hsf9 hf hfull hfl hpl
          go_enter Tryz.func61, Tryz.ntmps61
          go_wp2_with fail
          refine HF.out.mono ?_
          rintro _ w1 ⟨A, n, c, rfl, hb, hx1, hown, hx3⟩
          have hAp := findR_apart HD.out nm
          rw [hx3] at hAp
          simp only at hAp
          have d1 : decide ((1048576 : Int) - (n : Int) < (s.length : Int)) = false := by rw [decide_eq_false_iff_not, hx1]; have := Hbig.out; omega
          have hw1 : IntKind.i64.wrap ((1048576 : Int) - (n : Int)) = (1048576 : Int) - (n : Int) := IntWalk.i64_in _ (by have := Hbl.out; rw [hx1]; omega)
          have hb2 := hb.alloc hb.size (.cells #[.slice A n c, .int .i64 sf] 87)
          have hrow2 := Row.new w1 87 [.slice A n c, .int .i64 sf]
          obtain ⟨sk, hsk, hkk⟩ := HD.out.row
          obtain ⟨D, hD, hV⟩ := HD.out.map
          have c0 : (w1.alloc (.cells #[.slice A n c, .int .i64 sf] 87)).cell? ⟨g, 0, none⟩ = some (.map (some M)) := (DkAt.box (hsk.below hb2)).1
          have hDk : (w1.alloc (.cells #[.slice A n c, .int .i64 sf] 87)).ownsMap Tryz.prog 9 heldV M l.length D := hD.kept (grownBy_of_below hb2 none) (by simp)
          have hlen : ∀ ty, (Builtin.len_ #[71] ty #[.map (some M)]).run Tryz.prog (w1.alloc (.cells #[.slice A n c, .int .i64 sf] 87)) = .ok (.int .i64 (l.length : Int)) (w1.alloc (.cells #[.slice A n c, .int .i64 sf] 87)) := fun ty => by
            rw [← View.size hD hV HD.out.sorted]; exact hDk.len Tryz.underlying71 ty
          have ho2 := hown.alloc (.cells #[.slice A n c, .int .i64 sf] 87)
          have hsrc : Src Tryz.prog 1 9 (Sb s) s.length (byteCells ⟨s.toArray⟩) (w1.alloc (.cells #[.slice A n c, .int .i64 sf] 87)) := by rw [← HSL.out]; exact Src.ofString _ Tryz.underlying9 ⟨s.toArray⟩
          have hbase : B ≤ (w1.alloc (.cells #[.slice A n c, .int .i64 sf] 87)).heap.size := by
            have h1 := HD.out.lo.1
            have h2 : g < w.heap.size := Row.lt hsk
            have h3 := hb2.size
            omega
          have hbyt : ((bytesR l r nm).length + s.length) + ((bytesR l r nm).length + s.length) / 4 + 192 ≤ 281474976710656 := by have := Hbig.out; omega
          have hqw : w.heap.size ≤ w1.heap.size := hb.size
          have hgw : g < w.heap.size := Row.lt hsk
          have hMw : M < w.heap.size := hD.lt
          have hAw : ∀ k, (Value.slice A n c).ownBlock = some k → k < w.heap.size := fun k hk => by
            have := findR_own HD.out nm
            rw [hx3] at this
            exact (this.lt k hk).2
          have HAw := Lib.hid hAw
          have HAp := Lib.hid hAp
          have Hb := Lib.hid hb2
          have HDk := Lib.hid hDk
          have HV := Lib.hid hV
          have Ho2 := Lib.hid ho2
          have Hsrc := Lib.hid hsrc
          have Hbase := Lib.hid hbase
          have Hbyt := Lib.hid hbyt
          have Hrow2 := Lib.hid hrow2
          have Hq := Lib.hid (And.intro hqw (And.intro hgw hMw))
          clear hb hb2 hx1 hx3 hown hsk hkk hD hV hDk hAp ho2 hsrc hbase hbyt hrow2 hqw hgw hMw hAw
          go_wp2_with fail
          refine (HI.out _).mono ?_
          rintro _ w2 ⟨rfl, rfl⟩
          go_wp2_with (first
            | (at_builtin; refine wpList_own_at9 _ rfl _ _ 85 9 rfl B 5 i0 Tryz.underlying85 Hi.out Hz0.out Hz1.out Hz2.out _ _ _ rfl Ho2.out _ _ _ rfl Hsrc.out Hbyt.out Hbase.out ?_
               intro v' w3 hown3 hg3 hat3
               obtain ⟨A3, c3, rfl⟩ := own_form9 hown3
               have hqA : (Value.slice A n c).ownBlock ≠ some w1.heap.size := fun e => by have := HAw.out _ e; have := Hq.out.1; omega
               have hrow3 := Hrow2.out.kept hg3 (fun e => hqA e.symm)
               have f30 := Row.free hrow3 0
               have c30 := Row.cell hrow3 0 (by simp)
               have hset := Row.set hrow3 0 (.slice A3 ((bytesR l r nm).length + s.length) c3) (by simp)
               have hset0 := Row.cell hset 0 (by simp)
               have hset1 := Row.cell hset 1 (by simp)
               simp only [List.getElem_cons_zero, List.getElem_cons_succ, List.set_cons_zero] at hset0 hset1 c30
               have Hown3 := Lib.hid hown3
               have Hg3 := Lib.hid hg3
               have Hat3 := Lib.hid hat3
               have HqA := Lib.hid hqA
               have Hset := Lib.hid hset
               have Hset0 := Lib.hid hset0
               have Hset1 := Lib.hid hset1
               clear hown3 hg3 hat3 hqA hrow3 hset hset0 hset1
               go_frame)
            | fail)
          refine region_named 6 (by kernel_rfl) (by kernel_rfl) ?_
          intro w5 hw5
          have hq := Hq.out
          have hg34 := grownBy_set w3 w1.heap.size 0 (.slice A3 ((bytesR l r nm).length + s.length) c3)
          have hg35 : w3.grownBy w5 (some w1.heap.size) := by rw [hw5]; exact hg34.trans (grownBy_drew _ _)
          have hd0 := (cell_drew hw5 w1.heap.size 0).trans Hset0.out
          have hd1 := (cell_drew hw5 w1.heap.size 1).trans Hset1.out
          have hown5 := Hown3.out.kept hg35 (.inr (fun e => by
            rcases Hat3.out with h | h
            · exact HqA.out (h.symm.trans e)
            · rw [h] at e; injection e with e; simp at e))
          have hMA : some M ≠ (Value.slice A n c).ownBlock := fun e => (HAp.out M e.symm).1.2.1 rfl
          have hgA : some g ≠ (Value.slice A n c).ownBlock := fun e => (HAp.out g e.symm).1.1 rfl
          have hm5 : w5.ownsMap Tryz.prog 9 heldV M l.length D := (HDk.out.kept Hg3.out hMA).kept hg35 (by simp; omega)
          have c0' : w5.cell? ⟨g, 0, none⟩ = some (.map (some M)) := by
            obtain ⟨sk, hsk, _⟩ := HD.out.row
            exact (DkAt.box (((Row.below hsk Hb.out).kept Hg3.out hgA).kept hg35 (by simp; omega))).1
          have hch : Chg (fun k => (Value.slice A n c).ownBlock = some k) w w5 :=
            ((Chg.of_below (S := fun k => (Value.slice A n c).ownBlock = some k) Hb.out).trans (Chg.of_grown (S := fun k => (Value.slice A n c).ownBlock = some k) Hg3.out (fun k e => .inl e)) (fun k h => .inl h)).trans
              (Chg.of_grown (S := fun k => k = w1.heap.size) hg35 (fun k e => by cases e; exact .inl rfl)) (fun k h => .inr (by omega))
          have hll : l.length < maxLen := by have := HD.out.len; unfold maxLen; omega
          have hv2 : ∀ k, (Value.slice A3 ((bytesR l r nm).length + s.length) c3).ownBlock = some k → (DiskOwn g M l V k ∨ w.heap.size ≤ k) ∧ ∀ x ∈ l, x.name ≠ nm → (V x.name).ownBlock ≠ some k := fun k hk => by
            rcases Hat3.out with h | h
            · have := HAp.out k (h.symm.trans hk)
              exact ⟨.inl this.2, this.1.2.2⟩
            · have hk2 : k = (w1.alloc (.cells #[.slice A n c, .int .i64 sf] 87)).heap.size := by rw [hk] at h; injection h
              have hk3 : w.heap.size ≤ k := by rw [hk2]; simp; omega
              exact ⟨.inr hk3, fun x hx _ e => by have := HD.out.lt_f hx e; omega⟩
          have hstore : ∀ w6 : World, w6.ownsMap Tryz.prog 9 heldV M (l.length + 1) (D.put (KS nm) (.held (Fv (.slice A3 ((bytesR l r nm).length + s.length) c3) sf))) → w5.grownBy w6 (some M) →
              DiskIn w6 B g M (fun x => if x = nm then .slice A3 ((bytesR l r nm).length + s.length) c3 else V x) (Fl.put l ⟨nm, bytesR l r nm ++ s, sf⟩) r := by
            intro w6 hm6 hg6
            have hok := safeR_le HD.out nm
            rw [← Hsf9.out] at hok
            have ho5 : w5.ownsRow B 5 1 (.slice A3 ((bytesR l r nm).length + s.length) c3) (bytesR l r nm ++ s).length (cel8 (bytesR l r nm ++ s)) := by
              have e1 : (bytesR l r nm).length + s.length = (bytesR l r nm ++ s).length := by rw [List.length_append]
              have e2 : cel8 (bytesR l r nm) ++ byteCells ⟨s.toArray⟩ = cel8 (bytesR l r nm ++ s) := by unfold cel8 byteCells; rw [List.map_append]
              have := hown5
              rw [e2] at this
              rw [e1] at this ⊢
              exact this
            have hbb := Hbig.out
            refine HD.out.stored (f := ⟨nm, bytesR l r nm ++ s, sf⟩) hch (fun k h => (HAp.out k h).1) ho5 (fun k h => (hv2 k h).2) HV.out hm6 hg6 (HPL.out _ rfl) ⟨hok.1, show sf ≤ ((bytesR l r nm ++ s).length : Int) by rw [List.length_append]; omega, show (bytesR l r nm ++ s).length ≤ 1048576 by rw [List.length_append]; omega, word_len Hw.out⟩
          have Hstore := Lib.hid hstore
          have Hv2 := Lib.hid hv2
          have Hch := Lib.hid (hch.mono (fun k h => (HAp.out k h).2))
          have Hm5 := Lib.hid hm5
          clear hw5 hq hg34 hg35 hown5 hMA hgA hm5 hch hv2 hstore c0 hlen c30 f30
          simp only [List.take_succ_cons, List.take_zero, List.drop_succ_cons, List.drop_zero]
          repeat still_step
          refine wpStill_nil ?_
          go_wp2_with (first
            | (at_mapUpdate; refine wpList_mapUpdate_own _ rfl _ _ _ 71 rfl 9 87 lawS Tryz.underlying71 _ M l.length _ rfl Hm5.out hll _ _ _ rfl rfl (keyS nm HN.out) _ [] (heldV_eq _) ?_; intro w6 hown6 hg6
               have hd6 := Hstore.out w6 hown6 hg6
               have Hg6 := Lib.hid hg6
               have Hd6 := Lib.hid hd6
               clear hown6 hg6 hd6)
            | fail)
          refine (done9 Hd6.out H0.out).mono ?_
          rintro _ w7 ⟨rfl, hd7, hg7⟩
          have Hd7 := Lib.hid hd7
          have Hg7 := Lib.hid hg7
          clear hd7 hg7
          go_wp2_with fail
          go_ret
          refine ⟨by rw [HR.out]; rfl, by rw [HR.out]; exact .grownto HD.out Hch.out (fun k h => (Hv2.out k h).1) Hg6.out Hd7.out Hg7.out⟩
    · rw [if_pos (by simpa using hw)] at hR
      rw [Bool.not_eq_true] at hw
      rw [hw] at HI
      have HR := Lib.hid hR
      generalize safeR l r nm = sf at *
      clear h0 hR hc hw hfull hf
      go_enter Tryz.func61, Tryz.ntmps61
      go_wp2_with fail
      refine HF.out.mono ?_
      rintro _ w1 ⟨A, n, c, rfl, hb, hx1, hx2, hx3⟩
      clear hx1 hx2 hx3
      have Hb := Lib.hid (hb.alloc hb.size (.cells #[.slice A n c, .int .i64 sf] 87))
      clear hb
      go_wp2_with fail
      refine (HI.out _).mono ?_
      rintro _ w2 ⟨rfl, rfl⟩
      go_wp2_with fail
      go_ret
      exact ⟨by rw [HR.out]; rfl, by rw [HR.out]; exact .same HD.out Hb.out⟩
  · have hfull : ¬ (Fl.find l nm = none ∧ 8 ≤ l.length) := fun h => by rw [hf] at h; cases h.1
    rw [if_neg h0] at hR
    rw [hc] at HF
    by_cases hw : Disk.word nm = true
    · rw [hw] at HI
      rw [if_neg (by rw [hw]; simp)] at hR
      by_cases hbig : 1048576 < (bytesR l r nm).length + s.length
      · rw [if_pos hbig] at hR
        have HR := Lib.hid hR
        have Hbig := Lib.hid hbig
        obtain ⟨sf, hsf9⟩ : ∃ sf, sf = safeR l r nm := ⟨_, rfl⟩
        rw [← hsf9] at HF
        clear h0 hR hc hw hbig hsf9 hf hbs hsf hfr hfull
        go_enter Tryz.func61, Tryz.ntmps61
        go_wp2_with fail
        refine HF.out.mono ?_
        rintro _ w1 ⟨A, n, c, rfl, hb, hx1, hx2, hx3⟩
        have d1 : decide ((1048576 : Int) - (n : Int) < (s.length : Int)) = true := by rw [decide_eq_true_eq, hx1]; have := Hbig.out; omega
        have hw1 : IntKind.i64.wrap ((1048576 : Int) - (n : Int)) = (1048576 : Int) - (n : Int) := IntWalk.i64_in _ (by have := Hbl.out; rw [hx1]; omega)
        clear hx1 hx2 hx3
        have Hb := Lib.hid (hb.alloc hb.size (.cells #[.slice A n c, .int .i64 sf] 87))
        clear hb
        go_wp2_with fail
        refine (HI.out _).mono ?_
        rintro _ w2 ⟨rfl, rfl⟩
        go_wp2_with fail
        go_ret
        exact ⟨by rw [HR.out]; rfl, by rw [HR.out]; exact .same HD.out Hb.out⟩
      · rw [if_neg hbig] at hR
        · rw [if_neg hfull] at hR
          have HR := Lib.hid hR
          have Hbig := Lib.hid hbig
          have H0 := Lib.hid h0
          have Hw := Lib.hid hw
          obtain ⟨sf, hsf9⟩ : ∃ sf, sf = safeR l r nm := ⟨_, rfl⟩
          rw [← hsf9] at HF HR
          have Hsf9 := Lib.hid hsf9
          have hpl : ∀ f : Fl, f.name = nm → (Fl.put l f).length ≤ 8 := fun f2 hfn => by
            have := Fl.length_put l HD.out.sorted f2
            rw [hfn, hf] at this
            rw [this]; simpa using HD.out.len
          have HPL := Lib.hid hpl
          clear h0 hR hc hw hbig hsf9 hf hbs hsf hfr hfull hpl
          go_enter Tryz.func61, Tryz.ntmps61
          go_wp2_with fail
          refine HF.out.mono ?_
          rintro _ w1 ⟨A, n, c, rfl, hb, hx1, hown, hx3⟩
          have hAp := findR_apart HD.out nm
          rw [hx3] at hAp
          simp only at hAp
          have d1 : decide ((1048576 : Int) - (n : Int) < (s.length : Int)) = false := by rw [decide_eq_false_iff_not, hx1]; have := Hbig.out; omega
          have hw1 : IntKind.i64.wrap ((1048576 : Int) - (n : Int)) = (1048576 : Int) - (n : Int) := IntWalk.i64_in _ (by have := Hbl.out; rw [hx1]; omega)
          have hb2 := hb.alloc hb.size (.cells #[.slice A n c, .int .i64 sf] 87)
          have hrow2 := Row.new w1 87 [.slice A n c, .int .i64 sf]
          obtain ⟨sk, hsk, hkk⟩ := HD.out.row
          obtain ⟨D, hD, hV⟩ := HD.out.map
          have c0 : (w1.alloc (.cells #[.slice A n c, .int .i64 sf] 87)).cell? ⟨g, 0, none⟩ = some (.map (some M)) := (DkAt.box (hsk.below hb2)).1
          have hDk : (w1.alloc (.cells #[.slice A n c, .int .i64 sf] 87)).ownsMap Tryz.prog 9 heldV M l.length D := hD.kept (grownBy_of_below hb2 none) (by simp)
          have hlen : ∀ ty, (Builtin.len_ #[71] ty #[.map (some M)]).run Tryz.prog (w1.alloc (.cells #[.slice A n c, .int .i64 sf] 87)) = .ok (.int .i64 (l.length : Int)) (w1.alloc (.cells #[.slice A n c, .int .i64 sf] 87)) := fun ty => by
            rw [← View.size hD hV HD.out.sorted]; exact hDk.len Tryz.underlying71 ty
          have ho2 := hown.alloc (.cells #[.slice A n c, .int .i64 sf] 87)
          have hsrc : Src Tryz.prog 1 9 (Sb s) s.length (byteCells ⟨s.toArray⟩) (w1.alloc (.cells #[.slice A n c, .int .i64 sf] 87)) := by rw [← HSL.out]; exact Src.ofString _ Tryz.underlying9 ⟨s.toArray⟩
          have hbase : B ≤ (w1.alloc (.cells #[.slice A n c, .int .i64 sf] 87)).heap.size := by
            have h1 := HD.out.lo.1
            have h2 : g < w.heap.size := Row.lt hsk
            have h3 := hb2.size
            omega
          have hbyt : ((bytesR l r nm).length + s.length) + ((bytesR l r nm).length + s.length) / 4 + 192 ≤ 281474976710656 := by have := Hbig.out; omega
          have hqw : w.heap.size ≤ w1.heap.size := hb.size
          have hgw : g < w.heap.size := Row.lt hsk
          have hMw : M < w.heap.size := hD.lt
          have hAw : ∀ k, (Value.slice A n c).ownBlock = some k → k < w.heap.size := fun k hk => by
            have := findR_own HD.out nm
            rw [hx3] at this
            exact (this.lt k hk).2
          have HAw := Lib.hid hAw
          have HAp := Lib.hid hAp
          have Hb := Lib.hid hb2
          have HDk := Lib.hid hDk
          have HV := Lib.hid hV
          have Ho2 := Lib.hid ho2
          have Hsrc := Lib.hid hsrc
          have Hbase := Lib.hid hbase
          have Hbyt := Lib.hid hbyt
          have Hrow2 := Lib.hid hrow2
          have Hq := Lib.hid (And.intro hqw (And.intro hgw hMw))
          clear hb hb2 hx1 hx3 hown hsk hkk hD hV hDk hAp ho2 hsrc hbase hbyt hrow2 hqw hgw hMw hAw
          go_wp2_with fail
          refine (HI.out _).mono ?_
          rintro _ w2 ⟨rfl, rfl⟩
          go_wp2_with (first
            | (at_builtin; refine wpList_own_at9 _ rfl _ _ 85 9 rfl B 5 i0 Tryz.underlying85 Hi.out Hz0.out Hz1.out Hz2.out _ _ _ rfl Ho2.out _ _ _ rfl Hsrc.out Hbyt.out Hbase.out ?_
               intro v' w3 hown3 hg3 hat3
               obtain ⟨A3, c3, rfl⟩ := own_form9 hown3
               have hqA : (Value.slice A n c).ownBlock ≠ some w1.heap.size := fun e => by have := HAw.out _ e; have := Hq.out.1; omega
               have hrow3 := Hrow2.out.kept hg3 (fun e => hqA e.symm)
               have f30 := Row.free hrow3 0
               have c30 := Row.cell hrow3 0 (by simp)
               have hset := Row.set hrow3 0 (.slice A3 ((bytesR l r nm).length + s.length) c3) (by simp)
               have hset0 := Row.cell hset 0 (by simp)
               have hset1 := Row.cell hset 1 (by simp)
               simp only [List.getElem_cons_zero, List.getElem_cons_succ, List.set_cons_zero] at hset0 hset1 c30
               have Hown3 := Lib.hid hown3
               have Hg3 := Lib.hid hg3
               have Hat3 := Lib.hid hat3
               have HqA := Lib.hid hqA
               have Hset := Lib.hid hset
               have Hset0 := Lib.hid hset0
               have Hset1 := Lib.hid hset1
               clear hown3 hg3 hat3 hqA hrow3 hset hset0 hset1
               go_frame)
            | fail)
          refine region_named 6 (by kernel_rfl) (by kernel_rfl) ?_
          intro w5 hw5
          have hq := Hq.out
          have hg34 := grownBy_set w3 w1.heap.size 0 (.slice A3 ((bytesR l r nm).length + s.length) c3)
          have hg35 : w3.grownBy w5 (some w1.heap.size) := by rw [hw5]; exact hg34.trans (grownBy_drew _ _)
          have hd0 := (cell_drew hw5 w1.heap.size 0).trans Hset0.out
          have hd1 := (cell_drew hw5 w1.heap.size 1).trans Hset1.out
          have hown5 := Hown3.out.kept hg35 (.inr (fun e => by
            rcases Hat3.out with h | h
            · exact HqA.out (h.symm.trans e)
            · rw [h] at e; injection e with e; simp at e))
          have hMA : some M ≠ (Value.slice A n c).ownBlock := fun e => (HAp.out M e.symm).1.2.1 rfl
          have hgA : some g ≠ (Value.slice A n c).ownBlock := fun e => (HAp.out g e.symm).1.1 rfl
          have hm5 : w5.ownsMap Tryz.prog 9 heldV M l.length D := (HDk.out.kept Hg3.out hMA).kept hg35 (by simp; omega)
          have c0' : w5.cell? ⟨g, 0, none⟩ = some (.map (some M)) := by
            obtain ⟨sk, hsk, _⟩ := HD.out.row
            exact (DkAt.box (((Row.below hsk Hb.out).kept Hg3.out hgA).kept hg35 (by simp; omega))).1
          have hch : Chg (fun k => (Value.slice A n c).ownBlock = some k) w w5 :=
            ((Chg.of_below (S := fun k => (Value.slice A n c).ownBlock = some k) Hb.out).trans (Chg.of_grown (S := fun k => (Value.slice A n c).ownBlock = some k) Hg3.out (fun k e => .inl e)) (fun k h => .inl h)).trans
              (Chg.of_grown (S := fun k => k = w1.heap.size) hg35 (fun k e => by cases e; exact .inl rfl)) (fun k h => .inr (by omega))
          have hll : l.length < maxLen := by have := HD.out.len; unfold maxLen; omega
          have hv2 : ∀ k, (Value.slice A3 ((bytesR l r nm).length + s.length) c3).ownBlock = some k → (DiskOwn g M l V k ∨ w.heap.size ≤ k) ∧ ∀ x ∈ l, x.name ≠ nm → (V x.name).ownBlock ≠ some k := fun k hk => by
            rcases Hat3.out with h | h
            · have := HAp.out k (h.symm.trans hk)
              exact ⟨.inl this.2, this.1.2.2⟩
            · have hk2 : k = (w1.alloc (.cells #[.slice A n c, .int .i64 sf] 87)).heap.size := by rw [hk] at h; injection h
              have hk3 : w.heap.size ≤ k := by rw [hk2]; simp; omega
              exact ⟨.inr hk3, fun x hx _ e => by have := HD.out.lt_f hx e; omega⟩
          have hstore : ∀ w6 : World, w6.ownsMap Tryz.prog 9 heldV M (l.length + 1) (D.put (KS nm) (.held (Fv (.slice A3 ((bytesR l r nm).length + s.length) c3) sf))) → w5.grownBy w6 (some M) →
              DiskIn w6 B g M (fun x => if x = nm then .slice A3 ((bytesR l r nm).length + s.length) c3 else V x) (Fl.put l ⟨nm, bytesR l r nm ++ s, sf⟩) r := by
            intro w6 hm6 hg6
            have hok := safeR_le HD.out nm
            rw [← Hsf9.out] at hok
            have ho5 : w5.ownsRow B 5 1 (.slice A3 ((bytesR l r nm).length + s.length) c3) (bytesR l r nm ++ s).length (cel8 (bytesR l r nm ++ s)) := by
              have e1 : (bytesR l r nm).length + s.length = (bytesR l r nm ++ s).length := by rw [List.length_append]
              have e2 : cel8 (bytesR l r nm) ++ byteCells ⟨s.toArray⟩ = cel8 (bytesR l r nm ++ s) := by unfold cel8 byteCells; rw [List.map_append]
              have := hown5
              rw [e2] at this
              rw [e1] at this ⊢
              exact this
            have hbb := Hbig.out
            refine HD.out.stored (f := ⟨nm, bytesR l r nm ++ s, sf⟩) hch (fun k h => (HAp.out k h).1) ho5 (fun k h => (hv2 k h).2) HV.out hm6 hg6 (HPL.out _ rfl) ⟨hok.1, show sf ≤ ((bytesR l r nm ++ s).length : Int) by rw [List.length_append]; omega, show (bytesR l r nm ++ s).length ≤ 1048576 by rw [List.length_append]; omega, word_len Hw.out⟩
          have Hstore := Lib.hid hstore
          have Hv2 := Lib.hid hv2
          have Hch := Lib.hid (hch.mono (fun k h => (HAp.out k h).2))
          have Hm5 := Lib.hid hm5
          clear hw5 hq hg34 hg35 hown5 hMA hgA hm5 hch hv2 hstore c0 hlen c30 f30
          simp only [List.take_succ_cons, List.take_zero, List.drop_succ_cons, List.drop_zero]
          repeat still_step
          refine wpStill_nil ?_
          go_wp2_with (first
            | (at_mapUpdate; refine wpList_mapUpdate_own _ rfl _ _ _ 71 rfl 9 87 lawS Tryz.underlying71 _ M l.length _ rfl Hm5.out hll _ _ _ rfl rfl (keyS nm HN.out) _ [] (heldV_eq _) ?_; intro w6 hown6 hg6
               have hd6 := Hstore.out w6 hown6 hg6
               have Hg6 := Lib.hid hg6
               have Hd6 := Lib.hid hd6
               clear hown6 hg6 hd6)
            | fail)
          refine (done9 Hd6.out H0.out).mono ?_
          rintro _ w7 ⟨rfl, hd7, hg7⟩
          have Hd7 := Lib.hid hd7
          have Hg7 := Lib.hid hg7
          clear hd7 hg7
          go_wp2_with fail
          go_ret
          refine ⟨by rw [HR.out]; rfl, by rw [HR.out]; exact .grownto HD.out Hch.out (fun k h => (Hv2.out k h).1) Hg6.out Hd7.out Hg7.out⟩
    · rw [if_pos (by simpa using hw)] at hR
      rw [Bool.not_eq_true] at hw
      rw [hw] at HI
      have HR := Lib.hid hR
      generalize safeR l r nm = sf at *
      clear h0 hR hc hw hfull hf hbs hsf hfr
      go_enter Tryz.func61, Tryz.ntmps61
      go_wp2_with fail
      refine HF.out.mono ?_
      rintro _ w1 ⟨A, n, c, rfl, hb, hx1, hx2, hx3⟩
      clear hx1 hx2 hx3
      have Hb := Lib.hid (hb.alloc hb.size (.cells #[.slice A n c, .int .i64 sf] 87))
      clear hb
      go_wp2_with fail
      refine (HI.out _).mono ?_
      rintro _ w2 ⟨rfl, rfl⟩
      go_wp2_with fail
      go_ret
      exact ⟨by rw [HR.out]; rfl, by rw [HR.out]; exact .same HD.out Hb.out⟩
end Go.Proofs.YtalfnadejpmjnaaGreatDoor.Jn

/- ---- DiskCrash ---- -/
/- disk: Crash. -/
namespace Go.Proofs.YtalfnadejpmjnaaGreatDoor.Jn
set_option maxRecDepth 100000
open Go.RowKit Go.Maps
set_option linter.unusedVariables false
set_option linter.unusedSimpArgs false

theorem DiskIn.below_own {w : World} {B g M : Nat} {V : Fl.Nm → Value} {l : List Fl} {r : Int} (hd : DiskIn w B g M V l r) : ∀ k, DiskOwn g M l V k → k < w.heap.size := by
  intro k hk
  rcases hk with rfl | rfl | ⟨f, hf, hk⟩
  · obtain ⟨s, hs, _⟩ := hd.row; exact Row.lt hs
  · exact hd.map.lt
  · exact hd.lt_f hf hk
end Go.Proofs.YtalfnadejpmjnaaGreatDoor.Jn

/- ---- DiskZ ---- -/
/- disk: every call, over a disk all of whose blocks lie in S; a nil disk. -/
namespace Go.Proofs.YtalfnadejpmjnaaGreatDoor.Jn
set_option maxRecDepth 100000
open Go.RowKit Go.Maps
set_option linter.unusedVariables false
set_option linter.unusedSimpArgs false

theorem DiskTo.toS {w w' : World} {B g M : Nat} {V : Fl.Nm → Value} {l l' : List Fl} {r' : Int} {S : Nat → Prop} (hz : ∀ k, S k → B ≤ k ∧ k < w.heap.size) (ho : ∀ k, DiskOwn g M l V k → S k) (hB : B ≤ w.heap.size) (h : DiskTo w w' B g M V l l' r') : DiskS w' B (Plus S w w') g l' r' ∧ Chg S w w' := by
  obtain ⟨V', hd, hc, hs⟩ := h
  refine ⟨⟨fun k hk => ?_, M, V', hd, fun k hk => ?_⟩, hc.mono ho⟩
  · rcases hk with hk | hk
    · exact ⟨(hz k hk).1, Nat.lt_of_lt_of_le (hz k hk).2 hc.size⟩
    · exact ⟨by omega, hk.2⟩
  · rcases hs k hk with h | h
    · exact .inl (ho k h)
    · exact .inr ⟨h, hd.below_own k hk⟩
theorem DiskS.Ble {w : World} {B g : Nat} {S : Nat → Prop} {l : List Fl} {r : Int} (h : DiskS w B S g l r) : B ≤ w.heap.size := by
  obtain ⟨hz, M, V, hd, ho⟩ := h
  have := hz g (ho g (.inl rfl))
  omega
theorem DiskS.g {w : World} {B g : Nat} {S : Nat → Prop} {l : List Fl} {r : Int} (h : DiskS w B S g l r) : S g := by
  obtain ⟨hz, M, V, hd, ho⟩ := h
  exact ho g (.inl rfl)
theorem DiskS.below {w w' : World} {B g : Nat} {S : Nat → Prop} {l : List Fl} {r : Int} (h : DiskS w B S g l r) (hb : Below w.heap.size w w') : DiskS w' B S g l r :=
  h.kept (Chg.of_below (S := fun _ => False) hb) (fun _ _ h => h)
section
variable {w : World} {B g : Nat} {S : Nat → Prop} {l : List Fl} {r : Int}
theorem append_S (nm s : Fl.Nm) (h : DiskS w B S g l r) (hn : nm.length ≤ 140737488351232) (ht : s.length ≤ 140737488351232) :
    Calls Tryz.prog 61 #[.pointer (some ⟨g, 0, none⟩), Sb nm, Sb s] w fun e w' => e = .returned (.int .i64 (appendR l r nm s).2.2) ∧ DiskS w' B (Plus S w w') g (appendR l r nm s).1 (appendR l r nm s).2.1 ∧ Chg S w w' := by
  have hB := h.Ble
  obtain ⟨hz, M, V, hd, ho⟩ := h
  refine (append_at9 nm s hd hn ht).mono ?_
  rintro e w' ⟨rfl, ht⟩
  exact ⟨rfl, ht.toS hz ho hB⟩
theorem sync_S (nm : Fl.Nm) (h : DiskS w B S g l r) (hn : nm.length ≤ maxLen) :
    Calls Tryz.prog 58 #[.pointer (some ⟨g, 0, none⟩), Sb nm] w fun e w' => e = .returned (.int .i64 (syncR l r nm).2.2) ∧ DiskS w' B (Plus S w w') g (syncR l r nm).1 (syncR l r nm).2.1 ∧ Chg S w w' := by
  have hB := h.Ble
  obtain ⟨hz, M, V, hd, ho⟩ := h
  refine (sync_at9 nm hd hn).mono ?_
  rintro e w' ⟨rfl, ht⟩
  exact ⟨rfl, ht.toS hz ho hB⟩
theorem remove_S (nm : Fl.Nm) (h : DiskS w B S g l r) (hn : nm.length ≤ maxLen) :
    Calls Tryz.prog 54 #[.pointer (some ⟨g, 0, none⟩), Sb nm] w fun e w' => e = .returned (.int .i64 (removeR l r nm).2.2) ∧ DiskS w' B (Plus S w w') g (removeR l r nm).1 (removeR l r nm).2.1 ∧ Chg S w w' := by
  have hB := h.Ble
  obtain ⟨hz, M, V, hd, ho⟩ := h
  refine (remove_at9 nm hd hn).mono ?_
  rintro e w' ⟨rfl, ht⟩
  exact ⟨rfl, ht.toS hz ho hB⟩
theorem rename_S (nm to : Fl.Nm) (h : DiskS w B S g l r) (hn : nm.length ≤ maxLen) (ht : to.length ≤ 140737488351232) :
    Calls Tryz.prog 124 #[.pointer (some ⟨g, 0, none⟩), Sb nm, Sb to] w fun e w' => e = .returned (.int .i64 (renameR l r nm to).2.2) ∧ DiskS w' B (Plus S w w') g (renameR l r nm to).1 (renameR l r nm to).2.1 ∧ Chg S w w' := by
  have hB := h.Ble
  obtain ⟨hz, M, V, hd, ho⟩ := h
  refine (rename_at9 nm to hd hn ht).mono ?_
  rintro e w' ⟨rfl, ht⟩
  exact ⟨rfl, ht.toS hz ho hB⟩
theorem read_S (nm : Fl.Nm) (h : DiskS w B S g l r) (hn : nm.length ≤ maxLen) :
    Calls Tryz.prog 55 #[.pointer (some ⟨g, 0, none⟩), Sb nm] w fun e w' => e = .returned (.tuple #[Sb (bytesR l r nm), .int .i64 (codeR l r nm)]) ∧ Below w.heap.size w w' := by
  obtain ⟨hz, M, V, hd, ho⟩ := h
  exact read_at9 nm hd hn
end
end Go.Proofs.YtalfnadejpmjnaaGreatDoor.Jn
