/- tx.Read. -/
import Derived.Test.YtdekcicgiflnbaaDoorTxCap
namespace Go.Proofs.YtdekcicgiflnbaaDoor
open Go.RowKit
set_option linter.unusedVariables false
set_option linter.unusedSimpArgs false

namespace Tx
/-- a sign of the outer list put in its place -/
def sgn (t : Tx) (i : Nat) (x : List UInt8) : Tx := if i = 0 then { t with tag := x } else { t with bY := x, lane := true }
def signs (t : Tx) : Nat → List (List UInt8) → Option Tx
  | _, [] => some t
  | i, x :: r => if x.length = 32 then signs (t.sgn i x) (i + 1) r else Option.none
def readOf (d : List UInt8) (F : Option Tx) : Option Tx := match F with
  | Option.none => Option.none
  | some t => match t.bodyRead d with
    | Option.none => Option.none
    | some u => if u.err = 0 then some u else Option.none
def read (s : List UInt8) : Option Tx := match listAll s with
  | Option.none => Option.none
  | some l => if l.length = 2 ∨ l.length = 3 then readOf (l.getD 0 []) (signs Tx.none 0 (l.drop 1)) else Option.none
theorem signs_go {t : Tx} {l : List (List UInt8)} {k : Nat} (h : k + 1 < l.length) (hx : l[k + 1].length = 32) : signs t k (l.drop (k + 1)) = signs (t.sgn k l[k + 1]) (k + 1) (l.drop (k + 1 + 1)) := by
  rw [List.drop_eq_getElem_cons h, signs, if_pos hx]
theorem signs_no {t : Tx} {l : List (List UInt8)} {k : Nat} (h : k + 1 < l.length) (hx : l[k + 1].length ≠ 32) : signs t k (l.drop (k + 1)) = Option.none := by
  rw [List.drop_eq_getElem_cons h, signs, if_neg hx]
theorem sgn_ok {t : Tx} (h : t.Ok) (i : Nat) {x : List UInt8} (hx : x.length = 32) : (t.sgn i x).Ok := by
  unfold sgn
  split
  · exact ⟨h.bY, hx, h.data, h.frm, h.nonce, h.fee, h.to, h.round, h.turn⟩
  · exact ⟨hx, h.tag, h.data, h.frm, h.nonce, h.fee, h.to, h.round, h.turn⟩
theorem lane_cells (t : Tx) : t.cells.set 5 (.bool true) = Tx.cells { t with lane := true } := rfl
end Tx
theorem bytes_below (w : World) (e : TypeId) (s : ByteArray) : Below w.heap.size w (Lib.bytesWorld w e s) :=
  ⟨rfl, rfl, rfl, by rw [Lib.bytesWorld_size]; omega, fun k hk => Lib.bytesWorld_at_old w e s k hk⟩
/-- a text of 32 bytes as a new row -/
theorem conv32 (W : World) (x : List UInt8) (hx : x.length = 32) : ∃ cp Wc, (convert 9 81 (S x)).run Tryd.prog W = .ok (.slice (some ⟨W.heap.size, 0, none⟩) 32 cp) Wc ∧ W.grownBy Wc none ∧ Wc.rangeAt W.heap.size 0 (bRow x).toList := by
  have h := Lib.run_convert_string_bytes (P := Tryd.prog) W 9 81 5 ⟨x.toArray⟩ Tryd.underlying9 Tryd.underlying81 Tryd.underlying5
  have hs : (⟨x.toArray⟩ : ByteArray).size = 32 := hx
  rw [hs] at h
  refine ⟨_, _, h, grownBy_of_below (bytes_below W 5 ⟨x.toArray⟩) none, ?_⟩
  intro j v hv
  rw [bRow_yRow x hx] at hv
  unfold yRow at hv
  simp only [List.getElem?_map] at hv
  obtain ⟨b, hb, rfl⟩ := Option.map_eq_some_iff.1 hv
  obtain ⟨hj, hb'⟩ := List.getElem?_eq_some_iff.1 hb
  rw [Nat.zero_add, Lib.bytesWorld_cell W 5 ⟨x.toArray⟩ j (by rw [hs, ← hx]; exact hj)]
  simp [hb]
theorem hash_at (W : World) (a : Option Addr) (cp : Nat) : (Instr.arrayAt 23 (.slice a 32 cp)).run Tryd.prog W = .ok (.pointer a) W := by
  simp [Instr.arrayAt, run_underlying Tryd.underlying23]
theorem row_below {base k : Nat} {W W' : World} {T : TypeId} {xs : List Value} (h : Row W k T xs) (hb : Below base W W') (hk : k < base) : Row W' k T xs := (hb.block k hk).trans h
def ReadEnds (R : Option Tx) (e : Ending) : Prop := match R with
  | some u => e = .returned (Tx.pairV (u, 0))
  | none => ∃ n : Int, (n != 0) = true ∧ e = .returned (Tx.pairV (Tx.none, n))
theorem slice1 (W : World) (b off m m1 c c1 : Nat) (h : m = m1 + 1) (hc : c = c1 + 1) (h1 : 1 ≤ m1) (h2 : m ≤ c) :
    (Instr.slice 73 (.slice (some ⟨b, off, none⟩) m c) (some (.int .i64 1)) none none).run Tryd.prog W = .ok (.slice (some ⟨b, off + 1, none⟩) m1 c1) W := by
  have hz : (sizeOf (Tryd.prog.elem 73)).run Tryd.prog W = .ok 1 W := by kernel_rfl
  have e := run_slice_l (P := Tryd.prog) (w := W) (t := 73) (a := some ⟨b, off, none⟩) (len := m) (cap := c) (by kernel_rfl) (kl := .i64) (l := 1) (by omega) (by omega)
  rw [hz] at e
  refine e.trans ?_
  subst h hc
  have hne : ¬ c1 + 1 = 1 := by omega
  simp [Result.andThen, sliced, Addr.add, hne]
  omega
set_option maxRecDepth 20000 in
set_option maxHeartbeats 2000000 in
theorem read4_any (s : ByteArray) (w : World) (hs : s.size ≤ 9223372036854775807) :
    Calls Tryd.prog 29 #[.string s] w fun e w' => ReadEnds (Tx.read s.data.toList) e ∧ Below w.heap.size w w' := by
  have HZ72 := Lib.hid (Tx.cells_length Tx.none_ok)
  have HZ1 := Lib.hid (Tx.cells_one Tx.none_ok)
  have hzv := tx_zv
  have hr0 := Row.new w 25 Tx.none.cells
  have hb0 := (Below.refl w.heap.size w).alloc (Nat.le_refl _) (.cells Tx.none.cells.toArray 25)
  have Hr0 := Lib.hid hr0
  have Hb0 := Lib.hid hb0
  clear hr0 hb0
  obtain ⟨R, hR⟩ : ∃ R, R = Tx.read s.data.toList := ⟨_, rfl⟩
  rw [← hR]
  unfold Tx.read at hR
  cases hL : Tx.listAll s.data.toList with
  | none =>
    rw [hL] at hR
    have HR := Lib.hid (show R = none from hR)
    have LN := Lib.hid (fun W => list_no s W hs hL)
    clear hL hR
    go_enter Tryd.func29, Tryd.ntmps29
    go_wp2_with fail
    refine calls_named ?_
    intro w1 hw1
    have hr1 : Row w1 w.heap.size 25 Tx.none.cells := by rw [hw1]; exact Hr0.out
    have hb1 : Below w.heap.size w w1 := by rw [hw1]; exact Hb0.out
    clear hw1 Hr0 Hb0
    refine (LN.out w1).mono ?_
    rintro _ w2 ⟨n, hn, rfl, hb2⟩
    have Hr2 := Lib.hid (hr1.kept (grownBy_of_below hb2 none) (by simp))
    have Hb2 := Lib.hid (two_below' hb1 hb2)
    have Hn := Lib.hid hn
    clear hr1 hb1 hb2
    go_wp2_with (first
      | (with_reducible show wpList _ _ _ (⟨_, .build 25 _, _, _, _, _⟩ :: _) _ _; refine wpList_buildL rfl 25 [] rfl (some 18) rfl _ rfl _ tx_built0 ?_)
      | (with_reducible show wpList _ _ _ (⟨_, .store 25 _ _, _, _, _, _⟩ :: _) _ _
         refine wpList_store_at rfl 25 (.tmp 2) (.tmp 18) rfl w.heap.size 0 Tx.none.cells _ _ rfl rfl Hr2.out (by have := HZ72.out; omega) (by rw [tx_info, HZ72.out]) HZ1.out ?_
         intro wZ hrZ hgZ
         rw [splice_all rfl] at hrZ
         have HrZ := Lib.hid hrZ
         have HbZ := Lib.hid (below_own Hb2.out hgZ (fun k hk => by cases hk; omega))
         clear hrZ hgZ))
    refine bodyPost_ret (results_rowL rfl _ _ w.heap.size 25 _ _ rfl HrZ.out Tryd.underlying25 rfl (by rw [tx_info, List.size_toArray, HZ72.out]) _ rfl) rfl ⟨?_, HbZ.out⟩
    rw [HR.out]
    exact ⟨_, Hn.out, rfl⟩
  | some l =>
    rw [hL] at hR
    simp only at hR
    have LS := Lib.hid (fun W => Cap.list_some s l W hs hL)
    have hlt := Tx.listAll_text hL
    by_cases hw : l.length = 2 ∨ l.length = 3
    · rw [if_pos hw] at hR
      have HR := Lib.hid hR
      obtain ⟨m, hm⟩ : ∃ m, m = l.length := ⟨_, rfl⟩
      obtain ⟨m1, hm1⟩ : ∃ m1, m = m1 + 1 := ⟨m - 1, by omega⟩
      rw [← hm] at hw
      have hm1b : 1 ≤ m1 := by omega
      have hm1c : m1 ≤ 2 := by omega
      have hw2 : (((m : Int) != 2) = false ∧ ((m : Int) != 3) = true) ∨ (((m : Int) != 2) = true ∧ ((m : Int) != 3) = false) := by
        rcases hw with h | h
        · exact .inl ⟨by simp; omega, by simp; omega⟩
        · exact .inr ⟨by simp; omega, by simp; omega⟩
      have HM := Lib.hid hm
      have HM1 := Lib.hid hm1
      have Hlt := Lib.hid hlt
      have LS2 : Hid (∀ W, Calls Tryd.prog 70 #[.string s] W fun e w' => ∃ b off c, e = .returned (.tuple #[.slice (some ⟨b, off, none⟩) m c, .int .i64 0]) ∧ m ≤ c ∧ b < w'.heap.size ∧ (∀ i (h : i < l.length), w'.cell? ⟨b, off + i, none⟩ = some (S l[i])) ∧ Below W.heap.size W w') := fun W => (LS.out W).mono fun e w' ⟨v, h1, ⟨A, c, h2, hcc, h4⟩, h3⟩ => by
        obtain ⟨b, off, hA, hb, hc⟩ := h4 (by intro e; rw [e] at hm; simp at hm; omega)
        exact ⟨b, off, c, by rw [h1, h2, hm, hA], by omega, hb, hc, h3⟩
      clear hL hR hw hlt LS
      have hm0 : (0 : Int) < (m : Int) := by omega
      have hl0 : 0 < l.length := by omega
      obtain ⟨d0, hd0⟩ : ∃ d0, d0 = l[0] := ⟨_, rfl⟩
      have hd0l : d0.length ≤ 65536 := by rw [hd0]; exact Hlt.out _ (List.getElem_mem _)
      obtain ⟨F, hF⟩ : ∃ F, F = Tx.signs Tx.none 0 (l.drop 1) := ⟨_, rfl⟩
      have HR2 : Hid (R = Tx.readOf d0 F) := by
        have e : l.getD 0 [] = d0 := by rw [hd0]; simp [List.getD, hl0]
        have := HR.out
        rw [e, ← hF] at this
        exact this
      have HF := Lib.hid hF
      have HD := Lib.hid hd0
      clear hF hd0 HR hm hm1
      rcases hw2 with ⟨h2, h3⟩ | ⟨h2, h3⟩
      all_goals
        go_enter Tryd.func29, Tryd.ntmps29
        go_wp2_with fail
        refine calls_named ?_
        intro w1 hw1
        have hr1 : Row w1 w.heap.size 25 Tx.none.cells := by rw [hw1]; exact Hr0.out
        have hb1 : Below w.heap.size w w1 := by rw [hw1]; exact Hb0.out
        clear hw1 Hr0 Hb0
        refine (LS2.out w1).mono ?_
        rintro _ w2 ⟨b, off, c, rfl, hmc, hbl, hc, hb2⟩
        have hrz2 := hr1.kept (grownBy_of_below hb2 none) (by simp)
        have hb2' := two_below' hb1 hb2
        have hgz : w.heap.size ≠ w2.heap.size := by have := hrz2.lt; omega
        have hsl := fun W : World => slice1 W b off m m1 c (c - 1) HM1.out (by have := HM1.out; omega) hm1b hmc
        have hr3 := Row.new w2 25 Tx.none.cells
        have hrz3 := hrz2.kept (grownBy_alloc w2 (.cells Tx.none.cells.toArray 25) none) (by simp)
        have hb3 := below_own hb2' (grownBy_alloc w2 (.cells Tx.none.cells.toArray 25) none) (fun k hk => by cases hk)
        have hc3 := fun i (h : i < l.length) => (grownBy_alloc w2 (.cells Tx.none.cells.toArray 25) none).cell (hc i h) (by simp)
        have hs3 : w2.heap.size ≤ (w2.alloc (.cells Tx.none.cells.toArray 25)).heap.size := by simp
        have hbg2 : b ≠ w2.heap.size := by omega
        have hwl : w.heap.size ≤ w2.heap.size := hb2'.size
        have hzlt := hrz2.lt
        have Hr3 := Lib.hid hr3
        have Hrz3 := Lib.hid hrz3
        have Hb3 := Lib.hid hb3
        have Hc3 := Lib.hid hc3
        have Hs3 := Lib.hid hs3
        clear hr1 hb1 hb2 hrz2 hb2' hr3 hrz3 hb3 hc3 hs3 hc hbl hmc
        go_wp2_with fail
        obtain ⟨g, hg⟩ : ∃ g, g = w2.heap.size := ⟨_, rfl⟩
        rw [← hg] at Hr3 Hs3 hbg2 hgz hwl hzlt
        simp only [← hg]
        clear hg
        go_loopw [32] (fun i wr => ∃ (k : Nat) (u : Tx), k ≤ m1 ∧ i = .int .i64 k ∧ u.Ok ∧ F = Tx.signs u k (l.drop (k + 1)) ∧ Row wr g 25 u.cells ∧ Row wr w.heap.size 25 Tx.none.cells ∧ (∀ i (h : i < l.length), wr.cell? ⟨b, off + i, none⟩ = some (S l[i])) ∧ g ≤ wr.heap.size ∧ Below w.heap.size w wr) (fun i _ => m1 - (intOf i).toNat)
        case atStart => exact ⟨0, Tx.none, Nat.zero_le _, rfl, Tx.none_ok, HF.out, Hr3.out, Hrz3.out, Hc3.out, Hs3.out, Hb3.out⟩
        case round =>
          obtain ⟨k, u, hk, rfl, hu, hFk, hru, hrz, hck, hsz, hbk⟩ := hrel
          have HFk := Lib.hid hFk
          have Hru := Lib.hid hru
          have Hrz := Lib.hid hrz
          have Hck := Lib.hid hck
          have Hbk := Lib.hid hbk
          have Hu := Lib.hid hu
          clear hFk hru hrz hck hbk hu Hr3 Hrz3 Hb3 Hc3 Hs3 HF
          by_cases hkm : k < m1
          · have hki : (k : Int) < (m1 : Int) := by omega
            have hkl : k + 1 < l.length := by rw [← HM.out, HM1.out]; omega
            have ctx0 := Hck.out (k + 1) hkl
            have ctx : wr.cell? ⟨b, off + 1 + k, none⟩ = some (S l[k + 1]) := by rw [show off + 1 + k = off + (k + 1) by omega]; exact ctx0
            obtain ⟨x, hx⟩ : ∃ x, x = l[k + 1] := ⟨_, rfl⟩
            rw [← hx] at ctx
            clear ctx0
            by_cases hx32 : x.length = 32
            · have hgo := HFk.out.trans (Tx.signs_go hkl (by rw [← hx]; exact hx32))
              rw [← hx] at hgo
              have Hgo := Lib.hid hgo
              have HX := Lib.hid hx32
              have HB32 := Lib.hid (Tx.bRow_len x hx32)
              have hso := Tx.sgn_ok Hu.out k hx32
              have Hso := Lib.hid hso
              have hxl : ((x.length : Int) != 32) = false := by simp; omega
              obtain ⟨cp, Wc, hcv, hgc, hrc⟩ := conv32 wr x hx32
              have hat := hash_at Wc (some ⟨wr.heap.size, 0, none⟩) cp
              have Hrc := Lib.hid hrc
              have Hruc := Lib.hid (Hru.out.kept hgc (by simp))
              have Hrzc := Lib.hid (Hrz.out.kept hgc (by simp))
              have Hbkc := Lib.hid (below_own Hbk.out hgc (fun k hk => by cases hk))
              have Hckc := Lib.hid (fun i (h : i < l.length) => hgc.cell (Hck.out i h) (by simp))
              have Hszc := Lib.hid (Nat.le_trans hsz hgc.size)
              clear hrc hgc
              clear hx32 hx hgo hso
              by_cases hk0 : k = 0
              · subst hk0
                go_wp2_with (first
                  | (with_reducible show wpList _ _ _ (⟨_, .load 23 _, _, _, _, _⟩ :: _) _ _; refine wpList_load_tx rfl 23 (.tmp 45) rfl wr.heap.size 0 rfl (bRow x).toList _ Hrc.out Tryd.underlying23 rfl (by rw [hash_info, HB32.out]) ?_)
                  | (with_reducible show wpList _ _ _ (⟨_, .store 23 _ _, _, _, _, _⟩ :: _) _ _
                     refine wpList_store_at rfl 23 (.tmp 47) (.tmp 46) rfl g 40 (bRow x).toList _ _ rfl rfl Hruc.out (by rw [HB32.out, Tx.cells_length Hu.out]; decide) (by rw [hash_info, HB32.out]) (hash_one x HX.out) ?_
                     intro w5 hr5 hg5
                     rw [Tx.sign_cells Hu.out x HX.out] at hr5
                     have Hr5 := Lib.hid hr5
                     have Hrz5 := Lib.hid (Hrzc.out.kept hg5 (by simpa using hgz))
                     have Hb5 := Lib.hid (below_own Hbkc.out hg5 (fun k hk => by cases hk; omega))
                     have Hc5 := Lib.hid (fun i (h : i < l.length) => hg5.cell (Hckc.out i h) (by simpa using hbg2))
                     have Hs5 := Lib.hid (Nat.le_trans Hszc.out hg5.size)
                     clear hr5 hg5))
                refine ⟨⟨1, u.sgn 0 x, hkm, by go_num, Hso.out, Hgo.out, Hr5.out, Hrz5.out, Hc5.out, Hs5.out, Hb5.out⟩, by simp [intOf]; omega⟩
              · have hkz : ((k : Int) == 0) = false := by simp; omega
                have hsg : u.sgn k x = { u with bY := x, lane := true } := by unfold Tx.sgn; rw [if_neg hk0]
                have Hsg := Lib.hid hsg
                clear hsg
                go_wp2_with (first
                  | (with_reducible show wpList _ _ _ (⟨_, .load 23 _, _, _, _, _⟩ :: _) _ _; refine wpList_load_tx rfl 23 (.tmp 50) rfl wr.heap.size 0 rfl (bRow x).toList _ Hrc.out Tryd.underlying23 rfl (by rw [hash_info, HB32.out]) ?_)
                  | (with_reducible show wpList _ _ _ (⟨_, .store 23 _ _, _, _, _, _⟩ :: _) _ _
                     refine wpList_store_at rfl 23 (.tmp 52) (.tmp 51) rfl g 8 (bRow x).toList _ _ rfl rfl Hruc.out (by rw [HB32.out, Tx.cells_length Hu.out]; decide) (by rw [hash_info, HB32.out]) (hash_one x HX.out) ?_
                     intro w5 hr5 hg5
                     rw [Tx.hand_cells Hu.out x HX.out] at hr5
                     have c5 := hr5.cell 5 (by simp [Tx.cells, Tx.head])
                     have f5 := hr5.free 5
                     have Hr5 := Lib.hid hr5
                     have Hrz5 := Lib.hid (Hrzc.out.kept hg5 (by simpa using hgz))
                     have Hb5 := Lib.hid (below_own Hbkc.out hg5 (fun k hk => by cases hk; omega))
                     have Hc5 := Lib.hid (fun i (h : i < l.length) => hg5.cell (Hckc.out i h) (by simpa using hbg2))
                     have Hs5 := Lib.hid (Nat.le_trans Hszc.out hg5.size)
                     clear hr5 hg5))
                have hr6 := Hr5.out.set 5 (.bool true) (by simp [Tx.cells, Tx.head])
                rw [Tx.lane_cells, ← Hsg.out] at hr6
                have hg6 := grownBy_set w5 g 5 (.bool true)
                refine ⟨⟨k + 1, u.sgn k x, hkm, by go_num, Hso.out, Hgo.out, hr6, Hrz5.out.kept hg6 (by simpa using hgz), fun i h => hg6.cell (Hc5.out i h) (by simpa using hbg2), Nat.le_trans Hs5.out hg6.size, below_own Hb5.out hg6 (fun k hk => by cases hk; omega)⟩, by simp [intOf]; omega⟩
            · have hFn := HFk.out.trans (Tx.signs_no hkl (by rw [← hx]; exact hx32))
              have hRn : R = none := by rw [HR2.out, hFn]; rfl
              have HRn := Lib.hid hRn
              have hxl : ((x.length : Int) != 32) = true := by simp; omega
              clear hFn hRn hx hx32
              go_wp2_with (first
                | (with_reducible show wpList _ _ _ (⟨_, .build 25 _, _, _, _, _⟩ :: _) _ _; refine wpList_buildL rfl 25 [] rfl (some 40) rfl _ rfl _ tx_built0 ?_)
                | (with_reducible show wpList _ _ _ (⟨_, .store 25 _ _, _, _, _, _⟩ :: _) _ _
                   refine wpList_store_at rfl 25 (.tmp 2) (.tmp 40) rfl w.heap.size 0 Tx.none.cells _ _ rfl rfl Hrz.out (by have := HZ72.out; omega) (by rw [tx_info, HZ72.out]) HZ1.out ?_
                   intro wZ hrZ hgZ
                   rw [splice_all rfl] at hrZ
                   have HrZ := Lib.hid hrZ
                   have HbZ := Lib.hid (below_own Hbk.out hgZ (fun k hk => by cases hk; omega))
                   clear hrZ hgZ))
              refine bodyPost_ret (results_rowL rfl _ _ w.heap.size 25 _ _ rfl HrZ.out Tryd.underlying25 rfl (by rw [tx_info, List.size_toArray, HZ72.out]) _ rfl) rfl ⟨?_, HbZ.out⟩
              rw [HRn.out]
              exact ⟨_, (show ((6 : Int) != 0) = true from rfl), rfl⟩
          · have hki : (m1 : Int) ≤ (k : Int) := by omega
            have hFe : F = some u := by
              rw [HFk.out, List.drop_of_length_le (by rw [← HM.out, HM1.out]; omega)]
              rfl
            have hRe : R = Tx.readOf d0 (some u) := by rw [HR2.out, hFe]
            have c0 := Hck.out 0 hl0
            rw [← HD.out, Nat.add_zero] at c0
            have RB := readBody_any u Hu.out ⟨d0.toArray⟩ wr g g (by show d0.length ≤ _; omega) Hru.out (Nat.le_refl _)
            have hdd : (⟨d0.toArray⟩ : ByteArray).data.toList = d0 := rfl
            rw [hdd] at RB
            cases hB : u.bodyRead d0 with
            | none =>
              have hRn : R = none := by rw [hRe]; unfold Tx.readOf; simp only; rw [hB]
              rw [hB] at RB
              have RB' := Lib.hid RB
              have HRn := Lib.hid hRn
              clear hB hRn hRe hFe RB hdd
              go_wp2_with fail
              refine RB'.out.mono ?_
              rintro _ w6 ⟨⟨n, hn, rfl⟩, hb6⟩
              have Hn := Lib.hid hn
              have Hrz6 := Lib.hid (row_below Hrz.out hb6 hzlt)
              have Hb6 := Lib.hid (Hbk.out.trans (hb6.mono hwl))
              clear hb6
              go_wp2_with (first
                | (with_reducible show wpList _ _ _ (⟨_, .build 25 _, _, _, _, _⟩ :: _) _ _; refine wpList_buildL rfl 25 [] rfl (some 61) rfl _ rfl _ tx_built0 ?_)
                | (with_reducible show wpList _ _ _ (⟨_, .store 25 _ _, _, _, _, _⟩ :: _) _ _
                   refine wpList_store_at rfl 25 (.tmp 2) (.tmp 61) rfl w.heap.size 0 Tx.none.cells _ _ rfl rfl Hrz6.out (by have := HZ72.out; omega) (by rw [tx_info, HZ72.out]) HZ1.out ?_
                   intro wZ hrZ hgZ
                   rw [splice_all rfl] at hrZ
                   have HrZ := Lib.hid hrZ
                   have HbZ := Lib.hid (below_own Hb6.out hgZ (fun k hk => by cases hk; omega))
                   clear hrZ hgZ))
              refine bodyPost_ret (results_rowL rfl _ _ w.heap.size 25 _ _ rfl HrZ.out Tryd.underlying25 rfl (by rw [tx_info, List.size_toArray, HZ72.out]) _ rfl) rfl ⟨?_, HbZ.out⟩
              rw [HRn.out]
              exact ⟨_, Hn.out, rfl⟩
            | some v =>
              have hRv : R = if v.err = 0 then some v else none := by rw [hRe]; unfold Tx.readOf; simp only; rw [hB]
              rw [hB] at RB
              have RB' := Lib.hid RB
              have HRv := Lib.hid hRv
              clear hB hRv hRe hFe RB hdd
              go_wp2_with fail
              refine RB'.out.mono ?_
              rintro _ w6 ⟨⟨rfl, hvo, hv6⟩, hb6⟩
              have Hrz6 := Lib.hid (row_below Hrz.out hb6 hzlt)
              have Hb6 := Lib.hid (Hbk.out.trans (hb6.mono hwl))
              have HV72 := Lib.hid (Tx.cells_length hvo)
              have HV1 := Lib.hid (Tx.cells_one hvo)
              have CK : Hid (∀ W, Calls Tryd.prog 21 #[.agg v.cells.toArray] W fun e w' => e = .returned (.int .i64 v.err) ∧ Below W.heap.size W w') := fun W => check4_any v hvo W
              have Hv6 := Lib.hid hv6
              have hvv : Tx.pairV (v, 0) = .tuple #[.agg v.cells.toArray, .int .i64 0] := rfl
              have Hvv := Lib.hid hvv
              obtain ⟨C, hC⟩ : ∃ C, C = v.cells := ⟨_, rfl⟩
              rw [← hC] at CK Hv6 HV72 HV1 Hvv
              have HC := Lib.hid hC
              clear hb6 hvo hv6 hC hvv
              by_cases hve : v.err = 0
              · have hRs : R = some v := by rw [HRv.out, if_pos hve]
                have HRs := Lib.hid hRs
                rw [hve] at CK
                clear hRs hve
                go_wp2_with (with_reducible show wpList _ _ _ (⟨_, .load 25 _, _, _, _, _⟩ :: _) _ _; refine wpList_load_tx rfl 25 (.tmp 6) rfl g 0 rfl C _ (row_range Hv6.out) Tryd.underlying25 rfl (by rw [tx_info, HV72.out]) ?_)
                refine (CK.out w6).mono ?_
                rintro _ w7 ⟨rfl, hb7⟩
                have hg7 := grownBy_of_below hb7 none
                have Hv7 := Lib.hid (Hv6.out.kept hg7 (by simp))
                have Hrz7 := Lib.hid (Hrz6.out.kept hg7 (by simp))
                have Hb7 := Lib.hid (below_own Hb6.out hg7 (fun k hk => by cases hk))
                clear hb7 hg7
                go_wp2_with (first
                  | (with_reducible show wpList _ _ _ (⟨_, .load 25 _, _, _, _, _⟩ :: _) _ _; refine wpList_load_tx rfl 25 (.tmp 6) rfl g 0 rfl C _ (row_range Hv7.out) Tryd.underlying25 rfl (by rw [tx_info, HV72.out]) ?_)
                  | (with_reducible show wpList _ _ _ (⟨_, .store 25 _ _, _, _, _, _⟩ :: _) _ _
                     refine wpList_store_at rfl 25 (.tmp 2) (.tmp 69) rfl w.heap.size 0 C _ _ rfl rfl Hrz7.out (by have := HZ72.out; have := HV72.out; omega) (by rw [tx_info, HV72.out]) HV1.out ?_
                     intro w8 hr8 hg8
                     rw [splice_all (HV72.out.trans HZ72.out.symm)] at hr8
                     have Hr8 := Lib.hid hr8
                     have Hb8 := Lib.hid (below_own Hb7.out hg8 (fun k hk => by cases hk; omega))
                     clear hr8 hg8))
                refine bodyPost_ret (results_rowL rfl _ _ w.heap.size 25 _ _ rfl Hr8.out Tryd.underlying25 rfl (by rw [tx_info, List.size_toArray, HV72.out]) _ rfl) rfl ⟨?_, Hb8.out⟩
                rw [HRs.out]
                show _ = _
                rw [Hvv.out]
                rfl
              · have hRs : R = none := by rw [HRv.out, if_neg hve]
                have HRs := Lib.hid hRs
                have hvn : (v.err != 0) = true := by simpa using hve
                have Hvn := Lib.hid hvn
                obtain ⟨ve, hve2⟩ : ∃ ve, ve = v.err := ⟨_, rfl⟩
                rw [← hve2] at CK hvn Hvn
                clear hRs hve hve2
                go_wp2_with (with_reducible show wpList _ _ _ (⟨_, .load 25 _, _, _, _, _⟩ :: _) _ _; refine wpList_load_tx rfl 25 (.tmp 6) rfl g 0 rfl C _ (row_range Hv6.out) Tryd.underlying25 rfl (by rw [tx_info, HV72.out]) ?_)
                refine (CK.out w6).mono ?_
                rintro _ w7 ⟨rfl, hb7⟩
                have hg7 := grownBy_of_below hb7 none
                have Hrz7 := Lib.hid (Hrz6.out.kept hg7 (by simp))
                have Hb7 := Lib.hid (below_own Hb6.out hg7 (fun k hk => by cases hk))
                clear hb7 hg7
                go_wp2_with (first
                  | (with_reducible show wpList _ _ _ (⟨_, .build 25 _, _, _, _, _⟩ :: _) _ _; refine wpList_buildL rfl 25 [] rfl (some 67) rfl _ rfl _ tx_built0 ?_)
                  | (with_reducible show wpList _ _ _ (⟨_, .store 25 _ _, _, _, _, _⟩ :: _) _ _
                     refine wpList_store_at rfl 25 (.tmp 2) (.tmp 67) rfl w.heap.size 0 Tx.none.cells _ _ rfl rfl Hrz7.out (by have := HZ72.out; omega) (by rw [tx_info, HZ72.out]) HZ1.out ?_
                     intro wZ hrZ hgZ
                     rw [splice_all rfl] at hrZ
                     have HrZ := Lib.hid hrZ
                     have HbZ := Lib.hid (below_own Hb7.out hgZ (fun k hk => by cases hk; omega))
                     clear hrZ hgZ))
                refine bodyPost_ret (results_rowL rfl _ _ w.heap.size 25 _ _ rfl HrZ.out Tryd.underlying25 rfl (by rw [tx_info, List.size_toArray, HZ72.out]) _ rfl) rfl ⟨?_, HbZ.out⟩
                rw [HRs.out]
                exact ⟨_, Hvn.out, rfl⟩
    · rw [if_neg hw] at hR
      have HR := Lib.hid hR
      obtain ⟨m, hm⟩ : ∃ m, m = l.length := ⟨_, rfl⟩
      rw [← hm] at hw
      have h2 : ((m : Int) != 2) = true := by simp; omega
      have h3 : ((m : Int) != 3) = true := by simp; omega
      have LS2 : Hid (∀ W, Calls Tryd.prog 70 #[.string s] W fun e w' => ∃ A c, e = .returned (.tuple #[.slice A m c, .int .i64 0]) ∧ Below W.heap.size W w') := fun W => (LS.out W).mono fun e w' ⟨v, h1, ⟨A, c, h2, _, _⟩, h3⟩ => ⟨A, c, by rw [h1, h2, hm], h3⟩
      clear hL hR hw hm LS hlt
      go_enter Tryd.func29, Tryd.ntmps29
      go_wp2_with fail
      refine calls_named ?_
      intro w1 hw1
      have hr1 : Row w1 w.heap.size 25 Tx.none.cells := by rw [hw1]; exact Hr0.out
      have hb1 : Below w.heap.size w w1 := by rw [hw1]; exact Hb0.out
      clear hw1 Hr0 Hb0
      refine (LS2.out w1).mono ?_
      rintro _ w2 ⟨A, c, rfl, hb2⟩
      have Hr2 := Lib.hid (hr1.kept (grownBy_of_below hb2 none) (by simp))
      have Hb2 := Lib.hid (two_below' hb1 hb2)
      clear hr1 hb1 hb2
      go_wp2_with (first
        | (with_reducible show wpList _ _ _ (⟨_, .build 25 _, _, _, _, _⟩ :: _) _ _; refine wpList_buildL rfl 25 [] rfl (some 28) rfl _ rfl _ tx_built0 ?_)
        | (with_reducible show wpList _ _ _ (⟨_, .store 25 _ _, _, _, _, _⟩ :: _) _ _
           refine wpList_store_at rfl 25 (.tmp 2) (.tmp 28) rfl w.heap.size 0 Tx.none.cells _ _ rfl rfl Hr2.out (by have := HZ72.out; omega) (by rw [tx_info, HZ72.out]) HZ1.out ?_
           intro wZ hrZ hgZ
           rw [splice_all rfl] at hrZ
           have HrZ := Lib.hid hrZ
           have HbZ := Lib.hid (below_own Hb2.out hgZ (fun k hk => by cases hk; omega))
           clear hrZ hgZ))
      refine bodyPost_ret (results_rowL rfl _ _ w.heap.size 25 _ _ rfl HrZ.out Tryd.underlying25 rfl (by rw [tx_info, List.size_toArray, HZ72.out]) _ rfl) rfl ⟨?_, HbZ.out⟩
      rw [HR.out]
      exact ⟨_, (show ((6 : Int) != 0) = true from rfl), rfl⟩
end Go.Proofs.YtdekcicgiflnbaaDoor
