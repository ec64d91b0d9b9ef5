/- disk: Remove, Rename. -/
import Derived.Test.YtpphljdnnlfjhaaDoorDiskSync
namespace Go.Proofs.YtpphljdnnlfjhaaDoor
open Go.RowKit Go.Maps
set_option maxRecDepth 100000
set_option linter.unusedVariables false
set_option linter.unusedSimpArgs false

def removeR (l : List Fl) (r : Int) (nm : Fl.Nm) : List Fl × Int × Int :=
  if r = 0 then (l, r, 8) else match Fl.find l nm with | none => (l, r, 34) | some f => (Fl.drop l nm, oneR r, 0)
theorem DiskTo.dropped {w w3 w4 w5 : World} {B g M : Nat} {V : Fl.Nm → Value} {l : List Fl} {r5 : Int} {nm : Fl.Nm} (h12 : Below w.heap.size w w3) (h23 : w3.grownBy w4 (some M))
    (h5 : DiskIn w5 B g M V (Fl.drop l nm) r5) (h45 : w4.grownBy w5 (some g)) : DiskTo w w5 B g M V l (Fl.drop l nm) r5 :=
  ⟨V, h5, ((Chg.of_below h12).trans (Chg.of_grown (S := DiskOwn g M l V) h23 (fun k e => by cases e; exact .inl (.inr (.inl rfl)))) (fun k h => .inl h)).trans (Chg.of_grown (S := DiskOwn g M l V) h45 (fun k e => by cases e; exact .inl (.inl rfl))) (fun k h => .inl h), fun k hk => .inl hk.dropped⟩
set_option maxRecDepth 20000 in
set_option maxHeartbeats 1600000 in
theorem remove_at9 {w : World} {B g M : Nat} {V : Fl.Nm → Value} {l : List Fl} {r : Int} (nm : Fl.Nm) (hd : DiskIn w B g M V l r) (hn : nm.length ≤ maxLen) :
    Calls Tryd.prog 29 #[.pointer (some ⟨g, 0, none⟩), Sb nm] w fun e w' => e = .returned (.int .i64 (removeR l r nm).2.2) ∧ DiskTo w w' B g M V l (removeR l r nm).1 (removeR l r nm).2.1 := by
  have HF := Lib.hid (find9 nm hd hn)
  have HD := Lib.hid hd
  have HN := Lib.hid hn
  obtain ⟨R, hR⟩ : ∃ R, R = removeR l r nm := ⟨_, rfl⟩
  rw [← hR]
  unfold removeR at hR
  clear hd hn
  rcases codeR_cases l r nm with ⟨h0, hc⟩ | ⟨h0, hf, hc⟩ | ⟨h0, f, hf, hc, hbs, hsf, hfr⟩
  · rw [if_pos h0] at hR
    rw [hc] at HF
    have HR := Lib.hid hR
    generalize safeR l r nm = s at *
    clear h0 hR hc
    go_enter Tryd.func29, Tryd.ntmps29
    go_wp2_with fail
    refine HF.out.mono ?_
    rintro _ w1 ⟨A, n, c, rfl, hb, hx1, hx2, hx3⟩
    clear hx1 hx2 hx3
    have Hb := Lib.hid (hb.alloc hb.size (.cells #[.slice A n c, .int .i64 s] 75))
    clear hb
    go_wp2_with fail
    go_ret
    exact ⟨by rw [HR.out]; rfl, by rw [HR.out]; exact .same HD.out Hb.out⟩
  · rw [if_neg h0, hf] at hR
    rw [hc] at HF
    have HR := Lib.hid hR
    generalize safeR l r nm = s at *
    clear h0 hR hc hf
    go_enter Tryd.func29, Tryd.ntmps29
    go_wp2_with fail
    refine HF.out.mono ?_
    rintro _ w1 ⟨A, n, c, rfl, hb, hx1, hx2, hx3⟩
    clear hx1 hx2 hx3
    have Hb := Lib.hid (hb.alloc hb.size (.cells #[.slice A n c, .int .i64 s] 75))
    clear hb
    go_wp2_with fail
    go_ret
    exact ⟨by rw [HR.out]; rfl, by rw [HR.out]; exact .same HD.out Hb.out⟩
  · rw [if_neg h0, hf] at hR
    rw [hc] at HF
    have HR := Lib.hid hR
    have H0 := Lib.hid h0
    generalize safeR l r nm = s at *
    clear h0 hR hc hf hbs hsf hfr
    go_enter Tryd.func29, Tryd.ntmps29
    go_wp2_with fail
    refine HF.out.mono ?_
    rintro _ w1 ⟨A, n, c, rfl, hb, hx1, hx2, hx3⟩
    clear hx1 hx2 hx3
    obtain ⟨sk, hsk, hkk⟩ := HD.out.row
    obtain ⟨D, hD, hV⟩ := HD.out.map
    have hb2 := hb.alloc hb.size (.cells #[.slice A n c, .int .i64 s] 75)
    have c0 : (w1.alloc (.cells #[.slice A n c, .int .i64 s] 75)).cell? ⟨g, 0, none⟩ = some (.map (some M)) := (DkAt.box (hsk.below hb2)).1
    have hDk : (w1.alloc (.cells #[.slice A n c, .int .i64 s] 75)).ownsMap Tryd.prog 9 heldV M l.length D := hD.kept (grownBy_of_below hb2 none) (by simp)
    have hd2 := HD.out.below hb2
    have Hb2 := Lib.hid hb2
    have HDk := Lib.hid hDk
    have Hd2 := Lib.hid hd2
    have HV := Lib.hid hV
    clear hb hsk hkk hD hV hb2 hDk hd2
    go_wp2_with (first
      | (at_delete; refine wpList_delete_own _ rfl _ _ 58 9 rfl 75 lawS Tryd.underlying58 _ M l.length D rfl HDk.out _ _ rfl (keyS nm HN.out) ?_
         intro w4 hown4 hturn
         have Hg4 := Lib.hid hturn.grown
         have Hd4 := Lib.hid (Hd2.out.dropped HV.out hown4 hturn.grown)
         clear hown4 hturn
         go_frame)
      | fail)
    refine (done9 Hd4.out H0.out).mono ?_
    rintro _ w5 ⟨rfl, hd5, hg5⟩
    have Hd5 := Lib.hid hd5
    have Hg5 := Lib.hid hg5
    clear hd5 hg5
    go_wp2_with fail
    go_ret
    exact ⟨by rw [HR.out]; rfl, by rw [HR.out]; exact .dropped Hb2.out Hg4.out Hd5.out Hg5.out⟩
end Go.Proofs.YtpphljdnnlfjhaaDoor
