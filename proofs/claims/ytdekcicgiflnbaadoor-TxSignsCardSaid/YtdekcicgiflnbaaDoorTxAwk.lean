/- cavalcadelaw04.awake: what it returns. -/
import Derived.Test.YtdekcicgiflnbaaDoorTxBack
namespace Go.Proofs.YtdekcicgiflnbaaDoor
open Go.RowKit
set_option linter.unusedVariables false
set_option linter.unusedSimpArgs false

namespace Tx
/-- the one that is signed -/
def one : Tx := ⟨1, 0, 0, 0, ⟨#[97]⟩, false, 0, 0, zero, zero⟩
/-- the one that is not -/
def bare : Tx := ⟨1, 0, 0, 0, ByteArray.empty, false, 0, 0, zero, zero⟩
theorem fits1 : fits 1 := ⟨by decide, by decide⟩
theorem one_ok : one.Ok := ⟨rfl, rfl, by decide, fits1, fits0, fits0, fits0, fits0, fits0⟩
theorem bare_ok : bare.Ok := ⟨rfl, rfl, by decide, fits1, fits0, fits0, fits0, fits0, fits0⟩
theorem one_body : one.bodyE.2 = 0 := by decide +kernel
theorem bare_body : bare.bodyE.2 = 0 := by decide +kernel
theorem one_signE : one.signE = (one.sign, 0) := by
  exact (if_pos one_body).trans (congrArg (fun n => (one.sign, n)) (sign_err0 one_body))
theorem one_len : one.bodyE.1.length ≤ 100 := by decide +kernel
theorem one_text : ∃ a, one.sign.textE = (a, 0) := by
  have hb : one.sign.bodyE.2 = 0 := by rw [sign_body]; exact one_body
  have ho : one.sign.outer one.sign.bodyE.1 = [one.bodyE.1, one.sign.tag] := by rw [sign_body]; exact if_neg (by show ¬ (false = true); simp)
  have hl : one.sign.tag.length = 32 := (sign_ok one_ok).tag
  unfold textE
  rw [if_pos hb, ho]
  have h1 := one_len
  generalize one.bodyE.1 = x at *
  generalize one.sign.tag = y at *
  unfold Oct.listE
  rw [if_neg (by simp)]
  unfold Oct.listGo
  rw [if_neg (by omega)]
  unfold Oct.listGo
  rw [if_neg (by omega)]
  unfold Oct.listGo
  exact ⟨_, rfl⟩
theorem bare_tag : Seal.tagL (Seal.keyL 1) 1 bare.bodyE.1 ≠ zero := by decide +kernel
theorem bare_signed : bare.signedE = 21 := by
  unfold signedE
  rw [if_pos bare_body]
  show Seal.check2 1 1 bare.bodyE.1 zero = 21
  have ht : Seal.tag 1 1 bare.bodyE.1 = (Seal.tagL (Seal.keyL 1) 1 bare.bodyE.1, 0) := by
    unfold Seal.tag
    rw [if_neg (by omega), if_neg (by omega)]
    rfl
  unfold Seal.check2
  rw [ht]
  rw [if_neg (by simp), if_pos bare_tag]
theorem one_signed : one.sign.signedE = 0 := sign_signed one_body
end Tx
theorem one_facts : ∃ (o b u : Tx) (a : List UInt8), o.Ok ∧ b.Ok ∧ u.Ok ∧ o.signE = (u, 0) ∧ u.textE = (a, 0) ∧ u.signedE = 0 ∧ b.signedE = 21 ∧ (Tx.none.arr.setIfInBounds 0 (.int .i64 1)).setIfInBounds 4 (.string ⟨#[97]⟩) = o.arr ∧ Tx.none.arr.setIfInBounds 0 (.int .i64 1) = b.arr := by
  obtain ⟨a, ha⟩ := Tx.one_text
  exact ⟨Tx.one, Tx.bare, Tx.one.sign, a, Tx.one_ok, Tx.bare_ok, Tx.sign_ok Tx.one_ok, Tx.one_signE, ha, Tx.one_signed, Tx.bare_signed, by kernel_rfl, by kernel_rfl⟩
theorem sign_call {o u : Tx} (ho : o.Ok) (h : o.signE = (u, 0)) (W : World) (hW : Tab W) : Calls Tryd.prog 23 #[.agg o.arr] W fun e w' => e = .returned (.tuple #[.agg u.cells.toArray, .int .i64 0]) ∧ Below W.heap.size W w' := by
  have h' := sign4_any o ho W hW
  rw [h] at h'
  exact h'
theorem text_call {u : Tx} {a : List UInt8} (hu : u.Ok) (h : u.textE = (a, 0)) (W : World) : Calls Tryd.prog 16 #[.agg u.cells.toArray] W fun e w' => e = .returned (.tuple #[S a, .int .i64 0]) ∧ Below W.heap.size W w' := by
  have h' := text4_any u hu W
  rw [h] at h'
  exact h'
theorem read_call {u : Tx} {a : List UInt8} (hu : u.Ok) (h : u.textE = (a, 0)) (W : World) : Calls Tryd.prog 29 #[S a] W fun e w' => e = .returned (.tuple #[.agg u.cells.toArray, .int .i64 0]) ∧ Below W.heap.size W w' := by
  have hal : a.length ≤ 100000 := by have := Tx.text_len u; rw [h] at this; exact this
  have h' := read4_any ⟨a.toArray⟩ W (by show a.length ≤ _; omega)
  rw [show (⟨a.toArray⟩ : ByteArray).data.toList = a from rfl, Tx.read_text hu h] at h'
  exact h'
theorem signed_call {u : Tx} {n : Int} (hu : u.Ok) (h : u.signedE = n) (W : World) (hW : Tab W) : Calls Tryd.prog 27 #[.agg u.cells.toArray] W fun e w' => e = .returned (.int .i64 n) ∧ Below W.heap.size W w' := by
  have h' := signed4_any u hu W hW
  rw [h] at h'
  exact h'
theorem tx_same (W : World) {t : Tx} (ht : t.Ok) : (Op.equalIn 10000 25 (.agg t.cells.toArray) (.agg t.cells.toArray)).run Tryd.prog W = .ok true W := by
  obtain ⟨r, hr, hi⟩ := tx_eq W t t ht ht
  rw [hi.2 rfl] at hr
  exact hr
set_option maxRecDepth 20000 in
set_option maxHeartbeats 1600000 in
theorem awake4_any (w : World) (hT : Tab w) :
    Calls Tryd.prog 20 #[] w fun e w' => e = .returned (.bool true) ∧ Below w.heap.size w w' := by
  obtain ⟨o, b, u, a, hoo, hbo, hok, hsg, hte, hsd, hsb, hob, hbb⟩ := one_facts
  have SG := Lib.hid (sign_call hoo hsg)
  have TX := Lib.hid (text_call hok hte)
  have RD := Lib.hid (read_call hok hte)
  have SD := Lib.hid (signed_call hok hsd)
  have SB : Hid (∀ W, Tab W → Calls Tryd.prog 27 #[.agg b.arr] W fun e w' => e = .returned (.int .i64 21) ∧ Below W.heap.size W w') := signed_call hbo hsb
  have heq := fun W => tx_same W hok
  have HD72 := Lib.hid (Tx.cells_length hok)
  have HD1 := Lib.hid (Tx.cells_one hok)
  have HZ72 := Lib.hid (Tx.cells_length Tx.none_ok)
  have hzv := tx_zv
  have HT := Lib.hid hT
  have Hpos := Lib.hid hT.pos
  have HOB := Lib.hid hob
  have HBB := Lib.hid hbb
  generalize u.cells = D at *
  generalize o.arr = oneV at *
  generalize b.arr = bareV at *
  clear hT hoo hbo hok hsg hte hsd hsb hob hbb
  go_enter Tryd.func20, Tryd.ntmps20
  go_wp2_with fail
  rw [HOB.out]
  refine (SG.out w HT.out).mono ?_
  rintro _ w1 ⟨rfl, hb1⟩
  have Hb1 := Lib.hid hb1
  clear hb1
  go_wp2_with (first
    | (with_reducible show wpList _ _ _ (⟨_, .store 25 _ _, _, _, _, _⟩ :: _) _ _
       refine wpList_store_at rfl 25 (.tmp 1) (.tmp 10) rfl w1.heap.size 0 D _ _ rfl rfl (Row.new w1 25 Tx.none.cells) (by have := HZ72.out; have := HD72.out; omega) (by rw [tx_info, HD72.out]) HD1.out ?_
       intro w2 hr2 hg2
       rw [splice_all (HD72.out.trans HZ72.out.symm)] at hr2
       have Hr2 := Lib.hid hr2
       have Hb2 := Lib.hid (below_own (Hb1.out.alloc Hb1.out.size _) hg2 (fun k hk => by cases hk; exact Hb1.out.size))
       clear hr2 hg2)
    | (with_reducible show wpList _ _ _ (⟨_, .load 25 _, _, _, _, _⟩ :: _) _ _; refine wpList_load_tx rfl 25 (.tmp 1) rfl w1.heap.size 0 rfl D _ (row_range Hr2.out) Tryd.underlying25 rfl (by rw [tx_info, HD72.out]) ?_))
  refine (TX.out w2).mono ?_
  rintro _ w3 ⟨rfl, hb3⟩
  have Hr3 := Lib.hid (Hr2.out.kept (grownBy_of_below hb3 none) (by simp))
  have Hb3 := Lib.hid (two_below' Hb2.out hb3)
  clear hb3
  go_wp2_with fail
  refine (RD.out w3).mono ?_
  rintro _ w4 ⟨rfl, hb4⟩
  have hr4 := Hr3.out.kept (grownBy_of_below hb4 none) (by simp)
  have h14 := hr4.lt
  have hne : w1.heap.size ≠ w4.heap.size := by omega
  have Hr4 := Lib.hid hr4
  have Hb4 := Lib.hid (two_below' Hb3.out hb4)
  clear hb4 hr4
  go_wp2_with (first
    | (with_reducible show wpList _ _ _ (⟨_, .store 25 _ _, _, _, _, _⟩ :: _) _ _
       refine wpList_store_at rfl 25 (.tmp 5) (.tmp 20) rfl w4.heap.size 0 D _ _ rfl rfl (Row.new w4 25 Tx.none.cells) (by have := HZ72.out; have := HD72.out; omega) (by rw [tx_info, HD72.out]) HD1.out ?_
       intro w5 hr5 hg5
       rw [splice_all (HD72.out.trans HZ72.out.symm)] at hr5
       have Hq5 := Lib.hid hr5
       have Hr5 := Lib.hid ((Hr4.out.kept (grownBy_alloc w4 _ none) (by simp)).kept hg5 (by simpa using hne))
       have Hb5 := Lib.hid (below_own (Hb4.out.alloc Hb4.out.size _) hg5 (fun k hk => by cases hk; exact Hb4.out.size))
       clear hr5 hg5)
    | (with_reducible show wpList _ _ _ (⟨_, .load 25 (.tmp 1), _, _, _, _⟩ :: _) _ _; refine wpList_load_tx rfl 25 (.tmp 1) rfl w1.heap.size 0 rfl D _ (row_range Hr5.out) Tryd.underlying25 rfl (by rw [tx_info, HD72.out]) ?_)
    | (with_reducible show wpList _ _ _ (⟨_, .load 25 (.tmp 5), _, _, _, _⟩ :: _) _ _; refine wpList_load_tx rfl 25 (.tmp 5) rfl w4.heap.size 0 rfl D _ (row_range Hq5.out) Tryd.underlying25 rfl (by rw [tx_info, HD72.out]) ?_))
  refine (SD.out w5 (HT.out.below Hb5.out Hpos.out)).mono ?_
  rintro _ w6 ⟨rfl, hb6⟩
  have Hb6 := Lib.hid (two_below' Hb5.out hb6)
  clear hb6
  go_wp2_with fail
  rw [HBB.out]
  refine (SB.out w6 (HT.out.below Hb6.out Hpos.out)).mono ?_
  rintro _ w7 ⟨rfl, hb7⟩
  have Hb7 := Lib.hid (two_below' Hb6.out hb7)
  clear hb7
  go_wp2_with fail
  go_ret
  exact ⟨rfl, Hb7.out⟩
end Go.Proofs.YtdekcicgiflnbaaDoor
