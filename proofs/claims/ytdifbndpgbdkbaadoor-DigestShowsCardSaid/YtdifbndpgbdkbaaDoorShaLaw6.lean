/- The law DigestShows: what its function returns. -/
import Derived.Test.YtdifbndpgbdkbaaDoorShaLaw3
import Derived.Test.YtdifbndpgbdkbaaDoorShaOpen
import Derived.Deep.RegionHeld3
import Derived.Great.BuildSlice
import Derived.Laws.AppendOwnNone
namespace Go.Proofs.YtdifbndpgbdkbaaDoor
open Go.RowKit
set_option linter.unusedVariables false
set_option linter.unusedSimpArgs false

set_option maxHeartbeats 2000000 in
set_option maxRecDepth 100000 in
theorem shows_out (A : Option Addr) (n cap : Nat) (i : Int) (w : World) (hT : Tab w) (hc : n ≤ cap) (hn : n ≤ 9223372036854775807) (h : i < 0 ∨ ((min n 100 : Nat) : Int) ≤ i) :
    Calls Tryd.prog 7 #[.slice A n cap, .int .i64 i] w fun e w' => e = .returned (.bool true) ∧ Below w.heap.size w w' := by
  have HT := Lib.hid hT
  have hpos := hT.pos
  have hf := few_any A n cap w hc hn
  generalize min n 100 = m at *
  have HF := Lib.hid hf
  clear hT hf
  by_cases h0 : i < 0
  · go_enter Tryd.func7, Tryd.ntmps7
    go_wp2_with fail
    refine HF.out.mono ?_
    rintro e w' ⟨rfl, rfl⟩
    go_wp2_with fail
    refine (awake_any w HT.out).mono ?_
    rintro e w1 ⟨rfl, hb1⟩
    go_wp2_with fail
    refine (awake_any w1 (HT.out.below hb1 hpos)).mono ?_
    rintro e w2 ⟨rfl, hb2⟩
    go_wp2_with fail
    go_ret
    exact ⟨rfl, hb1.trans (hb2.mono hb1.size)⟩
  · have h1 : 0 ≤ i := by omega
    have h2 : (m : Int) ≤ i := by omega
    clear h0 h
    go_enter Tryd.func7, Tryd.ntmps7
    go_wp2_with fail
    refine HF.out.mono ?_
    rintro e w' ⟨rfl, rfl⟩
    go_wp2_with fail
    refine (awake_any w HT.out).mono ?_
    rintro e w1 ⟨rfl, hb1⟩
    go_wp2_with fail
    refine (awake_any w1 (HT.out.below hb1 hpos)).mono ?_
    rintro e w2 ⟨rfl, hb2⟩
    go_wp2_with fail
    go_ret
    exact ⟨rfl, hb1.trans (hb2.mono hb1.size)⟩
theorem hcells_one (P : List (List UInt8)) : ∀ u ∈ hcells P, u.oneCell' = true := fun u hu => by
  unfold hcells at hu
  obtain ⟨p, _, hp⟩ := List.mem_flatMap.1 hu
  have := bRow_one p
  rw [Array.all_eq_true_iff_forall_mem] at this
  exact this u (Array.mem_toList_iff.1 hp)
/-- one row of hashes put behind another -/
theorem wp_append_rows {w : World} {o : Oper} {a : Act} {K : Act → World → Prop} {Q : Exit → Act → World → Prop} (s x : Operand)
    (ho : o.op = .call { callee := .builtin .append, args := #[s, x], argTypes := #[32, 32] }) (base base2 : Nat) (v : Value) (n : Nat) (xs : List Value) (hs : a.eval s = v) (hown : w.ownsRow base 24 32 v n xs)
    (u : Value) (m : Nat) (P : List (List UInt8)) (hx : a.eval x = u) (hsrc : w.ownsRow base2 24 32 u m (hcells P)) (hb : n + m ≤ 1000) (hbase : base ≤ w.heap.size)
    (h : ∀ v' w', w'.ownsRow base 24 32 v' (n + m) (xs ++ hcells P) → w.grownBy w' v.ownBlock → K (a.put o.dst v') w') : o.wp Tryd.prog a w K Q := by
  obtain ⟨i0, hii, hz0, hz1, hz2⟩ := info_parts hash_info
  obtain ⟨hl, ⟨rfl, h0⟩ | ⟨g, cap, cur, rfl, hg, hh, hnc, hcm, hcs, htk⟩⟩ := hsrc
  · subst h0
    have hx0 : hcells P = [] := List.eq_nil_of_length_eq_zero (by simpa using hl)
    have hrun := run_append_owned_none (P := Tryd.prog) (w := w) base 32 o.type 24 i0 32 Tryd.underlying32 hii v n xs hown
    unfold Oper.wp
    simp [execOp, ho, resolve, invoke, builtin, hs, hx, hrun, Result.andThen]
    exact h v w (by rw [hx0, List.append_nil]; exact hown) (World.grownBy.refl w _)
  · refine wp_append_own w s x 32 ho base 24 i0 (.agg (bRow [])) 32 32 Tryd.underlying32 hii hz0 hz1 hz2 (by show (bRow []).size = 32; exact bRow_size [] (by simp)) (by decide) v n xs hs hown ⟨g, 0, none⟩ m cap (hcells P) hx hl (fun j u hj => ?_) (hcells_one P) (by unfold maxLen; omega) (by omega) hbase fun v' w' h1 h2 _ => h v' w' h1 h2
    rw [add0, Nat.zero_add, cell_of_row w g j cur _ (0, 0) hh]
    have hjl := (List.getElem?_eq_some_iff.1 hj).1
    rw [← htk, List.getElem?_take, if_pos (by omega)] at hj
    rw [← Array.getElem?_toList]; exact hj
theorem owns_lt {w : World} {base n cap size g : Nat} {e : TypeId} {xs : List Value} (h : w.ownsRow base e size (.slice (some ⟨g, 0, none⟩) n cap) n xs) : g < w.heap.size := by
  obtain ⟨_, ⟨h1, _⟩ | ⟨g2, c, cur, h1, _, hh, _⟩⟩ := h
  · injection h1 with h1; cases h1
  · injection h1 with h1 _ _
    injection h1 with h1
    injection h1 with h1 _ _
    subst h1
    rcases Nat.lt_or_ge g w.heap.size with h2 | h2
    · exact h2
    · rw [Array.getElem?_eq_none h2] at hh; cases hh
theorem holds_grown {w w' : World} {g : Nat} {cs : Array Value} {row : Option Nat} (h : Holds w g cs) (hg : w.grownBy w' row) (hne : some g ≠ row) : Holds w' g cs := by
  have hl := h.lt
  obtain ⟨T, hT⟩ := h
  exact ⟨T, (hg.block g hl hne).trans hT⟩
set_option maxHeartbeats 8000000 in
set_option maxRecDepth 100000 in
theorem shows_in (L : List (List UInt8)) (b off n cap i : Nat) (w : World) (hT : Tab w) (hL : Lies w w.heap.size b off L) (hS : Small L) (hLn : L.length = min n 100) (hc : n ≤ cap) (hn : n ≤ 9223372036854775807) (hi : i < L.length) (hS2 : ∀ k, k < L.length → (L.getD k []).length ≤ 140737488351232) :
    Calls Tryd.prog 7 #[.slice (some ⟨b, off, none⟩) n cap, .int .i64 i] w fun e w' => e = .returned (.bool true) ∧ Below w.heap.size w w' := by
  have HT := Lib.hid hT
  have hpos := hT.pos
  have hf := few_any (some ⟨b, off, none⟩) n cap w hc hn
  rw [← hLn] at hf
  have hcap : L.length ≤ cap := by omega
  have hbig : L.length ≤ 9223372036854775807 := by omega
  have hpf := fun (w' : World) (hb : Below w.heap.size w w') => Proof_in L b off cap i w' (hT.below hb hpos) ((hL.below hb (Nat.le_refl _)).mono hb.size) hS hcap hbig hi
  have hrt := fun (w' : World) (hb : Below w.heap.size w w') => root_some L.length L b off cap w' rfl (hT.below hb hpos) ((hL.below hb (Nat.le_refl _)).mono hb.size) hS hcap hbig
  have hP32 := Sha.proof_all L.length L i rfl
  have hRl := Sha.root_len L
  have hyes := Sha.proves_proof L i hi
  have hno := Sha.proves_long (Sha.root L) L i (L.getD i []) (List.replicate 32 0)
  have hlog := Sha.path_len_log 63 L.length i (by omega)
  have hplen := Sha.proof_len L.length L i rfl
  have hPl : (Sha.proof L i).length ≤ 63 := by omega
  have hs : (⟨(L.getD i []).toArray⟩ : ByteArray).size ≤ 1152921504606846000 := by
    show (L.getD i []).length ≤ _
    have := hS2 i hi
    omega
  have hcell := hL.2 i hi
  have hblt := hL.1
  generalize Sha.proof L i = Pr at *
  generalize Sha.root L = R at *
  generalize htx : L.getD i [] = tx at *
  have hpv : ∀ (w' : World) (B : Option Addr) (c : Nat), Below w.heap.size w w' → Hashes w' B Pr → Calls Tryd.prog 24 #[.agg (bRow R), .int .i64 L.length, .int .i64 i, S tx, .slice B Pr.length c] w' fun e w'' => e = .returned (.bool true) ∧ Below w'.heap.size w' w'' := fun w' B c hb hH => by
    have h := Proves_any R L.length i ⟨tx.toArray⟩ B Pr c w' (hT.below hb hpos) hRl hH hP32 (by omega) hs
    rw [if_neg (by omega), Int.toNat_natCast, Int.toNat_natCast] at h
    have h2 : Sha.proves R L.length i (⟨tx.toArray⟩ : ByteArray).data.toList Pr = true := hyes
    rw [h2] at h
    exact h
  have hP33 : ∀ q ∈ Pr ++ [List.replicate 32 0], q.length = 32 := fun q hq => by
    rcases List.mem_append.1 hq with h | h
    · exact hP32 q h
    · rw [List.mem_singleton.1 h]; rfl
  have hpn : ∀ (w' : World) (B : Option Addr) (c : Nat), Below w.heap.size w w' → Hashes w' B (Pr ++ [List.replicate 32 0]) → Calls Tryd.prog 24 #[.agg (bRow R), .int .i64 L.length, .int .i64 i, S tx, .slice B (Pr.length + 1) c] w' fun e w'' => e = .returned (.bool false) ∧ Below w'.heap.size w' w'' := fun w' B c hb hH => by
    have h := Proves_any R L.length i ⟨tx.toArray⟩ B (Pr ++ [List.replicate 32 0]) c w' (hT.below hb hpos) hRl hH hP33 (by omega) hs
    rw [if_neg (by omega), Int.toNat_natCast, Int.toNat_natCast] at h
    have h2 : Sha.proves R L.length i (⟨tx.toArray⟩ : ByteArray).data.toList (Pr ++ [List.replicate 32 0]) = false := hno
    have e1 : (Pr ++ [List.replicate 32 0]).length = Pr.length + 1 := by simp
    rw [h2, e1] at h
    exact h
  have hi1 : (i : Int) < (L.length : Int) := by omega
  have hi0 : (0 : Int) ≤ (i : Int) := by omega
  generalize L.length = m at *
  have HF := Lib.hid hf
  have HPF := Lib.hid hpf
  have HRT := Lib.hid hrt
  have HP32 := Lib.hid hP32
  have HP33 := Lib.hid hP33
  have HCell := Lib.hid hcell
  have HPV := Lib.hid hpv
  have HPN := Lib.hid hpn
  clear hT hL hS hf hpf hrt hP32 hP33 hRl hcell hLn hc hn hS2 hyes hno hlog hplen hs htx hpv hpn
  go_enter Tryd.func7, Tryd.ntmps7
  go_wp2_with fail
  refine HF.out.mono ?_
  rintro e w' ⟨rfl, rfl⟩
  go_wp2_with fail
  refine (awake_any w HT.out).mono ?_
  rintro e w1 ⟨rfl, hb1⟩
  go_wp2_with fail
  refine (HPF.out w1 hb1).mono ?_
  rintro e w2 ⟨v, rfl, hown, hb2⟩
  have hb2 := hb1.trans (hb2.mono hb1.size)
  obtain ⟨B, c, rfl, hH2⟩ := owns_hashes hown HP32.out
  have HH2 := Lib.hid hH2
  have HOwn := Lib.hid hown
  generalize hpm : Pr.length = pm at *
  have HPM := Lib.hid hpm
  clear hown hH2 hpm
  go_wp2_with fail
  have hkeep0 : Below w2.heap.size w2 w2.drew := (Below.refl _ _).drew
  have HC : Hid (∀ w', Below w2.heap.size w2 w' → w'.cell? ⟨b, off + i, none⟩ = some (S tx)) := fun w' hb => ((hb2.trans (hb.mono hb2.size)).cell (p := ⟨b, off + i, none⟩) hblt).trans HCell.out
  refine wp_region_noPanic ?_
  refine wp_region_held_drew (S := fun w' => Below w2.heap.size w2 w') (by kernel_rfl) (hkeep0) (fun hHeld => ?_)
  generalize w2.drew = w9 at *
  refine wpAnyH_take (i := 0) (v := .int .i64 0) rfl (by kernel_rfl) (by kernel_rfl) (by kernel_rfl) (fun _ _ _ h => h) (Or.inl ⟨by rfl, fun w' hSw => by go_simp⟩) hHeld ?_
  try simp only [Act.put, List.getElem_toArray, List.getElem_cons_succ, List.getElem_cons_zero, List.setIfInBounds_toArray, List.set_cons_zero, List.set_cons_succ]
  refine wpAnyH_take (i := 1) (v := .bool true) rfl (by kernel_rfl) (by kernel_rfl) (by kernel_rfl) (fun _ _ _ h => h) (Or.inl ⟨by rfl, fun w' hSw => by go_simp⟩) hHeld ?_
  try simp only [Act.put, List.getElem_toArray, List.getElem_cons_succ, List.getElem_cons_zero, List.setIfInBounds_toArray, List.set_cons_zero, List.set_cons_succ]
  refine wpAnyH_take (i := 2) (v := .bool true) rfl (by kernel_rfl) (by kernel_rfl) (by kernel_rfl) (fun _ _ _ h => h) (Or.inl ⟨by rfl, fun w' hSw => by go_simp⟩) hHeld ?_
  try simp only [Act.put, List.getElem_toArray, List.getElem_cons_succ, List.getElem_cons_zero, List.setIfInBounds_toArray, List.set_cons_zero, List.set_cons_succ]
  refine wpAnyH_take (i := 3) (v := .slice (some ⟨b, off, none⟩) m cap) rfl (by kernel_rfl) (by kernel_rfl) (by kernel_rfl) (fun _ _ _ h => h) (Or.inl ⟨by rfl, fun w' hSw => by go_simp⟩) hHeld ?_
  try simp only [Act.put, List.getElem_toArray, List.getElem_cons_succ, List.getElem_cons_zero, List.setIfInBounds_toArray, List.set_cons_zero, List.set_cons_succ]
  refine wpAnyH_take (i := 5) (v := .slice (some ⟨b, off, none⟩) m cap) rfl (by kernel_rfl) (by kernel_rfl) (by kernel_rfl) (fun _ _ _ h => h) (Or.inl ⟨by rfl, fun w' hSw => by go_simp⟩) hHeld ?_
  try simp only [Act.put, List.getElem_toArray, List.getElem_cons_succ, List.getElem_cons_zero, List.setIfInBounds_toArray, List.set_cons_zero, List.set_cons_succ]
  refine wpAnyH_take (i := 6) (v := .int .i64 (m : Int)) rfl (by kernel_rfl) (by kernel_rfl) (by kernel_rfl) (fun _ _ _ h => h) (Or.inl ⟨by rfl, fun w' hSw => by go_simp⟩) hHeld ?_
  try simp only [Act.put, List.getElem_toArray, List.getElem_cons_succ, List.getElem_cons_zero, List.setIfInBounds_toArray, List.set_cons_zero, List.set_cons_succ]
  refine wpAnyH_take (i := 7) (v := .int .i64 (i : Int)) rfl (by kernel_rfl) (by kernel_rfl) (by kernel_rfl) (fun _ _ _ h => h) (Or.inl ⟨by rfl, fun w' hSw => by go_simp⟩) hHeld ?_
  try simp only [Act.put, List.getElem_toArray, List.getElem_cons_succ, List.getElem_cons_zero, List.setIfInBounds_toArray, List.set_cons_zero, List.set_cons_succ]
  refine wpAnyH_take (i := 8) (v := .slice (some ⟨b, off, none⟩) m cap) rfl (by kernel_rfl) (by kernel_rfl) (by kernel_rfl) (fun _ _ _ h => h) (Or.inl ⟨by rfl, fun w' hSw => by go_simp⟩) hHeld ?_
  try simp only [Act.put, List.getElem_toArray, List.getElem_cons_succ, List.getElem_cons_zero, List.setIfInBounds_toArray, List.set_cons_zero, List.set_cons_succ]
  refine wpAnyH_take (i := 9) (v := .int .i64 (i : Int)) rfl (by kernel_rfl) (by kernel_rfl) (by kernel_rfl) (fun _ _ _ h => h) (Or.inl ⟨by rfl, fun w' hSw => by go_simp⟩) hHeld ?_
  try simp only [Act.put, List.getElem_toArray, List.getElem_cons_succ, List.getElem_cons_zero, List.setIfInBounds_toArray, List.set_cons_zero, List.set_cons_succ]
  refine wpAnyH_take (i := 10) (v := .pointer (some ⟨b, off + i, none⟩)) rfl (by kernel_rfl) (by kernel_rfl) (by kernel_rfl) (fun _ _ _ h => h) (Or.inl ⟨by rfl, fun w' hSw => by go_simp⟩) hHeld ?_
  try simp only [Act.put, List.getElem_toArray, List.getElem_cons_succ, List.getElem_cons_zero, List.setIfInBounds_toArray, List.set_cons_zero, List.set_cons_succ]
  refine wpAnyH_take (i := 11) (v := S tx) rfl (by kernel_rfl) (by kernel_rfl) (by kernel_rfl) (fun _ _ _ h => h) (Or.inl ⟨by rfl, fun w' hSw => by have hq := hSw; have hcl := HC.out w' hq; go_simp⟩) hHeld ?_
  try simp only [Act.put, List.getElem_toArray, List.getElem_cons_succ, List.getElem_cons_zero, List.setIfInBounds_toArray, List.set_cons_zero, List.set_cons_succ]
  refine wpAnyH_take (i := 12) (v := .slice B pm c) rfl (by kernel_rfl) (by kernel_rfl) (by kernel_rfl) (fun _ _ _ h => h) (Or.inl ⟨by rfl, fun w' hSw => by go_simp⟩) hHeld ?_
  try simp only [Act.put, List.getElem_toArray, List.getElem_cons_succ, List.getElem_cons_zero, List.setIfInBounds_toArray, List.set_cons_zero, List.set_cons_succ]
  refine wpAnyH_ready (rs := [4]) (by kernel_rfl) (by simp) (AllReadyH.cons rfl (fun K1 hK1 => ?_) AllReadyH.nil)
  try simp only [Act.put, List.getElem_toArray, List.getElem_cons_succ, List.getElem_cons_zero, List.setIfInBounds_toArray, List.set_cons_zero, List.set_cons_succ]
  go_simp
  refine Calls.mono (HRT.out _ (hb2.trans (hHeld.mono hb2.size))) ?_
  rintro e wa ⟨rfl, hba⟩
  refine hK1.out _ _ (hHeld.trans (hba.mono hHeld.size)) (fun hHeld => ?_)
  clear hK1 K1
  try simp only [Act.put, List.getElem_toArray, List.getElem_cons_succ, List.getElem_cons_zero, List.setIfInBounds_toArray, List.set_cons_zero, List.set_cons_succ]
  refine wpAnyH_ready (rs := [13]) (by kernel_rfl) (by simp) (AllReadyH.cons rfl (fun K1 hK1 => ?_) AllReadyH.nil)
  try simp only [Act.put, List.getElem_toArray, List.getElem_cons_succ, List.getElem_cons_zero, List.setIfInBounds_toArray, List.set_cons_zero, List.set_cons_succ]
  go_simp
  refine Calls.mono (HPV.out _ B c (hb2.trans (hHeld.mono hb2.size)) (HH2.out.below hHeld (Nat.le_refl _))) ?_
  rintro e wb ⟨rfl, hbb⟩
  refine hK1.out _ _ (hHeld.trans (hbb.mono hHeld.size)) (fun hHeld => ?_)
  clear hK1 K1
  try simp only [Act.put, List.getElem_toArray, List.getElem_cons_succ, List.getElem_cons_zero, List.setIfInBounds_toArray, List.set_cons_zero, List.set_cons_succ]
  refine wpAnyH_take (i := 14) (v := .bool true) rfl (by kernel_rfl) (by kernel_rfl) (by kernel_rfl) (fun _ _ _ h => h) (Or.inl ⟨by rfl, fun w' hSw => by go_simp⟩) hHeld ?_
  try simp only [Act.put, List.getElem_toArray, List.getElem_cons_succ, List.getElem_cons_zero, List.setIfInBounds_toArray, List.set_cons_zero, List.set_cons_succ]
  refine wpAnyH_take (i := 15) (v := .bool true) rfl (by kernel_rfl) (by kernel_rfl) (by kernel_rfl) (fun _ _ _ h => h) (Or.inl ⟨by rfl, fun w' hSw => by go_simp⟩) hHeld ?_
  try simp only [Act.put, List.getElem_toArray, List.getElem_cons_succ, List.getElem_cons_zero, List.setIfInBounds_toArray, List.set_cons_zero, List.set_cons_succ]
  refine wpAnyH_take (i := 16) (v := .slice (some ⟨b, off, none⟩) m cap) rfl (by kernel_rfl) (by kernel_rfl) (by kernel_rfl) (fun _ _ _ h => h) (Or.inl ⟨by rfl, fun w' hSw => by go_simp⟩) hHeld ?_
  try simp only [Act.put, List.getElem_toArray, List.getElem_cons_succ, List.getElem_cons_zero, List.setIfInBounds_toArray, List.set_cons_zero, List.set_cons_succ]
  refine wpAnyH_take (i := 18) (v := .slice (some ⟨b, off, none⟩) m cap) rfl (by kernel_rfl) (by kernel_rfl) (by kernel_rfl) (fun _ _ _ h => h) (Or.inl ⟨by rfl, fun w' hSw => by go_simp⟩) hHeld ?_
  try simp only [Act.put, List.getElem_toArray, List.getElem_cons_succ, List.getElem_cons_zero, List.setIfInBounds_toArray, List.set_cons_zero, List.set_cons_succ]
  refine wpAnyH_take (i := 19) (v := .int .i64 (m : Int)) rfl (by kernel_rfl) (by kernel_rfl) (by kernel_rfl) (fun _ _ _ h => h) (Or.inl ⟨by rfl, fun w' hSw => by go_simp⟩) hHeld ?_
  try simp only [Act.put, List.getElem_toArray, List.getElem_cons_succ, List.getElem_cons_zero, List.setIfInBounds_toArray, List.set_cons_zero, List.set_cons_succ]
  refine wpAnyH_take (i := 20) (v := .int .i64 (i : Int)) rfl (by kernel_rfl) (by kernel_rfl) (by kernel_rfl) (fun _ _ _ h => h) (Or.inl ⟨by rfl, fun w' hSw => by go_simp⟩) hHeld ?_
  try simp only [Act.put, List.getElem_toArray, List.getElem_cons_succ, List.getElem_cons_zero, List.setIfInBounds_toArray, List.set_cons_zero, List.set_cons_succ]
  refine wpAnyH_take (i := 21) (v := .slice (some ⟨b, off, none⟩) m cap) rfl (by kernel_rfl) (by kernel_rfl) (by kernel_rfl) (fun _ _ _ h => h) (Or.inl ⟨by rfl, fun w' hSw => by go_simp⟩) hHeld ?_
  try simp only [Act.put, List.getElem_toArray, List.getElem_cons_succ, List.getElem_cons_zero, List.setIfInBounds_toArray, List.set_cons_zero, List.set_cons_succ]
  refine wpAnyH_take (i := 22) (v := .int .i64 (i : Int)) rfl (by kernel_rfl) (by kernel_rfl) (by kernel_rfl) (fun _ _ _ h => h) (Or.inl ⟨by rfl, fun w' hSw => by go_simp⟩) hHeld ?_
  try simp only [Act.put, List.getElem_toArray, List.getElem_cons_succ, List.getElem_cons_zero, List.setIfInBounds_toArray, List.set_cons_zero, List.set_cons_succ]
  refine wpAnyH_take (i := 23) (v := .pointer (some ⟨b, off + i, none⟩)) rfl (by kernel_rfl) (by kernel_rfl) (by kernel_rfl) (fun _ _ _ h => h) (Or.inl ⟨by rfl, fun w' hSw => by go_simp⟩) hHeld ?_
  try simp only [Act.put, List.getElem_toArray, List.getElem_cons_succ, List.getElem_cons_zero, List.setIfInBounds_toArray, List.set_cons_zero, List.set_cons_succ]
  refine wpAnyH_take (i := 24) (v := S tx) rfl (by kernel_rfl) (by kernel_rfl) (by kernel_rfl) (fun _ _ _ h => h) (Or.inl ⟨by rfl, fun w' hSw => by have hq := hSw; have hcl := HC.out w' hq; go_simp⟩) hHeld ?_
  try simp only [Act.put, List.getElem_toArray, List.getElem_cons_succ, List.getElem_cons_zero, List.setIfInBounds_toArray, List.set_cons_zero, List.set_cons_succ]
  refine wpAnyH_take (i := 26) (v := .slice B pm c) rfl (by kernel_rfl) (by kernel_rfl) (by kernel_rfl) (fun _ _ _ h => h) (Or.inl ⟨by rfl, fun w' hSw => by go_simp⟩) hHeld ?_
  try simp only [Act.put, List.getElem_toArray, List.getElem_cons_succ, List.getElem_cons_zero, List.setIfInBounds_toArray, List.set_cons_zero, List.set_cons_succ]
  refine wpAnyH_take (i := 28) (v := .agg (bRow [])) rfl (by kernel_rfl) (by kernel_rfl) (by kernel_rfl) (fun _ _ _ h => h) (Or.inl ⟨by rfl, fun w' hSw => by go_simp; rfl⟩) hHeld ?_
  try simp only [Act.put, List.getElem_toArray, List.getElem_cons_succ, List.getElem_cons_zero, List.setIfInBounds_toArray, List.set_cons_zero, List.set_cons_succ]
  obtain ⟨i0, hii, hz0, hz1, hz2⟩ := info_parts hash_info
  have HI := Lib.hid hii
  have HZ0 := Lib.hid hz0
  have HZ1 := Lib.hid hz1
  have HZ2 := Lib.hid hz2
  clear hii hz0 hz1 hz2
  refine wpAnyH_ready (rs := [17, 25, 29]) (by kernel_rfl) (by simp) (AllReadyH.cons rfl (fun K1 hK1 => ?_) (AllReadyH.cons rfl (fun K1 hK1 => ?_) (AllReadyH.cons rfl (fun K1 hK1 => ?_) AllReadyH.nil)))
  · skip
    try simp only [Act.put, List.getElem_toArray, List.getElem_cons_succ, List.getElem_cons_zero, List.setIfInBounds_toArray, List.set_cons_zero, List.set_cons_succ]
    go_simp
    refine Calls.mono (HRT.out _ (hb2.trans (hHeld.mono hb2.size))) ?_
    rintro e wy1 ⟨rfl, hby2⟩
    refine hK1.out _ _ (hHeld.trans (hby2.mono hHeld.size)) (fun hHeld => ?_)
    clear hK1 K1
    try simp only [Act.put, List.getElem_toArray, List.getElem_cons_succ, List.getElem_cons_zero, List.setIfInBounds_toArray, List.set_cons_zero, List.set_cons_succ]
    refine wpAnyH_ready (rs := [25, 29]) (by kernel_rfl) (by simp) (AllReadyH.cons rfl (fun K1 hK1 => ?_) (AllReadyH.cons rfl (fun K1 hK1 => ?_) AllReadyH.nil))
    · skip
      try simp only [Act.put, List.getElem_toArray, List.getElem_cons_succ, List.getElem_cons_zero, List.setIfInBounds_toArray, List.set_cons_zero, List.set_cons_succ]
      go_simp
      have hE : (wy1.alloc (.cells #[] 24)).ownsRow w2.heap.size 24 32 (.slice (some ⟨wy1.heap.size, 0, none⟩) 0 0) 0 (hcells []) := ⟨rfl, .inr ⟨wy1.heap.size, 0, #[], rfl, hHeld.size, heap_alloc_new _ _, Nat.le_refl _, Nat.zero_le _, rfl, rfl⟩⟩
      have hby4 := (Below.refl wy1.heap.size wy1).alloc (Nat.le_refl _) (.cells #[] 24)
      have hHeld2 := hHeld.trans (hby4.mono hHeld.size)
      generalize wy1.alloc (.cells #[] 24) = wy3 at *
      obtain ⟨gE, hgEe⟩ : ∃ gE, gE = wy1.heap.size := ⟨_, rfl⟩
      rw [← hgEe] at hE ⊢
      refine hK1.out _ _ (hHeld2) (fun hHeld => ?_)
      clear hK1 K1
      try simp only [Act.put, List.getElem_toArray, List.getElem_cons_succ, List.getElem_cons_zero, List.setIfInBounds_toArray, List.set_cons_zero, List.set_cons_succ]
      clear hgEe
      refine wpAnyH_ready (rs := [27, 29]) (by kernel_rfl) (by simp) (AllReadyH.cons rfl (fun K1 hK1 => ?_) (AllReadyH.cons rfl (fun K1 hK1 => ?_) AllReadyH.nil))
      · skip
        try simp only [Act.put, List.getElem_toArray, List.getElem_cons_succ, List.getElem_cons_zero, List.setIfInBounds_toArray, List.set_cons_zero, List.set_cons_succ]
        rw [if_pos (by rfl)]
        refine wp_append_rows _ _ rfl w2.heap.size w1.heap.size _ 0 (hcells []) rfl hE _ pm Pr rfl (owns_below HOwn.out hHeld) (by omega) hHeld.size fun vF wy5 hF hgrow => ?_
        have hF : wy5.ownsRow w2.heap.size 24 32 vF pm (hcells Pr) := by have h := hF; rw [Nat.zero_add] at h; exact h
        have hby6 := hHeld.trans (below_own32 hE hHeld.size hgrow)
        clear hE hgrow
        refine hK1.out _ _ (hby6) (fun hHeld => ?_)
        clear hK1 K1
        try simp only [Act.put, List.getElem_toArray, List.getElem_cons_succ, List.getElem_cons_zero, List.setIfInBounds_toArray, List.set_cons_zero, List.set_cons_succ]
        refine wpAnyH_ready (rs := [29]) (by kernel_rfl) (by simp) (AllReadyH.cons rfl (fun K1 hK1 => ?_) AllReadyH.nil)
        try simp only [Act.put, List.getElem_toArray, List.getElem_cons_succ, List.getElem_cons_zero, List.setIfInBounds_toArray, List.set_cons_zero, List.set_cons_succ]
        rw [if_pos (by rfl)]
        refine wp_buildSlice 32 24 1 _ rfl (bRow Seal.hz) i0 (.agg (bRow [])) Tryd.underlying32 HI.out HZ0.out (by rw [HZ1.out]; decide) (by rw [HZ1.out]; decide) (by rw [HZ1.out, Array.toList_map]; exact fill_hash Seal.hz Seal.hz_len _ (by rw [Array.size_map, Array.size_range])) ?_
        have hby8 := (Below.refl wy5.heap.size wy5).alloc (Nat.le_refl _) (.cells (bRow Seal.hz) 24)
        have hF := owns_below hF hby8
        have hZ : Holds (wy5.alloc (.cells (bRow Seal.hz) 24)) wy5.heap.size (bRow Seal.hz) := Holds.new _ _ _
        have hHeld2 := hHeld.trans (hby8.mono hHeld.size)
        generalize wy5.alloc (.cells (bRow Seal.hz) 24) = wy7 at *
        obtain ⟨gZ, hgZe⟩ : ∃ gZ, gZ = wy5.heap.size := ⟨_, rfl⟩
        rw [← hgZe] at hZ ⊢
        refine hK1.out _ _ (hHeld2) (fun hHeld => ?_)
        clear hK1 K1
        try simp only [Act.put, List.getElem_toArray, List.getElem_cons_succ, List.getElem_cons_zero, List.setIfInBounds_toArray, List.set_cons_zero, List.set_cons_succ]
        clear hgZe
        refine wpAnyH_ready (rs := [30]) (by kernel_rfl) (by simp) (AllReadyH.cons rfl (fun K1 hK1 => ?_) AllReadyH.nil)
        try simp only [Act.put, List.getElem_toArray, List.getElem_cons_succ, List.getElem_cons_zero, List.setIfInBounds_toArray, List.set_cons_zero, List.set_cons_succ]
        rw [if_pos (by rfl)]
        refine wp_append_own wy7 _ _ 32 rfl w2.heap.size 24 i0 (.agg (bRow [])) 32 32 Tryd.underlying32 HI.out HZ0.out HZ1.out HZ2.out (by show (bRow []).size = 32; exact bRow_size [] (by simp)) (by decide) _ pm (hcells Pr) rfl hF ⟨gZ, 0, none⟩ 1 1 (bRow Seal.hz).toList rfl
          (by rw [Array.length_toList, bRow_size Seal.hz (by rw [Seal.hz_len]; omega)]) (fun j u hj => by rw [add0, Nat.zero_add, hZ.cell j]; simpa using hj) (fun u hu => by
            have := bRow_one Seal.hz
            rw [Array.all_eq_true_iff_forall_mem] at this
            exact this u (Array.mem_toList_iff.1 hu)) (by unfold maxLen; omega) (by omega) hHeld.size fun vG wy9 hG hgrow _ => ?_
        have hby10 := hHeld.trans (below_own32 hF hHeld.size hgrow)
        clear hF hZ hgrow
        refine hK1.out _ _ (hby10) (fun hHeld => ?_)
        clear hK1 K1
        try simp only [Act.put, List.getElem_toArray, List.getElem_cons_succ, List.getElem_cons_zero, List.setIfInBounds_toArray, List.set_cons_zero, List.set_cons_succ]
        obtain ⟨C, c2, hCv, hHf⟩ := owns_hashes (P := Pr ++ [List.replicate 32 0]) (by rw [hcells_snoc, List.length_append, HPM.out]; exact hG) HP33.out
        have e1 : (Pr ++ [List.replicate 32 0]).length = pm + 1 := by rw [List.length_append, HPM.out]; rfl
        rw [e1] at hCv
        clear e1
        subst hCv
        have HHf := Lib.hid hHf
        clear hHf hG
        refine wpAnyH_ready (rs := [31]) (by kernel_rfl) (by simp) (AllReadyH.cons rfl (fun K1 hK1 => ?_) AllReadyH.nil)
        try simp only [Act.put, List.getElem_toArray, List.getElem_cons_succ, List.getElem_cons_zero, List.setIfInBounds_toArray, List.set_cons_zero, List.set_cons_succ]
        go_simp
        refine Calls.mono (HPN.out _ C c2 (hb2.trans (hHeld.mono hb2.size)) HHf.out) ?_
        rintro e wz12 ⟨rfl, hbz11⟩
        refine hK1.out _ _ (hHeld.trans (hbz11.mono hHeld.size)) (fun hHeld => ?_)
        clear hK1 K1
        try simp only [Act.put, List.getElem_toArray, List.getElem_cons_succ, List.getElem_cons_zero, List.setIfInBounds_toArray, List.set_cons_zero, List.set_cons_succ]
        refine wpAnyH_take (i := 32) (v := .bool true) rfl (by kernel_rfl) (by kernel_rfl) (by kernel_rfl) (fun _ _ _ h => h) (Or.inl ⟨by rfl, fun w' hSw => by go_simp⟩) hHeld ?_
        try simp only [Act.put, List.getElem_toArray, List.getElem_cons_succ, List.getElem_cons_zero, List.setIfInBounds_toArray, List.set_cons_zero, List.set_cons_succ]
        refine wpAnyH_take (i := 33) (v := .bool true) rfl (by kernel_rfl) (by kernel_rfl) (by kernel_rfl) (fun _ _ _ h => h) (Or.inl ⟨by rfl, fun w' hSw => by go_simp⟩) hHeld ?_
        try simp only [Act.put, List.getElem_toArray, List.getElem_cons_succ, List.getElem_cons_zero, List.setIfInBounds_toArray, List.set_cons_zero, List.set_cons_succ]
        refine wpAnyH_take (i := 34) (v := .bool true) rfl (by kernel_rfl) (by kernel_rfl) (by kernel_rfl) (fun _ _ _ h => h) (Or.inl ⟨by rfl, fun w' hSw => by go_simp⟩) hHeld ?_
        try simp only [Act.put, List.getElem_toArray, List.getElem_cons_succ, List.getElem_cons_zero, List.setIfInBounds_toArray, List.set_cons_zero, List.set_cons_succ]
        refine wpAnyH_done (by kernel_rfl) ?_ _
        refine NoPanic.normal ?_
        have hbe := hb2.trans (hHeld.mono hb2.size)
        clear hHeld hkeep0
        go_wp2_with fail
        go_ret
        exact ⟨rfl, hbe⟩
      · skip
        try simp only [Act.put, List.getElem_toArray, List.getElem_cons_succ, List.getElem_cons_zero, List.setIfInBounds_toArray, List.set_cons_zero, List.set_cons_succ]
        rw [if_pos (by rfl)]
        refine wp_buildSlice 32 24 1 _ rfl (bRow Seal.hz) i0 (.agg (bRow [])) Tryd.underlying32 HI.out HZ0.out (by rw [HZ1.out]; decide) (by rw [HZ1.out]; decide) (by rw [HZ1.out, Array.toList_map]; exact fill_hash Seal.hz Seal.hz_len _ (by rw [Array.size_map, Array.size_range])) ?_
        have hby14 := (Below.refl wy3.heap.size wy3).alloc (Nat.le_refl _) (.cells (bRow Seal.hz) 24)
        have hEZ : wy3.heap.size ≠ gE := by have := owns_lt hE; omega
        have hE := owns_below hE hby14
        have hZ : Holds (wy3.alloc (.cells (bRow Seal.hz) 24)) wy3.heap.size (bRow Seal.hz) := Holds.new _ _ _
        have hHeld2 := hHeld.trans (hby14.mono hHeld.size)
        generalize wy3.alloc (.cells (bRow Seal.hz) 24) = wy13 at *
        obtain ⟨gZ, hgZe⟩ : ∃ gZ, gZ = wy3.heap.size := ⟨_, rfl⟩
        rw [← hgZe] at hZ hEZ ⊢
        refine hK1.out _ _ (hHeld2) (fun hHeld => ?_)
        clear hK1 K1
        try simp only [Act.put, List.getElem_toArray, List.getElem_cons_succ, List.getElem_cons_zero, List.setIfInBounds_toArray, List.set_cons_zero, List.set_cons_succ]
        clear hgZe
        refine wpAnyH_ready (rs := [27]) (by kernel_rfl) (by simp) (AllReadyH.cons rfl (fun K1 hK1 => ?_) AllReadyH.nil)
        try simp only [Act.put, List.getElem_toArray, List.getElem_cons_succ, List.getElem_cons_zero, List.setIfInBounds_toArray, List.set_cons_zero, List.set_cons_succ]
        rw [if_pos (by rfl)]
        refine wp_append_rows _ _ rfl w2.heap.size w1.heap.size _ 0 (hcells []) rfl hE _ pm Pr rfl (owns_below HOwn.out hHeld) (by omega) hHeld.size fun vF wy15 hF hgrow => ?_
        have hF : wy15.ownsRow w2.heap.size 24 32 vF pm (hcells Pr) := by have h := hF; rw [Nat.zero_add] at h; exact h
        have hby16 := hHeld.trans (below_own32 hE hHeld.size hgrow)
        have hZ := holds_grown hZ hgrow (by intro h; injection h with h; exact hEZ h)
        clear hE hgrow
        refine hK1.out _ _ (hby16) (fun hHeld => ?_)
        clear hK1 K1
        try simp only [Act.put, List.getElem_toArray, List.getElem_cons_succ, List.getElem_cons_zero, List.setIfInBounds_toArray, List.set_cons_zero, List.set_cons_succ]
        refine wpAnyH_ready (rs := [30]) (by kernel_rfl) (by simp) (AllReadyH.cons rfl (fun K1 hK1 => ?_) AllReadyH.nil)
        try simp only [Act.put, List.getElem_toArray, List.getElem_cons_succ, List.getElem_cons_zero, List.setIfInBounds_toArray, List.set_cons_zero, List.set_cons_succ]
        rw [if_pos (by rfl)]
        refine wp_append_own wy15 _ _ 32 rfl w2.heap.size 24 i0 (.agg (bRow [])) 32 32 Tryd.underlying32 HI.out HZ0.out HZ1.out HZ2.out (by show (bRow []).size = 32; exact bRow_size [] (by simp)) (by decide) _ pm (hcells Pr) rfl hF ⟨gZ, 0, none⟩ 1 1 (bRow Seal.hz).toList rfl
          (by rw [Array.length_toList, bRow_size Seal.hz (by rw [Seal.hz_len]; omega)]) (fun j u hj => by rw [add0, Nat.zero_add, hZ.cell j]; simpa using hj) (fun u hu => by
            have := bRow_one Seal.hz
            rw [Array.all_eq_true_iff_forall_mem] at this
            exact this u (Array.mem_toList_iff.1 hu)) (by unfold maxLen; omega) (by omega) hHeld.size fun vG wy17 hG hgrow _ => ?_
        have hby18 := hHeld.trans (below_own32 hF hHeld.size hgrow)
        clear hF hZ hgrow
        refine hK1.out _ _ (hby18) (fun hHeld => ?_)
        clear hK1 K1
        try simp only [Act.put, List.getElem_toArray, List.getElem_cons_succ, List.getElem_cons_zero, List.setIfInBounds_toArray, List.set_cons_zero, List.set_cons_succ]
        obtain ⟨C, c2, hCv, hHf⟩ := owns_hashes (P := Pr ++ [List.replicate 32 0]) (by rw [hcells_snoc, List.length_append, HPM.out]; exact hG) HP33.out
        have e1 : (Pr ++ [List.replicate 32 0]).length = pm + 1 := by rw [List.length_append, HPM.out]; rfl
        rw [e1] at hCv
        clear e1
        subst hCv
        have HHf := Lib.hid hHf
        clear hHf hG
        refine wpAnyH_ready (rs := [31]) (by kernel_rfl) (by simp) (AllReadyH.cons rfl (fun K1 hK1 => ?_) AllReadyH.nil)
        try simp only [Act.put, List.getElem_toArray, List.getElem_cons_succ, List.getElem_cons_zero, List.setIfInBounds_toArray, List.set_cons_zero, List.set_cons_succ]
        go_simp
        refine Calls.mono (HPN.out _ C c2 (hb2.trans (hHeld.mono hb2.size)) HHf.out) ?_
        rintro e wz20 ⟨rfl, hbz19⟩
        refine hK1.out _ _ (hHeld.trans (hbz19.mono hHeld.size)) (fun hHeld => ?_)
        clear hK1 K1
        try simp only [Act.put, List.getElem_toArray, List.getElem_cons_succ, List.getElem_cons_zero, List.setIfInBounds_toArray, List.set_cons_zero, List.set_cons_succ]
        refine wpAnyH_take (i := 32) (v := .bool true) rfl (by kernel_rfl) (by kernel_rfl) (by kernel_rfl) (fun _ _ _ h => h) (Or.inl ⟨by rfl, fun w' hSw => by go_simp⟩) hHeld ?_
        try simp only [Act.put, List.getElem_toArray, List.getElem_cons_succ, List.getElem_cons_zero, List.setIfInBounds_toArray, List.set_cons_zero, List.set_cons_succ]
        refine wpAnyH_take (i := 33) (v := .bool true) rfl (by kernel_rfl) (by kernel_rfl) (by kernel_rfl) (fun _ _ _ h => h) (Or.inl ⟨by rfl, fun w' hSw => by go_simp⟩) hHeld ?_
        try simp only [Act.put, List.getElem_toArray, List.getElem_cons_succ, List.getElem_cons_zero, List.setIfInBounds_toArray, List.set_cons_zero, List.set_cons_succ]
        refine wpAnyH_take (i := 34) (v := .bool true) rfl (by kernel_rfl) (by kernel_rfl) (by kernel_rfl) (fun _ _ _ h => h) (Or.inl ⟨by rfl, fun w' hSw => by go_simp⟩) hHeld ?_
        try simp only [Act.put, List.getElem_toArray, List.getElem_cons_succ, List.getElem_cons_zero, List.setIfInBounds_toArray, List.set_cons_zero, List.set_cons_succ]
        refine wpAnyH_done (by kernel_rfl) ?_ _
        refine NoPanic.normal ?_
        have hbe := hb2.trans (hHeld.mono hb2.size)
        clear hHeld hkeep0
        go_wp2_with fail
        go_ret
        exact ⟨rfl, hbe⟩
    · skip
      try simp only [Act.put, List.getElem_toArray, List.getElem_cons_succ, List.getElem_cons_zero, List.setIfInBounds_toArray, List.set_cons_zero, List.set_cons_succ]
      rw [if_pos (by rfl)]
      refine wp_buildSlice 32 24 1 _ rfl (bRow Seal.hz) i0 (.agg (bRow [])) Tryd.underlying32 HI.out HZ0.out (by rw [HZ1.out]; decide) (by rw [HZ1.out]; decide) (by rw [HZ1.out, Array.toList_map]; exact fill_hash Seal.hz Seal.hz_len _ (by rw [Array.size_map, Array.size_range])) ?_
      have hby22 := (Below.refl wy1.heap.size wy1).alloc (Nat.le_refl _) (.cells (bRow Seal.hz) 24)
      have hZ : Holds (wy1.alloc (.cells (bRow Seal.hz) 24)) wy1.heap.size (bRow Seal.hz) := Holds.new _ _ _
      have hHeld2 := hHeld.trans (hby22.mono hHeld.size)
      generalize wy1.alloc (.cells (bRow Seal.hz) 24) = wy21 at *
      obtain ⟨gZ, hgZe⟩ : ∃ gZ, gZ = wy1.heap.size := ⟨_, rfl⟩
      rw [← hgZe] at hZ ⊢
      refine hK1.out _ _ (hHeld2) (fun hHeld => ?_)
      clear hK1 K1
      try simp only [Act.put, List.getElem_toArray, List.getElem_cons_succ, List.getElem_cons_zero, List.setIfInBounds_toArray, List.set_cons_zero, List.set_cons_succ]
      clear hgZe
      refine wpAnyH_ready (rs := [25]) (by kernel_rfl) (by simp) (AllReadyH.cons rfl (fun K1 hK1 => ?_) AllReadyH.nil)
      try simp only [Act.put, List.getElem_toArray, List.getElem_cons_succ, List.getElem_cons_zero, List.setIfInBounds_toArray, List.set_cons_zero, List.set_cons_succ]
      go_simp
      have hE : (wy21.alloc (.cells #[] 24)).ownsRow w2.heap.size 24 32 (.slice (some ⟨wy21.heap.size, 0, none⟩) 0 0) 0 (hcells []) := ⟨rfl, .inr ⟨wy21.heap.size, 0, #[], rfl, hHeld.size, heap_alloc_new _ _, Nat.le_refl _, Nat.zero_le _, rfl, rfl⟩⟩
      have hby24 := (Below.refl wy21.heap.size wy21).alloc (Nat.le_refl _) (.cells #[] 24)
      have hEZ : gZ ≠ wy21.heap.size := by have := hZ.lt; omega
      have hZ := hZ.below hby24 hZ.lt
      have hHeld2 := hHeld.trans (hby24.mono hHeld.size)
      generalize wy21.alloc (.cells #[] 24) = wy23 at *
      obtain ⟨gE, hgEe⟩ : ∃ gE, gE = wy21.heap.size := ⟨_, rfl⟩
      rw [← hgEe] at hE hEZ ⊢
      refine hK1.out _ _ (hHeld2) (fun hHeld => ?_)
      clear hK1 K1
      try simp only [Act.put, List.getElem_toArray, List.getElem_cons_succ, List.getElem_cons_zero, List.setIfInBounds_toArray, List.set_cons_zero, List.set_cons_succ]
      clear hgEe
      refine wpAnyH_ready (rs := [27]) (by kernel_rfl) (by simp) (AllReadyH.cons rfl (fun K1 hK1 => ?_) AllReadyH.nil)
      try simp only [Act.put, List.getElem_toArray, List.getElem_cons_succ, List.getElem_cons_zero, List.setIfInBounds_toArray, List.set_cons_zero, List.set_cons_succ]
      rw [if_pos (by rfl)]
      refine wp_append_rows _ _ rfl w2.heap.size w1.heap.size _ 0 (hcells []) rfl hE _ pm Pr rfl (owns_below HOwn.out hHeld) (by omega) hHeld.size fun vF wy25 hF hgrow => ?_
      have hF : wy25.ownsRow w2.heap.size 24 32 vF pm (hcells Pr) := by have h := hF; rw [Nat.zero_add] at h; exact h
      have hby26 := hHeld.trans (below_own32 hE hHeld.size hgrow)
      have hZ := holds_grown hZ hgrow (by intro h; injection h with h; exact hEZ h)
      clear hE hgrow
      refine hK1.out _ _ (hby26) (fun hHeld => ?_)
      clear hK1 K1
      try simp only [Act.put, List.getElem_toArray, List.getElem_cons_succ, List.getElem_cons_zero, List.setIfInBounds_toArray, List.set_cons_zero, List.set_cons_succ]
      refine wpAnyH_ready (rs := [30]) (by kernel_rfl) (by simp) (AllReadyH.cons rfl (fun K1 hK1 => ?_) AllReadyH.nil)
      try simp only [Act.put, List.getElem_toArray, List.getElem_cons_succ, List.getElem_cons_zero, List.setIfInBounds_toArray, List.set_cons_zero, List.set_cons_succ]
      rw [if_pos (by rfl)]
      refine wp_append_own wy25 _ _ 32 rfl w2.heap.size 24 i0 (.agg (bRow [])) 32 32 Tryd.underlying32 HI.out HZ0.out HZ1.out HZ2.out (by show (bRow []).size = 32; exact bRow_size [] (by simp)) (by decide) _ pm (hcells Pr) rfl hF ⟨gZ, 0, none⟩ 1 1 (bRow Seal.hz).toList rfl
        (by rw [Array.length_toList, bRow_size Seal.hz (by rw [Seal.hz_len]; omega)]) (fun j u hj => by rw [add0, Nat.zero_add, hZ.cell j]; simpa using hj) (fun u hu => by
          have := bRow_one Seal.hz
          rw [Array.all_eq_true_iff_forall_mem] at this
          exact this u (Array.mem_toList_iff.1 hu)) (by unfold maxLen; omega) (by omega) hHeld.size fun vG wy27 hG hgrow _ => ?_
      have hby28 := hHeld.trans (below_own32 hF hHeld.size hgrow)
      clear hF hZ hgrow
      refine hK1.out _ _ (hby28) (fun hHeld => ?_)
      clear hK1 K1
      try simp only [Act.put, List.getElem_toArray, List.getElem_cons_succ, List.getElem_cons_zero, List.setIfInBounds_toArray, List.set_cons_zero, List.set_cons_succ]
      obtain ⟨C, c2, hCv, hHf⟩ := owns_hashes (P := Pr ++ [List.replicate 32 0]) (by rw [hcells_snoc, List.length_append, HPM.out]; exact hG) HP33.out
      have e1 : (Pr ++ [List.replicate 32 0]).length = pm + 1 := by rw [List.length_append, HPM.out]; rfl
      rw [e1] at hCv
      clear e1
      subst hCv
      have HHf := Lib.hid hHf
      clear hHf hG
      refine wpAnyH_ready (rs := [31]) (by kernel_rfl) (by simp) (AllReadyH.cons rfl (fun K1 hK1 => ?_) AllReadyH.nil)
      try simp only [Act.put, List.getElem_toArray, List.getElem_cons_succ, List.getElem_cons_zero, List.setIfInBounds_toArray, List.set_cons_zero, List.set_cons_succ]
      go_simp
      refine Calls.mono (HPN.out _ C c2 (hb2.trans (hHeld.mono hb2.size)) HHf.out) ?_
      rintro e wz30 ⟨rfl, hbz29⟩
      refine hK1.out _ _ (hHeld.trans (hbz29.mono hHeld.size)) (fun hHeld => ?_)
      clear hK1 K1
      try simp only [Act.put, List.getElem_toArray, List.getElem_cons_succ, List.getElem_cons_zero, List.setIfInBounds_toArray, List.set_cons_zero, List.set_cons_succ]
      refine wpAnyH_take (i := 32) (v := .bool true) rfl (by kernel_rfl) (by kernel_rfl) (by kernel_rfl) (fun _ _ _ h => h) (Or.inl ⟨by rfl, fun w' hSw => by go_simp⟩) hHeld ?_
      try simp only [Act.put, List.getElem_toArray, List.getElem_cons_succ, List.getElem_cons_zero, List.setIfInBounds_toArray, List.set_cons_zero, List.set_cons_succ]
      refine wpAnyH_take (i := 33) (v := .bool true) rfl (by kernel_rfl) (by kernel_rfl) (by kernel_rfl) (fun _ _ _ h => h) (Or.inl ⟨by rfl, fun w' hSw => by go_simp⟩) hHeld ?_
      try simp only [Act.put, List.getElem_toArray, List.getElem_cons_succ, List.getElem_cons_zero, List.setIfInBounds_toArray, List.set_cons_zero, List.set_cons_succ]
      refine wpAnyH_take (i := 34) (v := .bool true) rfl (by kernel_rfl) (by kernel_rfl) (by kernel_rfl) (fun _ _ _ h => h) (Or.inl ⟨by rfl, fun w' hSw => by go_simp⟩) hHeld ?_
      try simp only [Act.put, List.getElem_toArray, List.getElem_cons_succ, List.getElem_cons_zero, List.setIfInBounds_toArray, List.set_cons_zero, List.set_cons_succ]
      refine wpAnyH_done (by kernel_rfl) ?_ _
      refine NoPanic.normal ?_
      have hbe := hb2.trans (hHeld.mono hb2.size)
      clear hHeld hkeep0
      go_wp2_with fail
      go_ret
      exact ⟨rfl, hbe⟩
  · skip
    try simp only [Act.put, List.getElem_toArray, List.getElem_cons_succ, List.getElem_cons_zero, List.setIfInBounds_toArray, List.set_cons_zero, List.set_cons_succ]
    go_simp
    have hE : (wb.alloc (.cells #[] 24)).ownsRow w2.heap.size 24 32 (.slice (some ⟨wb.heap.size, 0, none⟩) 0 0) 0 (hcells []) := ⟨rfl, .inr ⟨wb.heap.size, 0, #[], rfl, hHeld.size, heap_alloc_new _ _, Nat.le_refl _, Nat.zero_le _, rfl, rfl⟩⟩
    have hby32 := (Below.refl wb.heap.size wb).alloc (Nat.le_refl _) (.cells #[] 24)
    have hHeld2 := hHeld.trans (hby32.mono hHeld.size)
    generalize wb.alloc (.cells #[] 24) = wy31 at *
    obtain ⟨gE, hgEe⟩ : ∃ gE, gE = wb.heap.size := ⟨_, rfl⟩
    rw [← hgEe] at hE ⊢
    refine hK1.out _ _ (hHeld2) (fun hHeld => ?_)
    clear hK1 K1
    try simp only [Act.put, List.getElem_toArray, List.getElem_cons_succ, List.getElem_cons_zero, List.setIfInBounds_toArray, List.set_cons_zero, List.set_cons_succ]
    clear hgEe
    refine wpAnyH_ready (rs := [17, 29]) (by kernel_rfl) (by simp) (AllReadyH.cons rfl (fun K1 hK1 => ?_) (AllReadyH.cons rfl (fun K1 hK1 => ?_) AllReadyH.nil))
    · skip
      try simp only [Act.put, List.getElem_toArray, List.getElem_cons_succ, List.getElem_cons_zero, List.setIfInBounds_toArray, List.set_cons_zero, List.set_cons_succ]
      go_simp
      refine Calls.mono (HRT.out _ (hb2.trans (hHeld.mono hb2.size))) ?_
      rintro e wy33 ⟨rfl, hby34⟩
      have hE := owns_below hE hby34
      refine hK1.out _ _ (hHeld.trans (hby34.mono hHeld.size)) (fun hHeld => ?_)
      clear hK1 K1
      try simp only [Act.put, List.getElem_toArray, List.getElem_cons_succ, List.getElem_cons_zero, List.setIfInBounds_toArray, List.set_cons_zero, List.set_cons_succ]
      refine wpAnyH_ready (rs := [27, 29]) (by kernel_rfl) (by simp) (AllReadyH.cons rfl (fun K1 hK1 => ?_) (AllReadyH.cons rfl (fun K1 hK1 => ?_) AllReadyH.nil))
      · skip
        try simp only [Act.put, List.getElem_toArray, List.getElem_cons_succ, List.getElem_cons_zero, List.setIfInBounds_toArray, List.set_cons_zero, List.set_cons_succ]
        rw [if_pos (by rfl)]
        refine wp_append_rows _ _ rfl w2.heap.size w1.heap.size _ 0 (hcells []) rfl hE _ pm Pr rfl (owns_below HOwn.out hHeld) (by omega) hHeld.size fun vF wy35 hF hgrow => ?_
        have hF : wy35.ownsRow w2.heap.size 24 32 vF pm (hcells Pr) := by have h := hF; rw [Nat.zero_add] at h; exact h
        have hby36 := hHeld.trans (below_own32 hE hHeld.size hgrow)
        clear hE hgrow
        refine hK1.out _ _ (hby36) (fun hHeld => ?_)
        clear hK1 K1
        try simp only [Act.put, List.getElem_toArray, List.getElem_cons_succ, List.getElem_cons_zero, List.setIfInBounds_toArray, List.set_cons_zero, List.set_cons_succ]
        refine wpAnyH_ready (rs := [29]) (by kernel_rfl) (by simp) (AllReadyH.cons rfl (fun K1 hK1 => ?_) AllReadyH.nil)
        try simp only [Act.put, List.getElem_toArray, List.getElem_cons_succ, List.getElem_cons_zero, List.setIfInBounds_toArray, List.set_cons_zero, List.set_cons_succ]
        rw [if_pos (by rfl)]
        refine wp_buildSlice 32 24 1 _ rfl (bRow Seal.hz) i0 (.agg (bRow [])) Tryd.underlying32 HI.out HZ0.out (by rw [HZ1.out]; decide) (by rw [HZ1.out]; decide) (by rw [HZ1.out, Array.toList_map]; exact fill_hash Seal.hz Seal.hz_len _ (by rw [Array.size_map, Array.size_range])) ?_
        have hby38 := (Below.refl wy35.heap.size wy35).alloc (Nat.le_refl _) (.cells (bRow Seal.hz) 24)
        have hF := owns_below hF hby38
        have hZ : Holds (wy35.alloc (.cells (bRow Seal.hz) 24)) wy35.heap.size (bRow Seal.hz) := Holds.new _ _ _
        have hHeld2 := hHeld.trans (hby38.mono hHeld.size)
        generalize wy35.alloc (.cells (bRow Seal.hz) 24) = wy37 at *
        obtain ⟨gZ, hgZe⟩ : ∃ gZ, gZ = wy35.heap.size := ⟨_, rfl⟩
        rw [← hgZe] at hZ ⊢
        refine hK1.out _ _ (hHeld2) (fun hHeld => ?_)
        clear hK1 K1
        try simp only [Act.put, List.getElem_toArray, List.getElem_cons_succ, List.getElem_cons_zero, List.setIfInBounds_toArray, List.set_cons_zero, List.set_cons_succ]
        clear hgZe
        refine wpAnyH_ready (rs := [30]) (by kernel_rfl) (by simp) (AllReadyH.cons rfl (fun K1 hK1 => ?_) AllReadyH.nil)
        try simp only [Act.put, List.getElem_toArray, List.getElem_cons_succ, List.getElem_cons_zero, List.setIfInBounds_toArray, List.set_cons_zero, List.set_cons_succ]
        rw [if_pos (by rfl)]
        refine wp_append_own wy37 _ _ 32 rfl w2.heap.size 24 i0 (.agg (bRow [])) 32 32 Tryd.underlying32 HI.out HZ0.out HZ1.out HZ2.out (by show (bRow []).size = 32; exact bRow_size [] (by simp)) (by decide) _ pm (hcells Pr) rfl hF ⟨gZ, 0, none⟩ 1 1 (bRow Seal.hz).toList rfl
          (by rw [Array.length_toList, bRow_size Seal.hz (by rw [Seal.hz_len]; omega)]) (fun j u hj => by rw [add0, Nat.zero_add, hZ.cell j]; simpa using hj) (fun u hu => by
            have := bRow_one Seal.hz
            rw [Array.all_eq_true_iff_forall_mem] at this
            exact this u (Array.mem_toList_iff.1 hu)) (by unfold maxLen; omega) (by omega) hHeld.size fun vG wy39 hG hgrow _ => ?_
        have hby40 := hHeld.trans (below_own32 hF hHeld.size hgrow)
        clear hF hZ hgrow
        refine hK1.out _ _ (hby40) (fun hHeld => ?_)
        clear hK1 K1
        try simp only [Act.put, List.getElem_toArray, List.getElem_cons_succ, List.getElem_cons_zero, List.setIfInBounds_toArray, List.set_cons_zero, List.set_cons_succ]
        obtain ⟨C, c2, hCv, hHf⟩ := owns_hashes (P := Pr ++ [List.replicate 32 0]) (by rw [hcells_snoc, List.length_append, HPM.out]; exact hG) HP33.out
        have e1 : (Pr ++ [List.replicate 32 0]).length = pm + 1 := by rw [List.length_append, HPM.out]; rfl
        rw [e1] at hCv
        clear e1
        subst hCv
        have HHf := Lib.hid hHf
        clear hHf hG
        refine wpAnyH_ready (rs := [31]) (by kernel_rfl) (by simp) (AllReadyH.cons rfl (fun K1 hK1 => ?_) AllReadyH.nil)
        try simp only [Act.put, List.getElem_toArray, List.getElem_cons_succ, List.getElem_cons_zero, List.setIfInBounds_toArray, List.set_cons_zero, List.set_cons_succ]
        go_simp
        refine Calls.mono (HPN.out _ C c2 (hb2.trans (hHeld.mono hb2.size)) HHf.out) ?_
        rintro e wz42 ⟨rfl, hbz41⟩
        refine hK1.out _ _ (hHeld.trans (hbz41.mono hHeld.size)) (fun hHeld => ?_)
        clear hK1 K1
        try simp only [Act.put, List.getElem_toArray, List.getElem_cons_succ, List.getElem_cons_zero, List.setIfInBounds_toArray, List.set_cons_zero, List.set_cons_succ]
        refine wpAnyH_take (i := 32) (v := .bool true) rfl (by kernel_rfl) (by kernel_rfl) (by kernel_rfl) (fun _ _ _ h => h) (Or.inl ⟨by rfl, fun w' hSw => by go_simp⟩) hHeld ?_
        try simp only [Act.put, List.getElem_toArray, List.getElem_cons_succ, List.getElem_cons_zero, List.setIfInBounds_toArray, List.set_cons_zero, List.set_cons_succ]
        refine wpAnyH_take (i := 33) (v := .bool true) rfl (by kernel_rfl) (by kernel_rfl) (by kernel_rfl) (fun _ _ _ h => h) (Or.inl ⟨by rfl, fun w' hSw => by go_simp⟩) hHeld ?_
        try simp only [Act.put, List.getElem_toArray, List.getElem_cons_succ, List.getElem_cons_zero, List.setIfInBounds_toArray, List.set_cons_zero, List.set_cons_succ]
        refine wpAnyH_take (i := 34) (v := .bool true) rfl (by kernel_rfl) (by kernel_rfl) (by kernel_rfl) (fun _ _ _ h => h) (Or.inl ⟨by rfl, fun w' hSw => by go_simp⟩) hHeld ?_
        try simp only [Act.put, List.getElem_toArray, List.getElem_cons_succ, List.getElem_cons_zero, List.setIfInBounds_toArray, List.set_cons_zero, List.set_cons_succ]
        refine wpAnyH_done (by kernel_rfl) ?_ _
        refine NoPanic.normal ?_
        have hbe := hb2.trans (hHeld.mono hb2.size)
        clear hHeld hkeep0
        go_wp2_with fail
        go_ret
        exact ⟨rfl, hbe⟩
      · skip
        try simp only [Act.put, List.getElem_toArray, List.getElem_cons_succ, List.getElem_cons_zero, List.setIfInBounds_toArray, List.set_cons_zero, List.set_cons_succ]
        rw [if_pos (by rfl)]
        refine wp_buildSlice 32 24 1 _ rfl (bRow Seal.hz) i0 (.agg (bRow [])) Tryd.underlying32 HI.out HZ0.out (by rw [HZ1.out]; decide) (by rw [HZ1.out]; decide) (by rw [HZ1.out, Array.toList_map]; exact fill_hash Seal.hz Seal.hz_len _ (by rw [Array.size_map, Array.size_range])) ?_
        have hby44 := (Below.refl wy33.heap.size wy33).alloc (Nat.le_refl _) (.cells (bRow Seal.hz) 24)
        have hEZ : wy33.heap.size ≠ gE := by have := owns_lt hE; omega
        have hE := owns_below hE hby44
        have hZ : Holds (wy33.alloc (.cells (bRow Seal.hz) 24)) wy33.heap.size (bRow Seal.hz) := Holds.new _ _ _
        have hHeld2 := hHeld.trans (hby44.mono hHeld.size)
        generalize wy33.alloc (.cells (bRow Seal.hz) 24) = wy43 at *
        obtain ⟨gZ, hgZe⟩ : ∃ gZ, gZ = wy33.heap.size := ⟨_, rfl⟩
        rw [← hgZe] at hZ hEZ ⊢
        refine hK1.out _ _ (hHeld2) (fun hHeld => ?_)
        clear hK1 K1
        try simp only [Act.put, List.getElem_toArray, List.getElem_cons_succ, List.getElem_cons_zero, List.setIfInBounds_toArray, List.set_cons_zero, List.set_cons_succ]
        clear hgZe
        refine wpAnyH_ready (rs := [27]) (by kernel_rfl) (by simp) (AllReadyH.cons rfl (fun K1 hK1 => ?_) AllReadyH.nil)
        try simp only [Act.put, List.getElem_toArray, List.getElem_cons_succ, List.getElem_cons_zero, List.setIfInBounds_toArray, List.set_cons_zero, List.set_cons_succ]
        rw [if_pos (by rfl)]
        refine wp_append_rows _ _ rfl w2.heap.size w1.heap.size _ 0 (hcells []) rfl hE _ pm Pr rfl (owns_below HOwn.out hHeld) (by omega) hHeld.size fun vF wy45 hF hgrow => ?_
        have hF : wy45.ownsRow w2.heap.size 24 32 vF pm (hcells Pr) := by have h := hF; rw [Nat.zero_add] at h; exact h
        have hby46 := hHeld.trans (below_own32 hE hHeld.size hgrow)
        have hZ := holds_grown hZ hgrow (by intro h; injection h with h; exact hEZ h)
        clear hE hgrow
        refine hK1.out _ _ (hby46) (fun hHeld => ?_)
        clear hK1 K1
        try simp only [Act.put, List.getElem_toArray, List.getElem_cons_succ, List.getElem_cons_zero, List.setIfInBounds_toArray, List.set_cons_zero, List.set_cons_succ]
        refine wpAnyH_ready (rs := [30]) (by kernel_rfl) (by simp) (AllReadyH.cons rfl (fun K1 hK1 => ?_) AllReadyH.nil)
        try simp only [Act.put, List.getElem_toArray, List.getElem_cons_succ, List.getElem_cons_zero, List.setIfInBounds_toArray, List.set_cons_zero, List.set_cons_succ]
        rw [if_pos (by rfl)]
        refine wp_append_own wy45 _ _ 32 rfl w2.heap.size 24 i0 (.agg (bRow [])) 32 32 Tryd.underlying32 HI.out HZ0.out HZ1.out HZ2.out (by show (bRow []).size = 32; exact bRow_size [] (by simp)) (by decide) _ pm (hcells Pr) rfl hF ⟨gZ, 0, none⟩ 1 1 (bRow Seal.hz).toList rfl
          (by rw [Array.length_toList, bRow_size Seal.hz (by rw [Seal.hz_len]; omega)]) (fun j u hj => by rw [add0, Nat.zero_add, hZ.cell j]; simpa using hj) (fun u hu => by
            have := bRow_one Seal.hz
            rw [Array.all_eq_true_iff_forall_mem] at this
            exact this u (Array.mem_toList_iff.1 hu)) (by unfold maxLen; omega) (by omega) hHeld.size fun vG wy47 hG hgrow _ => ?_
        have hby48 := hHeld.trans (below_own32 hF hHeld.size hgrow)
        clear hF hZ hgrow
        refine hK1.out _ _ (hby48) (fun hHeld => ?_)
        clear hK1 K1
        try simp only [Act.put, List.getElem_toArray, List.getElem_cons_succ, List.getElem_cons_zero, List.setIfInBounds_toArray, List.set_cons_zero, List.set_cons_succ]
        obtain ⟨C, c2, hCv, hHf⟩ := owns_hashes (P := Pr ++ [List.replicate 32 0]) (by rw [hcells_snoc, List.length_append, HPM.out]; exact hG) HP33.out
        have e1 : (Pr ++ [List.replicate 32 0]).length = pm + 1 := by rw [List.length_append, HPM.out]; rfl
        rw [e1] at hCv
        clear e1
        subst hCv
        have HHf := Lib.hid hHf
        clear hHf hG
        refine wpAnyH_ready (rs := [31]) (by kernel_rfl) (by simp) (AllReadyH.cons rfl (fun K1 hK1 => ?_) AllReadyH.nil)
        try simp only [Act.put, List.getElem_toArray, List.getElem_cons_succ, List.getElem_cons_zero, List.setIfInBounds_toArray, List.set_cons_zero, List.set_cons_succ]
        go_simp
        refine Calls.mono (HPN.out _ C c2 (hb2.trans (hHeld.mono hb2.size)) HHf.out) ?_
        rintro e wz50 ⟨rfl, hbz49⟩
        refine hK1.out _ _ (hHeld.trans (hbz49.mono hHeld.size)) (fun hHeld => ?_)
        clear hK1 K1
        try simp only [Act.put, List.getElem_toArray, List.getElem_cons_succ, List.getElem_cons_zero, List.setIfInBounds_toArray, List.set_cons_zero, List.set_cons_succ]
        refine wpAnyH_take (i := 32) (v := .bool true) rfl (by kernel_rfl) (by kernel_rfl) (by kernel_rfl) (fun _ _ _ h => h) (Or.inl ⟨by rfl, fun w' hSw => by go_simp⟩) hHeld ?_
        try simp only [Act.put, List.getElem_toArray, List.getElem_cons_succ, List.getElem_cons_zero, List.setIfInBounds_toArray, List.set_cons_zero, List.set_cons_succ]
        refine wpAnyH_take (i := 33) (v := .bool true) rfl (by kernel_rfl) (by kernel_rfl) (by kernel_rfl) (fun _ _ _ h => h) (Or.inl ⟨by rfl, fun w' hSw => by go_simp⟩) hHeld ?_
        try simp only [Act.put, List.getElem_toArray, List.getElem_cons_succ, List.getElem_cons_zero, List.setIfInBounds_toArray, List.set_cons_zero, List.set_cons_succ]
        refine wpAnyH_take (i := 34) (v := .bool true) rfl (by kernel_rfl) (by kernel_rfl) (by kernel_rfl) (fun _ _ _ h => h) (Or.inl ⟨by rfl, fun w' hSw => by go_simp⟩) hHeld ?_
        try simp only [Act.put, List.getElem_toArray, List.getElem_cons_succ, List.getElem_cons_zero, List.setIfInBounds_toArray, List.set_cons_zero, List.set_cons_succ]
        refine wpAnyH_done (by kernel_rfl) ?_ _
        refine NoPanic.normal ?_
        have hbe := hb2.trans (hHeld.mono hb2.size)
        clear hHeld hkeep0
        go_wp2_with fail
        go_ret
        exact ⟨rfl, hbe⟩
    · skip
      try simp only [Act.put, List.getElem_toArray, List.getElem_cons_succ, List.getElem_cons_zero, List.setIfInBounds_toArray, List.set_cons_zero, List.set_cons_succ]
      rw [if_pos (by rfl)]
      refine wp_buildSlice 32 24 1 _ rfl (bRow Seal.hz) i0 (.agg (bRow [])) Tryd.underlying32 HI.out HZ0.out (by rw [HZ1.out]; decide) (by rw [HZ1.out]; decide) (by rw [HZ1.out, Array.toList_map]; exact fill_hash Seal.hz Seal.hz_len _ (by rw [Array.size_map, Array.size_range])) ?_
      have hby52 := (Below.refl wy31.heap.size wy31).alloc (Nat.le_refl _) (.cells (bRow Seal.hz) 24)
      have hEZ : wy31.heap.size ≠ gE := by have := owns_lt hE; omega
      have hE := owns_below hE hby52
      have hZ : Holds (wy31.alloc (.cells (bRow Seal.hz) 24)) wy31.heap.size (bRow Seal.hz) := Holds.new _ _ _
      have hHeld2 := hHeld.trans (hby52.mono hHeld.size)
      generalize wy31.alloc (.cells (bRow Seal.hz) 24) = wy51 at *
      obtain ⟨gZ, hgZe⟩ : ∃ gZ, gZ = wy31.heap.size := ⟨_, rfl⟩
      rw [← hgZe] at hZ hEZ ⊢
      refine hK1.out _ _ (hHeld2) (fun hHeld => ?_)
      clear hK1 K1
      try simp only [Act.put, List.getElem_toArray, List.getElem_cons_succ, List.getElem_cons_zero, List.setIfInBounds_toArray, List.set_cons_zero, List.set_cons_succ]
      clear hgZe
      refine wpAnyH_ready (rs := [17]) (by kernel_rfl) (by simp) (AllReadyH.cons rfl (fun K1 hK1 => ?_) AllReadyH.nil)
      try simp only [Act.put, List.getElem_toArray, List.getElem_cons_succ, List.getElem_cons_zero, List.setIfInBounds_toArray, List.set_cons_zero, List.set_cons_succ]
      go_simp
      refine Calls.mono (HRT.out _ (hb2.trans (hHeld.mono hb2.size))) ?_
      rintro e wy53 ⟨rfl, hby54⟩
      have hE := owns_below hE hby54
      have hZ := hZ.below hby54 hZ.lt
      refine hK1.out _ _ (hHeld.trans (hby54.mono hHeld.size)) (fun hHeld => ?_)
      clear hK1 K1
      try simp only [Act.put, List.getElem_toArray, List.getElem_cons_succ, List.getElem_cons_zero, List.setIfInBounds_toArray, List.set_cons_zero, List.set_cons_succ]
      refine wpAnyH_ready (rs := [27]) (by kernel_rfl) (by simp) (AllReadyH.cons rfl (fun K1 hK1 => ?_) AllReadyH.nil)
      try simp only [Act.put, List.getElem_toArray, List.getElem_cons_succ, List.getElem_cons_zero, List.setIfInBounds_toArray, List.set_cons_zero, List.set_cons_succ]
      rw [if_pos (by rfl)]
      refine wp_append_rows _ _ rfl w2.heap.size w1.heap.size _ 0 (hcells []) rfl hE _ pm Pr rfl (owns_below HOwn.out hHeld) (by omega) hHeld.size fun vF wy55 hF hgrow => ?_
      have hF : wy55.ownsRow w2.heap.size 24 32 vF pm (hcells Pr) := by have h := hF; rw [Nat.zero_add] at h; exact h
      have hby56 := hHeld.trans (below_own32 hE hHeld.size hgrow)
      have hZ := holds_grown hZ hgrow (by intro h; injection h with h; exact hEZ h)
      clear hE hgrow
      refine hK1.out _ _ (hby56) (fun hHeld => ?_)
      clear hK1 K1
      try simp only [Act.put, List.getElem_toArray, List.getElem_cons_succ, List.getElem_cons_zero, List.setIfInBounds_toArray, List.set_cons_zero, List.set_cons_succ]
      refine wpAnyH_ready (rs := [30]) (by kernel_rfl) (by simp) (AllReadyH.cons rfl (fun K1 hK1 => ?_) AllReadyH.nil)
      try simp only [Act.put, List.getElem_toArray, List.getElem_cons_succ, List.getElem_cons_zero, List.setIfInBounds_toArray, List.set_cons_zero, List.set_cons_succ]
      rw [if_pos (by rfl)]
      refine wp_append_own wy55 _ _ 32 rfl w2.heap.size 24 i0 (.agg (bRow [])) 32 32 Tryd.underlying32 HI.out HZ0.out HZ1.out HZ2.out (by show (bRow []).size = 32; exact bRow_size [] (by simp)) (by decide) _ pm (hcells Pr) rfl hF ⟨gZ, 0, none⟩ 1 1 (bRow Seal.hz).toList rfl
        (by rw [Array.length_toList, bRow_size Seal.hz (by rw [Seal.hz_len]; omega)]) (fun j u hj => by rw [add0, Nat.zero_add, hZ.cell j]; simpa using hj) (fun u hu => by
          have := bRow_one Seal.hz
          rw [Array.all_eq_true_iff_forall_mem] at this
          exact this u (Array.mem_toList_iff.1 hu)) (by unfold maxLen; omega) (by omega) hHeld.size fun vG wy57 hG hgrow _ => ?_
      have hby58 := hHeld.trans (below_own32 hF hHeld.size hgrow)
      clear hF hZ hgrow
      refine hK1.out _ _ (hby58) (fun hHeld => ?_)
      clear hK1 K1
      try simp only [Act.put, List.getElem_toArray, List.getElem_cons_succ, List.getElem_cons_zero, List.setIfInBounds_toArray, List.set_cons_zero, List.set_cons_succ]
      obtain ⟨C, c2, hCv, hHf⟩ := owns_hashes (P := Pr ++ [List.replicate 32 0]) (by rw [hcells_snoc, List.length_append, HPM.out]; exact hG) HP33.out
      have e1 : (Pr ++ [List.replicate 32 0]).length = pm + 1 := by rw [List.length_append, HPM.out]; rfl
      rw [e1] at hCv
      clear e1
      subst hCv
      have HHf := Lib.hid hHf
      clear hHf hG
      refine wpAnyH_ready (rs := [31]) (by kernel_rfl) (by simp) (AllReadyH.cons rfl (fun K1 hK1 => ?_) AllReadyH.nil)
      try simp only [Act.put, List.getElem_toArray, List.getElem_cons_succ, List.getElem_cons_zero, List.setIfInBounds_toArray, List.set_cons_zero, List.set_cons_succ]
      go_simp
      refine Calls.mono (HPN.out _ C c2 (hb2.trans (hHeld.mono hb2.size)) HHf.out) ?_
      rintro e wz60 ⟨rfl, hbz59⟩
      refine hK1.out _ _ (hHeld.trans (hbz59.mono hHeld.size)) (fun hHeld => ?_)
      clear hK1 K1
      try simp only [Act.put, List.getElem_toArray, List.getElem_cons_succ, List.getElem_cons_zero, List.setIfInBounds_toArray, List.set_cons_zero, List.set_cons_succ]
      refine wpAnyH_take (i := 32) (v := .bool true) rfl (by kernel_rfl) (by kernel_rfl) (by kernel_rfl) (fun _ _ _ h => h) (Or.inl ⟨by rfl, fun w' hSw => by go_simp⟩) hHeld ?_
      try simp only [Act.put, List.getElem_toArray, List.getElem_cons_succ, List.getElem_cons_zero, List.setIfInBounds_toArray, List.set_cons_zero, List.set_cons_succ]
      refine wpAnyH_take (i := 33) (v := .bool true) rfl (by kernel_rfl) (by kernel_rfl) (by kernel_rfl) (fun _ _ _ h => h) (Or.inl ⟨by rfl, fun w' hSw => by go_simp⟩) hHeld ?_
      try simp only [Act.put, List.getElem_toArray, List.getElem_cons_succ, List.getElem_cons_zero, List.setIfInBounds_toArray, List.set_cons_zero, List.set_cons_succ]
      refine wpAnyH_take (i := 34) (v := .bool true) rfl (by kernel_rfl) (by kernel_rfl) (by kernel_rfl) (fun _ _ _ h => h) (Or.inl ⟨by rfl, fun w' hSw => by go_simp⟩) hHeld ?_
      try simp only [Act.put, List.getElem_toArray, List.getElem_cons_succ, List.getElem_cons_zero, List.setIfInBounds_toArray, List.set_cons_zero, List.set_cons_succ]
      refine wpAnyH_done (by kernel_rfl) ?_ _
      refine NoPanic.normal ?_
      have hbe := hb2.trans (hHeld.mono hb2.size)
      clear hHeld hkeep0
      go_wp2_with fail
      go_ret
      exact ⟨rfl, hbe⟩
  · skip
    try simp only [Act.put, List.getElem_toArray, List.getElem_cons_succ, List.getElem_cons_zero, List.setIfInBounds_toArray, List.set_cons_zero, List.set_cons_succ]
    rw [if_pos (by rfl)]
    refine wp_buildSlice 32 24 1 _ rfl (bRow Seal.hz) i0 (.agg (bRow [])) Tryd.underlying32 HI.out HZ0.out (by rw [HZ1.out]; decide) (by rw [HZ1.out]; decide) (by rw [HZ1.out, Array.toList_map]; exact fill_hash Seal.hz Seal.hz_len _ (by rw [Array.size_map, Array.size_range])) ?_
    have hby62 := (Below.refl wb.heap.size wb).alloc (Nat.le_refl _) (.cells (bRow Seal.hz) 24)
    have hZ : Holds (wb.alloc (.cells (bRow Seal.hz) 24)) wb.heap.size (bRow Seal.hz) := Holds.new _ _ _
    have hHeld2 := hHeld.trans (hby62.mono hHeld.size)
    generalize wb.alloc (.cells (bRow Seal.hz) 24) = wy61 at *
    obtain ⟨gZ, hgZe⟩ : ∃ gZ, gZ = wb.heap.size := ⟨_, rfl⟩
    rw [← hgZe] at hZ ⊢
    refine hK1.out _ _ (hHeld2) (fun hHeld => ?_)
    clear hK1 K1
    try simp only [Act.put, List.getElem_toArray, List.getElem_cons_succ, List.getElem_cons_zero, List.setIfInBounds_toArray, List.set_cons_zero, List.set_cons_succ]
    clear hgZe
    refine wpAnyH_ready (rs := [17, 25]) (by kernel_rfl) (by simp) (AllReadyH.cons rfl (fun K1 hK1 => ?_) (AllReadyH.cons rfl (fun K1 hK1 => ?_) AllReadyH.nil))
    · skip
      try simp only [Act.put, List.getElem_toArray, List.getElem_cons_succ, List.getElem_cons_zero, List.setIfInBounds_toArray, List.set_cons_zero, List.set_cons_succ]
      go_simp
      refine Calls.mono (HRT.out _ (hb2.trans (hHeld.mono hb2.size))) ?_
      rintro e wy63 ⟨rfl, hby64⟩
      have hZ := hZ.below hby64 hZ.lt
      refine hK1.out _ _ (hHeld.trans (hby64.mono hHeld.size)) (fun hHeld => ?_)
      clear hK1 K1
      try simp only [Act.put, List.getElem_toArray, List.getElem_cons_succ, List.getElem_cons_zero, List.setIfInBounds_toArray, List.set_cons_zero, List.set_cons_succ]
      refine wpAnyH_ready (rs := [25]) (by kernel_rfl) (by simp) (AllReadyH.cons rfl (fun K1 hK1 => ?_) AllReadyH.nil)
      try simp only [Act.put, List.getElem_toArray, List.getElem_cons_succ, List.getElem_cons_zero, List.setIfInBounds_toArray, List.set_cons_zero, List.set_cons_succ]
      go_simp
      have hE : (wy63.alloc (.cells #[] 24)).ownsRow w2.heap.size 24 32 (.slice (some ⟨wy63.heap.size, 0, none⟩) 0 0) 0 (hcells []) := ⟨rfl, .inr ⟨wy63.heap.size, 0, #[], rfl, hHeld.size, heap_alloc_new _ _, Nat.le_refl _, Nat.zero_le _, rfl, rfl⟩⟩
      have hby66 := (Below.refl wy63.heap.size wy63).alloc (Nat.le_refl _) (.cells #[] 24)
      have hEZ : gZ ≠ wy63.heap.size := by have := hZ.lt; omega
      have hZ := hZ.below hby66 hZ.lt
      have hHeld2 := hHeld.trans (hby66.mono hHeld.size)
      generalize wy63.alloc (.cells #[] 24) = wy65 at *
      obtain ⟨gE, hgEe⟩ : ∃ gE, gE = wy63.heap.size := ⟨_, rfl⟩
      rw [← hgEe] at hE hEZ ⊢
      refine hK1.out _ _ (hHeld2) (fun hHeld => ?_)
      clear hK1 K1
      try simp only [Act.put, List.getElem_toArray, List.getElem_cons_succ, List.getElem_cons_zero, List.setIfInBounds_toArray, List.set_cons_zero, List.set_cons_succ]
      clear hgEe
      refine wpAnyH_ready (rs := [27]) (by kernel_rfl) (by simp) (AllReadyH.cons rfl (fun K1 hK1 => ?_) AllReadyH.nil)
      try simp only [Act.put, List.getElem_toArray, List.getElem_cons_succ, List.getElem_cons_zero, List.setIfInBounds_toArray, List.set_cons_zero, List.set_cons_succ]
      rw [if_pos (by rfl)]
      refine wp_append_rows _ _ rfl w2.heap.size w1.heap.size _ 0 (hcells []) rfl hE _ pm Pr rfl (owns_below HOwn.out hHeld) (by omega) hHeld.size fun vF wy67 hF hgrow => ?_
      have hF : wy67.ownsRow w2.heap.size 24 32 vF pm (hcells Pr) := by have h := hF; rw [Nat.zero_add] at h; exact h
      have hby68 := hHeld.trans (below_own32 hE hHeld.size hgrow)
      have hZ := holds_grown hZ hgrow (by intro h; injection h with h; exact hEZ h)
      clear hE hgrow
      refine hK1.out _ _ (hby68) (fun hHeld => ?_)
      clear hK1 K1
      try simp only [Act.put, List.getElem_toArray, List.getElem_cons_succ, List.getElem_cons_zero, List.setIfInBounds_toArray, List.set_cons_zero, List.set_cons_succ]
      refine wpAnyH_ready (rs := [30]) (by kernel_rfl) (by simp) (AllReadyH.cons rfl (fun K1 hK1 => ?_) AllReadyH.nil)
      try simp only [Act.put, List.getElem_toArray, List.getElem_cons_succ, List.getElem_cons_zero, List.setIfInBounds_toArray, List.set_cons_zero, List.set_cons_succ]
      rw [if_pos (by rfl)]
      refine wp_append_own wy67 _ _ 32 rfl w2.heap.size 24 i0 (.agg (bRow [])) 32 32 Tryd.underlying32 HI.out HZ0.out HZ1.out HZ2.out (by show (bRow []).size = 32; exact bRow_size [] (by simp)) (by decide) _ pm (hcells Pr) rfl hF ⟨gZ, 0, none⟩ 1 1 (bRow Seal.hz).toList rfl
        (by rw [Array.length_toList, bRow_size Seal.hz (by rw [Seal.hz_len]; omega)]) (fun j u hj => by rw [add0, Nat.zero_add, hZ.cell j]; simpa using hj) (fun u hu => by
          have := bRow_one Seal.hz
          rw [Array.all_eq_true_iff_forall_mem] at this
          exact this u (Array.mem_toList_iff.1 hu)) (by unfold maxLen; omega) (by omega) hHeld.size fun vG wy69 hG hgrow _ => ?_
      have hby70 := hHeld.trans (below_own32 hF hHeld.size hgrow)
      clear hF hZ hgrow
      refine hK1.out _ _ (hby70) (fun hHeld => ?_)
      clear hK1 K1
      try simp only [Act.put, List.getElem_toArray, List.getElem_cons_succ, List.getElem_cons_zero, List.setIfInBounds_toArray, List.set_cons_zero, List.set_cons_succ]
      obtain ⟨C, c2, hCv, hHf⟩ := owns_hashes (P := Pr ++ [List.replicate 32 0]) (by rw [hcells_snoc, List.length_append, HPM.out]; exact hG) HP33.out
      have e1 : (Pr ++ [List.replicate 32 0]).length = pm + 1 := by rw [List.length_append, HPM.out]; rfl
      rw [e1] at hCv
      clear e1
      subst hCv
      have HHf := Lib.hid hHf
      clear hHf hG
      refine wpAnyH_ready (rs := [31]) (by kernel_rfl) (by simp) (AllReadyH.cons rfl (fun K1 hK1 => ?_) AllReadyH.nil)
      try simp only [Act.put, List.getElem_toArray, List.getElem_cons_succ, List.getElem_cons_zero, List.setIfInBounds_toArray, List.set_cons_zero, List.set_cons_succ]
      go_simp
      refine Calls.mono (HPN.out _ C c2 (hb2.trans (hHeld.mono hb2.size)) HHf.out) ?_
      rintro e wz72 ⟨rfl, hbz71⟩
      refine hK1.out _ _ (hHeld.trans (hbz71.mono hHeld.size)) (fun hHeld => ?_)
      clear hK1 K1
      try simp only [Act.put, List.getElem_toArray, List.getElem_cons_succ, List.getElem_cons_zero, List.setIfInBounds_toArray, List.set_cons_zero, List.set_cons_succ]
      refine wpAnyH_take (i := 32) (v := .bool true) rfl (by kernel_rfl) (by kernel_rfl) (by kernel_rfl) (fun _ _ _ h => h) (Or.inl ⟨by rfl, fun w' hSw => by go_simp⟩) hHeld ?_
      try simp only [Act.put, List.getElem_toArray, List.getElem_cons_succ, List.getElem_cons_zero, List.setIfInBounds_toArray, List.set_cons_zero, List.set_cons_succ]
      refine wpAnyH_take (i := 33) (v := .bool true) rfl (by kernel_rfl) (by kernel_rfl) (by kernel_rfl) (fun _ _ _ h => h) (Or.inl ⟨by rfl, fun w' hSw => by go_simp⟩) hHeld ?_
      try simp only [Act.put, List.getElem_toArray, List.getElem_cons_succ, List.getElem_cons_zero, List.setIfInBounds_toArray, List.set_cons_zero, List.set_cons_succ]
      refine wpAnyH_take (i := 34) (v := .bool true) rfl (by kernel_rfl) (by kernel_rfl) (by kernel_rfl) (fun _ _ _ h => h) (Or.inl ⟨by rfl, fun w' hSw => by go_simp⟩) hHeld ?_
      try simp only [Act.put, List.getElem_toArray, List.getElem_cons_succ, List.getElem_cons_zero, List.setIfInBounds_toArray, List.set_cons_zero, List.set_cons_succ]
      refine wpAnyH_done (by kernel_rfl) ?_ _
      refine NoPanic.normal ?_
      have hbe := hb2.trans (hHeld.mono hb2.size)
      clear hHeld hkeep0
      go_wp2_with fail
      go_ret
      exact ⟨rfl, hbe⟩
    · skip
      try simp only [Act.put, List.getElem_toArray, List.getElem_cons_succ, List.getElem_cons_zero, List.setIfInBounds_toArray, List.set_cons_zero, List.set_cons_succ]
      go_simp
      have hE : (wy61.alloc (.cells #[] 24)).ownsRow w2.heap.size 24 32 (.slice (some ⟨wy61.heap.size, 0, none⟩) 0 0) 0 (hcells []) := ⟨rfl, .inr ⟨wy61.heap.size, 0, #[], rfl, hHeld.size, heap_alloc_new _ _, Nat.le_refl _, Nat.zero_le _, rfl, rfl⟩⟩
      have hby74 := (Below.refl wy61.heap.size wy61).alloc (Nat.le_refl _) (.cells #[] 24)
      have hEZ : gZ ≠ wy61.heap.size := by have := hZ.lt; omega
      have hZ := hZ.below hby74 hZ.lt
      have hHeld2 := hHeld.trans (hby74.mono hHeld.size)
      generalize wy61.alloc (.cells #[] 24) = wy73 at *
      obtain ⟨gE, hgEe⟩ : ∃ gE, gE = wy61.heap.size := ⟨_, rfl⟩
      rw [← hgEe] at hE hEZ ⊢
      refine hK1.out _ _ (hHeld2) (fun hHeld => ?_)
      clear hK1 K1
      try simp only [Act.put, List.getElem_toArray, List.getElem_cons_succ, List.getElem_cons_zero, List.setIfInBounds_toArray, List.set_cons_zero, List.set_cons_succ]
      clear hgEe
      refine wpAnyH_ready (rs := [17]) (by kernel_rfl) (by simp) (AllReadyH.cons rfl (fun K1 hK1 => ?_) AllReadyH.nil)
      try simp only [Act.put, List.getElem_toArray, List.getElem_cons_succ, List.getElem_cons_zero, List.setIfInBounds_toArray, List.set_cons_zero, List.set_cons_succ]
      go_simp
      refine Calls.mono (HRT.out _ (hb2.trans (hHeld.mono hb2.size))) ?_
      rintro e wy75 ⟨rfl, hby76⟩
      have hZ := hZ.below hby76 hZ.lt
      have hE := owns_below hE hby76
      refine hK1.out _ _ (hHeld.trans (hby76.mono hHeld.size)) (fun hHeld => ?_)
      clear hK1 K1
      try simp only [Act.put, List.getElem_toArray, List.getElem_cons_succ, List.getElem_cons_zero, List.setIfInBounds_toArray, List.set_cons_zero, List.set_cons_succ]
      refine wpAnyH_ready (rs := [27]) (by kernel_rfl) (by simp) (AllReadyH.cons rfl (fun K1 hK1 => ?_) AllReadyH.nil)
      try simp only [Act.put, List.getElem_toArray, List.getElem_cons_succ, List.getElem_cons_zero, List.setIfInBounds_toArray, List.set_cons_zero, List.set_cons_succ]
      rw [if_pos (by rfl)]
      refine wp_append_rows _ _ rfl w2.heap.size w1.heap.size _ 0 (hcells []) rfl hE _ pm Pr rfl (owns_below HOwn.out hHeld) (by omega) hHeld.size fun vF wy77 hF hgrow => ?_
      have hF : wy77.ownsRow w2.heap.size 24 32 vF pm (hcells Pr) := by have h := hF; rw [Nat.zero_add] at h; exact h
      have hby78 := hHeld.trans (below_own32 hE hHeld.size hgrow)
      have hZ := holds_grown hZ hgrow (by intro h; injection h with h; exact hEZ h)
      clear hE hgrow
      refine hK1.out _ _ (hby78) (fun hHeld => ?_)
      clear hK1 K1
      try simp only [Act.put, List.getElem_toArray, List.getElem_cons_succ, List.getElem_cons_zero, List.setIfInBounds_toArray, List.set_cons_zero, List.set_cons_succ]
      refine wpAnyH_ready (rs := [30]) (by kernel_rfl) (by simp) (AllReadyH.cons rfl (fun K1 hK1 => ?_) AllReadyH.nil)
      try simp only [Act.put, List.getElem_toArray, List.getElem_cons_succ, List.getElem_cons_zero, List.setIfInBounds_toArray, List.set_cons_zero, List.set_cons_succ]
      rw [if_pos (by rfl)]
      refine wp_append_own wy77 _ _ 32 rfl w2.heap.size 24 i0 (.agg (bRow [])) 32 32 Tryd.underlying32 HI.out HZ0.out HZ1.out HZ2.out (by show (bRow []).size = 32; exact bRow_size [] (by simp)) (by decide) _ pm (hcells Pr) rfl hF ⟨gZ, 0, none⟩ 1 1 (bRow Seal.hz).toList rfl
        (by rw [Array.length_toList, bRow_size Seal.hz (by rw [Seal.hz_len]; omega)]) (fun j u hj => by rw [add0, Nat.zero_add, hZ.cell j]; simpa using hj) (fun u hu => by
          have := bRow_one Seal.hz
          rw [Array.all_eq_true_iff_forall_mem] at this
          exact this u (Array.mem_toList_iff.1 hu)) (by unfold maxLen; omega) (by omega) hHeld.size fun vG wy79 hG hgrow _ => ?_
      have hby80 := hHeld.trans (below_own32 hF hHeld.size hgrow)
      clear hF hZ hgrow
      refine hK1.out _ _ (hby80) (fun hHeld => ?_)
      clear hK1 K1
      try simp only [Act.put, List.getElem_toArray, List.getElem_cons_succ, List.getElem_cons_zero, List.setIfInBounds_toArray, List.set_cons_zero, List.set_cons_succ]
      obtain ⟨C, c2, hCv, hHf⟩ := owns_hashes (P := Pr ++ [List.replicate 32 0]) (by rw [hcells_snoc, List.length_append, HPM.out]; exact hG) HP33.out
      have e1 : (Pr ++ [List.replicate 32 0]).length = pm + 1 := by rw [List.length_append, HPM.out]; rfl
      rw [e1] at hCv
      clear e1
      subst hCv
      have HHf := Lib.hid hHf
      clear hHf hG
      refine wpAnyH_ready (rs := [31]) (by kernel_rfl) (by simp) (AllReadyH.cons rfl (fun K1 hK1 => ?_) AllReadyH.nil)
      try simp only [Act.put, List.getElem_toArray, List.getElem_cons_succ, List.getElem_cons_zero, List.setIfInBounds_toArray, List.set_cons_zero, List.set_cons_succ]
      go_simp
      refine Calls.mono (HPN.out _ C c2 (hb2.trans (hHeld.mono hb2.size)) HHf.out) ?_
      rintro e wz82 ⟨rfl, hbz81⟩
      refine hK1.out _ _ (hHeld.trans (hbz81.mono hHeld.size)) (fun hHeld => ?_)
      clear hK1 K1
      try simp only [Act.put, List.getElem_toArray, List.getElem_cons_succ, List.getElem_cons_zero, List.setIfInBounds_toArray, List.set_cons_zero, List.set_cons_succ]
      refine wpAnyH_take (i := 32) (v := .bool true) rfl (by kernel_rfl) (by kernel_rfl) (by kernel_rfl) (fun _ _ _ h => h) (Or.inl ⟨by rfl, fun w' hSw => by go_simp⟩) hHeld ?_
      try simp only [Act.put, List.getElem_toArray, List.getElem_cons_succ, List.getElem_cons_zero, List.setIfInBounds_toArray, List.set_cons_zero, List.set_cons_succ]
      refine wpAnyH_take (i := 33) (v := .bool true) rfl (by kernel_rfl) (by kernel_rfl) (by kernel_rfl) (fun _ _ _ h => h) (Or.inl ⟨by rfl, fun w' hSw => by go_simp⟩) hHeld ?_
      try simp only [Act.put, List.getElem_toArray, List.getElem_cons_succ, List.getElem_cons_zero, List.setIfInBounds_toArray, List.set_cons_zero, List.set_cons_succ]
      refine wpAnyH_take (i := 34) (v := .bool true) rfl (by kernel_rfl) (by kernel_rfl) (by kernel_rfl) (fun _ _ _ h => h) (Or.inl ⟨by rfl, fun w' hSw => by go_simp⟩) hHeld ?_
      try simp only [Act.put, List.getElem_toArray, List.getElem_cons_succ, List.getElem_cons_zero, List.setIfInBounds_toArray, List.set_cons_zero, List.set_cons_succ]
      refine wpAnyH_done (by kernel_rfl) ?_ _
      refine NoPanic.normal ?_
      have hbe := hb2.trans (hHeld.mono hb2.size)
      clear hHeld hkeep0
      go_wp2_with fail
      go_ret
      exact ⟨rfl, hbe⟩
theorem digestShows_any (L : List (List UInt8)) (A : Option Addr) (cap : Nat) (i : Int) (w : World) (hT : Tab w) (hL : Came w A L) (hc : L.length ≤ cap) (hn : L.length ≤ 9223372036854775807) (hS : ∀ l ∈ L, l.length ≤ 140737488351232) :
    Calls Tryd.prog 7 #[.slice A L.length cap, .int .i64 i] w fun e w' => e = .returned (.bool true) ∧ Below w.heap.size w w' := by
  by_cases h : i < 0 ∨ ((min L.length 100 : Nat) : Int) ≤ i
  · exact shows_out A L.length cap i w hT hc hn h
  · obtain ⟨i', rfl⟩ : ∃ i' : Nat, i = i' := ⟨i.toNat, by omega⟩
    have hne : L ≠ [] := by intro h0; rw [h0] at h; simp at h
    obtain ⟨b, off, rfl, hl⟩ := hL hne
    have ht : (L.take 100).length = min L.length 100 := by rw [List.length_take, Nat.min_comm]
    have hs := small_of (small_take hS 100)
    exact shows_in (L.take 100) b off L.length cap i' w hT (hl.take 100) (fun k hk => by have := hs k hk; omega) ht hc hn (by omega) hs
end Go.Proofs.YtdifbndpgbdkbaaDoor
