/- notes: hashes. -/
import Derived.Test.YtdekcicgiflnbaaDoorNoHeld
import Derived.Deep.RegionLaw
import Derived.Laws.CopyOwn
import Derived.Lib.BufferWrite
namespace Go.Proofs.YtdekcicgiflnbaaDoor
open Go.RowKit
set_option linter.unusedVariables false
set_option linter.unusedSimpArgs false

/-- a text copied into a block's middle, as one step of a region that draws its order -/
theorem step_copy_str {P : Program} {ops : Array Oper} {o : Oper} {a : Act} {w : World} {K : Act → World → Prop} {Q : Exit → Act → World → Prop} {E : Prop} (hgd : o.guard = none) (d s : Operand) (dT sT elem : TypeId)
    (ho : o.op = .call { callee := .builtin .copy, args := #[d, s], argTypes := #[dT, sT] }) (hu : P.underlying dT = some (.slice elem)) (hz : (P.info? elem).map (·.size) = some 1)
    (g off dLen dCap : Nat) (t : ByteArray) (xs : List Value) (T : TypeId) (hd : a.eval d = .slice (some ⟨g, off, none⟩) dLen dCap) (hs : a.eval s = .string t)
    (hg : Row w g T xs) (hle : t.size ≤ dLen) (hfit : off + t.size ≤ xs.length)
    (h : ∀ w', Row w' g T (xs.take off ++ (Lib.byteCells t.data.toList ++ xs.drop (off + t.size))) → w.grownBy w' (some g) → K (a.put o.dst (goInt t.size)) w') :
    if Region.wanted o (yielded ops a.tmps) = true then Oper.wp P o a w K Q else E := by
  have hw : Region.wanted o (yielded ops a.tmps) = true := by simp [Region.wanted, hgd]
  rw [if_pos hw]
  have hg' : w.heap[g]? = some (.cells xs.toArray T (0, 0)) := hg
  have hr := Lib.run_copy_row_string (P := P) w dT sT o.type elem g off dLen dCap t _ T hu hz hg' hle (by simpa using hfit)
  unfold Oper.wp execOp
  simp only [ho, resolve, invoke, builtin, Sem.run_bind, Sem.run_pure, Result.andThen_ok, List.map_toArray, List.map_cons, List.map_nil, hd, hs, hr]
  refine h _ ?_ ⟨rfl, rfl, rfl, by simp [World.setRow], fun k hk hne => setRow_other w g k _ (fun e => hne (by rw [e]))⟩
  have := setRow_heap w g (xs.toArray) ((xs.toArray.toList.take off ++ Lib.byteCells t.data.toList ++ xs.toArray.toList.drop (off + t.size)).toArray) T (0, 0) hg'
  simp only [List.append_assoc] at this ⊢
  exact this
namespace No
def ptrsAt (g : Nat) (os : List Nat) : List Value := os.map fun o => .pointer (some ⟨g, o, none⟩)
theorem ptrsAt_at {w : World} {g pb : Nat} {os : List Nat} {T : TypeId} (h : Row w pb T (ptrsAt g os)) (k : Nat) (hk : k < os.length) : w.cell? ⟨pb, k, none⟩ = some (.pointer (some ⟨g, os[k], none⟩)) := by
  rw [h.cell k (by simpa [ptrsAt] using hk)]
  simp [ptrsAt]
/-- hashes laid into a block's cells -/
def putH (xs : List Value) : List (Nat × T8) → List Value
  | [] => xs
  | p :: r => putH (xs.take p.1 ++ ((bRow p.2).toList ++ xs.drop (p.1 + 32))) r
theorem putH_snoc : ∀ (L : List (Nat × T8)) (xs : List Value) (o : Nat) (h : T8), putH xs (L ++ [(o, h)]) = (putH xs L).take o ++ ((bRow h).toList ++ (putH xs L).drop (o + 32))
  | [], _, _, _ => rfl
  | p :: L, xs, o, h => by
    simp only [List.cons_append, putH]
    exact putH_snoc L _ o h
theorem putH_len : ∀ (L : List (Nat × T8)) (xs : List Value), (∀ p ∈ L, p.1 + 32 ≤ xs.length ∧ p.2.length = 32) → (putH xs L).length = xs.length
  | [], _, _ => rfl
  | p :: L, xs, h => by
    have hp := h p (by simp)
    have e : (xs.take p.1 ++ ((bRow p.2).toList ++ xs.drop (p.1 + 32))).length = xs.length := by
      rw [List.length_append, List.length_append, List.length_take, List.length_drop, Tx.bRow_len _ hp.2]
      omega
    unfold putH
    rw [putH_len L _ (fun q hq => by rw [e]; exact h q (by simp [hq])), e]
theorem byte_row (x : T8) (h : x.length = 32) : Lib.byteCells x = (bRow x).toList := by
  rw [bRow_yRow x h]
  unfold yRow Lib.byteCells
  simp
def AllH (l : List T8) : Prop := ∀ h ∈ l, h.length = 32
/-- what hashes leaves -/
def HashOf (F : Prop) (g : Nat) (T : TypeId) (xs : List Value) (e : Ending) (w' : World) : Prop :=
  (F ∧ e = .returned (.bool true) ∧ Row w' g T xs) ∨ (¬ F ∧ e = .returned (.bool false))
end No
set_option maxRecDepth 20000 in
set_option maxHeartbeats 800000 in
theorem noHashes_any (l : List No.T8) (A : Option Addr) (c cp : Nat) (os : List Nat) (xs : List Value) (T : TypeId) (w : World) (g pb : Nat) (n : Nat) (hno : n = os.length)
    (hll : l.length ≤ 2000) (hT : Texts w g A l) (hg : Row w g T xs) (hp : Row w pb 106 (No.ptrsAt g os)) (hgp : g < pb) (ho : ∀ o ∈ os, o + 32 ≤ xs.length) (hn4 : os.length ≤ 100) (h0 : 0 < os.length) :
    Calls Tryd.prog 89 #[.slice A l.length c, .slice (some ⟨pb, 0, none⟩) n cp] w fun e w' => No.HashOf (l.length = os.length ∧ No.AllH l) g T (No.putH xs (os.zip l)) e w' ∧ Below g w w' := by
  subst hno
  obtain ⟨F, hF⟩ : ∃ F, F = (l.length = os.length ∧ No.AllH l) := ⟨_, rfl⟩
  rw [← hF]
  have HF := Lib.hid hF
  clear hF
  by_cases hlt : l.length ≠ os.length
  · have hd : ((l.length : Int) != (os.length : Int)) = true := by simp; omega
    have hnF : ¬ F := by rw [HF.out]; exact fun h => hlt h.1
    have HnF := Lib.hid hnF
    clear hnF HF
    generalize l.length = m at *
    generalize os.length = n at *
    clear hT hg hp hlt
    go_enter Tryd.func89, Tryd.ntmps89
    go_wp2_with fail
    go_ret
    exact ⟨.inr ⟨HnF.out, rfl⟩, Below.refl _ _⟩
  have hle : l.length = os.length := Decidable.not_not.1 hlt
  obtain ⟨b, off, rfl, hbg, hct⟩ := hT (by intro e; rw [e] at hle; simp at hle; omega)
  have hnm : ((l.length : Int) != (os.length : Int)) = false := by simp; omega
  rw [hle] at hnm ⊢
  obtain ⟨n, hn⟩ : ∃ n, n = os.length := ⟨_, rfl⟩
  rw [← hn] at hnm h0 hn4 ⊢
  have hgw : g < w.heap.size := hg.lt
  have HN := Lib.hid hn
  have HL := Lib.hid hle
  have Hct := Lib.hid hct
  have Hg := Lib.hid hg
  have Hp := Lib.hid hp
  have Ho := Lib.hid ho
  have I5 : Hid ((Tryd.prog.info? 5).map (·.size) = some 1) := (by kernel_rfl : (Tryd.prog.info? 5).map (·.size) = some 1)
  clear hn hct hT hg hp ho hle hlt
  go_enter Tryd.func89, Tryd.ntmps89
  go_wp2_with fail
  go_loopw [14] (fun i wr => ∃ k : Nat, k ≤ n ∧ i = .int .i64 k ∧ (∀ j (h : j < l.length), j < k → l[j].length = 32) ∧ Row wr g T (No.putH xs ((os.zip l).take k)) ∧ Row wr pb 106 (No.ptrsAt g os) ∧ (∀ i (h : i < l.length), wr.cell? ⟨b, off + i, none⟩ = some (S l[i])) ∧ Below g w wr) (fun i _ => n - (intOf i).toNat)
  case atStart => exact ⟨0, Nat.zero_le _, rfl, fun j h h1 => by omega, by rw [List.take_zero]; exact Hg.out, Hp.out, Hct.out, Below.refl _ _⟩
  case round =>
    obtain ⟨k, hk, rfl, hall, hru, hpk, hck, hbk⟩ := hrel
    have Hall := Lib.hid hall
    have Hru := Lib.hid hru
    have Hpk := Lib.hid hpk
    have Hck := Lib.hid hck
    have Hbk := Lib.hid hbk
    clear hru hpk hck hbk hall Hg Hp Hct
    by_cases hkn : k < n
    · have hki : (k : Int) < (n : Int) := by omega
      have hko : k < os.length := by rw [← HN.out]; exact hkn
      have hkl : k < l.length := by rw [HL.out]; exact hko
      have ctx := Hck.out k hkl
      have cp := No.ptrsAt_at Hpk.out k hko
      obtain ⟨x, hx⟩ : ∃ x, x = l[k] := ⟨_, rfl⟩
      obtain ⟨o, hoo⟩ : ∃ o, o = os[k] := ⟨_, rfl⟩
      rw [← hx] at ctx
      rw [← hoo] at cp
      by_cases hx32 : x.length = 32
      · have hxd : ((x.length : Int) != 32) = false := by simp; omega
        have hzl : (No.putH xs ((os.zip l).take k)).length = xs.length := No.putH_len _ _ (fun p hp => by
          obtain ⟨j, hj, he⟩ := List.mem_iff_getElem.1 (List.mem_of_mem_take hp)
          have hjk := List.mem_take_iff_getElem.1 hp
          obtain ⟨j2, hj2, he2⟩ := hjk
          rw [List.getElem_zip] at he2
          subst he2
          exact ⟨Ho.out _ (List.getElem_mem _), Hall.out j2 _ (by omega)⟩)
        have htk : (os.zip l).take (k + 1) = (os.zip l).take k ++ [(o, x)] := by
          rw [List.take_succ_eq_append_getElem (by rw [List.length_zip]; omega), List.getElem_zip, ← hx, ← hoo]
        have hput : No.putH xs ((os.zip l).take (k + 1)) = (No.putH xs ((os.zip l).take k)).take o ++ ((bRow x).toList ++ (No.putH xs ((os.zip l).take k)).drop (o + 32)) := by rw [htk, No.putH_snoc]
        have hall2 : ∀ j (h : j < l.length), j < k + 1 → l[j].length = 32 := fun j h hj => by
          by_cases e : j = k
          · subst e; rw [← hx]; exact hx32
          · exact Hall.out j h (by omega)
        have hob : o + 32 ≤ (No.putH xs ((os.zip l).take k)).length := by rw [hzl, hoo]; exact Ho.out _ (List.getElem_mem _)
        obtain ⟨zs, hzs⟩ : ∃ zs, zs = No.putH xs ((os.zip l).take (k + 1)) := ⟨_, rfl⟩
        rw [← hzs] at hput
        have Hzs := Lib.hid hzs
        have Hput := Lib.hid hput
        have Hall2 := Lib.hid hall2
        have Hx32 := Lib.hid hx32
        have Hob := Lib.hid hob
        generalize No.putH xs ((os.zip l).take k) = ys at *
        clear hzs hx hoo hzl htk hput hall2 hx32 hob
        go_wp2_with fail
        go_region_law (refine step_copy_str rfl (.tmp 27) (.tmp 31) _ _ 5 rfl Tryd.underlying81 I5.out g o 32 32 ⟨x.toArray⟩ ys T rfl rfl Hru.out (by show x.length ≤ 32; rw [Hx32.out]; omega) (by show o + x.length ≤ _; rw [Hx32.out]; exact Hob.out) ?_; intro w5 hr5 hg5)
        have hz5 : Row w5 g T zs := by
          have e : (⟨x.toArray⟩ : ByteArray).size = 32 := Hx32.out
          have e2 : Lib.byteCells (⟨x.toArray⟩ : ByteArray).data.toList = (bRow x).toList := No.byte_row x Hx32.out
          rw [e, e2] at hr5
          rw [Hput.out]
          exact hr5
        have Hz5 := Lib.hid hz5
        have Hp5 := Lib.hid ((Hpk.out.kept (grownBy_drew wr none) (by simp)).kept hg5 (by simp; omega))
        have Hc5 := Lib.hid (fun i (h : i < l.length) => hg5.cell (w := wr.drew) (a := ⟨b, off + i, none⟩) (Hck.out i h) (by simp; omega))
        have Hb5 := Lib.hid (Hbk.out.drew.grown hg5 (by have := Hbk.out.size; exact Nat.le_trans (Nat.le_of_lt hgw) this) (fun k hk => by cases hk; exact Nat.le_refl _))
        clear hr5 hg5 hz5
        go_wp2_with fail
        refine ⟨⟨k + 1, hkn, by go_num, Hall2.out, by rw [← Hzs.out]; exact Hz5.out, Hp5.out, Hc5.out, Hb5.out⟩, by simp [intOf]; omega⟩
      · have hxd : ((x.length : Int) != 32) = true := by simp; omega
        have hnf : ¬ F := by rw [HF.out]; exact fun h => hx32 (by rw [hx]; exact h.2 _ (List.getElem_mem _))
        have Hnf := Lib.hid hnf
        clear hx hx32 hnf hoo
        go_wp2_with fail
        go_ret
        exact ⟨.inr ⟨Hnf.out, rfl⟩, Hbk.out⟩
    · have hki : (n : Int) ≤ (k : Int) := by omega
      obtain rfl : k = n := by omega
      have hfin : F := HF.out.mpr ⟨HL.out, fun h hh => by
        obtain ⟨j, hj, rfl⟩ := List.mem_iff_getElem.1 hh
        exact Hall.out j hj (by have := HN.out; have := HL.out; omega)⟩
      have hrf : Row wr g T (No.putH xs (os.zip l)) := by
        have := Hru.out
        rw [List.take_of_length_le (by rw [List.length_zip, HL.out, ← HN.out]; omega)] at this
        exact this
      have Hfin := Lib.hid hfin
      have Hrf := Lib.hid hrf
      clear hfin hrf
      go_wp2_with fail
      go_ret
      exact ⟨.inl ⟨Hfin.out, rfl, Hrf.out⟩, Hbk.out⟩
end Go.Proofs.YtdekcicgiflnbaaDoor
