/- What later texts need of the earlier layers. -/
import Derived.Test.YtjeooegkfjlejaaDoorEarO
import Derived.Test.YtjeooegkfjlejaaDoorEarS
import Derived.Test.YtjeooegkfjlejaaDoorEarT
import Derived.Test.YtjeooegkfjlejaaDoorEarC
import Derived.Test.YtjeooegkfjlejaaDoorEarA
import Derived.Test.YtjeooegkfjlejaaDoorEarB
import Derived.Test.YtjeooegkfjlejaaDoorIbA
import Derived.Test.YtjeooegkfjlejaaDoorTrMath
import Derived.Test.YtjeooegkfjlejaaDoorTrHash
import Derived.Test.YtjeooegkfjlejaaDoorTrMem
import Derived.Test.YtjeooegkfjlejaaDoorTrLv
/- ---- TrLink ---- -/
/- tree.makeLink, tree.behind: what they return. -/
namespace Go.Proofs.YtjeooegkfjlejaaDoor
open Go.RowKit
set_option linter.unusedVariables false
set_option linter.unusedSimpArgs false

/-- two heads: equal just where all is -/
theorem head_eq (W : World) (a b a' b' : Int) (R R' : List UInt8) (hR : R.length = 32) (hR' : R'.length = 32) (h1 : Tx.fits a) (h2 : Tx.fits b) (h3 : Tx.fits a') (h4 : Tx.fits b') {v : Bool} (hv : v = true ↔ (a = a' ∧ b = b' ∧ R = R')) :
    (Op.equalIn 10000 84 (.agg (headC a b R).toArray) (.agg (headC a' b' R').toArray)).run Tryd.prog W = .ok v W := by
  have hk : Tryd.prog.keyTypeAt 3 84 = true := by kernel_rfl
  have hc : Tryd.prog.cellsOf 84 = 34 := by kernel_rfl
  have hI : Tryd.prog.cellsOf 3 = 1 := by kernel_rfl
  have hH : Tryd.prog.cellsOf 42 = 32 := by kernel_rfl
  have hf : ∀ (x y : Int) (Q : List UInt8), Q.length = 32 → (Value.agg (headC x y Q).toArray).formed Tryd.prog 84 = true := by
    intro x y Q hQ
    have hs := headC_len (num := x) (salt := y) hQ
    simp [Value.formed, Tryd.underlying84, hs, hc]
  have hl : ∀ (x y : Int) (Q : List UInt8), Q.length = 32 → Tx.fits x → Tx.fits y → Tryd.prog.keyLits 3 84 (headC x y Q) = some ([.int .i64 x, .int .i64 y] ++ Tx.hlits Q) := by
    intro x y Q hQ hx hy
    unfold Program.keyLits
    simp only [Tryd.underlying84]
    rw [if_pos ⟨by rw [hc, headC_len hQ], by kernel_rfl⟩]
    have e0 : Tryd.prog.keyLits 2 3 (((headC x y Q).drop 0).take (Tryd.prog.cellsOf 3)) = some [.int .i64 x] := by rw [hI]; exact lit_int 1 hx
    have e1 : Tryd.prog.keyLits 2 3 (((headC x y Q).drop 1).take (Tryd.prog.cellsOf 3)) = some [.int .i64 y] := by rw [hI]; exact lit_int 1 hy
    have e2 : Tryd.prog.keyLits 2 42 (((headC x y Q).drop 2).take (Tryd.prog.cellsOf 42)) = some (Tx.hlits Q) := by
      rw [hH, show (headC x y Q).drop 2 = (bRow Q).toList from rfl, List.take_of_length_le (by rw [Tx.bRow_len _ hQ]; omega)]
      exact hash_lits _ hQ
    simp only [List.mapM_cons, List.mapM_nil, e0, e1, e2, Option.bind_eq_bind, Option.bind_some, Option.pure_def, Option.map_some]
    simp
  obtain ⟨r, hr, hiff⟩ := run_equalIn_deep (P := Tryd.prog) 9997 3 84 hk W 3 3 (.agg (headC a b R).toArray) (.agg (headC a' b' R').toArray) _ _ (hf a b R hR) (hf a' b' R' hR') (by show Tryd.prog.keyLits 3 _ (headC a b R).toArray.toList = _; exact hl a b R hR h1 h2) (by show Tryd.prog.keyLits 3 _ (headC a' b' R').toArray.toList = _; exact hl a' b' R' hR' h3 h4)
  rw [hr]
  have : r = v := by
    rw [Bool.eq_iff_iff, hiff, hv]
    constructor
    · intro h
      simp only [List.cons_append, List.nil_append, List.cons.injEq, Lit.int.injEq, true_and] at h
      exact ⟨h.1, h.2.1, Tx.hlits_inj h.2.2⟩
    · rintro ⟨rfl, rfl, rfl⟩; rfl
  rw [this]
theorem lk_places : (Tryd.prog.underlying 86).map (fun d => match d with | .struct fields => fields.toList.mapM (fun f => (Tryd.prog.info? f.type).map fun i => (f.offset, i.size)) | _ => Option.none) = some (some [(0, 34), (34, 1), (35, 32)]) := by kernel_rfl
theorem lk_zero : (Tryd.prog.info? 86).map (·.zero) = some (some (.agg Lv.zero.cells.toArray)) := by kernel_rfl
theorem lk_zv (W : World) : (zeroValue 86).run Tryd.prog W = .ok (.agg Lv.zero.cells.toArray) W := by kernel_rfl
theorem lk_built (parts : List (Nat × Value)) : Tryd.prog.built 86 parts = Instr.fill (#[(0, 34), (34, 1), (35, 32)][·]?) Lv.zero.cells.toArray parts := by
  obtain ⟨i0, hi, hz⟩ := Option.map_eq_some_iff.1 lk_zero
  have hp := lk_places
  rw [Tryd.underlying86] at hp
  simp only [Option.map_some, Option.some.injEq] at hp
  unfold Program.built
  rw [hi, Tryd.underlying86]
  simp only [hz, hp]
  rfl
theorem lk_built0 : Tryd.prog.built 86 [] = some Lv.zero.cells.toArray := by rw [lk_built]; rfl
theorem lk_two (num salt : Int) (par : List UInt8) (hp : par.length = 32) (A : Option Addr) (c : Nat) (its : List It) :
    Tryd.prog.built 86 [(0, .agg (headC num salt par).toArray), (1, .slice A its.length c)] = some (Lv.cells ⟨⟨⟨num, salt, par, its⟩, Tx.zero⟩, A, c⟩).toArray := by
  have hz := Tx.bRow_len Tx.zero rfl
  have hh := headC_len (num := num) (salt := salt) hp
  have hL := Lv.cells_len Lv.zero_fits
  rw [lk_built]
  rw [fill_step _ _ 0 _ (headC num salt par) _ 0 34 rfl (by simp [Value.cells]) hh (by rw [hL]; omega)]
  rw [fill_step _ _ 1 _ [.slice A its.length c] _ 34 1 rfl rfl rfl (by simp only [List.length_append, List.length_take, List.length_drop, List.length_cons, List.length_nil, hL, hh]; omega)]
  rw [fill_end]
  have e0 : Lv.zero.cells.drop 34 = .slice none 0 0 :: (bRow Tx.zero).toList := by
    unfold Lv.cells
    exact List.drop_left' (headC_len rfl)
  rw [List.take_zero, List.nil_append, Nat.zero_add, e0]
  unfold Lv.cells
  simp only
  have e1 : (headC num salt par ++ (Value.slice none 0 0 :: (bRow Tx.zero).toList)).take 34 = headC num salt par := List.take_left' hh
  have e2 : (headC num salt par ++ (Value.slice none 0 0 :: (bRow Tx.zero).toList)).drop (34 + 1) = (bRow Tx.zero).toList := by
    rw [← List.drop_drop, List.drop_left' hh]; rfl
  rw [e1, e2]
  rfl
theorem hd_places : (Tryd.prog.underlying 84).map (fun d => match d with | .struct fields => fields.toList.mapM (fun f => (Tryd.prog.info? f.type).map fun i => (f.offset, i.size)) | _ => Option.none) = some (some [(0, 1), (1, 1), (2, 32)]) := by kernel_rfl
theorem hd_zero : (Tryd.prog.info? 84).map (·.zero) = some (some (.agg (headC 0 0 Tx.zero).toArray)) := by kernel_rfl
theorem hd_built (parts : List (Nat × Value)) : Tryd.prog.built 84 parts = Instr.fill (#[(0, 1), (1, 1), (2, 32)][·]?) (headC 0 0 Tx.zero).toArray parts := by
  obtain ⟨i0, hi, hz⟩ := Option.map_eq_some_iff.1 hd_zero
  have hp := hd_places
  rw [Tryd.underlying84] at hp
  simp only [Option.map_some, Option.some.injEq] at hp
  unfold Program.built
  rw [hi, Tryd.underlying84]
  simp only [hz, hp]
  rfl
theorem hd_built0 : Tryd.prog.built 84 [] = some (headC 0 0 Tx.zero).toArray := by rw [hd_built]; rfl
theorem hd_three (a b : Int) (R : List UInt8) (hR : R.length = 32) : Tryd.prog.built 84 [(0, .int .i64 a), (1, .int .i64 b), (2, .agg (bRow R))] = some (headC a b R).toArray := by
  have hz := Tx.bRow_len Tx.zero rfl
  have hr := Tx.bRow_len R hR
  have hL := headC_len (num := 0) (salt := 0) (par := Tx.zero) rfl
  rw [hd_built]
  rw [fill_step _ _ 0 _ [.int .i64 a] _ 0 1 rfl rfl rfl (by rw [hL]; omega)]
  rw [fill_step _ _ 1 _ [.int .i64 b] _ 1 1 rfl rfl rfl (by simp only [List.length_append, List.length_take, List.length_drop, List.length_cons, List.length_nil, hL]; omega)]
  rw [fill_step _ _ 2 _ (bRow R).toList _ 2 32 rfl (by simp [Value.cells]) hr (by simp only [List.length_append, List.length_take, List.length_drop, List.length_cons, List.length_nil, hL]; omega)]
  rw [fill_end]
  unfold headC
  simp only [List.cons_append, List.nil_append, List.take_succ_cons, List.take_zero, List.drop_succ_cons, List.drop_zero]
  rw [List.drop_of_length_le (by rw [hz]; omega), List.append_nil]
theorem set_hash {b : Bk} {h K : List UInt8} {A : Option Addr} {c : Nat} (hp : b.parent.length = 32) (hh : h.length = 32) (hK : K.length = 32) :
    (Lv.cells ⟨⟨b, h⟩, A, c⟩).take 35 ++ ((bRow K).toList ++ (Lv.cells ⟨⟨b, h⟩, A, c⟩).drop (35 + (bRow K).toList.length)) = Lv.cells ⟨⟨b, K⟩, A, c⟩ := by
  have hl := headC_len (num := b.number) (salt := b.salt) hp
  have e : ∀ q : List UInt8, Lv.cells ⟨⟨b, q⟩, A, c⟩ = (headC b.number b.salt b.parent ++ [.slice A b.items.length c]) ++ (bRow q).toList := fun q => by unfold Lv.cells; simp
  have hl2 : (headC b.number b.salt b.parent ++ [Value.slice A b.items.length c]).length = 35 := by rw [List.length_append, hl]; rfl
  rw [e h, e K, List.take_left' hl2, List.drop_of_length_le (by rw [List.length_append, hl2, Tx.bRow_len _ hh, Tx.bRow_len _ hK]; omega), List.append_nil]
/-- a link that came back, its items the call's own -/
def LinkOut (base : Nat) (p : Tr.Lk × Int) (e : Ending) (w' : World) : Prop :=
  ∃ A c, e = .returned (.tuple #[.agg (Lv.cells ⟨p.1, A, c⟩).toArray, .int .i64 p.2]) ∧ w'.ownsRow base 98 4 (.slice A p.1.b.items.length c) p.1.b.items.length (itFlat p.1.b.items)
theorem own_lower {w : World} {b b' n size : Nat} {e : TypeId} {v : Value} {xs : List Value} (h : w.ownsRow b e size v n xs) (hb : b' ≤ b) : w.ownsRow b' e size v n xs := by
  obtain ⟨h1, h2⟩ := h
  refine ⟨h1, ?_⟩
  rcases h2 with h2 | ⟨g, cap, cur, q1, q2, q3⟩
  · exact .inl h2
  · exact .inr ⟨g, cap, cur, q1, Nat.le_trans hb q2, q3⟩
/-- where makeLink stands -/
def MlIn (w W : World) (H C : List Value) : Prop := Row W w.heap.size 84 H ∧ Row W (w.heap.size + 1) 86 C ∧ (∃ xs, xs.length = 67 ∧ Row W (w.heap.size + 2) 86 xs) ∧ Below w.heap.size w W
theorem MlIn.step {w W W' : World} {H C : List Value} (h : MlIn w W H C) (hb : Below W.heap.size W W') : MlIn w W' H C := by
  obtain ⟨h0, h1, ⟨xs, hx, h2⟩, h3⟩ := h
  exact ⟨h0.kept (grownBy_of_below hb none) (by simp), h1.kept (grownBy_of_below hb none) (by simp), ⟨xs, hx, h2.kept (grownBy_of_below hb none) (by simp)⟩, two_below' h3 hb⟩
theorem MlIn.put {w W W' : World} {H C : List Value} {g : Nat} (h : MlIn w W H C) (hg : W.grownBy W' (some g)) (hlt : w.heap.size + 2 < g) : MlIn w W' H C := by
  obtain ⟨h0, h1, ⟨xs, hx, h2⟩, h3⟩ := h
  exact ⟨h0.kept hg (by simp; omega), h1.kept hg (by simp; omega), ⟨xs, hx, h2.kept hg (by simp; omega)⟩, below_own h3 hg (fun k hk => by cases hk; omega)⟩
theorem MlIn.lt {w W : World} {H C : List Value} (h : MlIn w W H C) : w.heap.size + 2 < W.heap.size := by obtain ⟨_, _, ⟨xs, _, h2⟩, _⟩ := h; exact h2.lt
theorem row_three11 (w : World) (A B D : List Value) (t1 t2 t3 : TypeId) : Row (((w.alloc (.cells A.toArray t1)).alloc (.cells B.toArray t2)).alloc (.cells D.toArray t3)) (w.heap.size + 2) t3 D ∧ Below w.heap.size w (((w.alloc (.cells A.toArray t1)).alloc (.cells B.toArray t2)).alloc (.cells D.toArray t3)) ∧
    Row (((w.alloc (.cells A.toArray t1)).alloc (.cells B.toArray t2)).alloc (.cells D.toArray t3)) (w.heap.size + 1) t2 B ∧ Row (((w.alloc (.cells A.toArray t1)).alloc (.cells B.toArray t2)).alloc (.cells D.toArray t3)) w.heap.size t1 A := by
  obtain ⟨h1, h2, h3⟩ := row_two w A.toArray B.toArray t1 t2
  have h := Row.new ((w.alloc (.cells A.toArray t1)).alloc (.cells B.toArray t2)) t3 D
  rw [show ((w.alloc (.cells A.toArray t1)).alloc (.cells B.toArray t2)).heap.size = w.heap.size + 2 by simp] at h
  exact ⟨h, h2.alloc (by simp; omega) _, h1.kept (grownBy_alloc _ _ none) (by simp), h3.kept (grownBy_alloc _ _ none) (by simp)⟩
set_option maxRecDepth 20000 in
set_option maxHeartbeats 6400000 in
theorem makeLink_any (num salt : Int) (par : List UInt8) (A : Option Addr) (c : Nat) (its : List It) (p : Lv) (hpl : par.length = 32) (hnum : Tx.fits num) (hsalt : Tx.fits salt) (hpf : p.Fits) (hpr : p.k.Right) (w : World) (hin : SlIn w w.heap.size A c its) (hT : Tab w) :
    Calls Tryd.prog 47 #[.agg (headC num salt par).toArray, .slice A its.length c, .agg p.cells.toArray] w fun e w' => LinkOut w.heap.size (Tr.link ⟨num, salt, par, its⟩) e w' ∧ Below w.heap.size w w' := by
  have hz86 := lk_zv
  have hzh := hash_zv
  obtain ⟨r1, r2, r3, r4⟩ := row_three11 w (headC num salt par) p.cells Lv.zero.cells 84 86 86
  have H0 : Hid (MlIn w _ (headC num salt par) p.cells) := Lib.hid ⟨r4, r3, ⟨_, Lv.cells_len Lv.zero_fits, r1⟩, r2⟩
  have CL : Hid (∀ W, Below w.heap.size w W → Calls Tryd.prog 67 #[.slice A its.length c] W fun e w' => CloneOut W.heap.size its e w' ∧ Below W.heap.size W w') := Lib.hid (fun W hW => clone_any _ _ _ W ((hin.below hW).mono hW.size))
  have HH : Hid (∀ W, Below w.heap.size w W → Calls Tryd.prog 30 #[.agg (Bk.cells ⟨num, salt, par, its⟩ A c).toArray] W fun e w' => e = .returned (hashV (Tr.hashE ⟨num, salt, par, its⟩).1 (Tr.hashE ⟨num, salt, par, its⟩).2) ∧ Below W.heap.size W w') := Lib.hid (fun W hW => hash11_any ⟨num, salt, par, its⟩ A c hpl W ((hin.1.below hW).mono hW.size) (hT.below hW hT.pos))
  unfold hashV at HH
  have HHL := Lib.hid (headC_len (num := num) (salt := salt) hpl)
  have HLB := Lib.hid (fun A1 c1 => lk_two num salt par hpl A1 c1 its)
  have HLL := Lib.hid (fun (h : List UInt8) (hh : h.length = 32) A1 c1 => Lv.cells_len (x := ⟨⟨⟨num, salt, par, its⟩, h⟩, A1, c1⟩) ⟨hpl, hh, hnum, hsalt⟩)
  have HL1 := Lib.hid (fun (h : List UInt8) (hh : h.length = 32) A1 c1 => Lv.cells_one (x := ⟨⟨⟨num, salt, par, its⟩, h⟩, A1, c1⟩) ⟨hpl, hh, hnum, hsalt⟩)
  have HSet := Lib.hid (fun (K : List UInt8) (hK : K.length = 32) A1 c1 => set_hash (b := ⟨num, salt, par, its⟩) (h := Tx.zero) (A := A1) (c := c1) hpl rfl hK)
  have HZL := Lib.hid (Lv.cells_len Lv.zero_fits)
  have HPAt : Hid (∀ W, Row W (w.heap.size + 1) 86 p.cells → W.cell? ⟨w.heap.size + 1, 34, none⟩ = some (.slice p.A p.k.b.items.length p.cap) ∧ W.rangeAt (w.heap.size + 1) 35 (bRow p.k.hash).toList ∧ W.rangeAt (w.heap.size + 1) 0 (headC p.k.b.number p.k.b.salt p.k.b.parent)) := Lib.hid (fun W h => by
    obtain ⟨q0, q1, q2, q3, q4, q5⟩ := Lv.at_ hpf (row_range h)
    simp only [Nat.zero_add] at q3 q4
    exact ⟨q3, q4, q5⟩)
  have HHAt : Hid (∀ W, Row W w.heap.size 84 (headC num salt par) → W.cell? ⟨w.heap.size, 0, none⟩ = some (.int .i64 num) ∧ W.cell? ⟨w.heap.size, 1, none⟩ = some (.int .i64 salt) ∧ W.rangeAt w.heap.size 2 (bRow par).toList) := Lib.hid (fun W h => by
    have q0 := (row_range h) 0 _ rfl
    have q1 := (row_range h) 1 _ rfl
    rw [Nat.zero_add] at q0 q1
    refine ⟨q0, q1, fun j v hv => ?_⟩
    have := (row_range h) (2 + j) v (by unfold headC; rw [List.getElem?_append_right (by simp)]; simpa using hv)
    rwa [Nat.zero_add] at this)
  have HBA := Lib.hid (bk_all num salt par hpl A c its)
  have HP32 := Lib.hid (Tx.bRow_len _ hpl)
  have HQ32 := Lib.hid (Tx.bRow_len _ hpf.2.1)
  have HQ1 := Lib.hid (hash_one _ hpf.2.1)
  have HPH := Lib.hid (headC_len (num := p.k.b.number) (salt := p.k.b.salt) hpf.1)
  have hKl := Tr.hashE_len ⟨num, salt, par, its⟩
  have HK32 := Lib.hid (Tx.bRow_len _ hKl)
  have HK1 := Lib.hid (hash_one _ hKl)
  have HKl := Lib.hid hKl
  have HQl := Lib.hid hpf.2.1
  have HLk : Hid (Tr.link ⟨num, salt, par, its⟩ = (⟨⟨num, salt, par, its⟩, (Tr.hashE ⟨num, salt, par, its⟩).1⟩, (Tr.hashE ⟨num, salt, par, its⟩).2)) := Lib.hid rfl
  have HNe : Hid (p.k.hash ≠ Tx.zero → ∀ W : World, (Op.equalIn 10000 42 (.agg (bRow p.k.hash)) (.agg (bRow Tx.zero))).run Tryd.prog W = .ok false W) := Lib.hid (fun h W => hash_ne12 hpf.2.1 h W)
  have HEq0 : Hid (p.k.hash = Tx.zero → ∀ W : World, (Op.equalIn 10000 42 (.agg (bRow p.k.hash)) (.agg (bRow Tx.zero))).run Tryd.prog W = .ok true W) := Lib.hid (fun h W => (hash_eq W p.k.hash Tx.zero hpf.2.1 rfl).trans (by rw [decide_eq_true h]))
  have HHeq : Hid (∀ (W : World) (v : Bool), (v = true ↔ (num = p.k.b.number ∧ salt = p.k.b.salt ∧ par = p.k.b.parent)) → (Op.equalIn 10000 84 (.agg (headC num salt par).toArray) (.agg (headC p.k.b.number p.k.b.salt p.k.b.parent).toArray)).run Tryd.prog W = .ok v W) := Lib.hid (fun W v hv => head_eq W num salt _ _ par _ hpl hpf.1 hnum hsalt hpf.2.2.1 hpf.2.2.2 hv)
  -- where all is as in the place, its hash is the one
  have HShort : Hid (its = [] → p.k.b.items = [] → p.k.hash ≠ Tx.zero → (num = p.k.b.number ∧ salt = p.k.b.salt ∧ par = p.k.b.parent) → Tr.hashE ⟨num, salt, par, its⟩ = (p.k.hash, 0)) := Lib.hid (fun h1 h2 h3 h4 => by
    rcases hpr.2.2 with q | q
    · exact absurd q h3
    · rw [← q]
      congr 1
      obtain ⟨e1, e2, e3⟩ := h4
      rw [h1, e1, e2, e3, ← h2])
  have HM0 : Hid (its = [] ↔ its.length = 0) := Lib.hid (List.length_eq_zero_iff.symm)
  have HP0 : Hid (p.k.b.items = [] ↔ p.k.b.items.length = 0) := Lib.hid (List.length_eq_zero_iff.symm)
  have hu42 := Tryd.underlying42
  generalize hKK : (Tr.hashE ⟨num, salt, par, its⟩).1 = K at *
  generalize hEE : (Tr.hashE ⟨num, salt, par, its⟩).2 = E at *
  have HKE : Hid (Tr.hashE ⟨num, salt, par, its⟩ = (K, E)) := Lib.hid (by rw [← hKK, ← hEE])
  clear hKK hEE r1 r2 r3 r4 hin hT hpr hpf hpl hnum hsalt hKl
  unfold LinkOut
  rw [HLk.out]
  simp only
  obtain ⟨m, hm⟩ : ∃ m, m = its.length := ⟨_, rfl⟩
  obtain ⟨pm, hpm⟩ : ∃ m, m = p.k.b.items.length := ⟨_, rfl⟩
  rw [← hm] at CL HLB HBA HM0 ⊢
  rw [← hpm] at HPAt HP0
  have HM := Lib.hid hm
  generalize hC : p.cells = C at *
  generalize hHc : headC num salt par = HC at *
  generalize headC p.k.b.number p.k.b.salt p.k.b.parent = PH at *
  generalize p.k.hash = ph at *
  clear hm hpm hC hHc
  go_enter Tryd.func47, Tryd.ntmps47
  go_wp2_with fail
  refine wp_region_held_drew (S := fun w' => MlIn w w' HC C) (by kernel_rfl) (H0.out.step ((Below.refl _ _).drew)) (fun hHeld => ?_)
  generalize (((w.alloc (.cells HC.toArray 84)).alloc (.cells C.toArray 86)).alloc (.cells Lv.zero.cells.toArray 86)).drew = wq at *
  have hu84 := Tryd.underlying84
  have hi84 : (Tryd.prog.info? 84).map (·.size) = some HC.length := by rw [head_size, HHL.out]
  refine' wpAnyH_take (i := 0) (v := _) rfl (by kernel_rfl) (by kernel_rfl) (by kernel_rfl) (fun _ _ _ h => h) (yieldsIf_load_mid (by rfl) _ _ rfl w.heap.size 0 rfl HC _ (fun w' hSw => row_range hSw.1) hu84 rfl hi84) hHeld ?_
  try simp only [Act.put, List.getElem_toArray, List.getElem_cons_succ, List.getElem_cons_zero, List.setIfInBounds_toArray, List.set_cons_zero, List.set_cons_succ]
  refine wpAnyH_take (i := 1) (v := .slice A m c) rfl (by kernel_rfl) (by kernel_rfl) (by kernel_rfl) (fun _ _ _ h => h) (Or.inl ⟨by rfl, fun w' hSw => by go_simp⟩) hHeld ?_
  try simp only [Act.put, List.getElem_toArray, List.getElem_cons_succ, List.getElem_cons_zero, List.setIfInBounds_toArray, List.set_cons_zero, List.set_cons_succ]
  refine wpAnyH_ready (rs := [2, 4]) (by kernel_rfl) (by simp) (AllReadyH.cons rfl (fun K1 hK1 => ?_) (AllReadyH.cons rfl (fun K1 hK1 => ?_) AllReadyH.nil))
  · skip
    try simp only [Act.put, List.getElem_toArray, List.getElem_cons_succ, List.getElem_cons_zero, List.setIfInBounds_toArray, List.set_cons_zero, List.set_cons_succ]
    go_simp
    refine Calls.mono (CL.out _ hHeld.2.2.2) ?_
    rintro e w1 ⟨⟨A1, c1, rfl, ho1⟩, hb1⟩
    have HO1 := Lib.hid (own_lower ho1 hHeld.2.2.2.size)
    rw [← HM.out] at HO1
    clear ho1
    rw [← HM.out]
    refine hK1.out _ _ (hHeld.step hb1) (fun hHeld => ?_)
    clear hK1 K1
    try simp only [Act.put, List.getElem_toArray, List.getElem_cons_succ, List.getElem_cons_zero, List.setIfInBounds_toArray, List.set_cons_zero, List.set_cons_succ]
    clear hb1
    refine' wpAnyH_take (i := 3) (v := .agg (Lv.cells ⟨⟨⟨num, salt, par, its⟩, Tx.zero⟩, A1, c1⟩).toArray) rfl (by kernel_rfl) (by kernel_rfl) (by kernel_rfl) (fun _ _ _ h => h) (yieldsIf_buildL (by rfl) 86 [(0, .tmp 10), (1, .tmp 12)] rfl [(0, .agg HC.toArray), (1, .slice A1 m c1)] rfl (Lv.cells ⟨⟨⟨num, salt, par, its⟩, Tx.zero⟩, A1, c1⟩).toArray (HLB.out A1 c1)) hHeld ?_
    try simp only [Act.put, List.getElem_toArray, List.getElem_cons_succ, List.getElem_cons_zero, List.setIfInBounds_toArray, List.set_cons_zero, List.set_cons_succ]
    refine wpAnyH_ready (rs := [4]) (by kernel_rfl) (by simp) (AllReadyH.cons rfl (fun K1 hK1 => ?_) AllReadyH.nil)
    try simp only [Act.put, List.getElem_toArray, List.getElem_cons_succ, List.getElem_cons_zero, List.setIfInBounds_toArray, List.set_cons_zero, List.set_cons_succ]
    go_simp
    have hbk := (Below.refl w1.heap.size w1).alloc (Nat.le_refl _) (.cells Lv.zero.cells.toArray 86)
    have hnw := Row.new w1 86 Lv.zero.cells
    have hHeld2 := hHeld.step hbk
    have hg8 : w.heap.size + 2 < w1.heap.size := hHeld.lt
    have HO1 := Lib.hid (own_below HO1.out hbk)
    generalize w1.alloc (.cells Lv.zero.cells.toArray 86) = wm at *
    generalize w1.heap.size = g8 at *
    have HNew := Lib.hid hnw
    clear hnw hbk
    refine hK1.out _ _ (hHeld2) (fun hHeld => ?_)
    clear hK1 K1
    try simp only [Act.put, List.getElem_toArray, List.getElem_cons_succ, List.getElem_cons_zero, List.setIfInBounds_toArray, List.set_cons_zero, List.set_cons_succ]
    clear hHeld2
    refine wpAnyH_ready (rs := [5]) (by kernel_rfl) (by simp) (AllReadyH.cons rfl (fun K1 hK1 => ?_) AllReadyH.nil)
    try simp only [Act.put, List.getElem_toArray, List.getElem_cons_succ, List.getElem_cons_zero, List.setIfInBounds_toArray, List.set_cons_zero, List.set_cons_succ]
    rw [if_pos (by rfl)]
    refine wp_store_at 86 (.tmp 8) (.tmp 13) rfl g8 0 (Lv.cells ⟨⟨⟨num, salt, par, its⟩, Tx.zero⟩, A1, c1⟩) _ _ rfl rfl HNew.out (by rw [HLL.out Tx.zero rfl, HZL.out]; decide) (by rw [link_size, HLL.out Tx.zero rfl]) (HL1.out Tx.zero rfl A1 c1) ?_
    intro w5 hr5 hg5
    rw [splice_all ((HLL.out Tx.zero rfl A1 c1).trans HZL.out.symm)] at hr5
    have HR5 := Lib.hid hr5
    have HO5 := Lib.hid (HO1.out.kept hg5 (.inr (row_ne_own HNew.out HO1.out (by decide))))
    refine hK1.out _ _ (hHeld.put hg5 hg8) (fun hHeld => ?_)
    clear hK1 K1
    try simp only [Act.put, List.getElem_toArray, List.getElem_cons_succ, List.getElem_cons_zero, List.setIfInBounds_toArray, List.set_cons_zero, List.set_cons_succ]
    clear hr5 hg5
    refine wpAnyH_done (by kernel_rfl) ?_ _
    have H5 := Lib.hid hHeld
    clear hHeld HNew HO1
    obtain ⟨f0, f1, _⟩ := HHAt.out _ H5.out.1
    obtain ⟨p0, _, _⟩ := HPAt.out _ H5.out.2.1
    by_cases hm0 : m = 0
    · by_cases hp0 : pm = 0
      · by_cases hz : ph = Tx.zero
        · have e1 : ((m : Int) == 0) = true := by rw [hm0]; rfl
          have e2 : ((pm : Int) == 0) = true := by rw [hp0]; rfl
          have heq := HEq0.out hz
          have Hm0 := Lib.hid hm0
          have Hp0 := Lib.hid hp0
          have Hz := Lib.hid hz
          clear hm0 hp0 hz
          go_wp2_with (first
          | ((with_reducible show wpList _ _ _ (⟨_, .load 42 (.tmp 24), _, _, _, _⟩ :: _) _ _); refine wpList_load_tx rfl 42 (.tmp 24) rfl (w.heap.size + 1) 35 rfl (bRow ph).toList _ (HPAt.out _ H5.out.2.1).2.1 Tryd.underlying42 rfl (by rw [hash_info, HQ32.out]) ?_)
          | ((with_reducible show wpList _ _ _ (⟨_, .load 42 (.tmp 44), _, _, _, _⟩ :: _) _ _); refine wpList_load_tx rfl 42 (.tmp 44) rfl w.heap.size 2 rfl (bRow par).toList _ (HHAt.out _ H5.out.1).2.2 Tryd.underlying42 rfl (by rw [hash_info, HP32.out]) ?_)
          | ((with_reducible show wpList _ _ _ (⟨_, .build 45 _, _, _, _, _⟩ :: _) _ _); refine wpList_buildL rfl 45 [(0, .tmp 41), (1, .tmp 43), (2, .tmp 45), (3, .tmp 46)] rfl (some 47) rfl [(0, .int .i64 num), (1, .int .i64 salt), (2, .agg (bRow par)), (3, .slice A m c)] rfl (Bk.cells ⟨num, salt, par, its⟩ A c).toArray HBA.out ?_))
          refine (HH.out _ H5.out.2.2.2).mono ?_
          rintro _ w6 ⟨rfl, hb6⟩
          have HM6 := Lib.hid (H5.out.step hb6)
          have HO6 := Lib.hid (own_below HO5.out hb6)
          have HR6 := Lib.hid (HR5.out.kept (grownBy_of_below hb6 none) (by simp))
          clear hb6
          go_wp2_with (first
          | (with_reducible show wpList _ _ _ (⟨_, .store 42 _ _, _, _, _, _⟩ :: _) _ _
             refine wpList_store_at rfl 42 (.tmp 51) (.tmp 49) rfl g8 35 (bRow K).toList _ _ rfl rfl HR6.out (by rw [HLL.out Tx.zero rfl, HK32.out]; decide) (by rw [hash_info, HK32.out]) HK1.out ?_
             intro wh hrh hgh
             rw [HSet.out K HKl.out A1 c1] at hrh
             have HRh := Lib.hid hrh
             have HMh := Lib.hid (HM6.out.put hgh hg8)
             have HOh := Lib.hid (HO6.out.kept hgh (.inr (row_ne_own HR6.out HO6.out (by decide))))
             obtain ⟨xs, hxs, hx2⟩ := HMh.out.2.2.1
             have HX := Lib.hid (show xs.length = 67 ∧ Row wh (w.heap.size + 2) 86 xs from ⟨hxs, hx2⟩)
             clear hrh hgh hxs hx2)
          | ((with_reducible show wpList _ _ _ (⟨_, .load 86 (.tmp 8), _, _, _, _⟩ :: _) _ _); refine wpList_load_tx rfl 86 (.tmp 8) rfl g8 0 rfl (Lv.cells ⟨⟨⟨num, salt, par, its⟩, K⟩, A1, c1⟩) _ (row_range HRh.out) Tryd.underlying86 rfl (by rw [link_size, HLL.out K HKl.out]) ?_)
          | (with_reducible show wpList _ _ _ (⟨_, .store 86 _ _, _, _, _, _⟩ :: _) _ _
             refine wpList_store_at rfl 86 (.tmp 6) (.tmp 52) rfl (w.heap.size + 2) 0 (Lv.cells ⟨⟨⟨num, salt, par, its⟩, K⟩, A1, c1⟩) _ _ rfl rfl HX.out.2 (by rw [HLL.out K HKl.out, HX.out.1]; decide) (by rw [link_size, HLL.out K HKl.out]) (HL1.out K HKl.out A1 c1) ?_
             intro wz hrz hgz
             rw [splice_all ((HLL.out K HKl.out A1 c1).trans HX.out.1.symm)] at hrz
             have HZR := Lib.hid hrz
             have HbZ := Lib.hid (below_own HMh.out.2.2.2 hgz (fun k hk => by cases hk; omega))
             have HOz := Lib.hid (HOh.out.kept hgz (.inr (row_ne_own HX.out.2 HOh.out (by decide))))
             clear hrz hgz))
          have hO := HOz.out
          refine bodyPost_ret (results_rowL rfl _ _ (w.heap.size + 2) 86 _ _ rfl HZR.out Tryd.underlying86 rfl (by rw [link_size, List.size_toArray, HLL.out K HKl.out]) _ rfl) rfl ⟨⟨A1, c1, rfl, hO⟩, HbZ.out⟩
        · by_cases hh : num = p.k.b.number ∧ salt = p.k.b.salt ∧ par = p.k.b.parent
          · have hs := HShort.out (HM0.out.2 hm0) (HP0.out.2 hp0) hz hh
            rw [HKE.out] at hs
            obtain ⟨hKp, hE0⟩ : K = ph ∧ E = 0 := by simpa using hs
            subst hKp hE0
            have e1 : ((m : Int) == 0) = true := by rw [hm0]; rfl
            have e2 : ((pm : Int) == 0) = true := by rw [hp0]; rfl
            have heq := HNe.out hz
            have hhe := fun W => HHeq.out W true (by simpa using hh)
            have Hm0 := Lib.hid hm0
            have Hp0 := Lib.hid hp0
            clear hs hm0 hp0 hz hh f0 f1
            go_wp2_with (first
            | ((with_reducible show wpList _ _ _ (⟨_, .load 42 (.tmp 24), _, _, _, _⟩ :: _) _ _); refine wpList_load_tx rfl 42 (.tmp 24) rfl (w.heap.size + 1) 35 rfl (bRow K).toList _ (HPAt.out _ H5.out.2.1).2.1 Tryd.underlying42 rfl (by rw [hash_info, HQ32.out]) ?_)
            | ((with_reducible show wpList _ _ _ (⟨_, .load 84 (.tmp 3), _, _, _, _⟩ :: _) _ _); refine wpList_load_tx rfl 84 (.tmp 3) rfl w.heap.size 0 rfl HC _ (row_range H5.out.1) Tryd.underlying84 rfl (by rw [head_size, HHL.out]) ?_)
            | ((with_reducible show wpList _ _ _ (⟨_, .load 84 (.tmp 31), _, _, _, _⟩ :: _) _ _); refine wpList_load_tx rfl 84 (.tmp 31) rfl (w.heap.size + 1) 0 rfl PH _ (HPAt.out _ H5.out.2.1).2.2 Tryd.underlying84 rfl (by rw [head_size, HPH.out]) ?_)
            | ((with_reducible show wpList _ _ _ (⟨_, .load 42 (.tmp 35), _, _, _, _⟩ :: _) _ _); refine wpList_load_tx rfl 42 (.tmp 35) rfl (w.heap.size + 1) 35 rfl (bRow K).toList _ (HPAt.out _ H5.out.2.1).2.1 Tryd.underlying42 rfl (by rw [hash_info, HQ32.out]) ?_)
            | (with_reducible show wpList _ _ _ (⟨_, .store 42 _ _, _, _, _, _⟩ :: _) _ _
               refine wpList_store_at rfl 42 (.tmp 37) (.tmp 36) rfl g8 35 (bRow K).toList _ _ rfl rfl HR5.out (by rw [HLL.out Tx.zero rfl, HK32.out]; decide) (by rw [hash_info, HK32.out]) HK1.out ?_
               intro wh hrh hgh
               rw [HSet.out K HKl.out A1 c1] at hrh
               have HRh := Lib.hid hrh
               have HMh := Lib.hid (H5.out.put hgh hg8)
               have HOh := Lib.hid (HO5.out.kept hgh (.inr (row_ne_own HR5.out HO5.out (by decide))))
               obtain ⟨xs, hxs, hx2⟩ := HMh.out.2.2.1
               have HX := Lib.hid (show xs.length = 67 ∧ Row wh (w.heap.size + 2) 86 xs from ⟨hxs, hx2⟩)
               clear hrh hgh hxs hx2)
            | ((with_reducible show wpList _ _ _ (⟨_, .load 86 (.tmp 8), _, _, _, _⟩ :: _) _ _); refine wpList_load_tx rfl 86 (.tmp 8) rfl g8 0 rfl (Lv.cells ⟨⟨⟨num, salt, par, its⟩, K⟩, A1, c1⟩) _ (row_range HRh.out) Tryd.underlying86 rfl (by rw [link_size, HLL.out K HKl.out]) ?_)
            | (with_reducible show wpList _ _ _ (⟨_, .store 86 _ _, _, _, _, _⟩ :: _) _ _
               refine wpList_store_at rfl 86 (.tmp 6) (.tmp 38) rfl (w.heap.size + 2) 0 (Lv.cells ⟨⟨⟨num, salt, par, its⟩, K⟩, A1, c1⟩) _ _ rfl rfl HX.out.2 (by rw [HLL.out K HKl.out, HX.out.1]; decide) (by rw [link_size, HLL.out K HKl.out]) (HL1.out K HKl.out A1 c1) ?_
               intro wz hrz hgz
               rw [splice_all ((HLL.out K HKl.out A1 c1).trans HX.out.1.symm)] at hrz
               have HZR := Lib.hid hrz
               have HbZ := Lib.hid (below_own HMh.out.2.2.2 hgz (fun k hk => by cases hk; omega))
               have HOz := Lib.hid (HOh.out.kept hgz (.inr (row_ne_own HX.out.2 HOh.out (by decide))))
               clear hrz hgz))
            have hO := HOz.out
            refine bodyPost_ret (results_rowL rfl _ _ (w.heap.size + 2) 86 _ _ rfl HZR.out Tryd.underlying86 rfl (by rw [link_size, List.size_toArray, HLL.out K HKl.out]) _ rfl) rfl ⟨⟨A1, c1, rfl, hO⟩, HbZ.out⟩
          · have e1 : ((m : Int) == 0) = true := by rw [hm0]; rfl
            have e2 : ((pm : Int) == 0) = true := by rw [hp0]; rfl
            have heq := HNe.out hz
            have hhe := fun W => HHeq.out W false (by simpa using hh)
            have Hm0 := Lib.hid hm0
            have Hp0 := Lib.hid hp0
            clear hm0 hp0 hz hh
            go_wp2_with (first
            | ((with_reducible show wpList _ _ _ (⟨_, .load 42 (.tmp 24), _, _, _, _⟩ :: _) _ _); refine wpList_load_tx rfl 42 (.tmp 24) rfl (w.heap.size + 1) 35 rfl (bRow ph).toList _ (HPAt.out _ H5.out.2.1).2.1 Tryd.underlying42 rfl (by rw [hash_info, HQ32.out]) ?_)
            | ((with_reducible show wpList _ _ _ (⟨_, .load 84 (.tmp 3), _, _, _, _⟩ :: _) _ _); refine wpList_load_tx rfl 84 (.tmp 3) rfl w.heap.size 0 rfl HC _ (row_range H5.out.1) Tryd.underlying84 rfl (by rw [head_size, HHL.out]) ?_)
            | ((with_reducible show wpList _ _ _ (⟨_, .load 84 (.tmp 31), _, _, _, _⟩ :: _) _ _); refine wpList_load_tx rfl 84 (.tmp 31) rfl (w.heap.size + 1) 0 rfl PH _ (HPAt.out _ H5.out.2.1).2.2 Tryd.underlying84 rfl (by rw [head_size, HPH.out]) ?_)
            | ((with_reducible show wpList _ _ _ (⟨_, .load 42 (.tmp 44), _, _, _, _⟩ :: _) _ _); refine wpList_load_tx rfl 42 (.tmp 44) rfl w.heap.size 2 rfl (bRow par).toList _ (HHAt.out _ H5.out.1).2.2 Tryd.underlying42 rfl (by rw [hash_info, HP32.out]) ?_)
            | ((with_reducible show wpList _ _ _ (⟨_, .build 45 _, _, _, _, _⟩ :: _) _ _); refine wpList_buildL rfl 45 [(0, .tmp 41), (1, .tmp 43), (2, .tmp 45), (3, .tmp 46)] rfl (some 47) rfl [(0, .int .i64 num), (1, .int .i64 salt), (2, .agg (bRow par)), (3, .slice A m c)] rfl (Bk.cells ⟨num, salt, par, its⟩ A c).toArray HBA.out ?_))
            refine (HH.out _ H5.out.2.2.2).mono ?_
            rintro _ w6 ⟨rfl, hb6⟩
            have HM6 := Lib.hid (H5.out.step hb6)
            have HO6 := Lib.hid (own_below HO5.out hb6)
            have HR6 := Lib.hid (HR5.out.kept (grownBy_of_below hb6 none) (by simp))
            clear hb6
            go_wp2_with (first
            | (with_reducible show wpList _ _ _ (⟨_, .store 42 _ _, _, _, _, _⟩ :: _) _ _
               refine wpList_store_at rfl 42 (.tmp 51) (.tmp 49) rfl g8 35 (bRow K).toList _ _ rfl rfl HR6.out (by rw [HLL.out Tx.zero rfl, HK32.out]; decide) (by rw [hash_info, HK32.out]) HK1.out ?_
               intro wh hrh hgh
               rw [HSet.out K HKl.out A1 c1] at hrh
               have HRh := Lib.hid hrh
               have HMh := Lib.hid (HM6.out.put hgh hg8)
               have HOh := Lib.hid (HO6.out.kept hgh (.inr (row_ne_own HR6.out HO6.out (by decide))))
               obtain ⟨xs, hxs, hx2⟩ := HMh.out.2.2.1
               have HX := Lib.hid (show xs.length = 67 ∧ Row wh (w.heap.size + 2) 86 xs from ⟨hxs, hx2⟩)
               clear hrh hgh hxs hx2)
            | ((with_reducible show wpList _ _ _ (⟨_, .load 86 (.tmp 8), _, _, _, _⟩ :: _) _ _); refine wpList_load_tx rfl 86 (.tmp 8) rfl g8 0 rfl (Lv.cells ⟨⟨⟨num, salt, par, its⟩, K⟩, A1, c1⟩) _ (row_range HRh.out) Tryd.underlying86 rfl (by rw [link_size, HLL.out K HKl.out]) ?_)
            | (with_reducible show wpList _ _ _ (⟨_, .store 86 _ _, _, _, _, _⟩ :: _) _ _
               refine wpList_store_at rfl 86 (.tmp 6) (.tmp 52) rfl (w.heap.size + 2) 0 (Lv.cells ⟨⟨⟨num, salt, par, its⟩, K⟩, A1, c1⟩) _ _ rfl rfl HX.out.2 (by rw [HLL.out K HKl.out, HX.out.1]; decide) (by rw [link_size, HLL.out K HKl.out]) (HL1.out K HKl.out A1 c1) ?_
               intro wz hrz hgz
               rw [splice_all ((HLL.out K HKl.out A1 c1).trans HX.out.1.symm)] at hrz
               have HZR := Lib.hid hrz
               have HbZ := Lib.hid (below_own HMh.out.2.2.2 hgz (fun k hk => by cases hk; omega))
               have HOz := Lib.hid (HOh.out.kept hgz (.inr (row_ne_own HX.out.2 HOh.out (by decide))))
               clear hrz hgz))
            have hO := HOz.out
            refine bodyPost_ret (results_rowL rfl _ _ (w.heap.size + 2) 86 _ _ rfl HZR.out Tryd.underlying86 rfl (by rw [link_size, List.size_toArray, HLL.out K HKl.out]) _ rfl) rfl ⟨⟨A1, c1, rfl, hO⟩, HbZ.out⟩
      · have e1 : ((m : Int) == 0) = true := by rw [hm0]; rfl
        have e2 : ((pm : Int) == 0) = false := by simpa using hp0
        have Hm0 := Lib.hid hm0
        clear hm0 hp0
        go_wp2_with (first
        | ((with_reducible show wpList _ _ _ (⟨_, .load 42 (.tmp 44), _, _, _, _⟩ :: _) _ _); refine wpList_load_tx rfl 42 (.tmp 44) rfl w.heap.size 2 rfl (bRow par).toList _ (HHAt.out _ H5.out.1).2.2 Tryd.underlying42 rfl (by rw [hash_info, HP32.out]) ?_)
        | ((with_reducible show wpList _ _ _ (⟨_, .build 45 _, _, _, _, _⟩ :: _) _ _); refine wpList_buildL rfl 45 [(0, .tmp 41), (1, .tmp 43), (2, .tmp 45), (3, .tmp 46)] rfl (some 47) rfl [(0, .int .i64 num), (1, .int .i64 salt), (2, .agg (bRow par)), (3, .slice A m c)] rfl (Bk.cells ⟨num, salt, par, its⟩ A c).toArray HBA.out ?_))
        refine (HH.out _ H5.out.2.2.2).mono ?_
        rintro _ w6 ⟨rfl, hb6⟩
        have HM6 := Lib.hid (H5.out.step hb6)
        have HO6 := Lib.hid (own_below HO5.out hb6)
        have HR6 := Lib.hid (HR5.out.kept (grownBy_of_below hb6 none) (by simp))
        clear hb6
        go_wp2_with (first
        | (with_reducible show wpList _ _ _ (⟨_, .store 42 _ _, _, _, _, _⟩ :: _) _ _
           refine wpList_store_at rfl 42 (.tmp 51) (.tmp 49) rfl g8 35 (bRow K).toList _ _ rfl rfl HR6.out (by rw [HLL.out Tx.zero rfl, HK32.out]; decide) (by rw [hash_info, HK32.out]) HK1.out ?_
           intro wh hrh hgh
           rw [HSet.out K HKl.out A1 c1] at hrh
           have HRh := Lib.hid hrh
           have HMh := Lib.hid (HM6.out.put hgh hg8)
           have HOh := Lib.hid (HO6.out.kept hgh (.inr (row_ne_own HR6.out HO6.out (by decide))))
           obtain ⟨xs, hxs, hx2⟩ := HMh.out.2.2.1
           have HX := Lib.hid (show xs.length = 67 ∧ Row wh (w.heap.size + 2) 86 xs from ⟨hxs, hx2⟩)
           clear hrh hgh hxs hx2)
        | ((with_reducible show wpList _ _ _ (⟨_, .load 86 (.tmp 8), _, _, _, _⟩ :: _) _ _); refine wpList_load_tx rfl 86 (.tmp 8) rfl g8 0 rfl (Lv.cells ⟨⟨⟨num, salt, par, its⟩, K⟩, A1, c1⟩) _ (row_range HRh.out) Tryd.underlying86 rfl (by rw [link_size, HLL.out K HKl.out]) ?_)
        | (with_reducible show wpList _ _ _ (⟨_, .store 86 _ _, _, _, _, _⟩ :: _) _ _
           refine wpList_store_at rfl 86 (.tmp 6) (.tmp 52) rfl (w.heap.size + 2) 0 (Lv.cells ⟨⟨⟨num, salt, par, its⟩, K⟩, A1, c1⟩) _ _ rfl rfl HX.out.2 (by rw [HLL.out K HKl.out, HX.out.1]; decide) (by rw [link_size, HLL.out K HKl.out]) (HL1.out K HKl.out A1 c1) ?_
           intro wz hrz hgz
           rw [splice_all ((HLL.out K HKl.out A1 c1).trans HX.out.1.symm)] at hrz
           have HZR := Lib.hid hrz
           have HbZ := Lib.hid (below_own HMh.out.2.2.2 hgz (fun k hk => by cases hk; omega))
           have HOz := Lib.hid (HOh.out.kept hgz (.inr (row_ne_own HX.out.2 HOh.out (by decide))))
           clear hrz hgz))
        have hO := HOz.out
        refine bodyPost_ret (results_rowL rfl _ _ (w.heap.size + 2) 86 _ _ rfl HZR.out Tryd.underlying86 rfl (by rw [link_size, List.size_toArray, HLL.out K HKl.out]) _ rfl) rfl ⟨⟨A1, c1, rfl, hO⟩, HbZ.out⟩
    · have e1 : ((m : Int) == 0) = false := by simpa using hm0
      clear hm0
      go_wp2_with (first
      | ((with_reducible show wpList _ _ _ (⟨_, .load 42 (.tmp 44), _, _, _, _⟩ :: _) _ _); refine wpList_load_tx rfl 42 (.tmp 44) rfl w.heap.size 2 rfl (bRow par).toList _ (HHAt.out _ H5.out.1).2.2 Tryd.underlying42 rfl (by rw [hash_info, HP32.out]) ?_)
      | ((with_reducible show wpList _ _ _ (⟨_, .build 45 _, _, _, _, _⟩ :: _) _ _); refine wpList_buildL rfl 45 [(0, .tmp 41), (1, .tmp 43), (2, .tmp 45), (3, .tmp 46)] rfl (some 47) rfl [(0, .int .i64 num), (1, .int .i64 salt), (2, .agg (bRow par)), (3, .slice A m c)] rfl (Bk.cells ⟨num, salt, par, its⟩ A c).toArray HBA.out ?_))
      refine (HH.out _ H5.out.2.2.2).mono ?_
      rintro _ w6 ⟨rfl, hb6⟩
      have HM6 := Lib.hid (H5.out.step hb6)
      have HO6 := Lib.hid (own_below HO5.out hb6)
      have HR6 := Lib.hid (HR5.out.kept (grownBy_of_below hb6 none) (by simp))
      clear hb6
      go_wp2_with (first
      | (with_reducible show wpList _ _ _ (⟨_, .store 42 _ _, _, _, _, _⟩ :: _) _ _
         refine wpList_store_at rfl 42 (.tmp 51) (.tmp 49) rfl g8 35 (bRow K).toList _ _ rfl rfl HR6.out (by rw [HLL.out Tx.zero rfl, HK32.out]; decide) (by rw [hash_info, HK32.out]) HK1.out ?_
         intro wh hrh hgh
         rw [HSet.out K HKl.out A1 c1] at hrh
         have HRh := Lib.hid hrh
         have HMh := Lib.hid (HM6.out.put hgh hg8)
         have HOh := Lib.hid (HO6.out.kept hgh (.inr (row_ne_own HR6.out HO6.out (by decide))))
         obtain ⟨xs, hxs, hx2⟩ := HMh.out.2.2.1
         have HX := Lib.hid (show xs.length = 67 ∧ Row wh (w.heap.size + 2) 86 xs from ⟨hxs, hx2⟩)
         clear hrh hgh hxs hx2)
      | ((with_reducible show wpList _ _ _ (⟨_, .load 86 (.tmp 8), _, _, _, _⟩ :: _) _ _); refine wpList_load_tx rfl 86 (.tmp 8) rfl g8 0 rfl (Lv.cells ⟨⟨⟨num, salt, par, its⟩, K⟩, A1, c1⟩) _ (row_range HRh.out) Tryd.underlying86 rfl (by rw [link_size, HLL.out K HKl.out]) ?_)
      | (with_reducible show wpList _ _ _ (⟨_, .store 86 _ _, _, _, _, _⟩ :: _) _ _
         refine wpList_store_at rfl 86 (.tmp 6) (.tmp 52) rfl (w.heap.size + 2) 0 (Lv.cells ⟨⟨⟨num, salt, par, its⟩, K⟩, A1, c1⟩) _ _ rfl rfl HX.out.2 (by rw [HLL.out K HKl.out, HX.out.1]; decide) (by rw [link_size, HLL.out K HKl.out]) (HL1.out K HKl.out A1 c1) ?_
         intro wz hrz hgz
         rw [splice_all ((HLL.out K HKl.out A1 c1).trans HX.out.1.symm)] at hrz
         have HZR := Lib.hid hrz
         have HbZ := Lib.hid (below_own HMh.out.2.2.2 hgz (fun k hk => by cases hk; omega))
         have HOz := Lib.hid (HOh.out.kept hgz (.inr (row_ne_own HX.out.2 HOh.out (by decide))))
         clear hrz hgz))
      have hO := HOz.out
      refine bodyPost_ret (results_rowL rfl _ _ (w.heap.size + 2) 86 _ _ rfl HZR.out Tryd.underlying86 rfl (by rw [link_size, List.size_toArray, HLL.out K HKl.out]) _ rfl) rfl ⟨⟨A1, c1, rfl, hO⟩, HbZ.out⟩
  · skip
    try simp only [Act.put, List.getElem_toArray, List.getElem_cons_succ, List.getElem_cons_zero, List.setIfInBounds_toArray, List.set_cons_zero, List.set_cons_succ]
    go_simp
    have hbk := (Below.refl wq.heap.size wq).alloc (Nat.le_refl _) (.cells Lv.zero.cells.toArray 86)
    have hnw := Row.new wq 86 Lv.zero.cells
    have hHeld2 := hHeld.step hbk
    have hg8 : w.heap.size + 2 < wq.heap.size := hHeld.lt
    generalize wq.alloc (.cells Lv.zero.cells.toArray 86) = wm at *
    generalize wq.heap.size = g8 at *
    have HNew := Lib.hid hnw
    clear hnw hbk
    refine hK1.out _ _ (hHeld2) (fun hHeld => ?_)
    clear hK1 K1
    try simp only [Act.put, List.getElem_toArray, List.getElem_cons_succ, List.getElem_cons_zero, List.setIfInBounds_toArray, List.set_cons_zero, List.set_cons_succ]
    clear hHeld2
    refine wpAnyH_ready (rs := [2]) (by kernel_rfl) (by simp) (AllReadyH.cons rfl (fun K1 hK1 => ?_) AllReadyH.nil)
    try simp only [Act.put, List.getElem_toArray, List.getElem_cons_succ, List.getElem_cons_zero, List.setIfInBounds_toArray, List.set_cons_zero, List.set_cons_succ]
    go_simp
    refine Calls.mono (CL.out _ hHeld.2.2.2) ?_
    rintro e w1 ⟨⟨A1, c1, rfl, ho1⟩, hb1⟩
    have HO1 := Lib.hid (own_lower ho1 hHeld.2.2.2.size)
    rw [← HM.out] at HO1
    clear ho1
    have HNew := Lib.hid (HNew.out.kept (grownBy_of_below hb1 none) (by simp))
    rw [← HM.out]
    refine hK1.out _ _ (hHeld.step hb1) (fun hHeld => ?_)
    clear hK1 K1
    try simp only [Act.put, List.getElem_toArray, List.getElem_cons_succ, List.getElem_cons_zero, List.setIfInBounds_toArray, List.set_cons_zero, List.set_cons_succ]
    clear hb1
    refine' wpAnyH_take (i := 3) (v := .agg (Lv.cells ⟨⟨⟨num, salt, par, its⟩, Tx.zero⟩, A1, c1⟩).toArray) rfl (by kernel_rfl) (by kernel_rfl) (by kernel_rfl) (fun _ _ _ h => h) (yieldsIf_buildL (by rfl) 86 [(0, .tmp 10), (1, .tmp 12)] rfl [(0, .agg HC.toArray), (1, .slice A1 m c1)] rfl (Lv.cells ⟨⟨⟨num, salt, par, its⟩, Tx.zero⟩, A1, c1⟩).toArray (HLB.out A1 c1)) hHeld ?_
    try simp only [Act.put, List.getElem_toArray, List.getElem_cons_succ, List.getElem_cons_zero, List.setIfInBounds_toArray, List.set_cons_zero, List.set_cons_succ]
    refine wpAnyH_ready (rs := [5]) (by kernel_rfl) (by simp) (AllReadyH.cons rfl (fun K1 hK1 => ?_) AllReadyH.nil)
    try simp only [Act.put, List.getElem_toArray, List.getElem_cons_succ, List.getElem_cons_zero, List.setIfInBounds_toArray, List.set_cons_zero, List.set_cons_succ]
    rw [if_pos (by rfl)]
    refine wp_store_at 86 (.tmp 8) (.tmp 13) rfl g8 0 (Lv.cells ⟨⟨⟨num, salt, par, its⟩, Tx.zero⟩, A1, c1⟩) _ _ rfl rfl HNew.out (by rw [HLL.out Tx.zero rfl, HZL.out]; decide) (by rw [link_size, HLL.out Tx.zero rfl]) (HL1.out Tx.zero rfl A1 c1) ?_
    intro w5 hr5 hg5
    rw [splice_all ((HLL.out Tx.zero rfl A1 c1).trans HZL.out.symm)] at hr5
    have HR5 := Lib.hid hr5
    have HO5 := Lib.hid (HO1.out.kept hg5 (.inr (row_ne_own HNew.out HO1.out (by decide))))
    refine hK1.out _ _ (hHeld.put hg5 hg8) (fun hHeld => ?_)
    clear hK1 K1
    try simp only [Act.put, List.getElem_toArray, List.getElem_cons_succ, List.getElem_cons_zero, List.setIfInBounds_toArray, List.set_cons_zero, List.set_cons_succ]
    clear hr5 hg5
    refine wpAnyH_done (by kernel_rfl) ?_ _
    have H5 := Lib.hid hHeld
    clear hHeld HNew HO1
    obtain ⟨f0, f1, _⟩ := HHAt.out _ H5.out.1
    obtain ⟨p0, _, _⟩ := HPAt.out _ H5.out.2.1
    by_cases hm0 : m = 0
    · by_cases hp0 : pm = 0
      · by_cases hz : ph = Tx.zero
        · have e1 : ((m : Int) == 0) = true := by rw [hm0]; rfl
          have e2 : ((pm : Int) == 0) = true := by rw [hp0]; rfl
          have heq := HEq0.out hz
          have Hm0 := Lib.hid hm0
          have Hp0 := Lib.hid hp0
          have Hz := Lib.hid hz
          clear hm0 hp0 hz
          go_wp2_with (first
          | ((with_reducible show wpList _ _ _ (⟨_, .load 42 (.tmp 24), _, _, _, _⟩ :: _) _ _); refine wpList_load_tx rfl 42 (.tmp 24) rfl (w.heap.size + 1) 35 rfl (bRow ph).toList _ (HPAt.out _ H5.out.2.1).2.1 Tryd.underlying42 rfl (by rw [hash_info, HQ32.out]) ?_)
          | ((with_reducible show wpList _ _ _ (⟨_, .load 42 (.tmp 44), _, _, _, _⟩ :: _) _ _); refine wpList_load_tx rfl 42 (.tmp 44) rfl w.heap.size 2 rfl (bRow par).toList _ (HHAt.out _ H5.out.1).2.2 Tryd.underlying42 rfl (by rw [hash_info, HP32.out]) ?_)
          | ((with_reducible show wpList _ _ _ (⟨_, .build 45 _, _, _, _, _⟩ :: _) _ _); refine wpList_buildL rfl 45 [(0, .tmp 41), (1, .tmp 43), (2, .tmp 45), (3, .tmp 46)] rfl (some 47) rfl [(0, .int .i64 num), (1, .int .i64 salt), (2, .agg (bRow par)), (3, .slice A m c)] rfl (Bk.cells ⟨num, salt, par, its⟩ A c).toArray HBA.out ?_))
          refine (HH.out _ H5.out.2.2.2).mono ?_
          rintro _ w6 ⟨rfl, hb6⟩
          have HM6 := Lib.hid (H5.out.step hb6)
          have HO6 := Lib.hid (own_below HO5.out hb6)
          have HR6 := Lib.hid (HR5.out.kept (grownBy_of_below hb6 none) (by simp))
          clear hb6
          go_wp2_with (first
          | (with_reducible show wpList _ _ _ (⟨_, .store 42 _ _, _, _, _, _⟩ :: _) _ _
             refine wpList_store_at rfl 42 (.tmp 51) (.tmp 49) rfl g8 35 (bRow K).toList _ _ rfl rfl HR6.out (by rw [HLL.out Tx.zero rfl, HK32.out]; decide) (by rw [hash_info, HK32.out]) HK1.out ?_
             intro wh hrh hgh
             rw [HSet.out K HKl.out A1 c1] at hrh
             have HRh := Lib.hid hrh
             have HMh := Lib.hid (HM6.out.put hgh hg8)
             have HOh := Lib.hid (HO6.out.kept hgh (.inr (row_ne_own HR6.out HO6.out (by decide))))
             obtain ⟨xs, hxs, hx2⟩ := HMh.out.2.2.1
             have HX := Lib.hid (show xs.length = 67 ∧ Row wh (w.heap.size + 2) 86 xs from ⟨hxs, hx2⟩)
             clear hrh hgh hxs hx2)
          | ((with_reducible show wpList _ _ _ (⟨_, .load 86 (.tmp 8), _, _, _, _⟩ :: _) _ _); refine wpList_load_tx rfl 86 (.tmp 8) rfl g8 0 rfl (Lv.cells ⟨⟨⟨num, salt, par, its⟩, K⟩, A1, c1⟩) _ (row_range HRh.out) Tryd.underlying86 rfl (by rw [link_size, HLL.out K HKl.out]) ?_)
          | (with_reducible show wpList _ _ _ (⟨_, .store 86 _ _, _, _, _, _⟩ :: _) _ _
             refine wpList_store_at rfl 86 (.tmp 6) (.tmp 52) rfl (w.heap.size + 2) 0 (Lv.cells ⟨⟨⟨num, salt, par, its⟩, K⟩, A1, c1⟩) _ _ rfl rfl HX.out.2 (by rw [HLL.out K HKl.out, HX.out.1]; decide) (by rw [link_size, HLL.out K HKl.out]) (HL1.out K HKl.out A1 c1) ?_
             intro wz hrz hgz
             rw [splice_all ((HLL.out K HKl.out A1 c1).trans HX.out.1.symm)] at hrz
             have HZR := Lib.hid hrz
             have HbZ := Lib.hid (below_own HMh.out.2.2.2 hgz (fun k hk => by cases hk; omega))
             have HOz := Lib.hid (HOh.out.kept hgz (.inr (row_ne_own HX.out.2 HOh.out (by decide))))
             clear hrz hgz))
          have hO := HOz.out
          refine bodyPost_ret (results_rowL rfl _ _ (w.heap.size + 2) 86 _ _ rfl HZR.out Tryd.underlying86 rfl (by rw [link_size, List.size_toArray, HLL.out K HKl.out]) _ rfl) rfl ⟨⟨A1, c1, rfl, hO⟩, HbZ.out⟩
        · by_cases hh : num = p.k.b.number ∧ salt = p.k.b.salt ∧ par = p.k.b.parent
          · have hs := HShort.out (HM0.out.2 hm0) (HP0.out.2 hp0) hz hh
            rw [HKE.out] at hs
            obtain ⟨hKp, hE0⟩ : K = ph ∧ E = 0 := by simpa using hs
            subst hKp hE0
            have e1 : ((m : Int) == 0) = true := by rw [hm0]; rfl
            have e2 : ((pm : Int) == 0) = true := by rw [hp0]; rfl
            have heq := HNe.out hz
            have hhe := fun W => HHeq.out W true (by simpa using hh)
            have Hm0 := Lib.hid hm0
            have Hp0 := Lib.hid hp0
            clear hs hm0 hp0 hz hh f0 f1
            go_wp2_with (first
            | ((with_reducible show wpList _ _ _ (⟨_, .load 42 (.tmp 24), _, _, _, _⟩ :: _) _ _); refine wpList_load_tx rfl 42 (.tmp 24) rfl (w.heap.size + 1) 35 rfl (bRow K).toList _ (HPAt.out _ H5.out.2.1).2.1 Tryd.underlying42 rfl (by rw [hash_info, HQ32.out]) ?_)
            | ((with_reducible show wpList _ _ _ (⟨_, .load 84 (.tmp 3), _, _, _, _⟩ :: _) _ _); refine wpList_load_tx rfl 84 (.tmp 3) rfl w.heap.size 0 rfl HC _ (row_range H5.out.1) Tryd.underlying84 rfl (by rw [head_size, HHL.out]) ?_)
            | ((with_reducible show wpList _ _ _ (⟨_, .load 84 (.tmp 31), _, _, _, _⟩ :: _) _ _); refine wpList_load_tx rfl 84 (.tmp 31) rfl (w.heap.size + 1) 0 rfl PH _ (HPAt.out _ H5.out.2.1).2.2 Tryd.underlying84 rfl (by rw [head_size, HPH.out]) ?_)
            | ((with_reducible show wpList _ _ _ (⟨_, .load 42 (.tmp 35), _, _, _, _⟩ :: _) _ _); refine wpList_load_tx rfl 42 (.tmp 35) rfl (w.heap.size + 1) 35 rfl (bRow K).toList _ (HPAt.out _ H5.out.2.1).2.1 Tryd.underlying42 rfl (by rw [hash_info, HQ32.out]) ?_)
            | (with_reducible show wpList _ _ _ (⟨_, .store 42 _ _, _, _, _, _⟩ :: _) _ _
               refine wpList_store_at rfl 42 (.tmp 37) (.tmp 36) rfl g8 35 (bRow K).toList _ _ rfl rfl HR5.out (by rw [HLL.out Tx.zero rfl, HK32.out]; decide) (by rw [hash_info, HK32.out]) HK1.out ?_
               intro wh hrh hgh
               rw [HSet.out K HKl.out A1 c1] at hrh
               have HRh := Lib.hid hrh
               have HMh := Lib.hid (H5.out.put hgh hg8)
               have HOh := Lib.hid (HO5.out.kept hgh (.inr (row_ne_own HR5.out HO5.out (by decide))))
               obtain ⟨xs, hxs, hx2⟩ := HMh.out.2.2.1
               have HX := Lib.hid (show xs.length = 67 ∧ Row wh (w.heap.size + 2) 86 xs from ⟨hxs, hx2⟩)
               clear hrh hgh hxs hx2)
            | ((with_reducible show wpList _ _ _ (⟨_, .load 86 (.tmp 8), _, _, _, _⟩ :: _) _ _); refine wpList_load_tx rfl 86 (.tmp 8) rfl g8 0 rfl (Lv.cells ⟨⟨⟨num, salt, par, its⟩, K⟩, A1, c1⟩) _ (row_range HRh.out) Tryd.underlying86 rfl (by rw [link_size, HLL.out K HKl.out]) ?_)
            | (with_reducible show wpList _ _ _ (⟨_, .store 86 _ _, _, _, _, _⟩ :: _) _ _
               refine wpList_store_at rfl 86 (.tmp 6) (.tmp 38) rfl (w.heap.size + 2) 0 (Lv.cells ⟨⟨⟨num, salt, par, its⟩, K⟩, A1, c1⟩) _ _ rfl rfl HX.out.2 (by rw [HLL.out K HKl.out, HX.out.1]; decide) (by rw [link_size, HLL.out K HKl.out]) (HL1.out K HKl.out A1 c1) ?_
               intro wz hrz hgz
               rw [splice_all ((HLL.out K HKl.out A1 c1).trans HX.out.1.symm)] at hrz
               have HZR := Lib.hid hrz
               have HbZ := Lib.hid (below_own HMh.out.2.2.2 hgz (fun k hk => by cases hk; omega))
               have HOz := Lib.hid (HOh.out.kept hgz (.inr (row_ne_own HX.out.2 HOh.out (by decide))))
               clear hrz hgz))
            have hO := HOz.out
            refine bodyPost_ret (results_rowL rfl _ _ (w.heap.size + 2) 86 _ _ rfl HZR.out Tryd.underlying86 rfl (by rw [link_size, List.size_toArray, HLL.out K HKl.out]) _ rfl) rfl ⟨⟨A1, c1, rfl, hO⟩, HbZ.out⟩
          · have e1 : ((m : Int) == 0) = true := by rw [hm0]; rfl
            have e2 : ((pm : Int) == 0) = true := by rw [hp0]; rfl
            have heq := HNe.out hz
            have hhe := fun W => HHeq.out W false (by simpa using hh)
            have Hm0 := Lib.hid hm0
            have Hp0 := Lib.hid hp0
            clear hm0 hp0 hz hh
            go_wp2_with (first
            | ((with_reducible show wpList _ _ _ (⟨_, .load 42 (.tmp 24), _, _, _, _⟩ :: _) _ _); refine wpList_load_tx rfl 42 (.tmp 24) rfl (w.heap.size + 1) 35 rfl (bRow ph).toList _ (HPAt.out _ H5.out.2.1).2.1 Tryd.underlying42 rfl (by rw [hash_info, HQ32.out]) ?_)
            | ((with_reducible show wpList _ _ _ (⟨_, .load 84 (.tmp 3), _, _, _, _⟩ :: _) _ _); refine wpList_load_tx rfl 84 (.tmp 3) rfl w.heap.size 0 rfl HC _ (row_range H5.out.1) Tryd.underlying84 rfl (by rw [head_size, HHL.out]) ?_)
            | ((with_reducible show wpList _ _ _ (⟨_, .load 84 (.tmp 31), _, _, _, _⟩ :: _) _ _); refine wpList_load_tx rfl 84 (.tmp 31) rfl (w.heap.size + 1) 0 rfl PH _ (HPAt.out _ H5.out.2.1).2.2 Tryd.underlying84 rfl (by rw [head_size, HPH.out]) ?_)
            | ((with_reducible show wpList _ _ _ (⟨_, .load 42 (.tmp 44), _, _, _, _⟩ :: _) _ _); refine wpList_load_tx rfl 42 (.tmp 44) rfl w.heap.size 2 rfl (bRow par).toList _ (HHAt.out _ H5.out.1).2.2 Tryd.underlying42 rfl (by rw [hash_info, HP32.out]) ?_)
            | ((with_reducible show wpList _ _ _ (⟨_, .build 45 _, _, _, _, _⟩ :: _) _ _); refine wpList_buildL rfl 45 [(0, .tmp 41), (1, .tmp 43), (2, .tmp 45), (3, .tmp 46)] rfl (some 47) rfl [(0, .int .i64 num), (1, .int .i64 salt), (2, .agg (bRow par)), (3, .slice A m c)] rfl (Bk.cells ⟨num, salt, par, its⟩ A c).toArray HBA.out ?_))
            refine (HH.out _ H5.out.2.2.2).mono ?_
            rintro _ w6 ⟨rfl, hb6⟩
            have HM6 := Lib.hid (H5.out.step hb6)
            have HO6 := Lib.hid (own_below HO5.out hb6)
            have HR6 := Lib.hid (HR5.out.kept (grownBy_of_below hb6 none) (by simp))
            clear hb6
            go_wp2_with (first
            | (with_reducible show wpList _ _ _ (⟨_, .store 42 _ _, _, _, _, _⟩ :: _) _ _
               refine wpList_store_at rfl 42 (.tmp 51) (.tmp 49) rfl g8 35 (bRow K).toList _ _ rfl rfl HR6.out (by rw [HLL.out Tx.zero rfl, HK32.out]; decide) (by rw [hash_info, HK32.out]) HK1.out ?_
               intro wh hrh hgh
               rw [HSet.out K HKl.out A1 c1] at hrh
               have HRh := Lib.hid hrh
               have HMh := Lib.hid (HM6.out.put hgh hg8)
               have HOh := Lib.hid (HO6.out.kept hgh (.inr (row_ne_own HR6.out HO6.out (by decide))))
               obtain ⟨xs, hxs, hx2⟩ := HMh.out.2.2.1
               have HX := Lib.hid (show xs.length = 67 ∧ Row wh (w.heap.size + 2) 86 xs from ⟨hxs, hx2⟩)
               clear hrh hgh hxs hx2)
            | ((with_reducible show wpList _ _ _ (⟨_, .load 86 (.tmp 8), _, _, _, _⟩ :: _) _ _); refine wpList_load_tx rfl 86 (.tmp 8) rfl g8 0 rfl (Lv.cells ⟨⟨⟨num, salt, par, its⟩, K⟩, A1, c1⟩) _ (row_range HRh.out) Tryd.underlying86 rfl (by rw [link_size, HLL.out K HKl.out]) ?_)
            | (with_reducible show wpList _ _ _ (⟨_, .store 86 _ _, _, _, _, _⟩ :: _) _ _
               refine wpList_store_at rfl 86 (.tmp 6) (.tmp 52) rfl (w.heap.size + 2) 0 (Lv.cells ⟨⟨⟨num, salt, par, its⟩, K⟩, A1, c1⟩) _ _ rfl rfl HX.out.2 (by rw [HLL.out K HKl.out, HX.out.1]; decide) (by rw [link_size, HLL.out K HKl.out]) (HL1.out K HKl.out A1 c1) ?_
               intro wz hrz hgz
               rw [splice_all ((HLL.out K HKl.out A1 c1).trans HX.out.1.symm)] at hrz
               have HZR := Lib.hid hrz
               have HbZ := Lib.hid (below_own HMh.out.2.2.2 hgz (fun k hk => by cases hk; omega))
               have HOz := Lib.hid (HOh.out.kept hgz (.inr (row_ne_own HX.out.2 HOh.out (by decide))))
               clear hrz hgz))
            have hO := HOz.out
            refine bodyPost_ret (results_rowL rfl _ _ (w.heap.size + 2) 86 _ _ rfl HZR.out Tryd.underlying86 rfl (by rw [link_size, List.size_toArray, HLL.out K HKl.out]) _ rfl) rfl ⟨⟨A1, c1, rfl, hO⟩, HbZ.out⟩
      · have e1 : ((m : Int) == 0) = true := by rw [hm0]; rfl
        have e2 : ((pm : Int) == 0) = false := by simpa using hp0
        have Hm0 := Lib.hid hm0
        clear hm0 hp0
        go_wp2_with (first
        | ((with_reducible show wpList _ _ _ (⟨_, .load 42 (.tmp 44), _, _, _, _⟩ :: _) _ _); refine wpList_load_tx rfl 42 (.tmp 44) rfl w.heap.size 2 rfl (bRow par).toList _ (HHAt.out _ H5.out.1).2.2 Tryd.underlying42 rfl (by rw [hash_info, HP32.out]) ?_)
        | ((with_reducible show wpList _ _ _ (⟨_, .build 45 _, _, _, _, _⟩ :: _) _ _); refine wpList_buildL rfl 45 [(0, .tmp 41), (1, .tmp 43), (2, .tmp 45), (3, .tmp 46)] rfl (some 47) rfl [(0, .int .i64 num), (1, .int .i64 salt), (2, .agg (bRow par)), (3, .slice A m c)] rfl (Bk.cells ⟨num, salt, par, its⟩ A c).toArray HBA.out ?_))
        refine (HH.out _ H5.out.2.2.2).mono ?_
        rintro _ w6 ⟨rfl, hb6⟩
        have HM6 := Lib.hid (H5.out.step hb6)
        have HO6 := Lib.hid (own_below HO5.out hb6)
        have HR6 := Lib.hid (HR5.out.kept (grownBy_of_below hb6 none) (by simp))
        clear hb6
        go_wp2_with (first
        | (with_reducible show wpList _ _ _ (⟨_, .store 42 _ _, _, _, _, _⟩ :: _) _ _
           refine wpList_store_at rfl 42 (.tmp 51) (.tmp 49) rfl g8 35 (bRow K).toList _ _ rfl rfl HR6.out (by rw [HLL.out Tx.zero rfl, HK32.out]; decide) (by rw [hash_info, HK32.out]) HK1.out ?_
           intro wh hrh hgh
           rw [HSet.out K HKl.out A1 c1] at hrh
           have HRh := Lib.hid hrh
           have HMh := Lib.hid (HM6.out.put hgh hg8)
           have HOh := Lib.hid (HO6.out.kept hgh (.inr (row_ne_own HR6.out HO6.out (by decide))))
           obtain ⟨xs, hxs, hx2⟩ := HMh.out.2.2.1
           have HX := Lib.hid (show xs.length = 67 ∧ Row wh (w.heap.size + 2) 86 xs from ⟨hxs, hx2⟩)
           clear hrh hgh hxs hx2)
        | ((with_reducible show wpList _ _ _ (⟨_, .load 86 (.tmp 8), _, _, _, _⟩ :: _) _ _); refine wpList_load_tx rfl 86 (.tmp 8) rfl g8 0 rfl (Lv.cells ⟨⟨⟨num, salt, par, its⟩, K⟩, A1, c1⟩) _ (row_range HRh.out) Tryd.underlying86 rfl (by rw [link_size, HLL.out K HKl.out]) ?_)
        | (with_reducible show wpList _ _ _ (⟨_, .store 86 _ _, _, _, _, _⟩ :: _) _ _
           refine wpList_store_at rfl 86 (.tmp 6) (.tmp 52) rfl (w.heap.size + 2) 0 (Lv.cells ⟨⟨⟨num, salt, par, its⟩, K⟩, A1, c1⟩) _ _ rfl rfl HX.out.2 (by rw [HLL.out K HKl.out, HX.out.1]; decide) (by rw [link_size, HLL.out K HKl.out]) (HL1.out K HKl.out A1 c1) ?_
           intro wz hrz hgz
           rw [splice_all ((HLL.out K HKl.out A1 c1).trans HX.out.1.symm)] at hrz
           have HZR := Lib.hid hrz
           have HbZ := Lib.hid (below_own HMh.out.2.2.2 hgz (fun k hk => by cases hk; omega))
           have HOz := Lib.hid (HOh.out.kept hgz (.inr (row_ne_own HX.out.2 HOh.out (by decide))))
           clear hrz hgz))
        have hO := HOz.out
        refine bodyPost_ret (results_rowL rfl _ _ (w.heap.size + 2) 86 _ _ rfl HZR.out Tryd.underlying86 rfl (by rw [link_size, List.size_toArray, HLL.out K HKl.out]) _ rfl) rfl ⟨⟨A1, c1, rfl, hO⟩, HbZ.out⟩
    · have e1 : ((m : Int) == 0) = false := by simpa using hm0
      clear hm0
      go_wp2_with (first
      | ((with_reducible show wpList _ _ _ (⟨_, .load 42 (.tmp 44), _, _, _, _⟩ :: _) _ _); refine wpList_load_tx rfl 42 (.tmp 44) rfl w.heap.size 2 rfl (bRow par).toList _ (HHAt.out _ H5.out.1).2.2 Tryd.underlying42 rfl (by rw [hash_info, HP32.out]) ?_)
      | ((with_reducible show wpList _ _ _ (⟨_, .build 45 _, _, _, _, _⟩ :: _) _ _); refine wpList_buildL rfl 45 [(0, .tmp 41), (1, .tmp 43), (2, .tmp 45), (3, .tmp 46)] rfl (some 47) rfl [(0, .int .i64 num), (1, .int .i64 salt), (2, .agg (bRow par)), (3, .slice A m c)] rfl (Bk.cells ⟨num, salt, par, its⟩ A c).toArray HBA.out ?_))
      refine (HH.out _ H5.out.2.2.2).mono ?_
      rintro _ w6 ⟨rfl, hb6⟩
      have HM6 := Lib.hid (H5.out.step hb6)
      have HO6 := Lib.hid (own_below HO5.out hb6)
      have HR6 := Lib.hid (HR5.out.kept (grownBy_of_below hb6 none) (by simp))
      clear hb6
      go_wp2_with (first
      | (with_reducible show wpList _ _ _ (⟨_, .store 42 _ _, _, _, _, _⟩ :: _) _ _
         refine wpList_store_at rfl 42 (.tmp 51) (.tmp 49) rfl g8 35 (bRow K).toList _ _ rfl rfl HR6.out (by rw [HLL.out Tx.zero rfl, HK32.out]; decide) (by rw [hash_info, HK32.out]) HK1.out ?_
         intro wh hrh hgh
         rw [HSet.out K HKl.out A1 c1] at hrh
         have HRh := Lib.hid hrh
         have HMh := Lib.hid (HM6.out.put hgh hg8)
         have HOh := Lib.hid (HO6.out.kept hgh (.inr (row_ne_own HR6.out HO6.out (by decide))))
         obtain ⟨xs, hxs, hx2⟩ := HMh.out.2.2.1
         have HX := Lib.hid (show xs.length = 67 ∧ Row wh (w.heap.size + 2) 86 xs from ⟨hxs, hx2⟩)
         clear hrh hgh hxs hx2)
      | ((with_reducible show wpList _ _ _ (⟨_, .load 86 (.tmp 8), _, _, _, _⟩ :: _) _ _); refine wpList_load_tx rfl 86 (.tmp 8) rfl g8 0 rfl (Lv.cells ⟨⟨⟨num, salt, par, its⟩, K⟩, A1, c1⟩) _ (row_range HRh.out) Tryd.underlying86 rfl (by rw [link_size, HLL.out K HKl.out]) ?_)
      | (with_reducible show wpList _ _ _ (⟨_, .store 86 _ _, _, _, _, _⟩ :: _) _ _
         refine wpList_store_at rfl 86 (.tmp 6) (.tmp 52) rfl (w.heap.size + 2) 0 (Lv.cells ⟨⟨⟨num, salt, par, its⟩, K⟩, A1, c1⟩) _ _ rfl rfl HX.out.2 (by rw [HLL.out K HKl.out, HX.out.1]; decide) (by rw [link_size, HLL.out K HKl.out]) (HL1.out K HKl.out A1 c1) ?_
         intro wz hrz hgz
         rw [splice_all ((HLL.out K HKl.out A1 c1).trans HX.out.1.symm)] at hrz
         have HZR := Lib.hid hrz
         have HbZ := Lib.hid (below_own HMh.out.2.2.2 hgz (fun k hk => by cases hk; omega))
         have HOz := Lib.hid (HOh.out.kept hgz (.inr (row_ne_own HX.out.2 HOh.out (by decide))))
         clear hrz hgz))
      have hO := HOz.out
      refine bodyPost_ret (results_rowL rfl _ _ (w.heap.size + 2) 86 _ _ rfl HZR.out Tryd.underlying86 rfl (by rw [link_size, List.size_toArray, HLL.out K HKl.out]) _ rfl) rfl ⟨⟨A1, c1, rfl, hO⟩, HbZ.out⟩
end Go.Proofs.YtjeooegkfjlejaaDoor
