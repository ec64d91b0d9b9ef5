/- What later texts need of the earlier layers. -/
import Derived.Test.YtjeooegkfjlejaaDoorEarO
import Derived.Test.YtjeooegkfjlejaaDoorEarS
import Derived.Test.YtjeooegkfjlejaaDoorEarT
import Derived.Test.YtjeooegkfjlejaaDoorEarC
import Derived.Test.YtjeooegkfjlejaaDoorEarA
import Derived.Test.YtjeooegkfjlejaaDoorEarB
import Derived.Test.YtjeooegkfjlejaaDoorIbA
import Derived.Test.YtjeooegkfjlejaaDoorTrMath
import Derived.Test.YtjeooegkfjlejaaDoorTrTm
import Derived.Test.YtjeooegkfjlejaaDoorTrHash
import Derived.Test.YtjeooegkfjlejaaDoorTrMem
import Derived.Test.YtjeooegkfjlejaaDoorTrLv
import Derived.Test.YtjeooegkfjlejaaDoorTrLink
import Derived.Test.YtjeooegkfjlejaaDoorTrBeh
import Derived.Test.YtjeooegkfjlejaaDoorTrCh
import Derived.Test.YtjeooegkfjlejaaDoorTrAt
import Derived.Test.YtjeooegkfjlejaaDoorTrNew
import Derived.Test.YtjeooegkfjlejaaDoorTrMine
import Derived.Test.YtjeooegkfjlejaaDoorTrAll
import Derived.Test.YtjeooegkfjlejaaDoorTrFind
import Derived.Test.YtjeooegkfjlejaaDoorTrAwk
import Derived.Test.YtjeooegkfjlejaaDoorTrLaw2
import Derived.Test.YtjeooegkfjlejaaDoorTrRch
import Derived.Test.YtjeooegkfjlejaaDoorTrRnew
import Derived.Test.YtjeooegkfjlejaaDoorTrFew
import Derived.Test.YtjeooegkfjlejaaDoorTrUpd
/- ---- TrUpto ---- -/
/- (*tree.Chain).Upto: what it tells. -/
namespace Go.Proofs.YtjeooegkfjlejaaDoor
open Go.RowKit Go.Shelf
set_option linter.unusedVariables false
set_option linter.unusedSimpArgs false
attribute [local go_sem] Oper.semAt_some

theorem oper_load_row {F : Fence} {n : Nat} {P : Program} {op : Oper} {a : Act} {w : World} {K : Act → World → Prop} {Q : Exit → Act → World → Prop} (ty : TypeId) (x : Operand) (ho : op.op = .load ty x)
    (b o : Nat) (hx : a.eval x = .pointer (some ⟨b, o, none⟩)) (cs : List Value) (d : TypeDesc) (hc : w.rangeAt b o cs)
    (hu : P.underlying ty = some d) (hd : d.isRow = true) (hi : (P.info? ty).map (·.size) = some cs.length)
    (h : K (a.put op.dst (.agg cs.toArray)) w) : op.wpIn F n P a w K Q := by
  unfold Oper.wpIn
  refine ⟨?_, ?_⟩
  · simp [Oper.about, ho]
  · rw [Oper.semAt_plain F _ _ (by rw [ho]; intro c hc'; cases hc')]
    unfold execOp
    simp only [ho, hx, Instr.loadAt, Instr.sureAddr, Sem.run_bind, Sem.run_pure, Result.andThen_ok, run_loadVar_mid w b o ty cs d hc hu hd hi]
    exact h
theorem oper_buildSlice {F : Fence} {n : Nat} {P : Program} {o : Oper} {a : Act} {w : World} {K : Act → World → Prop} {Q : Exit → Act → World → Prop} (t e : TypeId) (len : Nat) (parts : Array (Nat × Operand)) (ho : o.op = .buildSlice t len parts)
    (cells : Array Value) (ie : TypeInfo) (z : Value)
    (hu : P.underlying t = some (.slice e)) (hie : P.info? e = some ie) (hz : ie.zero = some z) (hsmall : ¬ len * ie.size > 2 ^ 24) (hpos : ¬ len * ie.size = 0)
    (hf : Instr.fill (fun i => some (i * ie.size, ie.size)) ((Array.range (len * ie.size)).map (z.cells[· % z.cells.size]!)) (parts.map fun (i, x) => (i, a.eval x)).toList = some cells)
    (h : K (a.put o.dst (.slice (some ⟨w.heap.size, 0, none⟩) len len)) (w.alloc (.cells cells e))) : o.wpIn F n P a w K Q := by
  unfold Oper.wpIn
  refine ⟨?_, ?_⟩
  · simp [Oper.about, ho]
  · rw [Oper.semAt_plain F _ _ (by rw [ho]; intro c hc'; cases hc')]
    unfold execOp
    simp only [ho, Sem.run_bind, run_buildSlice w t e len _ cells ie z hu hie hz hsmall hpos hf, Result.andThen_ok]
    exact h
theorem oper_append {F : Fence} {nn : Nat} {P : Program} {o : Oper} {a : Act} {w : World} {K : Act → World → Prop} {Q : Exit → Act → World → Prop} (s x : Operand) (t : TypeId)
    (ho : o.op = .call { callee := .builtin .append, args := #[s, x], argTypes := #[t, t] }) (base : Nat) (e : TypeId) (i : TypeInfo) (z : Value) (size bytes : Nat) (ht : P.underlying t = some (.slice e)) (hi : P.info? e = some i) (hz : i.zero = some z)
    (hsize : i.size = size) (hby : i.bytes = bytes) (hzs : z.cells.size = size) (hsz : 0 < size)
    (v : Value) (n : Nat) (xs : List Value) (hs : a.eval s = v) (hown : w.ownsRow base e size v n xs)
    (ad : Addr) (m c : Nat) (news : List Value) (hx : a.eval x = .slice (some ad) m c) (hl : news.length = m * size) (hnews : ∀ j u, news[j]? = some u → w.cell? (ad.add j) = some u) (h1 : ∀ u ∈ news, u.oneCell' = true)
    (h63 : n + m ≤ maxLen) (hbytes : ((n + m) + (n + m) / 4 + 192) * bytes ≤ 281474976710656) (hbase : base ≤ w.heap.size)
    (h : ∀ v' w', w'.ownsRow base e size v' (n + m) (xs ++ news) → w.grownBy w' v.ownBlock → K (a.put o.dst v') w') : o.wpIn F nn P a w K Q := by
  obtain ⟨v', w', hr, ho', hg', _⟩ := run_append_own_wide (P := P) w base t o.type e i z size bytes ht hi hz hsize hby hzs hsz v n xs hown ad m c news hl hnews h1 h63 hbytes hbase
  unfold Oper.wpIn
  refine ⟨?_, ?_⟩
  · simp [Oper.about, ho, resolve, Target.leads]
  · rw [Oper.semAt_plain F _ _ (by rw [ho]; intro c hc'; cases hc')]
    simp [execOp, ho, resolve, invoke, builtin, hs, hx, hr, Result.andThen]
    exact h v' w' ho' hg'
/-- an own row is none of what a walk keeps its books in -/
theorem owned_kept {A B : World} {base n size : Nat} {e : TypeId} {v : Value} {xs : List Value} {row : Option Nat} (h : A.ownsRow base e size v n xs) (hg : A.grownBy B row) (hr : ∀ r, row = some r → ∃ o : Obj, A.heap[r]? = some o ∧ o.isCells = false) : B.ownsRow base e size v n xs :=
  h.kept hg (by
    rcases h.2 with ⟨rfl, _⟩ | ⟨g, cap, cur, rfl, _, hh, _⟩
    · left; rfl
    · right
      intro e
      obtain ⟨o, ho, hc⟩ := hr g e.symm
      rw [hh] at ho
      cases ho
      cases hc)
theorem UpAt.own {A B : World} {base : Nat} {v : Value} {bs : List Bv} {row : Option Nat} (h : UpAt A base v bs) (hg : A.grownBy B row) (hr : ∀ r, row = some r → ∃ o : Obj, A.heap[r]? = some o ∧ o.isCells = false) : UpAt B base v bs :=
  ⟨owned_kept h.1 hg hr, fun x hx => ⟨(h.2 x hx).1, owned_kept (h.2 x hx).2.1 hg hr, (h.2 x hx).2.2⟩⟩
/-- what Upto has in hand behind some links -/
def UpI (w W : World) (n : Int) (pre : List Lv) : Prop :=
  (∀ y ∈ pre, y.k.b.number ≤ n) ∧ Row W w.heap.size 3 [.int .i64 n] ∧ ∃ v bs, bks bs = pre.map (fun x => x.k.b) ∧ Row W (w.heap.size + 1) 36 [v] ∧ UpAt W w.heap.size v bs
theorem UpI.own {w A B : World} {n : Int} {pre : List Lv} {row : Option Nat} (h : UpI w A n pre) (hg : A.grownBy B row) (hr : ∀ r, row = some r → ∃ o : Obj, A.heap[r]? = some o ∧ o.isCells = false) : UpI w B n pre := by
  obtain ⟨h1, h2, v, bs, h3, h4, h5⟩ := h
  exact ⟨h1, row_own (β := Unit) _ _ (fun _ => _) () A B row h2 hg hr, v, bs, h3, row_own (β := Unit) _ _ (fun _ => _) () A B row h4 hg hr, h5.own hg hr⟩
theorem UpI.below {w A B : World} {n : Int} {pre : List Lv} (h : UpI w A n pre) (hb : Below A.heap.size A B) : UpI w B n pre := by
  obtain ⟨h1, h2, v, bs, h3, h4, h5⟩ := h
  exact ⟨h1, h2.below hb, v, bs, h3, h4.below hb, h5.below hb⟩
/-- what Upto tells -/
def UptoOut (w : World) (ls : List Lv) (n : Int) (e : Ending) (w' : World) : Prop :=
  ∃ v bs, e = .returned v ∧ UpAt w' w.heap.size v bs ∧ bks bs = (ls.takeWhile fun x => decide (x.k.b.number ≤ n)).map fun x => x.k.b
theorem takeWhile_split {α : Type} (p : α → Bool) : ∀ (pre : List α) (x : α) (post : List α), (∀ y ∈ pre, p y = true) → p x = false → (pre ++ x :: post).takeWhile p = pre
  | [], x, post, _, h => by simp [h]
  | y :: r, x, post, h, hx => by
    rw [List.cons_append, List.takeWhile_cons_of_pos (h y (by simp)), takeWhile_split p r x post (fun z hz => h z (by simp [hz])) hx]
theorem takeWhile_all {α : Type} (p : α → Bool) : ∀ (pre : List α), (∀ y ∈ pre, p y = true) → pre.takeWhile p = pre
  | [], _ => rfl
  | y :: r, h => by rw [List.takeWhile_cons_of_pos (h y (by simp)), takeWhile_all p r (fun z hz => h z (by simp [hz]))]
set_option maxRecDepth 100000 in
set_option maxHeartbeats 6400000 in
theorem upto_in (F : Fence) (k : Nat) (hf : F.fn 24) (hfa : F.fn 50) (hf1 : F.fn 69) (hfb : F.fn 51) (hro : F.round = none) (hn : 3 ≤ k)
    (hbk : ∀ (m : Nat) (x : Lv) (W : World), x.Fits → SlIn W W.heap.size x.A x.cap x.k.b.items → CallsIn F m Tryd.prog 51 #[.agg x.cells.toArray] W fun e w' => BlkOut W.heap.size x.k.b e w' ∧ Below W.heap.size W w')
    (w : World) (base P : Nat) (dp de : Int) (ls : List Lv) (hch : ChAt w base P dp de ls) (hne : ls ≠ []) (hl2 : ls.length ≤ 100000) (n : Int) :
    CallsIn F k Tryd.prog 24 #[.pointer (some ⟨P, 0, none⟩), .int .i64 n] w fun e W' => UptoOut w ls n e W' ∧ Below w.heap.size w W' := by
  have h1 : 1 ≤ k := by omega
  have hz86 := lk_zv
  have HZL := Lib.hid (Lv.cells_len Lv.zero_fits)
  have hgl : ∀ A c, w.cell? ⟨P, 2, none⟩ = some (.slice (some A) ls.length c) → A.block < w.heap.size := fun A c e => by
    obtain ⟨A0, c0, _, _, p2, _, _, p5, _⟩ := hch.cells
    obtain ⟨gl, rfl, _, hlt, _⟩ := p5.at_ hne rfl
    rw [p2] at e
    simp only [Option.some.injEq, Value.slice.injEq] at e
    obtain ⟨e, _⟩ := e
    subst e
    exact hlt
  have HG := Lib.hid hgl
  have HC := Lib.hid hch
  have HF : Hid (∀ x ∈ ls, x.Fits) := Lib.hid (by obtain ⟨_, v, _, q⟩ := hch; exact fun x hx => (q.2 x hx).1)
  have HSl : Hid (∀ x ∈ ls, ∀ W, Below w.heap.size w W → SlIn W W.heap.size x.A x.cap x.k.b.items ∧ x.k.b.items.length ≤ 4000000000000) := Lib.hid (by
    obtain ⟨_, v, _, q⟩ := hch
    exact fun x hx W hW => ⟨(((q.2 x hx).2.sl).below hW).mono hW.size, (q.2 x hx).2.2⟩)
  have hPl : P < w.heap.size := by obtain ⟨_, v, hr, _⟩ := hch; exact hr.lt
  obtain ⟨i0, hi0, hz0⟩ := Option.map_eq_some_iff.1 bk_info11
  simp only [Prod.mk.injEq] at hz0
  have Hi := Lib.hid hi0
  have Hz := Lib.hid hz0.1
  have Hsz := Lib.hid hz0.2.1
  have Hby := Lib.hid hz0.2.2
  clear hch hgl hi0 hz0
  refine callsIn_of_wp_marks Tryd.func24 rfl hf ?_ hro
  simp only [Tryd.ntmps24, List.size_toArray, List.length_cons, List.length_nil, Nat.reduceAdd, Nat.reduceSub, Array.replicate_succ, Array.replicate_zero, List.push_toArray, List.append_toArray, List.nil_append, List.cons_append]
  gi_wp2_with (gi_at_call 50; refine (all_in F (k - 1) hfa hro _ _).mono ?_; rintro e w' ⟨rfl, rfl⟩)
  have rN := ((Row.new w 3 [.int .i64 n]).kept (grownBy_alloc _ (.cells #[.slice none 0 0] 36) none) (by simp)).kept (grownBy_alloc _ (.cells #[.pointer (some ⟨P, 0, none⟩)] 23) none) (by simp)
  have rB := (Row.new (w.alloc (.cells #[.int .i64 n] 3)) 36 [.slice none 0 0]).kept (grownBy_alloc _ (.cells #[.pointer (some ⟨P, 0, none⟩)] 23) none) (by simp)
  have rP := Row.new ((w.alloc (.cells #[.int .i64 n] 3)).alloc (.cells #[.slice none 0 0] 36)) 23 [.pointer (some ⟨P, 0, none⟩)]
  have hB0 : Below w.heap.size w (((w.alloc (.cells #[.int .i64 n] 3)).alloc (.cells #[.slice none 0 0] 36)).alloc (.cells #[.pointer (some ⟨P, 0, none⟩)] 23)) := (((Below.refl _ w).alloc (Nat.le_refl _) _).alloc (by simp) _).alloc (by simp; omega) _
  have hsz : (((w.alloc (.cells #[.int .i64 n] 3)).alloc (.cells #[.slice none 0 0] 36)).alloc (.cells #[.pointer (some ⟨P, 0, none⟩)] 23)).heap.size = w.heap.size + 3 := by simp
  simp only [List.size_toArray, World.size_alloc] at rN rB rP hB0
  obtain ⟨W0, hW0⟩ : ∃ W0, (((w.alloc (.cells #[.int .i64 n] 3)).alloc (.cells #[.slice none 0 0] 36)).alloc (.cells #[.pointer (some ⟨P, 0, none⟩)] 23)) = W0 := ⟨_, rfl⟩
  rw [hW0] at hB0 hsz ⊢
  have rP2 : Row W0 (w.heap.size + 1 + 1) 23 [.pointer (some ⟨P, 0, none⟩)] := by rw [← hW0]; exact rP
  have rB2 : Row W0 (w.heap.size + 1) 36 [.slice none 0 0] := by rw [← hW0]; exact rB
  have rN2 : Row W0 w.heap.size 3 [.int .i64 n] := by rw [← hW0]; exact rN
  clear hW0 rP rB rN
  refine wpIn_rangeFunc_ownH hro h1 (gf := 69) (lb := #[.pointer (some ⟨w.heap.size + 1 + 1, 0, none⟩)]) rfl hf1 (enters_of Tryd.func69 (by kernel_rfl) rfl)
    (all_stops F (k - 1) hf1 hro (by omega) (w.heap.size + 1 + 1) base P dp de ls hl2 W0 w.heap.size (by omega) (by omega) (rP2.boxed).1 (HC.out.below hB0) hne (fun A c e => HG.out A c ((hB0.cell (p := ⟨P, 2, none⟩) hPl).symm.trans e))) belowK_t (belowK_b (by omega)) (Below.refl _ _) (fun _ => rfl)
    (fun pre W => UpI w W n (pre.map Subtype.val) ∧ Below w.heap.size w W)
    (fun c pre W => (c = .exit 0 ∧ ∃ pre' x, pre = pre' ++ [x] ∧ n < x.1.k.b.number ∧ UpI w W n (pre'.map Subtype.val)) ∧ Below w.heap.size w W)
    (OwnFrom.and (Own.from (β := List {x : Lv // x ∈ ls}) (I := fun pre W => UpI w W n (pre.map Subtype.val)) (fun s A B row hs hg hr => UpI.own hs hg hr) _) (ownFrom_below (Nat.le_refl _) (by omega)))
    (fun c => OwnFrom.and (Own.from (β := List {x : Lv // x ∈ ls}) (I := fun pre W => c = .exit 0 ∧ ∃ (pre' : List {x : Lv // x ∈ ls}) (x : {x : Lv // x ∈ ls}), pre = pre' ++ [x] ∧ n < x.1.k.b.number ∧ UpI w W n (pre'.map Subtype.val)) (fun s A B row hs hg hr => by
      obtain ⟨h1, p', x, h2, h3, h4⟩ := hs
      exact ⟨h1, p', x, h2, h3, h4.own hg hr⟩) _) (ownFrom_below (Nat.le_refl _) (by omega)))
    ⟨⟨by simp, rN2, _, [], rfl, rB2, UpAt.nil _ _⟩, hB0⟩
    (fun x a' W => ∃ Bx, w.heap.size + 1 < Bx ∧ Row W Bx 86 x.1.cells ∧ a' = { tmps := #[.pointer (some ⟨P, 0, none⟩), .int .i64 n, undef, .pointer (some ⟨w.heap.size, 0, none⟩), .slice none 0 0, .pointer (some ⟨w.heap.size + 1, 0, none⟩), .pointer (some ⟨Bx, 0, none⟩), .pointer (some ⟨P, 0, none⟩), .func (.func 69) #[] #[.pointer (some ⟨w.heap.size + 1 + 1, 0, none⟩)], .agg x.1.cells.toArray, undef, undef, undef, undef, undef, undef, undef, undef, undef, undef, undef], defers := [] })
    (fun x a' _ X Y row hs hg hr => by obtain ⟨Bx, h1, h2, h3⟩ := hs; exact ⟨Bx, h1, row_own (β := Unit) Bx _ (fun _ => x.1.cells) () X Y row h2 hg (fun r e => (hr r e).2), h3⟩)
    ?assign ?body ?done ?stop
  case assign =>
    rintro l pre x W K ⟨hI1, hB1⟩ hK
    have HL := Lib.hid (Lv.cells_len (HF.out _ x.2))
    have H1 := Lib.hid (Lv.cells_one (HF.out _ x.2))
    have HNew := Lib.hid (Row.new W 86 Lv.zero.cells)
    have hKH := Lib.hid hK
    have HI := Lib.hid (show UpI w W n (pre.map Subtype.val) ∧ Below w.heap.size w W from ⟨hI1, hB1⟩)
    have hlt1 : w.heap.size + 1 < W.heap.size := by obtain ⟨_, _, v, bs, _, h4, _⟩ := hI1; exact h4.lt
    clear hK hI1
    generalize hC : x.1.cells = C at *
    gi_wp2_with (with_reducible show wpListIn _ _ _ _ _ (⟨_, .store 86 _ _, _, _, _, _⟩ :: _) _ _
                 refine wpListIn_store_row rfl 86 (.tmp 6) (.tmp 9) rfl W.heap.size 0 C _ _ rfl rfl HNew.out (by have := HL.out; have := HZL.out; omega) (by rw [link_size, HL.out]) H1.out ?_
                 intro w2 hr2 hg2
                 rw [splice_all (HL.out.trans HZL.out.symm)] at hr2
                 have Hb2 := Lib.hid (below_own ((Below.refl W.heap.size W).alloc (Nat.le_refl _) _) hg2 (fun k hk => by cases hk; exact Nat.le_refl _))
                 have HR2 := Lib.hid hr2
                 clear hr2 hg2)
    have hg := grownBy_of_below Hb2.out none
    exact hKH.out _ _ (KeepsFrom.of_grownBy hg (by simp)) (Hb2.out.mono hB1.size) ⟨HI.out.1.below Hb2.out, hB1.trans (Hb2.out.mono hB1.size)⟩ ⟨W.heap.size, hlt1, HR2.out, rfl⟩
  case body =>
    rintro l pre x a' W hl ⟨r, hr⟩ ⟨⟨hp, rN1, v, bs, hbs, rB1, hU⟩, hB1⟩ ⟨Bx, hBx, rX, rfl⟩ hlt
    have hfx := HF.out _ x.2
    have hat := Lv.at_ hfx (row_range rX)
    have hnum := hat.1
    obtain ⟨cN1, cN2⟩ := rN1.boxed
    have HP := Lib.hid hp
    have HrN := Lib.hid rN1
    have HrB := Lib.hid rB1
    have HB1 := Lib.hid hB1
    have HrX := Lib.hid rX
    have HU := Lib.hid hU
    have Hbs := Lib.hid hbs
    have HFx := Lib.hid hfx
    have HplE : Hid (pre.length ≤ 100000) := Lib.hid (by omega)
    clear hat hp rN1 rB1 hB1 rX hr hU hbs hfx hlt
    by_cases he : n < x.1.k.b.number
    · have d1 : decide (n < x.1.k.b.number) = true := by simpa using he
      gi_wp2
      exact ⟨(KeepsOthers.refl _).from _, ⟨rfl, pre, x, rfl, he, HP.out, HrN.out, v, bs, Hbs.out, HrB.out, HU.out⟩, HB1.out⟩
    · have d1 : decide (n < x.1.k.b.number) = false := by simpa using he
      have HE := Lib.hid he
      gi_wp2
      clear d1 hnum cN1 cN2 he
      have hsl := HSl.out x.1 x.2
      have HIl := Lib.hid (hsl W HB1.out).2
      have HBk : Hid (∀ (m : Nat) (W2 : World), Below w.heap.size w W2 → CallsIn F m Tryd.prog 51 #[.agg x.1.cells.toArray] W2 fun e w' => BlkOut W2.heap.size x.1.k.b e w' ∧ Below W2.heap.size W2 w') := Lib.hid (fun m W2 hW2 => hbk m x.1 W2 HFx.out (hsl W2 hW2).1)
      have HXL := Lib.hid (Lv.cells_len HFx.out)
      have HBf : Hid (∀ A c, Bv.Fits ⟨x.1.k.b, A, c⟩) := Lib.hid (fun A c => ⟨HFx.out.1, HFx.out.2.2.1⟩)
      have HBL : Hid (∀ A c, (Bk.cells x.1.k.b A c).length = 35) := Lib.hid (fun A c => Bk.cells_len HFx.out.1)
      have HBO : Hid (∀ A c, ∀ v ∈ Bk.cells x.1.k.b A c, v.oneCell' = true) := Lib.hid (fun A c => Bk.cells_one HFx.out.1)
      have hgN := grownBy_drew W none
      have rN := HrN.out.kept hgN (by simp)
      have rB := HrB.out.kept hgN (by simp)
      have rX := HrX.out.kept hgN (by simp)
      have hU := HU.out.below (Below.refl W.heap.size W).drew
      have hB := HB1.out.drew
      have hKO := KeepsOthers.drew W
      have hBW : Below w.heap.size W W.drew := ((Below.refl W.heap.size W).drew).mono HB1.out.size
      have hbl : bs.length = pre.length := by have := congrArg List.length Hbs.out; simpa [bks] using this
      have hbl2 : bs.length ≤ 100000 := by have := HplE.out; omega
      have HWS := Lib.hid HB1.out.size
      clear hsl hgN hbl
      refine wpIn_region_any (by kernel_rfl) ?_
      change wpAnyIn _ _ _ _ _ _ _ _ _ (World.drew _)
      generalize W.drew = Wd at *
      generalize hXC : x.1.cells = XC at *
      have HXC := Lib.hid hXC
      clear hXC
      refine wpAnyIn_ready (rs := [0, 1]) (by kernel_rfl) (by simp) (AllReadyIn.cons rfl (fun K1 hK1 => ?_) (AllReadyIn.cons rfl (fun K1 hK1 => ?_) AllReadyIn.nil))
      · skip
        try simp only [Act.put, List.getElem_toArray, List.getElem_cons_succ, List.getElem_cons_zero, List.setIfInBounds_toArray, List.set_cons_zero, List.set_cons_succ]
        have cB := rB.boxed.1
        go_simp
        clear cB
        refine hK1 _ _ ?_
        clear hK1 K1
        try simp only [Act.put, List.getElem_toArray, List.getElem_cons_succ, List.getElem_cons_zero, List.setIfInBounds_toArray, List.set_cons_zero, List.set_cons_succ]
        refine wpAnyIn_ready (rs := [1]) (by kernel_rfl) (by simp) (AllReadyIn.cons rfl (fun K1 hK1 => ?_) AllReadyIn.nil)
        try simp only [Act.put, List.getElem_toArray, List.getElem_cons_succ, List.getElem_cons_zero, List.setIfInBounds_toArray, List.set_cons_zero, List.set_cons_succ]
        rw [if_pos (by rfl)]
        refine oper_load_row 86 (.tmp 6) rfl Bx 0 rfl XC _ (row_range rX) Tryd.underlying86 rfl (by rw [link_size, HXL.out]) ?_
        refine hK1 _ _ ?_
        clear hK1 K1
        try simp only [Act.put, List.getElem_toArray, List.getElem_cons_succ, List.getElem_cons_zero, List.setIfInBounds_toArray, List.set_cons_zero, List.set_cons_succ]
        refine wpAnyIn_ready (rs := [2]) (by kernel_rfl) (by simp) (AllReadyIn.cons rfl (fun K1 hK1 => ?_) AllReadyIn.nil)
        try simp only [Act.put, List.getElem_toArray, List.getElem_cons_succ, List.getElem_cons_zero, List.setIfInBounds_toArray, List.set_cons_zero, List.set_cons_succ]
        go_simp
        refine ⟨fun _ => by omega, ?_⟩
        refine (CallsIn.inRound l (HBk.out _ _ hB)).mono ?_
        rintro e W3 ⟨⟨A1, c1, rfl, ho1⟩, hb1⟩
        have hg1 := grownBy_of_below hb1 none
        have hsz1 := hB.size
        replace rN := rN.below hb1
        replace rB := rB.below hb1
        replace rX := rX.below hb1
        replace hU := hU.below hb1
        replace hKO := hKO.trans (KeepsOthers.of_grownBy hg1 (by simp))
        replace hBW := hBW.trans (hb1.mono hB.size)
        replace hB := two_below' hB hb1
        replace ho1 := own_lower ho1 hsz1
        clear hb1 hg1 hsz1
        refine hK1 _ _ ?_
        clear hK1 K1
        try simp only [Act.put, List.getElem_toArray, List.getElem_cons_succ, List.getElem_cons_zero, List.setIfInBounds_toArray, List.set_cons_zero, List.set_cons_succ]
        refine wpAnyIn_ready (rs := [3]) (by kernel_rfl) (by simp) (AllReadyIn.cons rfl (fun K1 hK1 => ?_) AllReadyIn.nil)
        try simp only [Act.put, List.getElem_toArray, List.getElem_cons_succ, List.getElem_cons_zero, List.setIfInBounds_toArray, List.set_cons_zero, List.set_cons_succ]
        rw [if_pos (by rfl)]
        refine oper_buildSlice 36 45 1 _ rfl (Bk.cells x.1.k.b A1 c1).toArray i0 (.agg Bk.zeroC.toArray) Tryd.underlying36 Hi.out Hz.out (by rw [Hsz.out]; decide) (by rw [Hsz.out]; decide) (by rw [Hsz.out, Array.toList_map]; exact fill_one 35 (.agg Bk.zeroC.toArray) _ (HBL.out A1 c1)) ?_
        have hal := (Below.refl W3.heap.size W3).alloc (Nat.le_refl _) (.cells (Bk.cells x.1.k.b A1 c1).toArray 45)
        have hnew := row_news (Row.new W3 45 (Bk.cells x.1.k.b A1 c1))
        replace rN := rN.below hal
        replace rB := rB.below hal
        replace rX := rX.below hal
        replace hU := hU.below hal
        replace ho1 := own_below ho1 hal
        replace hKO := hKO.trans (KeepsOthers.of_grownBy (grownBy_of_below hal none) (by simp))
        replace hBW := hBW.trans (hal.mono hB.size)
        replace hB := two_below' hB hal
        clear hal
        refine hK1 _ _ ?_
        clear hK1 K1
        try simp only [Act.put, List.getElem_toArray, List.getElem_cons_succ, List.getElem_cons_zero, List.setIfInBounds_toArray, List.set_cons_zero, List.set_cons_succ]
        refine wpAnyIn_ready (rs := [4]) (by kernel_rfl) (by simp) (AllReadyIn.cons rfl (fun K1 hK1 => ?_) AllReadyIn.nil)
        try simp only [Act.put, List.getElem_toArray, List.getElem_cons_succ, List.getElem_cons_zero, List.setIfInBounds_toArray, List.set_cons_zero, List.set_cons_succ]
        rw [if_pos (by rfl)]
        refine oper_append _ _ 36 rfl w.heap.size 45 i0 (.agg Bk.zeroC.toArray) 35 72 Tryd.underlying36 Hi.out Hz.out Hsz.out Hby.out (by rw [← Bk.zeroC_len]; rfl) (by decide) v bs.length (Bv.flat bs) rfl hU.1 ⟨W3.heap.size, 0, none⟩ 1 1 (Bk.cells x.1.k.b A1 c1) rfl (by rw [HBL.out]) hnew (HBO.out A1 c1) (by unfold maxLen; omega) (by omega) hB.size ?_
        intro v2 W5 hown5 hgrow5
        obtain ⟨A2, c2, rfl⟩ := own_form12 hown5
        have hU2 : UpAt W5 w.heap.size (.slice A2 (bs.length + 1) c2) (bs ++ [⟨x.1.k.b, A1, c1⟩]) := by
          refine ⟨?_, fun y hy => ?_⟩
          · rw [List.length_append, List.length_singleton, Bv.flat_append, show Bv.flat [⟨x.1.k.b, A1, c1⟩] = Bk.cells x.1.k.b A1 c1 by simp [Bv.flat, Bv.cells]]
            exact hown5
          · rcases List.mem_append.1 hy with hy | hy
            · exact ⟨(hU.2 y hy).1, (hU.2 y hy).2.kept hgrow5 (own_ne_own (hU.2 y hy).2.1 hU.1 (by decide))⟩
            · rw [List.mem_singleton.1 hy]
              exact ⟨HBf.out A1 c1, ho1.kept hgrow5 (own_ne_own ho1 hU.1 (by decide)), HIl.out⟩
        replace hBW : Below w.heap.size W W5 := below_row hBW hB.size hU.1 hgrow5
        replace hKO := hKO.trans (KeepsOthers.of_grownBy hgrow5 (fun j o e ho => by
          rcases hU.1.2 with ⟨rfl, _⟩ | ⟨g, cap, cur, rfl, _, hh, _⟩
          · simp [Value.ownBlock] at e
          · simp only [Value.ownBlock, Option.some.injEq] at e
            subst e
            rw [hh] at ho
            cases ho
            rfl))
        replace rN := rN.kept hgrow5 (row_ne_own rN hU.1 (by decide)).symm
        replace rB := rB.kept hgrow5 (row_ne_own rB hU.1 (by decide)).symm
        replace hB : Below w.heap.size w W5 := below_row hB hB.size hU.1 hgrow5
        clear hU ho1 rX hnew hown5 hgrow5
        refine hK1 _ _ ?_
        clear hK1 K1
        try simp only [Act.put, List.getElem_toArray, List.getElem_cons_succ, List.getElem_cons_zero, List.setIfInBounds_toArray, List.set_cons_zero, List.set_cons_succ]
        refine wpAnyIn_ready (rs := [5]) (by kernel_rfl) (by simp) (AllReadyIn.cons rfl (fun K1 hK1 => ?_) AllReadyIn.nil)
        try simp only [Act.put, List.getElem_toArray, List.getElem_cons_succ, List.getElem_cons_zero, List.setIfInBounds_toArray, List.set_cons_zero, List.set_cons_succ]
        have cB := rB.boxed
        obtain ⟨cB1, cB2⟩ := cB
        go_simp
        have hgs := grownBy_set W5 (w.heap.size + 1) 0 (.slice A2 (bs.length + 1) c2)
        replace hU2 : UpAt (W5.setCell ⟨w.heap.size + 1, 0, none⟩ (.slice A2 (bs.length + 1) c2)) w.heap.size (.slice A2 (bs.length + 1) c2) (bs ++ [⟨x.1.k.b, A1, c1⟩]) := ⟨hU2.1.kept hgs (.inr (row_ne_own rB hU2.1 (by decide))), fun y hy => ⟨(hU2.2 y hy).1, (hU2.2 y hy).2.kept hgs (.inr (row_ne_own rB (hU2.2 y hy).2.1 (by decide)))⟩⟩
        replace rN := rN.kept hgs (by simp)
        replace rB := rB.set 0 (.slice A2 (bs.length + 1) c2) (by simp)
        replace hKO := hKO.trans (KeepsOthers.setCell W5 ⟨w.heap.size + 1, 0, none⟩ (.slice A2 (bs.length + 1) c2))
        replace hBW := hBW.setCell (p := ⟨w.heap.size + 1, 0, none⟩) (by simp) (.slice A2 (bs.length + 1) c2)
        replace hB := hB.setCell (p := ⟨w.heap.size + 1, 0, none⟩) (by simp) (.slice A2 (bs.length + 1) c2)
        clear hgs cB1 cB2
        refine hK1 _ _ ?_
        clear hK1 K1
        try simp only [Act.put, List.getElem_toArray, List.getElem_cons_succ, List.getElem_cons_zero, List.setIfInBounds_toArray, List.set_cons_zero, List.set_cons_succ]
        refine wpAnyIn_done (by kernel_rfl) ?_ _
        exact ⟨hKO.from _, hBW, ⟨fun y hy => by
          rw [List.map_append] at hy
          rcases List.mem_append.1 hy with hy | hy
          · exact HP.out y hy
          · rw [List.mem_singleton.1 hy]; have := HE.out; omega, rN, _, bs ++ [⟨x.1.k.b, A1, c1⟩], by rw [List.map_append, List.map_append, ← Hbs.out]; simp [bks], rB, hU2⟩, hB⟩
      · skip
        try simp only [Act.put, List.getElem_toArray, List.getElem_cons_succ, List.getElem_cons_zero, List.setIfInBounds_toArray, List.set_cons_zero, List.set_cons_succ]
        rw [if_pos (by rfl)]
        refine oper_load_row 86 (.tmp 6) rfl Bx 0 rfl XC _ (row_range rX) Tryd.underlying86 rfl (by rw [link_size, HXL.out]) ?_
        refine hK1 _ _ ?_
        clear hK1 K1
        try simp only [Act.put, List.getElem_toArray, List.getElem_cons_succ, List.getElem_cons_zero, List.setIfInBounds_toArray, List.set_cons_zero, List.set_cons_succ]
        refine wpAnyIn_ready (rs := [0, 2]) (by kernel_rfl) (by simp) (AllReadyIn.cons rfl (fun K1 hK1 => ?_) (AllReadyIn.cons rfl (fun K1 hK1 => ?_) AllReadyIn.nil))
        · skip
          try simp only [Act.put, List.getElem_toArray, List.getElem_cons_succ, List.getElem_cons_zero, List.setIfInBounds_toArray, List.set_cons_zero, List.set_cons_succ]
          have cB := rB.boxed.1
          go_simp
          clear cB
          refine hK1 _ _ ?_
          clear hK1 K1
          try simp only [Act.put, List.getElem_toArray, List.getElem_cons_succ, List.getElem_cons_zero, List.setIfInBounds_toArray, List.set_cons_zero, List.set_cons_succ]
          refine wpAnyIn_ready (rs := [2]) (by kernel_rfl) (by simp) (AllReadyIn.cons rfl (fun K1 hK1 => ?_) AllReadyIn.nil)
          try simp only [Act.put, List.getElem_toArray, List.getElem_cons_succ, List.getElem_cons_zero, List.setIfInBounds_toArray, List.set_cons_zero, List.set_cons_succ]
          go_simp
          refine ⟨fun _ => by omega, ?_⟩
          refine (CallsIn.inRound l (HBk.out _ _ hB)).mono ?_
          rintro e W3 ⟨⟨A1, c1, rfl, ho1⟩, hb1⟩
          have hg1 := grownBy_of_below hb1 none
          have hsz1 := hB.size
          replace rN := rN.below hb1
          replace rB := rB.below hb1
          replace rX := rX.below hb1
          replace hU := hU.below hb1
          replace hKO := hKO.trans (KeepsOthers.of_grownBy hg1 (by simp))
          replace hBW := hBW.trans (hb1.mono hB.size)
          replace hB := two_below' hB hb1
          replace ho1 := own_lower ho1 hsz1
          clear hb1 hg1 hsz1
          refine hK1 _ _ ?_
          clear hK1 K1
          try simp only [Act.put, List.getElem_toArray, List.getElem_cons_succ, List.getElem_cons_zero, List.setIfInBounds_toArray, List.set_cons_zero, List.set_cons_succ]
          refine wpAnyIn_ready (rs := [3]) (by kernel_rfl) (by simp) (AllReadyIn.cons rfl (fun K1 hK1 => ?_) AllReadyIn.nil)
          try simp only [Act.put, List.getElem_toArray, List.getElem_cons_succ, List.getElem_cons_zero, List.setIfInBounds_toArray, List.set_cons_zero, List.set_cons_succ]
          rw [if_pos (by rfl)]
          refine oper_buildSlice 36 45 1 _ rfl (Bk.cells x.1.k.b A1 c1).toArray i0 (.agg Bk.zeroC.toArray) Tryd.underlying36 Hi.out Hz.out (by rw [Hsz.out]; decide) (by rw [Hsz.out]; decide) (by rw [Hsz.out, Array.toList_map]; exact fill_one 35 (.agg Bk.zeroC.toArray) _ (HBL.out A1 c1)) ?_
          have hal := (Below.refl W3.heap.size W3).alloc (Nat.le_refl _) (.cells (Bk.cells x.1.k.b A1 c1).toArray 45)
          have hnew := row_news (Row.new W3 45 (Bk.cells x.1.k.b A1 c1))
          replace rN := rN.below hal
          replace rB := rB.below hal
          replace rX := rX.below hal
          replace hU := hU.below hal
          replace ho1 := own_below ho1 hal
          replace hKO := hKO.trans (KeepsOthers.of_grownBy (grownBy_of_below hal none) (by simp))
          replace hBW := hBW.trans (hal.mono hB.size)
          replace hB := two_below' hB hal
          clear hal
          refine hK1 _ _ ?_
          clear hK1 K1
          try simp only [Act.put, List.getElem_toArray, List.getElem_cons_succ, List.getElem_cons_zero, List.setIfInBounds_toArray, List.set_cons_zero, List.set_cons_succ]
          refine wpAnyIn_ready (rs := [4]) (by kernel_rfl) (by simp) (AllReadyIn.cons rfl (fun K1 hK1 => ?_) AllReadyIn.nil)
          try simp only [Act.put, List.getElem_toArray, List.getElem_cons_succ, List.getElem_cons_zero, List.setIfInBounds_toArray, List.set_cons_zero, List.set_cons_succ]
          rw [if_pos (by rfl)]
          refine oper_append _ _ 36 rfl w.heap.size 45 i0 (.agg Bk.zeroC.toArray) 35 72 Tryd.underlying36 Hi.out Hz.out Hsz.out Hby.out (by rw [← Bk.zeroC_len]; rfl) (by decide) v bs.length (Bv.flat bs) rfl hU.1 ⟨W3.heap.size, 0, none⟩ 1 1 (Bk.cells x.1.k.b A1 c1) rfl (by rw [HBL.out]) hnew (HBO.out A1 c1) (by unfold maxLen; omega) (by omega) hB.size ?_
          intro v2 W5 hown5 hgrow5
          obtain ⟨A2, c2, rfl⟩ := own_form12 hown5
          have hU2 : UpAt W5 w.heap.size (.slice A2 (bs.length + 1) c2) (bs ++ [⟨x.1.k.b, A1, c1⟩]) := by
            refine ⟨?_, fun y hy => ?_⟩
            · rw [List.length_append, List.length_singleton, Bv.flat_append, show Bv.flat [⟨x.1.k.b, A1, c1⟩] = Bk.cells x.1.k.b A1 c1 by simp [Bv.flat, Bv.cells]]
              exact hown5
            · rcases List.mem_append.1 hy with hy | hy
              · exact ⟨(hU.2 y hy).1, (hU.2 y hy).2.kept hgrow5 (own_ne_own (hU.2 y hy).2.1 hU.1 (by decide))⟩
              · rw [List.mem_singleton.1 hy]
                exact ⟨HBf.out A1 c1, ho1.kept hgrow5 (own_ne_own ho1 hU.1 (by decide)), HIl.out⟩
          replace hBW : Below w.heap.size W W5 := below_row hBW hB.size hU.1 hgrow5
          replace hKO := hKO.trans (KeepsOthers.of_grownBy hgrow5 (fun j o e ho => by
            rcases hU.1.2 with ⟨rfl, _⟩ | ⟨g, cap, cur, rfl, _, hh, _⟩
            · simp [Value.ownBlock] at e
            · simp only [Value.ownBlock, Option.some.injEq] at e
              subst e
              rw [hh] at ho
              cases ho
              rfl))
          replace rN := rN.kept hgrow5 (row_ne_own rN hU.1 (by decide)).symm
          replace rB := rB.kept hgrow5 (row_ne_own rB hU.1 (by decide)).symm
          replace hB : Below w.heap.size w W5 := below_row hB hB.size hU.1 hgrow5
          clear hU ho1 rX hnew hown5 hgrow5
          refine hK1 _ _ ?_
          clear hK1 K1
          try simp only [Act.put, List.getElem_toArray, List.getElem_cons_succ, List.getElem_cons_zero, List.setIfInBounds_toArray, List.set_cons_zero, List.set_cons_succ]
          refine wpAnyIn_ready (rs := [5]) (by kernel_rfl) (by simp) (AllReadyIn.cons rfl (fun K1 hK1 => ?_) AllReadyIn.nil)
          try simp only [Act.put, List.getElem_toArray, List.getElem_cons_succ, List.getElem_cons_zero, List.setIfInBounds_toArray, List.set_cons_zero, List.set_cons_succ]
          have cB := rB.boxed
          obtain ⟨cB1, cB2⟩ := cB
          go_simp
          have hgs := grownBy_set W5 (w.heap.size + 1) 0 (.slice A2 (bs.length + 1) c2)
          replace hU2 : UpAt (W5.setCell ⟨w.heap.size + 1, 0, none⟩ (.slice A2 (bs.length + 1) c2)) w.heap.size (.slice A2 (bs.length + 1) c2) (bs ++ [⟨x.1.k.b, A1, c1⟩]) := ⟨hU2.1.kept hgs (.inr (row_ne_own rB hU2.1 (by decide))), fun y hy => ⟨(hU2.2 y hy).1, (hU2.2 y hy).2.kept hgs (.inr (row_ne_own rB (hU2.2 y hy).2.1 (by decide)))⟩⟩
          replace rN := rN.kept hgs (by simp)
          replace rB := rB.set 0 (.slice A2 (bs.length + 1) c2) (by simp)
          replace hKO := hKO.trans (KeepsOthers.setCell W5 ⟨w.heap.size + 1, 0, none⟩ (.slice A2 (bs.length + 1) c2))
          replace hBW := hBW.setCell (p := ⟨w.heap.size + 1, 0, none⟩) (by simp) (.slice A2 (bs.length + 1) c2)
          replace hB := hB.setCell (p := ⟨w.heap.size + 1, 0, none⟩) (by simp) (.slice A2 (bs.length + 1) c2)
          clear hgs cB1 cB2
          refine hK1 _ _ ?_
          clear hK1 K1
          try simp only [Act.put, List.getElem_toArray, List.getElem_cons_succ, List.getElem_cons_zero, List.setIfInBounds_toArray, List.set_cons_zero, List.set_cons_succ]
          refine wpAnyIn_done (by kernel_rfl) ?_ _
          exact ⟨hKO.from _, hBW, ⟨fun y hy => by
            rw [List.map_append] at hy
            rcases List.mem_append.1 hy with hy | hy
            · exact HP.out y hy
            · rw [List.mem_singleton.1 hy]; have := HE.out; omega, rN, _, bs ++ [⟨x.1.k.b, A1, c1⟩], by rw [List.map_append, List.map_append, ← Hbs.out]; simp [bks], rB, hU2⟩, hB⟩
        · skip
          try simp only [Act.put, List.getElem_toArray, List.getElem_cons_succ, List.getElem_cons_zero, List.setIfInBounds_toArray, List.set_cons_zero, List.set_cons_succ]
          go_simp
          refine ⟨fun _ => by omega, ?_⟩
          refine (CallsIn.inRound l (HBk.out _ _ hB)).mono ?_
          rintro e W3 ⟨⟨A1, c1, rfl, ho1⟩, hb1⟩
          have hg1 := grownBy_of_below hb1 none
          have hsz1 := hB.size
          replace rN := rN.below hb1
          replace rB := rB.below hb1
          replace rX := rX.below hb1
          replace hU := hU.below hb1
          replace hKO := hKO.trans (KeepsOthers.of_grownBy hg1 (by simp))
          replace hBW := hBW.trans (hb1.mono hB.size)
          replace hB := two_below' hB hb1
          replace ho1 := own_lower ho1 hsz1
          clear hb1 hg1 hsz1
          refine hK1 _ _ ?_
          clear hK1 K1
          try simp only [Act.put, List.getElem_toArray, List.getElem_cons_succ, List.getElem_cons_zero, List.setIfInBounds_toArray, List.set_cons_zero, List.set_cons_succ]
          refine wpAnyIn_ready (rs := [0, 3]) (by kernel_rfl) (by simp) (AllReadyIn.cons rfl (fun K1 hK1 => ?_) (AllReadyIn.cons rfl (fun K1 hK1 => ?_) AllReadyIn.nil))
          · skip
            try simp only [Act.put, List.getElem_toArray, List.getElem_cons_succ, List.getElem_cons_zero, List.setIfInBounds_toArray, List.set_cons_zero, List.set_cons_succ]
            have cB := rB.boxed.1
            go_simp
            clear cB
            refine hK1 _ _ ?_
            clear hK1 K1
            try simp only [Act.put, List.getElem_toArray, List.getElem_cons_succ, List.getElem_cons_zero, List.setIfInBounds_toArray, List.set_cons_zero, List.set_cons_succ]
            refine wpAnyIn_ready (rs := [3]) (by kernel_rfl) (by simp) (AllReadyIn.cons rfl (fun K1 hK1 => ?_) AllReadyIn.nil)
            try simp only [Act.put, List.getElem_toArray, List.getElem_cons_succ, List.getElem_cons_zero, List.setIfInBounds_toArray, List.set_cons_zero, List.set_cons_succ]
            rw [if_pos (by rfl)]
            refine oper_buildSlice 36 45 1 _ rfl (Bk.cells x.1.k.b A1 c1).toArray i0 (.agg Bk.zeroC.toArray) Tryd.underlying36 Hi.out Hz.out (by rw [Hsz.out]; decide) (by rw [Hsz.out]; decide) (by rw [Hsz.out, Array.toList_map]; exact fill_one 35 (.agg Bk.zeroC.toArray) _ (HBL.out A1 c1)) ?_
            have hal := (Below.refl W3.heap.size W3).alloc (Nat.le_refl _) (.cells (Bk.cells x.1.k.b A1 c1).toArray 45)
            have hnew := row_news (Row.new W3 45 (Bk.cells x.1.k.b A1 c1))
            replace rN := rN.below hal
            replace rB := rB.below hal
            replace rX := rX.below hal
            replace hU := hU.below hal
            replace ho1 := own_below ho1 hal
            replace hKO := hKO.trans (KeepsOthers.of_grownBy (grownBy_of_below hal none) (by simp))
            replace hBW := hBW.trans (hal.mono hB.size)
            replace hB := two_below' hB hal
            clear hal
            refine hK1 _ _ ?_
            clear hK1 K1
            try simp only [Act.put, List.getElem_toArray, List.getElem_cons_succ, List.getElem_cons_zero, List.setIfInBounds_toArray, List.set_cons_zero, List.set_cons_succ]
            refine wpAnyIn_ready (rs := [4]) (by kernel_rfl) (by simp) (AllReadyIn.cons rfl (fun K1 hK1 => ?_) AllReadyIn.nil)
            try simp only [Act.put, List.getElem_toArray, List.getElem_cons_succ, List.getElem_cons_zero, List.setIfInBounds_toArray, List.set_cons_zero, List.set_cons_succ]
            rw [if_pos (by rfl)]
            refine oper_append _ _ 36 rfl w.heap.size 45 i0 (.agg Bk.zeroC.toArray) 35 72 Tryd.underlying36 Hi.out Hz.out Hsz.out Hby.out (by rw [← Bk.zeroC_len]; rfl) (by decide) v bs.length (Bv.flat bs) rfl hU.1 ⟨W3.heap.size, 0, none⟩ 1 1 (Bk.cells x.1.k.b A1 c1) rfl (by rw [HBL.out]) hnew (HBO.out A1 c1) (by unfold maxLen; omega) (by omega) hB.size ?_
            intro v2 W5 hown5 hgrow5
            obtain ⟨A2, c2, rfl⟩ := own_form12 hown5
            have hU2 : UpAt W5 w.heap.size (.slice A2 (bs.length + 1) c2) (bs ++ [⟨x.1.k.b, A1, c1⟩]) := by
              refine ⟨?_, fun y hy => ?_⟩
              · rw [List.length_append, List.length_singleton, Bv.flat_append, show Bv.flat [⟨x.1.k.b, A1, c1⟩] = Bk.cells x.1.k.b A1 c1 by simp [Bv.flat, Bv.cells]]
                exact hown5
              · rcases List.mem_append.1 hy with hy | hy
                · exact ⟨(hU.2 y hy).1, (hU.2 y hy).2.kept hgrow5 (own_ne_own (hU.2 y hy).2.1 hU.1 (by decide))⟩
                · rw [List.mem_singleton.1 hy]
                  exact ⟨HBf.out A1 c1, ho1.kept hgrow5 (own_ne_own ho1 hU.1 (by decide)), HIl.out⟩
            replace hBW : Below w.heap.size W W5 := below_row hBW hB.size hU.1 hgrow5
            replace hKO := hKO.trans (KeepsOthers.of_grownBy hgrow5 (fun j o e ho => by
              rcases hU.1.2 with ⟨rfl, _⟩ | ⟨g, cap, cur, rfl, _, hh, _⟩
              · simp [Value.ownBlock] at e
              · simp only [Value.ownBlock, Option.some.injEq] at e
                subst e
                rw [hh] at ho
                cases ho
                rfl))
            replace rN := rN.kept hgrow5 (row_ne_own rN hU.1 (by decide)).symm
            replace rB := rB.kept hgrow5 (row_ne_own rB hU.1 (by decide)).symm
            replace hB : Below w.heap.size w W5 := below_row hB hB.size hU.1 hgrow5
            clear hU ho1 rX hnew hown5 hgrow5
            refine hK1 _ _ ?_
            clear hK1 K1
            try simp only [Act.put, List.getElem_toArray, List.getElem_cons_succ, List.getElem_cons_zero, List.setIfInBounds_toArray, List.set_cons_zero, List.set_cons_succ]
            refine wpAnyIn_ready (rs := [5]) (by kernel_rfl) (by simp) (AllReadyIn.cons rfl (fun K1 hK1 => ?_) AllReadyIn.nil)
            try simp only [Act.put, List.getElem_toArray, List.getElem_cons_succ, List.getElem_cons_zero, List.setIfInBounds_toArray, List.set_cons_zero, List.set_cons_succ]
            have cB := rB.boxed
            obtain ⟨cB1, cB2⟩ := cB
            go_simp
            have hgs := grownBy_set W5 (w.heap.size + 1) 0 (.slice A2 (bs.length + 1) c2)
            replace hU2 : UpAt (W5.setCell ⟨w.heap.size + 1, 0, none⟩ (.slice A2 (bs.length + 1) c2)) w.heap.size (.slice A2 (bs.length + 1) c2) (bs ++ [⟨x.1.k.b, A1, c1⟩]) := ⟨hU2.1.kept hgs (.inr (row_ne_own rB hU2.1 (by decide))), fun y hy => ⟨(hU2.2 y hy).1, (hU2.2 y hy).2.kept hgs (.inr (row_ne_own rB (hU2.2 y hy).2.1 (by decide)))⟩⟩
            replace rN := rN.kept hgs (by simp)
            replace rB := rB.set 0 (.slice A2 (bs.length + 1) c2) (by simp)
            replace hKO := hKO.trans (KeepsOthers.setCell W5 ⟨w.heap.size + 1, 0, none⟩ (.slice A2 (bs.length + 1) c2))
            replace hBW := hBW.setCell (p := ⟨w.heap.size + 1, 0, none⟩) (by simp) (.slice A2 (bs.length + 1) c2)
            replace hB := hB.setCell (p := ⟨w.heap.size + 1, 0, none⟩) (by simp) (.slice A2 (bs.length + 1) c2)
            clear hgs cB1 cB2
            refine hK1 _ _ ?_
            clear hK1 K1
            try simp only [Act.put, List.getElem_toArray, List.getElem_cons_succ, List.getElem_cons_zero, List.setIfInBounds_toArray, List.set_cons_zero, List.set_cons_succ]
            refine wpAnyIn_done (by kernel_rfl) ?_ _
            exact ⟨hKO.from _, hBW, ⟨fun y hy => by
              rw [List.map_append] at hy
              rcases List.mem_append.1 hy with hy | hy
              · exact HP.out y hy
              · rw [List.mem_singleton.1 hy]; have := HE.out; omega, rN, _, bs ++ [⟨x.1.k.b, A1, c1⟩], by rw [List.map_append, List.map_append, ← Hbs.out]; simp [bks], rB, hU2⟩, hB⟩
          · skip
            try simp only [Act.put, List.getElem_toArray, List.getElem_cons_succ, List.getElem_cons_zero, List.setIfInBounds_toArray, List.set_cons_zero, List.set_cons_succ]
            rw [if_pos (by rfl)]
            refine oper_buildSlice 36 45 1 _ rfl (Bk.cells x.1.k.b A1 c1).toArray i0 (.agg Bk.zeroC.toArray) Tryd.underlying36 Hi.out Hz.out (by rw [Hsz.out]; decide) (by rw [Hsz.out]; decide) (by rw [Hsz.out, Array.toList_map]; exact fill_one 35 (.agg Bk.zeroC.toArray) _ (HBL.out A1 c1)) ?_
            have hal := (Below.refl W3.heap.size W3).alloc (Nat.le_refl _) (.cells (Bk.cells x.1.k.b A1 c1).toArray 45)
            have hnew := row_news (Row.new W3 45 (Bk.cells x.1.k.b A1 c1))
            replace rN := rN.below hal
            replace rB := rB.below hal
            replace rX := rX.below hal
            replace hU := hU.below hal
            replace ho1 := own_below ho1 hal
            replace hKO := hKO.trans (KeepsOthers.of_grownBy (grownBy_of_below hal none) (by simp))
            replace hBW := hBW.trans (hal.mono hB.size)
            replace hB := two_below' hB hal
            clear hal
            refine hK1 _ _ ?_
            clear hK1 K1
            try simp only [Act.put, List.getElem_toArray, List.getElem_cons_succ, List.getElem_cons_zero, List.setIfInBounds_toArray, List.set_cons_zero, List.set_cons_succ]
            refine wpAnyIn_ready (rs := [0]) (by kernel_rfl) (by simp) (AllReadyIn.cons rfl (fun K1 hK1 => ?_) AllReadyIn.nil)
            try simp only [Act.put, List.getElem_toArray, List.getElem_cons_succ, List.getElem_cons_zero, List.setIfInBounds_toArray, List.set_cons_zero, List.set_cons_succ]
            have cB := rB.boxed.1
            go_simp
            clear cB
            refine hK1 _ _ ?_
            clear hK1 K1
            try simp only [Act.put, List.getElem_toArray, List.getElem_cons_succ, List.getElem_cons_zero, List.setIfInBounds_toArray, List.set_cons_zero, List.set_cons_succ]
            refine wpAnyIn_ready (rs := [4]) (by kernel_rfl) (by simp) (AllReadyIn.cons rfl (fun K1 hK1 => ?_) AllReadyIn.nil)
            try simp only [Act.put, List.getElem_toArray, List.getElem_cons_succ, List.getElem_cons_zero, List.setIfInBounds_toArray, List.set_cons_zero, List.set_cons_succ]
            rw [if_pos (by rfl)]
            refine oper_append _ _ 36 rfl w.heap.size 45 i0 (.agg Bk.zeroC.toArray) 35 72 Tryd.underlying36 Hi.out Hz.out Hsz.out Hby.out (by rw [← Bk.zeroC_len]; rfl) (by decide) v bs.length (Bv.flat bs) rfl hU.1 ⟨W3.heap.size, 0, none⟩ 1 1 (Bk.cells x.1.k.b A1 c1) rfl (by rw [HBL.out]) hnew (HBO.out A1 c1) (by unfold maxLen; omega) (by omega) hB.size ?_
            intro v2 W5 hown5 hgrow5
            obtain ⟨A2, c2, rfl⟩ := own_form12 hown5
            have hU2 : UpAt W5 w.heap.size (.slice A2 (bs.length + 1) c2) (bs ++ [⟨x.1.k.b, A1, c1⟩]) := by
              refine ⟨?_, fun y hy => ?_⟩
              · rw [List.length_append, List.length_singleton, Bv.flat_append, show Bv.flat [⟨x.1.k.b, A1, c1⟩] = Bk.cells x.1.k.b A1 c1 by simp [Bv.flat, Bv.cells]]
                exact hown5
              · rcases List.mem_append.1 hy with hy | hy
                · exact ⟨(hU.2 y hy).1, (hU.2 y hy).2.kept hgrow5 (own_ne_own (hU.2 y hy).2.1 hU.1 (by decide))⟩
                · rw [List.mem_singleton.1 hy]
                  exact ⟨HBf.out A1 c1, ho1.kept hgrow5 (own_ne_own ho1 hU.1 (by decide)), HIl.out⟩
            replace hBW : Below w.heap.size W W5 := below_row hBW hB.size hU.1 hgrow5
            replace hKO := hKO.trans (KeepsOthers.of_grownBy hgrow5 (fun j o e ho => by
              rcases hU.1.2 with ⟨rfl, _⟩ | ⟨g, cap, cur, rfl, _, hh, _⟩
              · simp [Value.ownBlock] at e
              · simp only [Value.ownBlock, Option.some.injEq] at e
                subst e
                rw [hh] at ho
                cases ho
                rfl))
            replace rN := rN.kept hgrow5 (row_ne_own rN hU.1 (by decide)).symm
            replace rB := rB.kept hgrow5 (row_ne_own rB hU.1 (by decide)).symm
            replace hB : Below w.heap.size w W5 := below_row hB hB.size hU.1 hgrow5
            clear hU ho1 rX hnew hown5 hgrow5
            refine hK1 _ _ ?_
            clear hK1 K1
            try simp only [Act.put, List.getElem_toArray, List.getElem_cons_succ, List.getElem_cons_zero, List.setIfInBounds_toArray, List.set_cons_zero, List.set_cons_succ]
            refine wpAnyIn_ready (rs := [5]) (by kernel_rfl) (by simp) (AllReadyIn.cons rfl (fun K1 hK1 => ?_) AllReadyIn.nil)
            try simp only [Act.put, List.getElem_toArray, List.getElem_cons_succ, List.getElem_cons_zero, List.setIfInBounds_toArray, List.set_cons_zero, List.set_cons_succ]
            have cB := rB.boxed
            obtain ⟨cB1, cB2⟩ := cB
            go_simp
            have hgs := grownBy_set W5 (w.heap.size + 1) 0 (.slice A2 (bs.length + 1) c2)
            replace hU2 : UpAt (W5.setCell ⟨w.heap.size + 1, 0, none⟩ (.slice A2 (bs.length + 1) c2)) w.heap.size (.slice A2 (bs.length + 1) c2) (bs ++ [⟨x.1.k.b, A1, c1⟩]) := ⟨hU2.1.kept hgs (.inr (row_ne_own rB hU2.1 (by decide))), fun y hy => ⟨(hU2.2 y hy).1, (hU2.2 y hy).2.kept hgs (.inr (row_ne_own rB (hU2.2 y hy).2.1 (by decide)))⟩⟩
            replace rN := rN.kept hgs (by simp)
            replace rB := rB.set 0 (.slice A2 (bs.length + 1) c2) (by simp)
            replace hKO := hKO.trans (KeepsOthers.setCell W5 ⟨w.heap.size + 1, 0, none⟩ (.slice A2 (bs.length + 1) c2))
            replace hBW := hBW.setCell (p := ⟨w.heap.size + 1, 0, none⟩) (by simp) (.slice A2 (bs.length + 1) c2)
            replace hB := hB.setCell (p := ⟨w.heap.size + 1, 0, none⟩) (by simp) (.slice A2 (bs.length + 1) c2)
            clear hgs cB1 cB2
            refine hK1 _ _ ?_
            clear hK1 K1
            try simp only [Act.put, List.getElem_toArray, List.getElem_cons_succ, List.getElem_cons_zero, List.setIfInBounds_toArray, List.set_cons_zero, List.set_cons_succ]
            refine wpAnyIn_done (by kernel_rfl) ?_ _
            exact ⟨hKO.from _, hBW, ⟨fun y hy => by
              rw [List.map_append] at hy
              rcases List.mem_append.1 hy with hy | hy
              · exact HP.out y hy
              · rw [List.mem_singleton.1 hy]; have := HE.out; omega, rN, _, bs ++ [⟨x.1.k.b, A1, c1⟩], by rw [List.map_append, List.map_append, ← Hbs.out]; simp [bks], rB, hU2⟩, hB⟩
  case done =>
    rintro D ys W hD rfl ⟨⟨hp, rN1, v, bs, hbs, rB1, hU⟩, hB1⟩ hK
    obtain ⟨cB1, cB2⟩ := rB1.boxed
    have HrB := Lib.hid rB1
    have HKd := Lib.hid hK
    have HP := Lib.hid hp
    have Hbs := Lib.hid hbs
    have HU := Lib.hid hU
    clear rB1 hK hp hbs hU rN1
    gi_wp2
    refine ⟨by simp, .inl ⟨_, _, rfl, run_takeDeferred HKd.out, ?_⟩⟩
    refine ⟨_, results_tmp rfl _ _ _, ⟨v, bs, rfl, HU.out.own (grownBy_putObj' _ D (.deferred none)) (fun r e => by cases e; exact ⟨_, HKd.out, rfl⟩), ?_⟩, hB1.trans (belowK_b (w := w) (Nat.le_refl _) _ D _ _ (by omega) HKd.out rfl rfl)⟩
    have hp := HP.out
    have hb := Hbs.out
    rw [List.attach_map_subtype_val] at hp hb
    rw [hb, takeWhile_all _ ls (fun y hy => by simpa using hp y hy)]
  case stop =>
    rintro D c pre W hD hpre ⟨⟨rfl, pre', x, rfl, hxn, hp, rN1, v, bs, hbs, rB1, hU⟩, hB1⟩ hK
    obtain ⟨cB1, cB2⟩ := rB1.boxed
    have HKd := Lib.hid hK
    have HP := Lib.hid hp
    have Hbs := Lib.hid hbs
    have HU := Lib.hid hU
    clear rB1 hK hp hbs hU rN1
    gi_wp2
    refine ⟨by simp, .inl ⟨_, _, rfl, run_takeDeferred HKd.out, ?_⟩⟩
    refine ⟨_, results_tmp rfl _ _ _, ⟨v, bs, rfl, HU.out.own (grownBy_putObj' _ D (.deferred none)) (fun r e => by cases e; exact ⟨_, HKd.out, rfl⟩), ?_⟩, hB1.trans (belowK_b (w := w) (Nat.le_refl _) _ D _ _ (by omega) HKd.out rfl rfl)⟩
    obtain ⟨post, hq⟩ := hpre
    have e := congrArg (List.map Subtype.val) hq
    rw [List.attach_map_subtype_val] at e
    have key : ∀ M : List Lv, M = pre'.map Subtype.val ++ x.1 :: post.map Subtype.val → M.takeWhile (fun x => decide (x.k.b.number ≤ n)) = pre'.map Subtype.val := by
      rintro _ rfl
      exact takeWhile_split _ _ _ _ (fun y hy => by simpa using HP.out y hy) (by simpa using hxn)
    rw [Hbs.out, key ls (e.symm.trans (by simp))]
theorem upto_any (w : World) (base P : Nat) (dp de : Int) (ls : List Lv) (hch : ChAt w base P dp de ls) (hne : ls ≠ []) (hl2 : ls.length ≤ 100000) (n : Int) :
    Calls Tryd.prog 24 #[.pointer (some ⟨P, 0, none⟩), .int .i64 n] w fun e W' => UptoOut w ls n e W' ∧ Below w.heap.size w W' :=
  (callsIn_wide (n := 3)).1 (upto_in Fence.wide 3 trivial trivial trivial trivial rfl (Nat.le_refl _) (fun m x W hx hin => callsIn_wide.2 (block11_any x hx W hin)) w base P dp de ls hch hne hl2 n)
end Go.Proofs.YtjeooegkfjlejaaDoor
